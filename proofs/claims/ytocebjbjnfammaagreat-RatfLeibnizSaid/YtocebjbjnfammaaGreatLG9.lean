import Derived.Test.YtocebjbjnfammaaGreatLG8
import Derived.Test.YtocebjbjnfammaaGreatLG7
import Derived.Test.YtocebjbjnfammaaGreatLG3
import Derived.Test.YtocebjbjnfammaaGreatLG6
import Derived.Deep.RegionHeld3
import Derived.Test.YtocebjbjnfammaaGreatLG1
set_option maxRecDepth 4096
set_option maxHeartbeats 16000000
namespace Go.Proofs.YtocebjbjnfammaaGreat
open Go.RowKit
theorem isF.sums{A B C D m n x y u v:List Rat}(h:isF (padd (pmul A D) (pmul C B)) (pmul B D) u v)(hB:plen B≠0)(hD:plen D≠0)(h1:isF A B m n)(h2:isF C D x y):isF (padd (pmul m y) (pmul x n)) (pmul n y) u v:=by
 refine h.cross (cn_ hB hD) (cn_ h1.1.v0 h2.1.v0) (ak_ fun z=>?_)
 have e1:=ae_ z (h1.2.2 hB)
 have e2:=ae_ z (h2.2.2 hD)
 rw[ac_,ac_] at e1 e2
 simp only[ac_,ap_]
 grind
theorem hp_(S:RatfSaid)(HW:∀w:World,Calls Tryz.prog 9 #[] w (bo_ (.bool true) w))(a0:OA_)(n0 c0:Nat)(K0:List Fx)(b0:OA_)(m0 d0:Nat)(M0:List Fx)(a1:OA_)(n1 c1:Nat)(K1:List Fx)(b1:OA_)(m1 d1:Nat)(M1:List Fx)(s2:Bool)(a2:OA_)(n2 c2:Nat)(l2:List Nat)(b2:OA_)(m2 d2:Nat)(k2:List Nat)(w:World)(h0:Fxs w a0 n0 c0 K0)(j0:Fxs w b0 m0 d0 M0)(h1:Fxs w a1 n1 c1 K1)(j1:Fxs w b1 m1 d1 M1)(h2:Wd w a2 n2 c2 l2)(j2:Wd w b2 m2 d2 k2)(hb0:(((n0:Int)≤3∧thinI 1 K0)∧((m0:Int)≤3∧thinI 1 M0)))(hb1:(((n1:Int)≤3∧thinI 1 K1)∧((m1:Int)≤3∧thinI 1 M1)))(hn2:n2≤1)(hm2:m2≤1):Calls Tryz.prog 6 #[.agg #[.slice a0 n0 c0,.slice b0 m0 d0],.agg #[.slice a1 n1 c1,.slice b1 m1 d1],frV s2 a2 n2 c2 b2 m2 d2] w (bo_ (.bool true) w):=by
 have hl2:(decide ((1:Int) < (n2:Int)) || decide ((1:Int) < (m2:Int)))=false:=by rw[decide_eq_false (by omega),decide_eq_false (by omega)];rfl
 obtain⟨fk1,fk2,fk3,fk4,fk5,fk6,fk7,fk8,fk9⟩:=ou_
 obtain⟨u1,v1,hf1⟩:=cr_ (fqs K0) (fqs M0)
 obtain⟨u2,v2,hf2⟩:=cr_ (fqs K1) (fqs M1)
 have p0:=Pv.of h0 (thinI.out (N:=1) hb0.1.2)
 have q0:=Pv.of j0 (thinI.out (N:=1) hb0.2.2)
 have p1:=Pv.of h1 (thinI.out (N:=1) hb1.1.2)
 have q1:=Pv.of j1 (thinI.out (N:=1) hb1.2.2)
 have z1:Rz u1 v1 3 3 42:=(Fv.arg (k:=3) p0 q0 (by omega) (by omega) (by decide) (by decide) hf1).2
 have z2:Rz u2 v2 3 3 42:=(Fv.arg (k:=3) p1 q1 (by omega) (by omega) (by decide) (by decide) hf2).2
 clear p0 q0 p1 q1
 have hV1:=z1.rf.v0
 have hV2:=z2.rf.v0
 obtain⟨x1,y1,hx1⟩:=cr_ (dup u1 v1) (pmul v1 v1)
 obtain⟨x2,y2,hx2⟩:=cr_ (dup u2 v2) (pmul v2 v2)
 have zx1:Rz x1 y1 4 5 792:=z1.dup (K:=4) (D:=5) hx1 (by decide) (by decide) (by decide) (by decide) (by decide) (by decide)
 have zx2:Rz x2 y2 4 5 792:=z2.dup (K:=4) (D:=5) hx2 (by decide) (by decide) (by decide) (by decide) (by decide) (by decide)
 obtain⟨us,vs,hs⟩:=cr_ (padd (pmul u1 v2) (pmul u2 v1)) (pmul v1 v2)
 have zs:Rz us vs 5 5 870:=z1.add (K:=5) (D:=5) z2 hs (by decide) (by decide) (by decide) (by decide) (by decide) (by decide) (by decide)
 obtain⟨xs,ys,hds⟩:=cr_ (dup us vs) (pmul vs vs)
 have zds:Rz xs ys 8 9 29648:=zs.dup (K:=8) (D:=9) hds (by decide) (by decide) (by decide) (by decide) (by decide) (by decide)
 have hsd:=d_sum hs hV1 hV2 hds hx1 hx2
 have zsd:Rz xs ys 8 9 26979:=zx1.add (K:=8) (D:=9) zx2 hsd (by decide) (by decide) (by decide) (by decide) (by decide) (by decide) (by decide)
 obtain⟨up,vp,hp⟩:=cr_ (pmul u1 u2) (pmul v1 v2)
 have zp:Rz up vp 5 5 870:=z1.mul (K:=5) (D:=5) z2 hp (by decide) (by decide) (by decide) (by decide) (by decide)
 obtain⟨xp,yp,hdp⟩:=cr_ (dup up vp) (pmul vp vp)
 have zdp:Rz xp yp 8 9 29648:=zp.dup (K:=8) (D:=9) hdp (by decide) (by decide) (by decide) (by decide) (by decide) (by decide)
 obtain⟨ul,vl,hml⟩:=cr_ (pmul x1 u2) (pmul y1 v2)
 have zl:Rz ul vl 6 7 10881:=zx1.mul (K:=6) (D:=7) z2 hml (by decide) (by decide) (by decide) (by decide) (by decide)
 obtain⟨ur,vr,hmr⟩:=cr_ (pmul u1 x2) (pmul v1 y2)
 have zr:Rz ur vr 6 7 10881:=z1.mul (K:=6) (D:=7) zx2 hmr (by decide) (by decide) (by decide) (by decide) (by decide)
 have hpd:=(d_prod hp hV1 hV2 hdp hx1 hx2).sums (cn_ zx1.rf.v0 hV2) (cn_ hV1 zx2.rf.v0) hml hmr
 have zpd:Rz xp yp 12 13 544125:=zl.add (K:=12) (D:=13) zr hpd (by decide) (by decide) (by decide) (by decide) (by decide) (by decide) (by decide)
 obtain⟨k,hk⟩:∃k,qval s2 (val l2) (val k2)=k:=⟨_,rfl⟩
 have hfk:∀w':World,Wd w' a2 n2 c2 l2→Wd w' b2 m2 d2 k2→Fr w' (frV s2 a2 n2 c2 b2 m2 d2) k 1:=fun w' h8 h9=>Fr.of h8 h9 hn2 hm2 hk
 have lk:qlen k≤1:=(hfk w h2 j2).len_max (Nat.le_refl _)
 obtain⟨uo,vo,ho⟩:=cr_ [k] [1]
 have zo:Rz uo vo 1 1 6:=by
  have hz:Fz [k] [1] 1 2:=Fz.of (N:=1) (n:=1) (m:=1) (fun q hq=>by rw[List.mem_singleton.1 hq];exact lk) (fun q hq=>by rw[List.mem_singleton.1 hq];exact e2_ ea_ ea_) (Nat.le_refl _) (Nat.le_refl _) (Nat.le_refl _) (Nat.le_refl _) (by decide)
  exact Rz.of (k:=1) (l:=1) hz ho (a4_ [k]) (a4_ [1]) (by decide) (by decide)
 obtain⟨xo,yo,hdo⟩:=cr_ (dup uo vo) (pmul vo vo)
 have zdo:Rz xo yo 0 1 16:=zo.dup (K:=0) (D:=1) hdo (by decide) (by decide) (by decide) (by decide) (by decide) (by decide)
 have hxo:xo=[]:=d_const ho hdo
 have HT0:∀w':World,Fxs w' a0 n0 c0 K0→Fxs w' b0 m0 d0 M0→Calls Tryz.prog 12 #[.agg #[.slice a0 n0 c0,.slice b0 m0 d0]] w' (LstG u1 v1 3 42 w'):=fun w' h8 h9=>(p5_ a0 n0 c0 K0 b0 m0 d0 M0 w' h8 h9 (by omega) (by omega)).mono fun _ _ ⟨a',c',b',d',h6,h7,h5,h4⟩=>⟨a',n0,c',b',m0,d',h6,(Fv.arg (k:=3) (Pv.of h7 (thinI.out (N:=1) hb0.1.2)) (Pv.of h5 (thinI.out (N:=1) hb0.2.2)) (by omega) (by omega) (by decide) (by decide) hf1).1,h4⟩
 have HT1:∀w':World,Fxs w' a1 n1 c1 K1→Fxs w' b1 m1 d1 M1→Calls Tryz.prog 12 #[.agg #[.slice a1 n1 c1,.slice b1 m1 d1]] w' (LstG u2 v2 3 42 w'):=fun w' h8 h9=>(p5_ a1 n1 c1 K1 b1 m1 d1 M1 w' h8 h9 (by omega) (by omega)).mono fun _ _ ⟨a',c',b',d',h6,h7,h5,h4⟩=>⟨a',n1,c',b',m1,d',h6,(Fv.arg (k:=3) (Pv.of h7 (thinI.out (N:=1) hb1.1.2)) (Pv.of h5 (thinI.out (N:=1) hb1.2.2)) (by omega) (by omega) (by decide) (by decide) hf2).1,h4⟩
 have HD1:∀(w':World) (a:OA_) (n c:Nat) (b:OA_) (m d:Nat),Fv w' a n c b m d u1 v1 3 42→Calls Tryz.prog 26 #[.agg #[.slice a n c,.slice b m d]] w' (LstG x1 y1 5 792 w'):=fun w' a n c b m d h9=>(S.diff a n c b m d u1 v1 3 42 w' h9 fk1).mono fun _ _ h8=>h8.good hx1 zx1 (by decide) (by decide) (by decide)
 have HD2:∀(w':World) (a:OA_) (n c:Nat) (b:OA_) (m d:Nat),Fv w' a n c b m d u2 v2 3 42→Calls Tryz.prog 26 #[.agg #[.slice a n c,.slice b m d]] w' (LstG x2 y2 5 792 w'):=fun w' a n c b m d h9=>(S.diff a n c b m d u2 v2 3 42 w' h9 fk1).mono fun _ _ h8=>h8.good hx2 zx2 (by decide) (by decide) (by decide)
 have HA1:∀(w':World) (a:OA_) (n c:Nat) (b:OA_) (m d:Nat) (a':OA_) (n' c':Nat) (b':OA_) (m' d':Nat),Fv w' a n c b m d u1 v1 3 42→Fv w' a' n' c' b' m' d' u2 v2 3 42→Calls Tryz.prog 35 #[.agg #[.slice a n c,.slice b m d],.agg #[.slice a' n' c',.slice b' m' d']] w' (LstG us vs 5 870 w'):=fun w' a n c b m d a' n' c' b' m' d' h9 h7=>(S.add a n c b m d u1 v1 3 42 a' n' c' b' m' d' u2 v2 3 42 w' h9 h7 fk2).mono fun _ _ h8=>h8.good hs zs (by decide) (by decide) (by decide)
 have HDS:∀(w':World) (a:OA_) (n c:Nat) (b:OA_) (m d:Nat),Fv w' a n c b m d us vs 5 870→Calls Tryz.prog 26 #[.agg #[.slice a n c,.slice b m d]] w' (LstG xs ys 9 29648 w'):=fun w' a n c b m d h9=>(S.diff a n c b m d us vs 5 870 w' h9 fk3).mono fun _ _ h8=>h8.good hds zds (by decide) (by decide) (by decide)
 have HA2:∀(w':World) (a:OA_) (n c:Nat) (b:OA_) (m d:Nat) (a':OA_) (n' c':Nat) (b':OA_) (m' d':Nat),Fv w' a n c b m d x1 y1 5 792→Fv w' a' n' c' b' m' d' x2 y2 5 792→Calls Tryz.prog 35 #[.agg #[.slice a n c,.slice b m d],.agg #[.slice a' n' c',.slice b' m' d']] w' (LstG xs ys 9 26979 w'):=fun w' a n c b m d a' n' c' b' m' d' h9 h7=>(S.add a n c b m d x1 y1 5 792 a' n' c' b' m' d' x2 y2 5 792 w' h9 h7 fk4).mono fun _ _ h8=>h8.good hsd zsd (by decide) (by decide) (by decide)
 have HS1:∀(w':World) (a:OA_) (n c:Nat) (b:OA_) (m d:Nat) (a':OA_) (n' c':Nat) (b':OA_) (m' d':Nat),Fv w' a n c b m d xs ys 9 29648→Fv w' a' n' c' b' m' d' xs ys 9 26979→Calls Tryz.prog 24 #[.agg #[.slice a n c,.slice b m d],.agg #[.slice a' n' c',.slice b' m' d']] w' (bo_ (.bool true) w'):=fun w' a n c b m d a' n' c' b' m' d' h9 h7=>(decide_eq_true (⟨rfl,rfl⟩:xs=xs∧ys=ys))▸S.same a n c b m d xs ys 9 29648 a' n' c' b' m' d' xs ys 9 26979 w' h9 h7 fk5 fk6 (by decide)
 have HM1:∀(w':World) (a:OA_) (n c:Nat) (b:OA_) (m d:Nat) (a':OA_) (n' c':Nat) (b':OA_) (m' d':Nat),Fv w' a n c b m d u1 v1 3 42→Fv w' a' n' c' b' m' d' u2 v2 3 42→Calls Tryz.prog 38 #[.agg #[.slice a n c,.slice b m d],.agg #[.slice a' n' c',.slice b' m' d']] w' (LstG up vp 5 870 w'):=fun w' a n c b m d a' n' c' b' m' d' h9 h7=>(S.mul a n c b m d u1 v1 3 42 a' n' c' b' m' d' u2 v2 3 42 w' h9 h7 fk2).mono fun _ _ h8=>h8.good hp zp (by decide) (by decide) (by decide)
 have HDP:∀(w':World) (a:OA_) (n c:Nat) (b:OA_) (m d:Nat),Fv w' a n c b m d up vp 5 870→Calls Tryz.prog 26 #[.agg #[.slice a n c,.slice b m d]] w' (LstG xp yp 9 29648 w'):=fun w' a n c b m d h9=>(S.diff a n c b m d up vp 5 870 w' h9 fk3).mono fun _ _ h8=>h8.good hdp zdp (by decide) (by decide) (by decide)
 have HM2:∀(w':World) (a:OA_) (n c:Nat) (b:OA_) (m d:Nat) (a':OA_) (n' c':Nat) (b':OA_) (m' d':Nat),Fv w' a n c b m d x1 y1 5 792→Fv w' a' n' c' b' m' d' u2 v2 3 42→Calls Tryz.prog 38 #[.agg #[.slice a n c,.slice b m d],.agg #[.slice a' n' c',.slice b' m' d']] w' (LstG ul vl 7 10881 w'):=fun w' a n c b m d a' n' c' b' m' d' h9 h7=>(S.mul a n c b m d x1 y1 5 792 a' n' c' b' m' d' u2 v2 3 42 w' h9 h7 fk7).mono fun _ _ h8=>h8.good hml zl (by decide) (by decide) (by decide)
 have HM3:∀(w':World) (a:OA_) (n c:Nat) (b:OA_) (m d:Nat) (a':OA_) (n' c':Nat) (b':OA_) (m' d':Nat),Fv w' a n c b m d u1 v1 3 42→Fv w' a' n' c' b' m' d' x2 y2 5 792→Calls Tryz.prog 38 #[.agg #[.slice a n c,.slice b m d],.agg #[.slice a' n' c',.slice b' m' d']] w' (LstG ur vr 7 10881 w'):=fun w' a n c b m d a' n' c' b' m' d' h9 h7=>(S.mul a n c b m d u1 v1 3 42 a' n' c' b' m' d' x2 y2 5 792 w' h9 h7 (by unfold Fok2 Fok;decide)).mono fun _ _ h8=>h8.good hmr zr (by decide) (by decide) (by decide)
 have HA3:∀(w':World) (a:OA_) (n c:Nat) (b:OA_) (m d:Nat) (a':OA_) (n' c':Nat) (b':OA_) (m' d':Nat),Fv w' a n c b m d ul vl 7 10881→Fv w' a' n' c' b' m' d' ur vr 7 10881→Calls Tryz.prog 35 #[.agg #[.slice a n c,.slice b m d],.agg #[.slice a' n' c',.slice b' m' d']] w' (LstG xp yp 13 544125 w'):=fun w' a n c b m d a' n' c' b' m' d' h9 h7=>(S.add a n c b m d ul vl 7 10881 a' n' c' b' m' d' ur vr 7 10881 w' h9 h7 fk8).mono fun _ _ h8=>h8.good hpd zpd (by decide) (by decide) (by decide)
 have HS2:∀(w':World) (a:OA_) (n c:Nat) (b:OA_) (m d:Nat) (a':OA_) (n' c':Nat) (b':OA_) (m' d':Nat),Fv w' a n c b m d xp yp 9 29648→Fv w' a' n' c' b' m' d' xp yp 13 544125→Calls Tryz.prog 24 #[.agg #[.slice a n c,.slice b m d],.agg #[.slice a' n' c',.slice b' m' d']] w' (bo_ (.bool true) w'):=fun w' a n c b m d a' n' c' b' m' d' h9 h7=>(decide_eq_true (⟨rfl,rfl⟩:xp=xp∧yp=yp))▸S.same a n c b m d xp yp 9 29648 a' n' c' b' m' d' xp yp 13 544125 w' h9 h7 fk5 fk9 (by decide)
 have HOF:∀w':World,Wd w' a2 n2 c2 l2→Wd w' b2 m2 d2 k2→Calls Tryz.prog 28 #[frV s2 a2 n2 c2 b2 m2 d2] w' (LstG uo vo 2 6 w'):=fun w' h8 h9=>(S.of _ k 1 w' (hfk w' h8 h9) (by unfold Fok;decide)).mono fun _ _ h7=>h7.good ho zo (by decide) (by decide) (by decide)
 have HDO:∀(w':World) (a:OA_) (n c:Nat) (b:OA_) (m d:Nat),Fv w' a n c b m d uo vo 2 6→Calls Tryz.prog 26 #[.agg #[.slice a n c,.slice b m d]] w' (LstG xo yo 2 16 w'):=fun w' a n c b m d h9=>(S.diff a n c b m d uo vo 2 6 w' h9 (by unfold Fok;decide)).mono fun _ _ h8=>h8.good hdo zdo (by decide) (by decide) (by decide)
 have HZO:∀(w':World) (a:OA_) (n c:Nat) (b:OA_) (m d:Nat),Fv w' a n c b m d xo yo 2 16→Calls Tryz.prog 23 #[.agg #[.slice a n c,.slice b m d]] w' (bo_ (.bool true) w'):=fun w' a n c b m d h9=>(decide_eq_true hxo)▸S.zero a n c b m d xo yo 2 16 w' h9 (by unfold Fok;decide)
 have HNB0:=hd_ hb0
 have HNB1:=hd_ hb1
 have HB:=hd_ (ab_ (ab_ (aa_ w (.cells #[.slice a0 n0 c0,.slice b0 m0 d0] 24)) (aa_ _ (.cells #[.slice a1 n1 c1,.slice b1 m1 d1] 24))) (aa_ _ (.cells #[.bool s2,.slice a2 n2 c2,.slice b2 m2 d2] 27)))
 have X0:Hid ((((w.alloc (.cells #[.slice a0 n0 c0,.slice b0 m0 d0] 24)).alloc (.cells #[.slice a1 n1 c1,.slice b1 m1 d1] 24)).alloc (.cells #[.bool s2,.slice a2 n2 c2,.slice b2 m2 d2] 27)).heap[w.heap.size]? = some (.cells #[.slice a0 n0 c0,.slice b0 m0 d0] 24 (0,0))):=hd_ (ag_ (ag_ (ao_ w _ _) (aa_ _ (.cells #[.slice a1 n1 c1,.slice b1 m1 d1] 24))) (aa_ _ (.cells #[.bool s2,.slice a2 n2 c2,.slice b2 m2 d2] 27)))
 have X1:Hid ((((w.alloc (.cells #[.slice a0 n0 c0,.slice b0 m0 d0] 24)).alloc (.cells #[.slice a1 n1 c1,.slice b1 m1 d1] 24)).alloc (.cells #[.bool s2,.slice a2 n2 c2,.slice b2 m2 d2] 27)).heap[w.heap.size+1]? = some (.cells #[.slice a1 n1 c1,.slice b1 m1 d1] 24 (0,0))):=hd_ (ag_ (by have h9:=ao_ (w.alloc (.cells #[.slice a0 n0 c0,.slice b0 m0 d0] 24)) #[.slice a1 n1 c1,.slice b1 m1 d1] 24;rwa [aw_] at h9) (aa_ _ (.cells #[.bool s2,.slice a2 n2 c2,.slice b2 m2 d2] 27)))
 have X2:Hid ((((w.alloc (.cells #[.slice a0 n0 c0,.slice b0 m0 d0] 24)).alloc (.cells #[.slice a1 n1 c1,.slice b1 m1 d1] 24)).alloc (.cells #[.bool s2,.slice a2 n2 c2,.slice b2 m2 d2] 27)).heap[w.heap.size+1+1]? = some (.cells #[.bool s2,.slice a2 n2 c2,.slice b2 m2 d2] 27 (0,0))):=hd_ (by have h9:=ao_ ((w.alloc (.cells #[.slice a0 n0 c0,.slice b0 m0 d0] 24)).alloc (.cells #[.slice a1 n1 c1,.slice b1 m1 d1] 24)) #[.bool s2,.slice a2 n2 c2,.slice b2 m2 d2] 27;rwa [aw_,aw_] at h9)
 have HF0:=hd_ (h0.later HB.out)
 have HG0:=hd_ (j0.later HB.out)
 have HF1:=hd_ (h1.later HB.out)
 have HG1:=hd_ (j1.later HB.out)
 have A2:=hd_ (h2.later HB.out)
 have D2:=hd_ (j2.later HB.out)
 clear h0 j0 h1 j1 h2 j2 hb0 hb1 fk1 fk2 fk3 fk4 fk5 fk6 fk7 fk8 fk9 z1 z2 hV1 hV2 hx1 hx2 zx1 zx2 hs zs hds zds hsd zsd hp zp hdp zdp hml zl hmr zr hpd zpd hk hfk lk ho zo hdo zdo hxo hf1 hf2
 go_enter Tryz.func6,Tryz.ntmps6
 unfold frV
 obtain⟨vk0,vk1,vk2,vk3,vk4,vk5,vk6⟩:=b3_ X0.out X1.out X2.out
 go_wp2_with fail
 refine (eh_ a0 n0 c0 K0 b0 m0 d0 M0 3 1 false _ HF0.out HG0.out (by decide) ⟨fun h=>absurd h (by decide),fun h=>absurd HNB0.out h⟩).mono ?_
 rintro e wv1 ⟨rfl,b⟩
 clear vk0 vk1 vk2 vk3 vk4 vk5 vk6
 replace HB:=bt_ HB b
 replace X0:=bl_ X0 b
 replace X1:=bl_ X1 b
 replace X2:=bl_ X2 b
 replace HF0:=HF0.l_ b
 replace HG0:=HG0.l_ b
 replace HF1:=HF1.l_ b
 replace HG1:=HG1.l_ b
 replace A2:=A2.l_ b
 replace D2:=D2.l_ b
 clear b
 obtain⟨vk0,vk1,vk2,vk3,vk4,vk5,vk6⟩:=b3_ X0.out X1.out X2.out
 go_wp2_with fail
 refine (eh_ a1 n1 c1 K1 b1 m1 d1 M1 3 1 false _ HF1.out HG1.out (by decide) ⟨fun h=>absurd h (by decide),fun h=>absurd HNB1.out h⟩).mono ?_
 rintro e wv2 ⟨rfl,b⟩
 clear vk0 vk1 vk2 vk3 vk4 vk5 vk6
 replace HB:=bt_ HB b
 replace X0:=bl_ X0 b
 replace X1:=bl_ X1 b
 replace X2:=bl_ X2 b
 replace HF0:=HF0.l_ b
 replace HG0:=HG0.l_ b
 replace HF1:=HF1.l_ b
 replace HG1:=HG1.l_ b
 replace A2:=A2.l_ b
 replace D2:=D2.l_ b
 clear b
 obtain⟨vk0,vk1,vk2,vk3,vk4,vk5,vk6⟩:=b3_ X0.out X1.out X2.out
 go_wp2_with fail
 refine (id_ s2 a2 n2 c2 b2 m2 d2 1 _).mono ?_
 rintro e wv3 ⟨rfl,b⟩
 clear vk0 vk1 vk2 vk3 vk4 vk5 vk6
 replace HB:=bt_ HB b
 replace X0:=bl_ X0 b
 replace X1:=bl_ X1 b
 replace X2:=bl_ X2 b
 replace HF0:=HF0.l_ b
 replace HG0:=HG0.l_ b
 replace HF1:=HF1.l_ b
 replace HG1:=HG1.l_ b
 replace A2:=A2.l_ b
 replace D2:=D2.l_ b
 clear b
 rw[hl2]
 obtain⟨vk0,vk1,vk2,vk3,vk4,vk5,vk6⟩:=b3_ X0.out X1.out X2.out
 go_wp2_with fail
 refine (HT0 _ HF0.out HG0.out).mono ?_
 rintro e wv4 ⟨a3,n3,c3,b3,m3,d3,rfl,h3,b⟩
 clear vk0 vk1 vk2 vk3 vk4 vk5 vk6
 clear HF0 HG0
 have X:=hd_ h3
 have ba:=aa_ wv4 (.cells #[.slice a3 n3 c3,.slice b3 m3 d3] 35)
 have BX:=hd_ (ao_ wv4 #[.slice a3 n3 c3,.slice b3 m3 d3] 35)
 have bb:=ab_ b ba
 replace X:=X.l_ ba
 replace HB:=bt_ HB bb
 replace X0:=bl_ X0 bb
 replace X1:=bl_ X1 bb
 replace X2:=bl_ X2 bb
 replace HF1:=HF1.l_ bb
 replace HG1:=HG1.l_ bb
 replace A2:=A2.l_ bb
 replace D2:=D2.l_ bb
 clear b ba bb
 clear h3
 go_upto_region 4 with fail
 generalize wv4.alloc (.cells #[.slice a3 n3 c3,.slice b3 m3 d3] 35)=wr at *
 obtain⟨vk0,vk1,vk2,vk3,vk4,vk5,vk6,vk7,vk8⟩:=kz_ X0.out X1.out X2.out BX.out
 go_wp2_with fail
 refine (HT1 _ HF1.out HG1.out).mono ?_
 rintro e wv5 ⟨a4,n4,c4,b4,m4,d4,rfl,h4,b⟩
 clear vk0 vk1 vk2 vk3 vk4 vk5 vk6 vk7 vk8
 clear HF1 HG1
 have Y:=hd_ h4
 have ba:=aa_ wv5 (.cells #[.slice a4 n4 c4,.slice b4 m4 d4] 35)
 have BY:=hd_ (ao_ wv5 #[.slice a4 n4 c4,.slice b4 m4 d4] 35)
 have bb:=ab_ b ba
 replace Y:=Y.l_ ba
 replace HB:=bt_ HB bb
 replace X0:=bl_ X0 bb
 replace X1:=bl_ X1 bb
 replace X2:=bl_ X2 bb
 replace BX:=bl_ BX bb
 replace A2:=A2.l_ bb
 replace D2:=D2.l_ bb
 replace X:=X.l_ bb
 clear b ba bb
 clear h4
 go_upto_region 5 with fail
 generalize wv5.alloc (.cells #[.slice a4 n4 c4,.slice b4 m4 d4] 35)=wr at *
 obtain⟨vk0,vk1,vk2,vk3,vk4,vk5,vk6,vk7,vk8,vk9,vk10⟩:=iy_ X0.out X1.out X2.out BX.out BY.out
 go_wp2_with fail
 refine (HD1 _ _ _ _ _ _ _ X.out).mono ?_
 rintro e wv6 ⟨a5,n5,c5,b5,m5,d5,rfl,h5,b⟩
 clear vk0 vk1 vk2 vk3 vk4 vk5 vk6 vk7 vk8 vk9 vk10
 have DX:=hd_ h5
 have ba:=aa_ wv6 (.cells #[.slice a5 n5 c5,.slice b5 m5 d5] 35)
 have BD:=hd_ (ao_ wv6 #[.slice a5 n5 c5,.slice b5 m5 d5] 35)
 have bb:=ab_ b ba
 replace DX:=DX.l_ ba
 replace HB:=bt_ HB bb
 replace X0:=bl_ X0 bb
 replace X1:=bl_ X1 bb
 replace X2:=bl_ X2 bb
 replace BX:=bl_ BX bb
 replace BY:=bl_ BY bb
 replace A2:=A2.l_ bb
 replace D2:=D2.l_ bb
 replace X:=X.l_ bb
 replace Y:=Y.l_ bb
 clear b ba bb
 clear h5
 go_upto_region 6 with fail
 generalize wv6.alloc (.cells #[.slice a5 n5 c5,.slice b5 m5 d5] 35)=wr at *
 obtain⟨vk0,vk1,vk2,vk3,vk4,vk5,vk6,vk7,vk8,vk9,vk10,vk11,vk12⟩:=g6_ X0.out X1.out X2.out BX.out BY.out BD.out
 go_wp2_with fail
 refine (HD2 _ _ _ _ _ _ _ Y.out).mono ?_
 rintro e wv7 ⟨a6,n6,c6,b6,m6,d6,rfl,h6,b⟩
 clear vk0 vk1 vk2 vk3 vk4 vk5 vk6 vk7 vk8 vk9 vk10 vk11 vk12
 have DY:=hd_ h6
 have ba:=aa_ wv7 (.cells #[.slice a6 n6 c6,.slice b6 m6 d6] 35)
 have BE:=hd_ (ao_ wv7 #[.slice a6 n6 c6,.slice b6 m6 d6] 35)
 have bb:=ab_ b ba
 replace DY:=DY.l_ ba
 replace HB:=bt_ HB bb
 replace X0:=bl_ X0 bb
 replace X1:=bl_ X1 bb
 replace X2:=bl_ X2 bb
 replace BX:=bl_ BX bb
 replace BY:=bl_ BY bb
 replace BD:=bl_ BD bb
 replace A2:=A2.l_ bb
 replace D2:=D2.l_ bb
 replace X:=X.l_ bb
 replace Y:=Y.l_ bb
 replace DX:=DX.l_ bb
 clear b ba bb
 clear h6
 go_upto_region 7 with fail
 generalize wv7.alloc (.cells #[.slice a6 n6 c6,.slice b6 m6 d6] 35)=wr at *
 obtain⟨gx,hgx⟩:∃g,wv4.heap.size=g:=⟨_,rfl⟩
 obtain⟨gy,hgy⟩:∃g,wv5.heap.size=g:=⟨_,rfl⟩
 obtain⟨gd,hgd⟩:∃g,wv6.heap.size=g:=⟨_,rfl⟩
 obtain⟨ge,hge⟩:∃g,wv7.heap.size=g:=⟨_,rfl⟩
 rw[hgx] at BX ⊢
 rw[hgy] at BY ⊢
 rw[hgd] at BD ⊢
 rw[hge] at BE ⊢
 clear hgx hgy hgd hge X0 X1
 obtain⟨s0,s1,s2_,s3,s4,s5,s6,s7,s8,s9,s10⟩:=a5_ X2.out BX.out BY.out BD.out BE.out
 go_wp2
 clear s0 s1 s2_ s3 s4 s5 s6 s7 s8 s9 s10
 replace HB:=bt_ HB (dw_ wr)
 replace X2:Hid (wr.drew.heap[w.heap.size+1+1]? = _):=hd_ X2.out
 replace BX:Hid (wr.drew.heap[gx]? = _):=hd_ BX.out
 replace BY:Hid (wr.drew.heap[gy]? = _):=hd_ BY.out
 replace BD:Hid (wr.drew.heap[gd]? = _):=hd_ BD.out
 replace BE:Hid (wr.drew.heap[ge]? = _):=hd_ BE.out
 replace X:=X.l_ (dw_ wr)
 replace Y:=Y.l_ (dw_ wr)
 replace DX:=DX.l_ (dw_ wr)
 replace DY:=DY.l_ (dw_ wr)
 replace A2:=A2.l_ (dw_ wr)
 replace D2:=D2.l_ (dw_ wr)
 have pSn:=a5_ X2.out BX.out BY.out BD.out BE.out
 go_region_held3 (fun w'=>w'.cell? ⟨w.heap.size+1+1,0,none⟩=some (.bool s2)∧w'.cell? ⟨w.heap.size+1+1,1,none⟩=some (.slice a2 n2 c2)∧w'.cell? ⟨w.heap.size+1+1,2,none⟩=some (.slice b2 m2 d2)∧w'.cell? ⟨gx,0,none⟩=some (.slice a3 n3 c3)∧w'.cell? ⟨gx,1,none⟩=some (.slice b3 m3 d3)∧w'.cell? ⟨gy,0,none⟩=some (.slice a4 n4 c4)∧w'.cell? ⟨gy,1,none⟩=some (.slice b4 m4 d4)∧w'.cell? ⟨gd,0,none⟩=some (.slice a5 n5 c5)∧w'.cell? ⟨gd,1,none⟩=some (.slice b5 m5 d5)∧w'.cell? ⟨ge,0,none⟩=some (.slice a6 n6 c6)∧w'.cell? ⟨ge,1,none⟩=some (.slice b6 m6 d6)) (exact pSn)
  (first
  | (go_at_call 35;(first
    | (have pm8:=pM8;refine (HA3 _ _ _ _ _ _ _ _ _ _ _ _ _ ML.out MR.out).mono ?_;rintro e wp9 ⟨a14,n14,c14,b14,m14,d14,rfl,h14,b⟩;replace HB:=bt_ HB b;replace X2:=bl_ X2 b;replace BX:=bl_ BX b;replace BY:=bl_ BY b;replace BD:=bl_ BD b;replace BE:=bl_ BE b;replace X:=X.l_ b;replace Y:=Y.l_ b;replace DX:=DX.l_ b;replace DY:=DY.l_ b;replace A2:=A2.l_ b;replace D2:=D2.l_ b;replace DP:=DP.l_ b;clear ML;clear MR;have PD:=hd_ h14;clear h14;clear b;clear pSn;have pSn:=a5_ X2.out BX.out BY.out BD.out BE.out;clear pM8 pm8;have pM9:=True.intro)
    | (have pm2:=pM2;refine (HA2 _ _ _ _ _ _ _ _ _ _ _ _ _ DX.out DY.out).mono ?_;rintro e wp3 ⟨a9,n9,c9,b9,m9,d9,rfl,h9,b⟩;replace HB:=bt_ HB b;replace X2:=bl_ X2 b;replace BX:=bl_ BX b;replace BY:=bl_ BY b;replace BD:=bl_ BD b;replace BE:=bl_ BE b;replace X:=X.l_ b;replace Y:=Y.l_ b;replace DX:=DX.l_ b;replace DY:=DY.l_ b;replace A2:=A2.l_ b;replace D2:=D2.l_ b;replace DS:=DS.l_ b;have SD:=hd_ h9;clear h9;clear b;clear pSn;have pSn:=a5_ X2.out BX.out BY.out BD.out BE.out;clear pM2 pm2;have pM3:=True.intro)
    | (refine (HA1 _ _ _ _ _ _ _ _ _ _ _ _ _ X.out Y.out).mono ?_;rintro e wp1 ⟨a7,n7,c7,b7,m7,d7,rfl,h7,b⟩;replace HB:=bt_ HB b;replace X2:=bl_ X2 b;replace BX:=bl_ BX b;replace BY:=bl_ BY b;replace BD:=bl_ BD b;replace BE:=bl_ BE b;replace X:=X.l_ b;replace Y:=Y.l_ b;replace DX:=DX.l_ b;replace DY:=DY.l_ b;replace A2:=A2.l_ b;replace D2:=D2.l_ b;have SM:=hd_ h7;clear h7;clear b;clear pSn;have pSn:=a5_ X2.out BX.out BY.out BD.out BE.out;have pM1:=True.intro)))
  | (go_at_call 26;(first
    | (have pm12:=pM12;refine (HDO _ _ _ _ _ _ _ OO.out).mono ?_;rintro e wp13 ⟨a16,n16,c16,b16,m16,d16,rfl,h16,b⟩;replace HB:=bt_ HB b;replace X2:=bl_ X2 b;replace BX:=bl_ BX b;replace BY:=bl_ BY b;replace BD:=bl_ BD b;replace BE:=bl_ BE b;replace X:=X.l_ b;replace Y:=Y.l_ b;replace DX:=DX.l_ b;replace DY:=DY.l_ b;replace A2:=A2.l_ b;replace D2:=D2.l_ b;clear OO;have DO:=hd_ h16;clear h16;clear b;clear pSn;have pSn:=a5_ X2.out BX.out BY.out BD.out BE.out;clear pM12 pm12;have pM13:=True.intro)
    | (have pm5:=pM5;refine (HDP _ _ _ _ _ _ _ PR.out).mono ?_;rintro e wp6 ⟨a11,n11,c11,b11,m11,d11,rfl,h11,b⟩;replace HB:=bt_ HB b;replace X2:=bl_ X2 b;replace BX:=bl_ BX b;replace BY:=bl_ BY b;replace BD:=bl_ BD b;replace BE:=bl_ BE b;replace X:=X.l_ b;replace Y:=Y.l_ b;replace DX:=DX.l_ b;replace DY:=DY.l_ b;replace A2:=A2.l_ b;replace D2:=D2.l_ b;clear PR;have DP:=hd_ h11;clear h11;clear b;clear pSn;have pSn:=a5_ X2.out BX.out BY.out BD.out BE.out;clear pM5 pm5;have pM6:=True.intro)
    | (have pm1:=pM1;refine (HDS _ _ _ _ _ _ _ SM.out).mono ?_;rintro e wp2 ⟨a8,n8,c8,b8,m8,d8,rfl,h8,b⟩;replace HB:=bt_ HB b;replace X2:=bl_ X2 b;replace BX:=bl_ BX b;replace BY:=bl_ BY b;replace BD:=bl_ BD b;replace BE:=bl_ BE b;replace X:=X.l_ b;replace Y:=Y.l_ b;replace DX:=DX.l_ b;replace DY:=DY.l_ b;replace A2:=A2.l_ b;replace D2:=D2.l_ b;clear SM;have DS:=hd_ h8;clear h8;clear b;clear pSn;have pSn:=a5_ X2.out BX.out BY.out BD.out BE.out;clear pM1 pm1;have pM2:=True.intro)))
  | (go_at_call 24;(first
    | (have pm9:=pM9;refine (HS2 _ _ _ _ _ _ _ _ _ _ _ _ _ DP.out PD.out).mono ?_;rintro e wp10 ⟨rfl,b⟩;replace HB:=bt_ HB b;replace X2:=bl_ X2 b;replace BX:=bl_ BX b;replace BY:=bl_ BY b;replace BD:=bl_ BD b;replace BE:=bl_ BE b;replace X:=X.l_ b;replace Y:=Y.l_ b;replace DX:=DX.l_ b;replace DY:=DY.l_ b;replace A2:=A2.l_ b;replace D2:=D2.l_ b;clear DP;clear PD;clear b;clear pSn;have pSn:=a5_ X2.out BX.out BY.out BD.out BE.out;clear pM9 pm9;have pM10:=True.intro)
    | (have pm3:=pM3;refine (HS1 _ _ _ _ _ _ _ _ _ _ _ _ _ DS.out SD.out).mono ?_;rintro e wp4 ⟨rfl,b⟩;replace HB:=bt_ HB b;replace X2:=bl_ X2 b;replace BX:=bl_ BX b;replace BY:=bl_ BY b;replace BD:=bl_ BD b;replace BE:=bl_ BE b;replace X:=X.l_ b;replace Y:=Y.l_ b;replace DX:=DX.l_ b;replace DY:=DY.l_ b;replace A2:=A2.l_ b;replace D2:=D2.l_ b;clear DS;clear SD;clear b;clear pSn;have pSn:=a5_ X2.out BX.out BY.out BD.out BE.out;clear pM3 pm3;have pM4:=True.intro)))
  | (go_at_call 38;(first
    | (have pm7:=pM7;refine (HM3 _ _ _ _ _ _ _ _ _ _ _ _ _ X.out DY.out).mono ?_;rintro e wp8 ⟨a13,n13,c13,b13,m13,d13,rfl,h13,b⟩;replace HB:=bt_ HB b;replace X2:=bl_ X2 b;replace BX:=bl_ BX b;replace BY:=bl_ BY b;replace BD:=bl_ BD b;replace BE:=bl_ BE b;replace X:=X.l_ b;replace Y:=Y.l_ b;replace DX:=DX.l_ b;replace DY:=DY.l_ b;replace A2:=A2.l_ b;replace D2:=D2.l_ b;replace DP:=DP.l_ b;replace ML:=ML.l_ b;have MR:=hd_ h13;clear h13;clear b;clear pSn;have pSn:=a5_ X2.out BX.out BY.out BD.out BE.out;clear pM7 pm7;have pM8:=True.intro)
    | (have pm6:=pM6;refine (HM2 _ _ _ _ _ _ _ _ _ _ _ _ _ DX.out Y.out).mono ?_;rintro e wp7 ⟨a12,n12,c12,b12,m12,d12,rfl,h12,b⟩;replace HB:=bt_ HB b;replace X2:=bl_ X2 b;replace BX:=bl_ BX b;replace BY:=bl_ BY b;replace BD:=bl_ BD b;replace BE:=bl_ BE b;replace X:=X.l_ b;replace Y:=Y.l_ b;replace DX:=DX.l_ b;replace DY:=DY.l_ b;replace A2:=A2.l_ b;replace D2:=D2.l_ b;replace DP:=DP.l_ b;have ML:=hd_ h12;clear h12;clear b;clear pSn;have pSn:=a5_ X2.out BX.out BY.out BD.out BE.out;clear pM6 pm6;have pM7:=True.intro)
    | (have pm4:=pM4;refine (HM1 _ _ _ _ _ _ _ _ _ _ _ _ _ X.out Y.out).mono ?_;rintro e wp5 ⟨a10,n10,c10,b10,m10,d10,rfl,h10,b⟩;replace HB:=bt_ HB b;replace X2:=bl_ X2 b;replace BX:=bl_ BX b;replace BY:=bl_ BY b;replace BD:=bl_ BD b;replace BE:=bl_ BE b;replace X:=X.l_ b;replace Y:=Y.l_ b;replace DX:=DX.l_ b;replace DY:=DY.l_ b;replace A2:=A2.l_ b;replace D2:=D2.l_ b;have PR:=hd_ h10;clear h10;clear b;clear pSn;have pSn:=a5_ X2.out BX.out BY.out BD.out BE.out;clear pM4 pm4;have pM5:=True.intro)))
  | (go_at_call 17;(first
    | (have pm10:=pM10;refine (qd_ s2 a2 n2 c2 b2 m2 d2 _).mono ?_;rintro e wp11 ⟨rfl,b⟩;replace HB:=bt_ HB b;replace X2:=bl_ X2 b;replace BX:=bl_ BX b;replace BY:=bl_ BY b;replace BD:=bl_ BD b;replace BE:=bl_ BE b;replace X:=X.l_ b;replace Y:=Y.l_ b;replace DX:=DX.l_ b;replace DY:=DY.l_ b;replace A2:=A2.l_ b;replace D2:=D2.l_ b;clear b;clear pSn;have pSn:=a5_ X2.out BX.out BY.out BD.out BE.out;clear pM10 pm10;have pM11:=True.intro)))
  | (go_at_call 28;(first
    | (have pm11:=pM11;refine (HOF _ A2.out D2.out).mono ?_;rintro e wp12 ⟨a15,n15,c15,b15,m15,d15,rfl,h15,b⟩;replace HB:=bt_ HB b;replace X2:=bl_ X2 b;replace BX:=bl_ BX b;replace BY:=bl_ BY b;replace BD:=bl_ BD b;replace BE:=bl_ BE b;replace X:=X.l_ b;replace Y:=Y.l_ b;replace DX:=DX.l_ b;replace DY:=DY.l_ b;replace A2:=A2.l_ b;replace D2:=D2.l_ b;have OO:=hd_ h15;clear h15;clear b;clear pSn;have pSn:=a5_ X2.out BX.out BY.out BD.out BE.out;clear pM11 pm11;have pM12:=True.intro)))
  | (go_at_call 23;(first
    | (have pm13:=pM13;refine (HZO _ _ _ _ _ _ _ DO.out).mono ?_;rintro e wp14 ⟨rfl,b⟩;replace HB:=bt_ HB b;replace X2:=bl_ X2 b;replace BX:=bl_ BX b;replace BY:=bl_ BY b;replace BD:=bl_ BD b;replace BE:=bl_ BE b;replace X:=X.l_ b;replace Y:=Y.l_ b;replace DX:=DX.l_ b;replace DY:=DY.l_ b;replace A2:=A2.l_ b;replace D2:=D2.l_ b;clear DO;clear b;clear pSn;have pSn:=a5_ X2.out BX.out BY.out BD.out BE.out;clear pM13 pm13;have pM14:=True.intro)))
  | (go_at_call 9;(first
    | (have pm14:=pM14;refine (HW _).mono ?_;rintro e wp15 ⟨rfl,b⟩;replace HB:=bt_ HB b;replace X2:=bl_ X2 b;replace BX:=bl_ BX b;replace BY:=bl_ BY b;replace BD:=bl_ BD b;replace BE:=bl_ BE b;replace X:=X.l_ b;replace Y:=Y.l_ b;replace DX:=DX.l_ b;replace DY:=DY.l_ b;replace A2:=A2.l_ b;replace D2:=D2.l_ b;clear b;clear pSn;have pSn:=a5_ X2.out BX.out BY.out BD.out BE.out;clear pM14 pm14;have pM15:=True.intro))))
 all_goals (
  go_wp2
  go_ret
  exact⟨rfl,HB.out⟩)
theorem i2_(HW:∀w:World,Calls Tryz.prog 9 #[] w (bo_ (.bool true) w))(a0:OA_)(n0 c0:Nat)(K0:List Fx)(b0:OA_)(m0 d0:Nat)(M0:List Fx)(a1:OA_)(n1 c1:Nat)(K1:List Fx)(b1:OA_)(m1 d1:Nat)(M1:List Fx)(s2:Bool)(a2:OA_)(n2 c2:Nat)(l2:List Nat)(b2:OA_)(m2 d2:Nat)(k2:List Nat)(w:World)(h0:Fxs w a0 n0 c0 K0)(j0:Fxs w b0 m0 d0 M0)(_h1:Fxs w a1 n1 c1 K1)(_j1:Fxs w b1 m1 d1 M1)(_h2:Wd w a2 n2 c2 l2)(_j2:Wd w b2 m2 d2 k2) (hb0:¬(((n0:Int)≤3∧thinI 1 K0)∧((m0:Int)≤3∧thinI 1 M0))):Calls Tryz.prog 6 #[.agg #[.slice a0 n0 c0,.slice b0 m0 d0],.agg #[.slice a1 n1 c1,.slice b1 m1 d1],frV s2 a2 n2 c2 b2 m2 d2] w (bo_ (.bool true) w):=by
 have HNB0:=hd_ hb0
 have HB:=hd_ (ab_ (ab_ (aa_ w (.cells #[.slice a0 n0 c0,.slice b0 m0 d0] 24)) (aa_ _ (.cells #[.slice a1 n1 c1,.slice b1 m1 d1] 24))) (aa_ _ (.cells #[.bool s2,.slice a2 n2 c2,.slice b2 m2 d2] 27)))
 have X0:Hid ((((w.alloc (.cells #[.slice a0 n0 c0,.slice b0 m0 d0] 24)).alloc (.cells #[.slice a1 n1 c1,.slice b1 m1 d1] 24)).alloc (.cells #[.bool s2,.slice a2 n2 c2,.slice b2 m2 d2] 27)).heap[w.heap.size]? = some (.cells #[.slice a0 n0 c0,.slice b0 m0 d0] 24 (0,0))):=hd_ (ag_ (ag_ (ao_ w _ _) (aa_ _ (.cells #[.slice a1 n1 c1,.slice b1 m1 d1] 24))) (aa_ _ (.cells #[.bool s2,.slice a2 n2 c2,.slice b2 m2 d2] 27)))
 have X1:Hid ((((w.alloc (.cells #[.slice a0 n0 c0,.slice b0 m0 d0] 24)).alloc (.cells #[.slice a1 n1 c1,.slice b1 m1 d1] 24)).alloc (.cells #[.bool s2,.slice a2 n2 c2,.slice b2 m2 d2] 27)).heap[w.heap.size+1]? = some (.cells #[.slice a1 n1 c1,.slice b1 m1 d1] 24 (0,0))):=hd_ (ag_ (by have h9:=ao_ (w.alloc (.cells #[.slice a0 n0 c0,.slice b0 m0 d0] 24)) #[.slice a1 n1 c1,.slice b1 m1 d1] 24;rwa [aw_] at h9) (aa_ _ (.cells #[.bool s2,.slice a2 n2 c2,.slice b2 m2 d2] 27)))
 have X2:Hid ((((w.alloc (.cells #[.slice a0 n0 c0,.slice b0 m0 d0] 24)).alloc (.cells #[.slice a1 n1 c1,.slice b1 m1 d1] 24)).alloc (.cells #[.bool s2,.slice a2 n2 c2,.slice b2 m2 d2] 27)).heap[w.heap.size+1+1]? = some (.cells #[.bool s2,.slice a2 n2 c2,.slice b2 m2 d2] 27 (0,0))):=hd_ (by have h9:=ao_ ((w.alloc (.cells #[.slice a0 n0 c0,.slice b0 m0 d0] 24)).alloc (.cells #[.slice a1 n1 c1,.slice b1 m1 d1] 24)) #[.bool s2,.slice a2 n2 c2,.slice b2 m2 d2] 27;rwa [aw_,aw_] at h9)
 have HF0:=hd_ (h0.later HB.out)
 have HG0:=hd_ (j0.later HB.out)
 clear h0 j0 hb0
 go_enter Tryz.func6,Tryz.ntmps6
 unfold frV
 obtain⟨vk0,vk1,vk2,vk3,vk4,vk5,vk6⟩:=b3_ X0.out X1.out X2.out
 go_wp2_with fail
 refine (eh_ a0 n0 c0 K0 b0 m0 d0 M0 3 1 true _ HF0.out HG0.out (by decide) ⟨fun _=>HNB0.out,fun _=>rfl⟩).mono ?_
 rintro e wv1 ⟨rfl,b⟩
 clear vk0 vk1 vk2 vk3 vk4 vk5 vk6
 replace HB:=bt_ HB b
 replace X0:=bl_ X0 b
 replace X1:=bl_ X1 b
 replace X2:=bl_ X2 b
 replace HF0:=HF0.l_ b
 replace HG0:=HG0.l_ b
 clear b
 obtain⟨vk0,vk1,vk2,vk3,vk4,vk5,vk6⟩:=b3_ X0.out X1.out X2.out
 go_wp2_with fail
 refine (HW _).mono ?_
 rintro e wv2 ⟨rfl,b⟩
 clear vk0 vk1 vk2 vk3 vk4 vk5 vk6
 replace HB:=bt_ HB b
 replace X0:=bl_ X0 b
 replace X1:=bl_ X1 b
 replace X2:=bl_ X2 b
 replace HF0:=HF0.l_ b
 replace HG0:=HG0.l_ b
 clear b
 go_wp2
 go_ret
 exact⟨rfl,HB.out⟩
theorem ix_(HW:∀w:World,Calls Tryz.prog 9 #[] w (bo_ (.bool true) w))(a0:OA_)(n0 c0:Nat)(K0:List Fx)(b0:OA_)(m0 d0:Nat)(M0:List Fx)(a1:OA_)(n1 c1:Nat)(K1:List Fx)(b1:OA_)(m1 d1:Nat)(M1:List Fx)(s2:Bool)(a2:OA_)(n2 c2:Nat)(l2:List Nat)(b2:OA_)(m2 d2:Nat)(k2:List Nat)(w:World)(h0:Fxs w a0 n0 c0 K0)(j0:Fxs w b0 m0 d0 M0)(h1:Fxs w a1 n1 c1 K1)(j1:Fxs w b1 m1 d1 M1)(_h2:Wd w a2 n2 c2 l2)(_j2:Wd w b2 m2 d2 k2)(hb0:(((n0:Int)≤3∧thinI 1 K0)∧((m0:Int)≤3∧thinI 1 M0)))(hb1:¬(((n1:Int)≤3∧thinI 1 K1)∧((m1:Int)≤3∧thinI 1 M1))):Calls Tryz.prog 6 #[.agg #[.slice a0 n0 c0,.slice b0 m0 d0],.agg #[.slice a1 n1 c1,.slice b1 m1 d1],frV s2 a2 n2 c2 b2 m2 d2] w (bo_ (.bool true) w):=by
 have HNB0:=hd_ hb0
 have HNB1:=hd_ hb1
 have HB:=hd_ (ab_ (ab_ (aa_ w (.cells #[.slice a0 n0 c0,.slice b0 m0 d0] 24)) (aa_ _ (.cells #[.slice a1 n1 c1,.slice b1 m1 d1] 24))) (aa_ _ (.cells #[.bool s2,.slice a2 n2 c2,.slice b2 m2 d2] 27)))
 have X0:Hid ((((w.alloc (.cells #[.slice a0 n0 c0,.slice b0 m0 d0] 24)).alloc (.cells #[.slice a1 n1 c1,.slice b1 m1 d1] 24)).alloc (.cells #[.bool s2,.slice a2 n2 c2,.slice b2 m2 d2] 27)).heap[w.heap.size]? = some (.cells #[.slice a0 n0 c0,.slice b0 m0 d0] 24 (0,0))):=hd_ (ag_ (ag_ (ao_ w _ _) (aa_ _ (.cells #[.slice a1 n1 c1,.slice b1 m1 d1] 24))) (aa_ _ (.cells #[.bool s2,.slice a2 n2 c2,.slice b2 m2 d2] 27)))
 have X1:Hid ((((w.alloc (.cells #[.slice a0 n0 c0,.slice b0 m0 d0] 24)).alloc (.cells #[.slice a1 n1 c1,.slice b1 m1 d1] 24)).alloc (.cells #[.bool s2,.slice a2 n2 c2,.slice b2 m2 d2] 27)).heap[w.heap.size+1]? = some (.cells #[.slice a1 n1 c1,.slice b1 m1 d1] 24 (0,0))):=hd_ (ag_ (by have h9:=ao_ (w.alloc (.cells #[.slice a0 n0 c0,.slice b0 m0 d0] 24)) #[.slice a1 n1 c1,.slice b1 m1 d1] 24;rwa [aw_] at h9) (aa_ _ (.cells #[.bool s2,.slice a2 n2 c2,.slice b2 m2 d2] 27)))
 have X2:Hid ((((w.alloc (.cells #[.slice a0 n0 c0,.slice b0 m0 d0] 24)).alloc (.cells #[.slice a1 n1 c1,.slice b1 m1 d1] 24)).alloc (.cells #[.bool s2,.slice a2 n2 c2,.slice b2 m2 d2] 27)).heap[w.heap.size+1+1]? = some (.cells #[.bool s2,.slice a2 n2 c2,.slice b2 m2 d2] 27 (0,0))):=hd_ (by have h9:=ao_ ((w.alloc (.cells #[.slice a0 n0 c0,.slice b0 m0 d0] 24)).alloc (.cells #[.slice a1 n1 c1,.slice b1 m1 d1] 24)) #[.bool s2,.slice a2 n2 c2,.slice b2 m2 d2] 27;rwa [aw_,aw_] at h9)
 have HF0:=hd_ (h0.later HB.out)
 have HG0:=hd_ (j0.later HB.out)
 have HF1:=hd_ (h1.later HB.out)
 have HG1:=hd_ (j1.later HB.out)
 clear h0 j0 hb0 h1 j1 hb1
 go_enter Tryz.func6,Tryz.ntmps6
 unfold frV
 obtain⟨vk0,vk1,vk2,vk3,vk4,vk5,vk6⟩:=b3_ X0.out X1.out X2.out
 go_wp2_with fail
 refine (eh_ a0 n0 c0 K0 b0 m0 d0 M0 3 1 false _ HF0.out HG0.out (by decide) ⟨fun h=>absurd h (by decide),fun h=>absurd HNB0.out h⟩).mono ?_
 rintro e wv1 ⟨rfl,b⟩
 clear vk0 vk1 vk2 vk3 vk4 vk5 vk6
 replace HB:=bt_ HB b
 replace X0:=bl_ X0 b
 replace X1:=bl_ X1 b
 replace X2:=bl_ X2 b
 replace HF0:=HF0.l_ b
 replace HG0:=HG0.l_ b
 replace HF1:=HF1.l_ b
 replace HG1:=HG1.l_ b
 clear b
 obtain⟨vk0,vk1,vk2,vk3,vk4,vk5,vk6⟩:=b3_ X0.out X1.out X2.out
 go_wp2_with fail
 refine (eh_ a1 n1 c1 K1 b1 m1 d1 M1 3 1 true _ HF1.out HG1.out (by decide) ⟨fun _=>HNB1.out,fun _=>rfl⟩).mono ?_
 rintro e wv2 ⟨rfl,b⟩
 clear vk0 vk1 vk2 vk3 vk4 vk5 vk6
 replace HB:=bt_ HB b
 replace X0:=bl_ X0 b
 replace X1:=bl_ X1 b
 replace X2:=bl_ X2 b
 replace HF0:=HF0.l_ b
 replace HG0:=HG0.l_ b
 replace HF1:=HF1.l_ b
 replace HG1:=HG1.l_ b
 clear b
 obtain⟨vk0,vk1,vk2,vk3,vk4,vk5,vk6⟩:=b3_ X0.out X1.out X2.out
 go_wp2_with fail
 refine (HW _).mono ?_
 rintro e wv3 ⟨rfl,b⟩
 clear vk0 vk1 vk2 vk3 vk4 vk5 vk6
 replace HB:=bt_ HB b
 replace X0:=bl_ X0 b
 replace X1:=bl_ X1 b
 replace X2:=bl_ X2 b
 replace HF0:=HF0.l_ b
 replace HG0:=HG0.l_ b
 replace HF1:=HF1.l_ b
 replace HG1:=HG1.l_ b
 clear b
 go_wp2
 go_ret
 exact⟨rfl,HB.out⟩
theorem iv_(HW:∀w:World,Calls Tryz.prog 9 #[] w (bo_ (.bool true) w))(a0:OA_)(n0 c0:Nat)(K0:List Fx)(b0:OA_)(m0 d0:Nat)(M0:List Fx)(a1:OA_)(n1 c1:Nat)(K1:List Fx)(b1:OA_)(m1 d1:Nat)(M1:List Fx)(s2:Bool)(a2:OA_)(n2 c2:Nat)(l2:List Nat)(b2:OA_)(m2 d2:Nat)(k2:List Nat)(w:World)(h0:Fxs w a0 n0 c0 K0)(j0:Fxs w b0 m0 d0 M0)(h1:Fxs w a1 n1 c1 K1)(j1:Fxs w b1 m1 d1 M1)(_h2:Wd w a2 n2 c2 l2)(_j2:Wd w b2 m2 d2 k2)(hb0:(((n0:Int)≤3∧thinI 1 K0)∧((m0:Int)≤3∧thinI 1 M0)))(hb1:(((n1:Int)≤3∧thinI 1 K1)∧((m1:Int)≤3∧thinI 1 M1)))(hk:1 < n2∨1 < m2):Calls Tryz.prog 6 #[.agg #[.slice a0 n0 c0,.slice b0 m0 d0],.agg #[.slice a1 n1 c1,.slice b1 m1 d1],frV s2 a2 n2 c2 b2 m2 d2] w (bo_ (.bool true) w):=by
 have HNB0:=hd_ hb0
 have HNB1:=hd_ hb1
 have hl2:(decide ((1:Int) < (n2:Int)) || decide ((1:Int) < (m2:Int)))=true:=by
  rcases hk with h | h
  ·rw[decide_eq_true (show (1:Int) < (n2:Int) by omega)];rfl
  ·rw[decide_eq_true (show (1:Int) < (m2:Int) by omega),Bool.or_true]
 have HB:=hd_ (ab_ (ab_ (aa_ w (.cells #[.slice a0 n0 c0,.slice b0 m0 d0] 24)) (aa_ _ (.cells #[.slice a1 n1 c1,.slice b1 m1 d1] 24))) (aa_ _ (.cells #[.bool s2,.slice a2 n2 c2,.slice b2 m2 d2] 27)))
 have X0:Hid ((((w.alloc (.cells #[.slice a0 n0 c0,.slice b0 m0 d0] 24)).alloc (.cells #[.slice a1 n1 c1,.slice b1 m1 d1] 24)).alloc (.cells #[.bool s2,.slice a2 n2 c2,.slice b2 m2 d2] 27)).heap[w.heap.size]? = some (.cells #[.slice a0 n0 c0,.slice b0 m0 d0] 24 (0,0))):=hd_ (ag_ (ag_ (ao_ w _ _) (aa_ _ (.cells #[.slice a1 n1 c1,.slice b1 m1 d1] 24))) (aa_ _ (.cells #[.bool s2,.slice a2 n2 c2,.slice b2 m2 d2] 27)))
 have X1:Hid ((((w.alloc (.cells #[.slice a0 n0 c0,.slice b0 m0 d0] 24)).alloc (.cells #[.slice a1 n1 c1,.slice b1 m1 d1] 24)).alloc (.cells #[.bool s2,.slice a2 n2 c2,.slice b2 m2 d2] 27)).heap[w.heap.size+1]? = some (.cells #[.slice a1 n1 c1,.slice b1 m1 d1] 24 (0,0))):=hd_ (ag_ (by have h9:=ao_ (w.alloc (.cells #[.slice a0 n0 c0,.slice b0 m0 d0] 24)) #[.slice a1 n1 c1,.slice b1 m1 d1] 24;rwa [aw_] at h9) (aa_ _ (.cells #[.bool s2,.slice a2 n2 c2,.slice b2 m2 d2] 27)))
 have X2:Hid ((((w.alloc (.cells #[.slice a0 n0 c0,.slice b0 m0 d0] 24)).alloc (.cells #[.slice a1 n1 c1,.slice b1 m1 d1] 24)).alloc (.cells #[.bool s2,.slice a2 n2 c2,.slice b2 m2 d2] 27)).heap[w.heap.size+1+1]? = some (.cells #[.bool s2,.slice a2 n2 c2,.slice b2 m2 d2] 27 (0,0))):=hd_ (by have h9:=ao_ ((w.alloc (.cells #[.slice a0 n0 c0,.slice b0 m0 d0] 24)).alloc (.cells #[.slice a1 n1 c1,.slice b1 m1 d1] 24)) #[.bool s2,.slice a2 n2 c2,.slice b2 m2 d2] 27;rwa [aw_,aw_] at h9)
 have HF0:=hd_ (h0.later HB.out)
 have HG0:=hd_ (j0.later HB.out)
 have HF1:=hd_ (h1.later HB.out)
 have HG1:=hd_ (j1.later HB.out)
 clear h0 j0 hb0 h1 j1 hb1 hk
 go_enter Tryz.func6,Tryz.ntmps6
 unfold frV
 obtain⟨vk0,vk1,vk2,vk3,vk4,vk5,vk6⟩:=b3_ X0.out X1.out X2.out
 go_wp2_with fail
 refine (eh_ a0 n0 c0 K0 b0 m0 d0 M0 3 1 false _ HF0.out HG0.out (by decide) ⟨fun h=>absurd h (by decide),fun h=>absurd HNB0.out h⟩).mono ?_
 rintro e wv1 ⟨rfl,b⟩
 clear vk0 vk1 vk2 vk3 vk4 vk5 vk6
 replace HB:=bt_ HB b
 replace X0:=bl_ X0 b
 replace X1:=bl_ X1 b
 replace X2:=bl_ X2 b
 replace HF0:=HF0.l_ b
 replace HG0:=HG0.l_ b
 replace HF1:=HF1.l_ b
 replace HG1:=HG1.l_ b
 clear b
 obtain⟨vk0,vk1,vk2,vk3,vk4,vk5,vk6⟩:=b3_ X0.out X1.out X2.out
 go_wp2_with fail
 refine (eh_ a1 n1 c1 K1 b1 m1 d1 M1 3 1 false _ HF1.out HG1.out (by decide) ⟨fun h=>absurd h (by decide),fun h=>absurd HNB1.out h⟩).mono ?_
 rintro e wv2 ⟨rfl,b⟩
 clear vk0 vk1 vk2 vk3 vk4 vk5 vk6
 replace HB:=bt_ HB b
 replace X0:=bl_ X0 b
 replace X1:=bl_ X1 b
 replace X2:=bl_ X2 b
 replace HF0:=HF0.l_ b
 replace HG0:=HG0.l_ b
 replace HF1:=HF1.l_ b
 replace HG1:=HG1.l_ b
 clear b
 obtain⟨vk0,vk1,vk2,vk3,vk4,vk5,vk6⟩:=b3_ X0.out X1.out X2.out
 go_wp2_with fail
 refine (id_ s2 a2 n2 c2 b2 m2 d2 1 _).mono ?_
 rintro e wv3 ⟨rfl,b⟩
 clear vk0 vk1 vk2 vk3 vk4 vk5 vk6
 replace HB:=bt_ HB b
 replace X0:=bl_ X0 b
 replace X1:=bl_ X1 b
 replace X2:=bl_ X2 b
 replace HF0:=HF0.l_ b
 replace HG0:=HG0.l_ b
 replace HF1:=HF1.l_ b
 replace HG1:=HG1.l_ b
 clear b
 rw[hl2]
 obtain⟨vk0,vk1,vk2,vk3,vk4,vk5,vk6⟩:=b3_ X0.out X1.out X2.out
 go_wp2_with fail
 refine (HW _).mono ?_
 rintro e wv4 ⟨rfl,b⟩
 clear vk0 vk1 vk2 vk3 vk4 vk5 vk6
 replace HB:=bt_ HB b
 replace X0:=bl_ X0 b
 replace X1:=bl_ X1 b
 replace X2:=bl_ X2 b
 replace HF0:=HF0.l_ b
 replace HG0:=HG0.l_ b
 replace HF1:=HF1.l_ b
 replace HG1:=HG1.l_ b
 clear b
 go_wp2
 go_ret
 exact⟨rfl,HB.out⟩
theorem mf_(S:RatfSaid)(HW:∀w:World,Calls Tryz.prog 9 #[] w (bo_ (.bool true) w))(a0:OA_)(n0 c0:Nat)(K0:List Fx)(b0:OA_)(m0 d0:Nat)(M0:List Fx)(a1:OA_)(n1 c1:Nat)(K1:List Fx)(b1:OA_)(m1 d1:Nat)(M1:List Fx)(s2:Bool)(a2:OA_)(n2 c2:Nat)(l2:List Nat)(b2:OA_)(m2 d2:Nat)(k2:List Nat)(w:World)(h0:Fxs w a0 n0 c0 K0)(j0:Fxs w b0 m0 d0 M0)(h1:Fxs w a1 n1 c1 K1)(j1:Fxs w b1 m1 d1 M1)(h2:Wd w a2 n2 c2 l2)(j2:Wd w b2 m2 d2 k2):Calls Tryz.prog 6 #[.agg #[.slice a0 n0 c0,.slice b0 m0 d0],.agg #[.slice a1 n1 c1,.slice b1 m1 d1],frV s2 a2 n2 c2 b2 m2 d2] w (bo_ (.bool true) w):=by
 by_cases hb0:(((n0:Int)≤3∧thinI 1 K0)∧((m0:Int)≤3∧thinI 1 M0))
 ·by_cases hb1:(((n1:Int)≤3∧thinI 1 K1)∧((m1:Int)≤3∧thinI 1 M1))
  ·by_cases hk:1 < n2∨1 < m2
   ·exact iv_ HW a0 n0 c0 K0 b0 m0 d0 M0 a1 n1 c1 K1 b1 m1 d1 M1 s2 a2 n2 c2 l2 b2 m2 d2 k2 w h0 j0 h1 j1 h2 j2 hb0 hb1 hk
   ·exact hp_ S HW a0 n0 c0 K0 b0 m0 d0 M0 a1 n1 c1 K1 b1 m1 d1 M1 s2 a2 n2 c2 l2 b2 m2 d2 k2 w h0 j0 h1 j1 h2 j2 hb0 hb1 (by omega) (by omega)
  ·exact ix_ HW a0 n0 c0 K0 b0 m0 d0 M0 a1 n1 c1 K1 b1 m1 d1 M1 s2 a2 n2 c2 l2 b2 m2 d2 k2 w h0 j0 h1 j1 h2 j2 hb0 hb1
 ·exact i2_ HW a0 n0 c0 K0 b0 m0 d0 M0 a1 n1 c1 K1 b1 m1 d1 M1 s2 a2 n2 c2 l2 b2 m2 d2 k2 w h0 j0 h1 j1 h2 j2 hb0
end Go.Proofs.YtocebjbjnfammaaGreat
