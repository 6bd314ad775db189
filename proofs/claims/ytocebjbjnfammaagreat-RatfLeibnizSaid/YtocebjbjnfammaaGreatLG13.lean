import Derived.Test.YtocebjbjnfammaaGreatLG12
import Derived.Test.YtocebjbjnfammaaGreatLG8
import Derived.Deep.RegionHeld3
import Derived.Deep.CutRange
import Derived.Deep.RegionWith
import Derived.Deep.RegionLaw
import Derived.Test.YtocebjbjnfammaaGreatLG4
import Derived.Laws.MakeOwn
import Derived.OwnWalk
import Derived.Test.YtocebjbjnfammaaGreatLG6
import Derived.Test.YtocebjbjnfammaaGreatLG3
import Derived.Test.YtocebjbjnfammaaGreatLG2
import Derived.Test.YtocebjbjnfammaaGreatLG7
import Derived.Test.YtocebjbjnfammaaGreatLG1
set_option maxRecDepth 4096
set_option maxHeartbeats 16000000
namespace Go.Proofs.YtocebjbjnfammaaGreat
open Go.RowKit
theorem Rf.turn{u v:List Rat}{c:Rat}(h:Rf u v)(hu:u≠[])(hc:c=1 / co u (plen u - 1)):Rf (af_ c v) (af_ c u)∧c≠0:=by
 have hu0:plen u≠0:=fun e=>hu (by rw[az_ h.ur] at e;exact List.eq_nil_of_length_eq_zero e)
 have ht:=cv_ (a:=u) (n:=plen u - 1) (by omega)
 have hcu:c * co u (plen u - 1)=1:=by rw[hc];exact Rat.div_mul_cancel ht
 have hc0:c≠0:=fun e=>by rw[e,Rat.zero_mul] at hcu;exact absurd hcu (by decide)
 have hn:∀p:LR_,aj_ p=p→aj_ (af_ c p)=af_ c p:=fun p hp=>by
  have h1:plen (af_ c p)=(af_ c p).length:=by rw[a9_ hc0,az_ hp,a6_]
  rw[c5_]
  exact List.take_of_length_le (by rw[show (aj_ (af_ c p)).length=plen (af_ c p) from rfl,h1];exact Nat.le_refl _)
 obtain⟨s,t,hst⟩:=h.coprime
 refine ⟨⟨hn v h.vr,hn u h.ur,by rw[a9_ hc0];exact hu0,by rw[a9_ hc0,ai_];exact hcu,Cpr.sum ⟨af_ (1 / c) t,af_ (1 / c) s,fun x=>?_⟩⟩,hc0⟩
 have e4:1 / c * c=1:=Rat.div_mul_cancel hc0
 have e6:=hst x
 rw[al_,al_,al_,al_]
 generalize 1 / c=d at *
 have e5:d * an_ x t * (c * an_ x v)+d * an_ x s * (c * an_ x u)=d * c * (an_ x s * an_ x u+an_ x t * an_ x v):=by grind
 rw[e5,e4,e6,Rat.one_mul]
theorem isF.turn{U V u v:List Rat}{c:Rat}(h:isF U V u v)(hu:u≠[])(hc:c=1 / co u (plen u - 1)):isF V U (af_ c v) (af_ c u):=by
 obtain⟨h1,h2⟩:=h.1.turn hu hc
 have hn:¬(plen U=0∨plen V=0):=fun e=>hu (h.none_iff.1 e)
 refine ⟨h1,fun e=>absurd (.inl e) hn,fun _=>ak_ fun x=>?_⟩
 have e1:=ae_ x (h.2.2 (fun e=>hn (.inr e)))
 rw[ac_,ac_] at e1
 rw[ac_,ac_,al_,al_];grind
theorem Fz.turn{u v:List Rat}{h s:Nat}{c:Rat}(f:Fz u v h s)(hr:Rf u v)(hu:u≠[])(hc:c=1 / co u (plen u - 1)):Fz (af_ c v) (af_ c u) h s:=by
 obtain⟨a,b,d,d1,d2,d3,d4⟩:=f
 have hu0:plen u≠0:=fun e=>hu (by rw[az_ hr.ur] at e;exact List.eq_nil_of_length_eq_zero e)
 have ht:=cv_ (a:=u) (n:=plen u - 1) (by omega)
 have hcu:c * co u (plen u - 1)=1:=by rw[hc];exact Rat.div_mul_cancel ht
 obtain⟨z,z1,z2⟩:=d3 (plen u - 1)
 rw[ai_] at z1
 have hd0:=nat_nz d1
 have hz0:z≠0:=fun e=>by
  rw[e] at z1
  rcases Rat.mul_eq_zero.1 z1 with g | g
  ·exact hd0 g
  ·exact ht g
 have hzc:(z:Rat) * c=((d:Nat):Rat):=by
  rw[←z1,Rat.mul_assoc,Rat.mul_comm (co u (plen u - 1)) c,hcu,Rat.mul_one]
 have hv:∀p:LR_,Ints (af_ ((d:Nat):Rat) p) (pw s)→Ints (af_ (z:Rat) (af_ c p)) (pw s):=fun p hp=>hp.congr (fun i=>by rw[ai_,ai_,ai_,←hzc,Rat.mul_assoc])
 exact⟨by rw[a6_];exact b,by rw[a6_];exact a,z.natAbs,by omega,z2,(hv v d4).abs,(hv u d3).abs⟩
theorem Fv.turn{w:World}{a:Option Addr}{n c:Nat}{b:Option Addr}{m d:Nat}{u v:List Rat}{h s:Nat}{k:Rat}(f:Fv w a n c b m d u v h s)(hu:u≠[])(hc:k=1 / co u (plen u - 1)):Fv w b m d a n c (af_ k v) (af_ k u) h s:=by
 obtain⟨U,V,h1,h2,hf,hz,hz2⟩:=f
 exact⟨V,U,h2,h1,hf.turn hu hc,hz.swap,hz2.turn hf.1 hu hc⟩
theorem quo_form{u v x y A D:List Rat}{c:Rat}(h:isF (pmul u (af_ c y)) (pmul v (af_ c x)) A D)(hc:c≠0)(hv:plen v≠0)(hx:plen x≠0):isF (pmul u y) (pmul v x) A D:=by
 have hx2:plen (af_ c x)≠0:=by rw[a9_ hc];exact hx
 refine h.cross (cn_ hv hx2) (cn_ hv hx) (ak_ fun z=>?_)
 rw[ac_,ac_,ac_,ac_,ac_,ac_,al_,al_];grind
theorem ox_(S:PolySaid)(a:OA_)(n c:Nat)(b:OA_)(m d:Nat)(u v:LR_)(h s:Nat)(w:World)(hA:Fv w a n c b m d u v h s)(hs:s+2≤1900000000)(hh:h≤50):Calls Tryz.prog 23 #[.agg #[.slice a n c,.slice b m d]] w (bo_ (.bool (decide (u=[]))) w):=by
 obtain⟨U,V,hU,hV,hf,hz,_⟩:=hA
 have h9:=kd_ S a n c b m d U V (s+2) w hU hV (by rw[←hU.len];have:=hz.lu;omega) (by rw[←hV.len];have:=hz.lv;omega) hs
 rwa [show decide (plen U=0∨plen V=0)=decide (u=[]) from decide_eq_decide.2 hf.none_iff] at h9
theorem o8_(S:PolySaid)(FS:FracSaid)(a:OA_)(n c:Nat)(b:OA_)(m d:Nat)(h s:Nat)(a':OA_)(n' c':Nat)(b':OA_)(m' d':Nat)(x y:LR_)(k t:Nat)(w:World)(hB:Fv w a' n' c' b' m' d' x y k t)(hk:Fok2 h s k t)(hx0:x=[]):Calls Tryz.prog 29 #[.agg #[.slice a n c,.slice b m d],.agg #[.slice a' n' c',.slice b' m' d']] w (LstEV [] [1] (.bool false) w):=by
 obtain⟨s1,s2⟩:=o3_ hk.1
 have HZE:∀w':World,Fv w' a' n' c' b' m' d' x y k t→Calls Tryz.prog 23 #[.agg #[.slice a' n' c',.slice b' m' d']] w' (bo_ (.bool true) w'):=fun w' g=>by
  have h9:=ox_ S a' n' c' b' m' d' x y k t w' g (by omega) (by omega)
  rwa [decide_eq_true hx0] at h9
 obtain⟨z0,hz0⟩:∃q:Rat,((0:Int):Rat)=q:=⟨_,rfl⟩
 have hz00:z0=0:=by rw[←hz0];rfl
 have lz:qlen z0≤2:=by rw[←hz0];exact ci_ (by decide)
 have HO0:∀w':World,Calls Tryz.prog 47 #[.int .i64 0] w' (LstQ z0 w'):=fun w'=>hz0▸FS.of 0 w' (by decide)
 have HOF:∀(w':World) (a2:OA_) (n2 c2:Nat) (b2:OA_) (m2 d2:Nat),Wd w' a2 n2 c2 (dg z0.num.natAbs)→Wd w' b2 m2 d2 (dg z0.den)→Calls Tryz.prog 28 #[.agg #[.bool (zneg z0.num),.slice a2 n2 c2,.slice b2 m2 d2]] w' (LstE [] [1] w'):=fun w' a2 n2 c2 b2 m2 d2 g1 g2=>by
  have h9:=os_ S FS _ z0 2 w' (Fr.right g1 g2 (by have:=g1.len;have:=bf_ z0;omega) (by have:=g2.len;have:=bd_ z0;omega)) (by decide) (Nat.le_refl 2)
  rwa [show aj_ [z0,0]=[] by rw[hz00];decide +kernel] at h9
 clear hz0 hz00 lz
 have HB:=hd_ (ab_ (ab_ (aa_ w (.cells #[.slice a n c,.slice b m d] 35)) (aa_ _ (.cells #[.slice a' n' c',.slice b' m' d'] 35))) (aa_ _ (.cells #[.slice none 0 0,.slice none 0 0] 35)))
 have X0:Hid ((((w.alloc (.cells #[.slice a n c,.slice b m d] 35)).alloc (.cells #[.slice a' n' c',.slice b' m' d'] 35)).alloc (.cells #[.slice none 0 0,.slice none 0 0] 35)).heap[w.heap.size]? = some (.cells #[.slice a n c,.slice b m d] 35 (0,0))):=hd_ (ag_ (ag_ (ao_ w _ _) (aa_ _ (.cells #[.slice a' n' c',.slice b' m' d'] 35))) (aa_ _ (.cells #[.slice none 0 0,.slice none 0 0] 35)))
 have X1:Hid ((((w.alloc (.cells #[.slice a n c,.slice b m d] 35)).alloc (.cells #[.slice a' n' c',.slice b' m' d'] 35)).alloc (.cells #[.slice none 0 0,.slice none 0 0] 35)).heap[w.heap.size+1]? = some (.cells #[.slice a' n' c',.slice b' m' d'] 35 (0,0))):=hd_ (ag_ (by have h9:=ao_ (w.alloc (.cells #[.slice a n c,.slice b m d] 35)) #[.slice a' n' c',.slice b' m' d'] 35;rwa [aw_] at h9) (aa_ _ (.cells #[.slice none 0 0,.slice none 0 0] 35)))
 have R0:Hid ((((w.alloc (.cells #[.slice a n c,.slice b m d] 35)).alloc (.cells #[.slice a' n' c',.slice b' m' d'] 35)).alloc (.cells #[.slice none 0 0,.slice none 0 0] 35)).heap[w.heap.size+1+1]? = some (.cells #[.slice none 0 0,.slice none 0 0] 35 (0,0))):=hd_ (by have h9:=ao_ ((w.alloc (.cells #[.slice a n c,.slice b m d] 35)).alloc (.cells #[.slice a' n' c',.slice b' m' d'] 35)) #[.slice none 0 0,.slice none 0 0] 35;rwa [aw_,aw_] at h9)
 have FB:=hd_ (hB.later HB.out)
 have x0:=ad_ X1.out 0
 have x1:=ad_ X1.out 1
 simp only[List.getElem?_toArray,List.getElem?_cons_zero,List.getElem?_cons_succ] at x0 x1
 clear hB hk s1 s2 hx0
 go_enter Tryz.func29,Tryz.ntmps29
 go_wp2_with fail
 refine (HZE _ FB.out).mono ?_
 rintro e w1 ⟨rfl,b⟩
 clear x0 x1 HZE FB X0 X1
 replace HB:=bt_ HB b
 replace R0:=bl_ R0 b
 clear b
 go_wp2_with fail
 refine (HO0 _).mono ?_
 rintro e w2 ⟨a5,n5,c5,b5,m5,d5,rfl,h5,g5,b⟩
 replace HB:=bt_ HB b
 replace R0:=bl_ R0 b
 have Z1:=hd_ h5
 have Z2:=hd_ g5
 clear h5 g5 b HO0
 unfold frV
 go_wp2_with fail
 refine (HOF _ _ _ _ _ _ _ Z1.out Z2.out).mono ?_
 rintro e w3 ⟨a6,n6,c6,b6,m6,d6,rfl,h6,g6,b⟩
 replace HB:=bt_ HB b
 replace R0:=bl_ R0 b
 have P9:=hd_ h6
 have Q9:=hd_ g6
 clear h6 g6 b HOF Z1 Z2
 obtain⟨r0,r1⟩:=bw_ R0.out
 have e0:=ah_ R0.out 0
 have e1:=ah_ R0.out 1
 have R9:=hd_ (bk_ R0.out (.slice a6 n6 c6) (.slice b6 m6 d6))
 replace P9:=hd_ (P9.out.boxed R0.out (.slice a6 n6 c6) (.slice b6 m6 d6))
 replace Q9:=hd_ (Q9.out.boxed R0.out (.slice a6 n6 c6) (.slice b6 m6 d6))
 have G9:=hd_ (ay_ HB.out (show w.heap.size≤w.heap.size+1+1 by omega) (.slice a6 n6 c6) (.slice b6 m6 d6))
 go_wp2
 refine bodyPost_ret (bn_ Tryz.results29 _ _ (w.heap.size+1+1) 35 #[.slice a6 n6 c6,.slice b6 m6 d6] (0,0) _ rfl R9.out Tryz.underlying35 rfl (by kernel_rfl)) rfl ?_
 exact⟨a6,n6,c6,b6,m6,d6,rfl,P9.out,Q9.out,G9.out⟩
theorem na_(S:PolySaid)(FS:FracSaid)(a:OA_)(n c:Nat)(b:OA_)(m d:Nat)(u v:LR_)(h s:Nat)(a':OA_)(n' c':Nat)(b':OA_)(m' d':Nat)(x y:LR_)(k t:Nat)(w:World)(hA:Fv w a n c b m d u v h s)(hB:Fv w a' n' c' b' m' d' x y k t)(hk:Fok2 h s k t)(hx0:x≠[]):Calls Tryz.prog 29 #[.agg #[.slice a n c,.slice b m d],.agg #[.slice a' n' c',.slice b' m' d']] w (LstFV (pmul u y) (pmul v x) (.bool true) w):=by
 obtain⟨s1,s2⟩:=o3_ hk.1
 have hxr:=hB.rf
 have hv0:=hA.rf.v0
 have hxp:plen x≠0:=fun e=>hx0 (by rw[az_ hxr.ur] at e;exact List.eq_nil_of_length_eq_zero e)
 have HZE:∀w':World,Fv w' a' n' c' b' m' d' x y k t→Calls Tryz.prog 23 #[.agg #[.slice a' n' c',.slice b' m' d']] w' (bo_ (.bool false) w'):=fun w' g=>by
  have h9:=ox_ S a' n' c' b' m' d' x y k t w' g (by omega) (by omega)
  rwa [decide_eq_false hx0] at h9
 have HMU:∀w':World,Fv w' a n c b m d u v h s→Fv w' a' n' c' b' m' d' x y k t→Calls Tryz.prog 38 #[.agg #[.slice a n c,.slice b m d],.agg #[.slice b' m' d',.slice a' n' c']] w' (LstF (pmul u y) (pmul v x) w'):=fun w' g1 g2=>(p7_ S FS a n c b m d u v h s b' m' d' a' n' c' _ _ k t w' g1 (g2.turn hx0 rfl) hk).mono fun e w2 h9=>by
  obtain⟨a4,n4,c4,x4,b4,m4,d4,y4,k1,k2,k3,k4,k5⟩:=h9
  exact⟨a4,n4,c4,x4,b4,m4,d4,y4,k1,k2,k3,quo_form k4 (hxr.turn hx0 rfl).2 hv0 hxp,k5⟩
 have HB:=hd_ (ab_ (ab_ (aa_ w (.cells #[.slice a n c,.slice b m d] 35)) (aa_ _ (.cells #[.slice a' n' c',.slice b' m' d'] 35))) (aa_ _ (.cells #[.slice none 0 0,.slice none 0 0] 35)))
 have X0:Hid ((((w.alloc (.cells #[.slice a n c,.slice b m d] 35)).alloc (.cells #[.slice a' n' c',.slice b' m' d'] 35)).alloc (.cells #[.slice none 0 0,.slice none 0 0] 35)).heap[w.heap.size]? = some (.cells #[.slice a n c,.slice b m d] 35 (0,0))):=hd_ (ag_ (ag_ (ao_ w _ _) (aa_ _ (.cells #[.slice a' n' c',.slice b' m' d'] 35))) (aa_ _ (.cells #[.slice none 0 0,.slice none 0 0] 35)))
 have X1:Hid ((((w.alloc (.cells #[.slice a n c,.slice b m d] 35)).alloc (.cells #[.slice a' n' c',.slice b' m' d'] 35)).alloc (.cells #[.slice none 0 0,.slice none 0 0] 35)).heap[w.heap.size+1]? = some (.cells #[.slice a' n' c',.slice b' m' d'] 35 (0,0))):=hd_ (ag_ (by have h9:=ao_ (w.alloc (.cells #[.slice a n c,.slice b m d] 35)) #[.slice a' n' c',.slice b' m' d'] 35;rwa [aw_] at h9) (aa_ _ (.cells #[.slice none 0 0,.slice none 0 0] 35)))
 have R0:Hid ((((w.alloc (.cells #[.slice a n c,.slice b m d] 35)).alloc (.cells #[.slice a' n' c',.slice b' m' d'] 35)).alloc (.cells #[.slice none 0 0,.slice none 0 0] 35)).heap[w.heap.size+1+1]? = some (.cells #[.slice none 0 0,.slice none 0 0] 35 (0,0))):=hd_ (by have h9:=ao_ ((w.alloc (.cells #[.slice a n c,.slice b m d] 35)).alloc (.cells #[.slice a' n' c',.slice b' m' d'] 35)) #[.slice none 0 0,.slice none 0 0] 35;rwa [aw_,aw_] at h9)
 have FA:=hd_ (hA.later HB.out)
 have FB:=hd_ (hB.later HB.out)
 obtain⟨x0,x1,x2,x3⟩:=a0_ X0.out X1.out
 generalize pmul u y=pu at *
 generalize pmul v x=pv at *
 clear hA hB hk s1 s2 hx0 hxr hv0 hxp
 go_enter Tryz.func29,Tryz.ntmps29
 go_wp2_with fail
 refine (HZE _ FB.out).mono ?_
 rintro e w1 ⟨rfl,b⟩
 clear x0 x1 x2 x3 HZE
 replace HB:=bt_ HB b
 replace R0:=bl_ R0 b
 replace X0:=bl_ X0 b
 replace X1:=bl_ X1 b
 replace FA:=FA.l_ b
 replace FB:=FB.l_ b
 clear b
 obtain⟨x0,x1,x2,x3⟩:=a0_ X0.out X1.out
 go_wp2_with fail
 refine (HMU _ FA.out FB.out).mono ?_
 rintro e w2 ⟨a2,n2,c2,qu,b2,m2,d2,qv,rfl,h2,g2,k2,b⟩
 clear x0 x1 x2 x3 HMU FA FB X0 X1
 replace HB:=bt_ HB b
 replace R0:=bl_ R0 b
 have P9:=hd_ h2
 have Q9:=hd_ g2
 have KF:=hd_ k2
 clear h2 g2 k2 b
 obtain⟨r0,r1⟩:=bw_ R0.out
 have e0:=ah_ R0.out 0
 have e1:=ah_ R0.out 1
 have R9:=hd_ (bk_ R0.out (.slice a2 n2 c2) (.slice b2 m2 d2))
 replace P9:=hd_ (P9.out.boxed R0.out (.slice a2 n2 c2) (.slice b2 m2 d2))
 replace Q9:=hd_ (Q9.out.boxed R0.out (.slice a2 n2 c2) (.slice b2 m2 d2))
 have G9:=hd_ (ay_ HB.out (show w.heap.size≤w.heap.size+1+1 by omega) (.slice a2 n2 c2) (.slice b2 m2 d2))
 go_wp2
 refine bodyPost_ret (bn_ Tryz.results29 _ _ (w.heap.size+1+1) 35 #[.slice a2 n2 c2,.slice b2 m2 d2] (0,0) _ rfl R9.out Tryz.underlying35 rfl (by kernel_rfl)) rfl ?_
 exact⟨a2,n2,c2,qu,b2,m2,d2,qv,rfl,P9.out,Q9.out,KF.out,G9.out⟩
theorem mi_(S:PolySaid)(FS:FracSaid)(a:OA_)(n c:Nat)(b:OA_)(m d:Nat)(u v U V:LR_)(h s:Nat)(v9:Value)(x:Rat)(X:Nat)(w:World)(hU:Pv w a n c U (s+2))(hV:Pv w b m d V (s+2))(hf:isF U V u v)(hz:Fz U V h s)(hz2:Fz u v h s)(h9:Fr w v9 x X)(hk:Fok h s)(hb:(h+1) * ((h+1) * (X+8)+(s+3)+8)≤1900000000)(h0:an_ x V=0):Calls Tryz.prog 16 #[.agg #[.slice a n c,.slice b m d],v9] w (fc_ (an_ x u / an_ x v) (.bool (decide (an_ x v≠0))) w):=by
 obtain⟨s1,s2⟩:=o3_ hk
 have hb9:∀n:Nat,n≤h→(n+1) * ((n+1) * (X+8)+(s+2)+8)≤1900000000:=fun n hn=>Nat.le_trans (Nat.mul_le_mul (by omega) (by have:(n+1) * (X+8)≤(h+1) * (X+8):=Nat.mul_le_mul_right _ (by omega);omega)) hb
 have lU:=hz.lu
 have lV:=hz.lv
 rw[hU.len] at lU
 rw[hV.len] at lV
 have lu:=hz2.lu
 have lv:=hz2.lv
 obtain⟨s9,a9,n9,c9,l9,b9,m9,d9,k9,rfl,h91,h92,h93,h94,h95⟩:=h9
 have HX9:=hd_ h95
 have HQ1:∀w':World,Pv w' a n c U (s+2)→Pv w' b m d V (s+2)→Wd w' a9 n9 c9 l9→Wd w' b9 m9 d9 k9→Calls Tryz.prog 68 #[.agg #[.slice a n c,.slice b m d],.agg #[.bool s9,.slice a9 n9 c9,.slice b9 m9 d9]] w' (fc_ (an_ x U / an_ x V) (.bool (decide (an_ x V≠0))) w'):=fun w' g1 g2 g3 g4=>hu_ S FS a n c b m d U V _ x (s+2) X w' g1 g2 (Fr.of g3 g4 h93 h94 HX9.out) (by omega) (by omega) (hb9 n lU) (hb9 m lV)
 rw[decide_eq_false (by simp[h0]:¬(an_ x V≠0))] at HQ1
 obtain⟨r,hr⟩:∃r,an_ x U / an_ x V=r:=⟨_,rfl⟩
 rw[hr] at HQ1
 have HNO:∀w':World,Pv w' a n c U (s+2)→Pv w' b m d V (s+2)→Calls Tryz.prog 20 #[.agg #[.slice a n c,.slice b m d]] w' (LstE u v w'):=fun w' g1 g2=>fa_ S FS a n c b m d u v h s w' ⟨U,V,g1,g2,hf,hz,hz2⟩ hk
 obtain⟨q,hq⟩:∃r,an_ x u / an_ x v=r:=⟨_,rfl⟩
 obtain⟨bo,hbo⟩:∃r,decide (an_ x v≠0)=r:=⟨_,rfl⟩
 have HQ2:∀(w':World) (a1:OA_) (n1 c1:Nat) (b1:OA_) (m1 d1:Nat),Rw w' a1 n1 c1 u→Rw w' b1 m1 d1 v→Wd w' a9 n9 c9 l9→Wd w' b9 m9 d9 k9→Calls Tryz.prog 68 #[.agg #[.slice a1 n1 c1,.slice b1 m1 d1],.agg #[.bool s9,.slice a9 n9 c9,.slice b9 m9 d9]] w' (fc_ q (.bool bo) w'):=fun w' a1 n1 c1 b1 m1 d1 g1 g2 g3 g4=>hq▸hbo▸hu_ S FS a1 n1 c1 b1 m1 d1 u v _ x (s+2) X w' (Pv.right g1 hz2.qlen) (Pv.right g2 hz2.swap.qlen) (Fr.of g3 g4 h93 h94 HX9.out) (by rw[←g1.len];omega) (by rw[←g2.len];omega) (hb9 n1 (by rw[←g1.len];exact lu)) (hb9 m1 (by rw[←g2.len];exact lv))
 rw[hq,hbo]
 have HB:=hd_ (ab_ (ab_ (aa_ w (.cells #[.slice a n c,.slice b m d] 35)) (aa_ _ (.cells #[.bool s9,.slice a9 n9 c9,.slice b9 m9 d9] 44))) (aa_ _ (.cells #[.bool false,.slice none 0 0,.slice none 0 0] 44)))
 have X0:Hid ((((w.alloc (.cells #[.slice a n c,.slice b m d] 35)).alloc (.cells #[.bool s9,.slice a9 n9 c9,.slice b9 m9 d9] 44)).alloc (.cells #[.bool false,.slice none 0 0,.slice none 0 0] 44)).heap[w.heap.size]? = some (.cells #[.slice a n c,.slice b m d] 35 (0,0))):=hd_ (ag_ (ag_ (ao_ w _ _) (aa_ _ (.cells #[.bool s9,.slice a9 n9 c9,.slice b9 m9 d9] 44))) (aa_ _ (.cells #[.bool false,.slice none 0 0,.slice none 0 0] 44)))
 have X1:Hid ((((w.alloc (.cells #[.slice a n c,.slice b m d] 35)).alloc (.cells #[.bool s9,.slice a9 n9 c9,.slice b9 m9 d9] 44)).alloc (.cells #[.bool false,.slice none 0 0,.slice none 0 0] 44)).heap[w.heap.size+1]? = some (.cells #[.bool s9,.slice a9 n9 c9,.slice b9 m9 d9] 44 (0,0))):=hd_ (ag_ (by have h9:=ao_ (w.alloc (.cells #[.slice a n c,.slice b m d] 35)) #[.bool s9,.slice a9 n9 c9,.slice b9 m9 d9] 44;rwa [aw_] at h9) (aa_ _ (.cells #[.bool false,.slice none 0 0,.slice none 0 0] 44)))
 have R0:Hid ((((w.alloc (.cells #[.slice a n c,.slice b m d] 35)).alloc (.cells #[.bool s9,.slice a9 n9 c9,.slice b9 m9 d9] 44)).alloc (.cells #[.bool false,.slice none 0 0,.slice none 0 0] 44)).heap[w.heap.size+1+1]? = some (.cells #[.bool false,.slice none 0 0,.slice none 0 0] 44 (0,0))):=hd_ (by have h9:=ao_ ((w.alloc (.cells #[.slice a n c,.slice b m d] 35)).alloc (.cells #[.bool s9,.slice a9 n9 c9,.slice b9 m9 d9] 44)) #[.bool false,.slice none 0 0,.slice none 0 0] 44;rwa [aw_,aw_] at h9)
 have FU:=hd_ (hU.later HB.out)
 have FV:=hd_ (hV.later HB.out)
 have F3:=hd_ (h91.later HB.out)
 have F4:=hd_ (h92.later HB.out)
 obtain⟨x0,x1,x2,x3,x4⟩:=cd_ X0.out X1.out
 clear hU hV hf hz hz2 hk hb h0 s1 s2 hb9 lU lV lu lv h91 h92 h93 h94 h95 HX9 hr hq hbo
 go_enter Tryz.func16,Tryz.ntmps16
 unfold frV
 go_wp2_with fail
 refine (HQ1 _ FU.out FV.out F3.out F4.out).mono ?_
 rintro e w1 ⟨a5,n5,c5,b5,m5,d5,rfl,h5,g5,b⟩
 clear x0 x1 x2 x3 x4 HQ1
 unfold frV
 have ba:=aa_ w1 (.cells #[.bool (zneg r.num),.slice a5 n5 c5,.slice b5 m5 d5] 44)
 have T0:=hd_ (ao_ w1 #[.bool (zneg r.num),.slice a5 n5 c5,.slice b5 m5 d5] 44)
 have hT9:w.heap.size+1+1 < w1.heap.size:=by
  have h9:=(Array.getElem?_eq_some_iff.1 (ag_ R0.out b)).1
  exact h9
 replace HB:=hd_ (ab_ (ab_ HB.out b) ba)
 replace X0:=hd_ (ag_ (ag_ X0.out b) ba)
 replace X1:=hd_ (ag_ (ag_ X1.out b) ba)
 replace R0:=hd_ (ag_ (ag_ R0.out b) ba)
 have GA:=hd_ ((FU.out.later b).later ba)
 have GB:=hd_ ((FV.out.later b).later ba)
 replace F3:=hd_ ((F3.out.later b).later ba)
 replace F4:=hd_ ((F4.out.later b).later ba)
 clear b ba h5 g5 FU FV
 obtain⟨g0,hg0⟩:∃g,w1.heap.size=g:=⟨_,rfl⟩
 rw[hg0] at hT9 T0
 go_wp2
 clear hg0
 generalize (w1.alloc (.cells #[.bool (zneg r.num),.slice a5 n5 c5,.slice b5 m5 d5] 44))=W at *
 replace HB:=bt_ HB (dw_ W)
 replace X0:Hid (W.drew.heap[w.heap.size]? = _):=hd_ X0.out
 replace X1:Hid (W.drew.heap[w.heap.size+1]? = _):=hd_ X1.out
 replace R0:Hid (W.drew.heap[w.heap.size+1+1]? = some (.cells #[.bool false,.slice none 0 0,.slice none 0 0] 44 (0,0))):=hd_ R0.out
 replace T0:Hid (W.drew.heap[g0]? = some (.cells #[.bool (zneg r.num),.slice a5 n5 c5,.slice b5 m5 d5] 44 (0,0))):=hd_ T0.out
 replace GA:=GA.l_ (dw_ W)
 replace GB:=GB.l_ (dw_ W)
 replace F3:=F3.l_ (dw_ W)
 replace F4:=F4.l_ (dw_ W)
 have pSn:=cd_ X0.out X1.out
 go_region_held3 (fun w'=>w'.cell? ⟨w.heap.size,0,none⟩=some (.slice a n c)∧w'.cell? ⟨w.heap.size,1,none⟩=some (.slice b m d)∧w'.cell? ⟨w.heap.size+1,0,none⟩=some (.bool s9)∧w'.cell? ⟨w.heap.size+1,1,none⟩=some (.slice a9 n9 c9)∧w'.cell? ⟨w.heap.size+1,2,none⟩=some (.slice b9 m9 d9)) (first | exact pSn | exact pSb _ _ _)
  (first
  | (go_at_call 20;(first
    | (refine (HNO _ GA.out GB.out).mono ?_;rintro e wp1 ⟨a21,n21,c21,b21,m21,d21,rfl,h21,g21,b⟩;replace HB:=bt_ HB b;replace X0:=bl_ X0 b;replace X1:=bl_ X1 b;replace R0:=bl_ R0 b;replace T0:=bl_ T0 b;replace GA:=GA.l_ b;replace GB:=GB.l_ b;replace F3:=F3.l_ b;replace F4:=F4.l_ b;have P1:=hd_ h21;have P2:=hd_ g21;clear h21 g21;clear b;clear pSn;have pSn:=cd_ X0.out X1.out;have pM1:=True.intro)))
  | (go_at_call 68;(first
    | (have pm1:=pM1;refine (HQ2 _ _ _ _ _ _ _ P1.out P2.out F3.out F4.out).mono ?_;rintro e wp2 ⟨a22,n22,c22,b22,m22,d22,rfl,h22,g22,b⟩;replace HB:=bt_ HB b;replace X0:=bl_ X0 b;replace X1:=bl_ X1 b;replace R0:=bl_ R0 b;replace T0:=bl_ T0 b;replace GA:=GA.l_ b;replace GB:=GB.l_ b;replace F3:=F3.l_ b;replace F4:=F4.l_ b;clear P1;clear P2;have Z1:=hd_ h22;have Z2:=hd_ g22;clear h22 g22;unfold frV;obtain⟨r0,r1,r2⟩:=av_ T0.out;have e0:=ah_ T0.out 0;have e1:=ah_ T0.out 1;have e2:=ah_ T0.out 2;have pSb:=fun u v q=>cd_ (bz_ (g:=g0) X0.out (by omega) u v q) (bz_ (g:=g0) X1.out (by omega) u v q);clear b;clear pSn;have pSn:=cd_ X0.out X1.out;clear pM1 pm1;have pM2:=True.intro))))
 have T9:=hd_ (bu_ T0.out (.bool (zneg q.num)) (.slice a22 n22 c22) (.slice b22 m22 d22))
 have RB:=hd_ (bz_ (g:=g0) R0.out (show w.heap.size+1+1≠g0 by omega) (.bool (zneg q.num)) (.slice a22 n22 c22) (.slice b22 m22 d22))
 have ZA:=hd_ (Z1.out.stored3 T0.out (zneg q.num) a22 n22 c22 (.slice b22 m22 d22))
 have ZD:=hd_ (Z2.out.stored3 T0.out (zneg q.num) a22 n22 c22 (.slice b22 m22 d22))
 have HB8:=hd_ (a3_ HB.out (show w.heap.size≤g0 by omega) (.bool (zneg q.num)) (.slice a22 n22 c22) (.slice b22 m22 d22))
 generalize hW2:(((wp2.setCell ⟨g0,0,none⟩ (.bool (zneg q.num))).setCell ⟨g0,1,none⟩ (.slice a22 n22 c22)).setCell ⟨g0,2,none⟩ (.slice b22 m22 d22))=W2 at T9 RB ZA ZD HB8
 obtain⟨t0,t1,t2⟩:=av_ T9.out
 obtain⟨y0,y1,y2⟩:=av_ RB.out
 have f0:=ah_ RB.out 0
 have f1:=ah_ RB.out 1
 have f2:=ah_ RB.out 2
 have R9:=hd_ (bu_ RB.out (.bool (zneg q.num)) (.slice a22 n22 c22) (.slice b22 m22 d22))
 have P9:=hd_ (ZA.out.stored3 RB.out (zneg q.num) a22 n22 c22 (.slice b22 m22 d22))
 have Q9:=hd_ (ZD.out.stored3 RB.out (zneg q.num) a22 n22 c22 (.slice b22 m22 d22))
 have G9:=hd_ (a3_ HB8.out (show w.heap.size≤w.heap.size+1+1 by omega) (.bool (zneg q.num)) (.slice a22 n22 c22) (.slice b22 m22 d22))
 subst hW2
 go_wp2
 refine bodyPost_ret (bn_ Tryz.results16 _ _ (w.heap.size+1+1) 44 #[.bool (zneg q.num),.slice a22 n22 c22,.slice b22 m22 d22] (0,0) _ rfl R9.out Tryz.underlying44 rfl (by kernel_rfl)) rfl ?_
 exact⟨a22,n22,c22,b22,m22,d22,rfl,P9.out,Q9.out,G9.out⟩
theorem Fv.boxed{w:World}{a:Option Addr}{n c:Nat}{b:Option Addr}{m d:Nat}{u v:List Rat}{h s:Nat}(f:Fv w a n c b m d u v h s){g:Nat}{x y:Option Addr}{n1 c1 n2 c2:Nat}{t:TypeId}(hg:w.heap[g]? = some (.cells #[.slice x n1 c1,.slice y n2 c2] t (0,0)))(p q:Value):Fv ((w.setCell ⟨g,0,none⟩ p).setCell ⟨g,1,none⟩ q) a n c b m d u v h s:=by
 obtain⟨U,V,h1,h2,h3⟩:=f
 exact⟨U,V,h1.boxed hg p q,h2.boxed hg p q,h3⟩
theorem ppow_next(u:LR_)(k:Nat):aj_ (pmul (aj_ (ppow u k)) u)=aj_ (ppow u (k+1)):=bj_ (au_ (ar_ _) (peq.refl _))
theorem pow_mul(S:PolySaid){u v:List Rat}(f:Fz u v 3 42){k:Nat}(hk:k < 3)(w':World)(a3:OA_)(n3 c3:Nat)(a4:OA_)(n4 c4:Nat)(g1:Rw w' a3 n3 c3 (aj_ (ppow u k)))(g2:Rw w' a4 n4 c4 u):Calls Tryz.prog 75 #[.slice a3 n3 c3,.slice a4 n4 c4] w' (cw_ (aj_ (ppow u (k+1))) w'):=by
 have h1:=(f.pow (by decide) k (by omega)).norms
 have h2:=h1.lu
 have h3:=f.lu
 have e3:=g1.len
 have e4:=g2.len
 have h9:=jk_ S (Pv.right g1 (N:=200) (fun q hq=>Nat.le_trans (h1.qlen q hq) (by omega))) (Pv.right g2 (N:=200) (fun q hq=>Nat.le_trans (f.qlen q hq) (by omega))) (by omega) (by omega) (Nat.le_trans (Nat.mul_le_mul (show n3+1≤20 by omega) (Nat.le_refl _)) (by decide))
 rwa [ppow_next] at h9

def zcells:Array Value:=#[.bool false,.slice none 0 0,.slice none 0 0]
theorem le_:∀n:Nat,(madeCells zcells (n * 3)).toList=(List.replicate n Fx.zero).flatMap Fx.cells:=by
 intro n
 refine List.ext_getElem? fun j=>?_
 have hf:=bv_ (List.replicate n Fx.zero)
 rw[List.length_replicate] at hf
 by_cases hj:j < n * 3
 ·obtain⟨q,r,rfl,hr⟩:∃q r,j=q * 3+r∧r < 3:=⟨j / 3,j % 3,by omega,by omega⟩
  have hq:q < n:=by omega
  obtain⟨c0,c1,c2⟩:=e0_ (List.replicate n Fx.zero) q (by rw[List.length_replicate];exact hq)
  have hz:(List.replicate n Fx.zero).getD q Fx.zero=Fx.zero:=by
   rw[List.getD_eq_getElem?_getD,List.getElem?_replicate];split <;> rfl
  rw[hz] at c0 c1 c2
  have hl:(madeCells zcells (n * 3)).toList[q * 3+r]? = some (zcells[r]!):=by
   have h3:(q * 3+r) % zcells.size=r:=by
    show (q * 3+r) % 3=r
    omega
   simp only[madeCells,Array.toList_map,Array.toList_range,List.getElem?_map,List.getElem?_range hj,Option.map_some,h3]
  rw[hl]
  match r,hr with
  | 0,_=>exact c0.symm
  | 1,_=>exact c1.symm
  | 2,_=>exact c2.symm
 ·rw[List.getElem?_eq_none (by rw[Array.length_toList,size_madeCells];omega),List.getElem?_eq_none (by omega)]
def HalfC (w:World) (base:Nat) (e:TypeId) (v:Value) (L:List Fx) (r:Nat):Prop:=OwnC w base e v (L ++ List.replicate r Fx.zero)∧∀x∈L,x.ok w
theorem HalfC.later{w w':World}{base:Nat}{e:TypeId}{v:Value}{L:List Fx}{r:Nat}(h:HalfC w base e v L r)(hb:Below w.heap.size w w'):HalfC w' base e v L r:=⟨h.1.later hb,fun x hx=>(h.2 x hx).later hb⟩
theorem HalfC.l_ {w w':World}{x0 x1 x2 x3 x4}(h:HalfC w x0 x1 x2 x3 x4)(b:Below w.heap.size w w'):Hid (HalfC w' x0 x1 x2 x3 x4):=Lib.hid (h.later b)
theorem HalfC.done{w:World}{base:Nat}{e:TypeId}{v:Value}{L:List Fx}(h:HalfC w base e v L 0):Cop w base e v L:=by
 obtain⟨h1,h2⟩:=h
 rw[List.replicate_zero,List.append_nil] at h1
 exact⟨h1,h2⟩
theorem re_(w:World)(base:Nat)(e:TypeId)(n:Nat)(hn:n≤maxLen)(hb:base≤w.heap.size) :
 HalfC (w.alloc (.cells (madeCells zcells (n * 3)) e)) base e (.slice (some ⟨w.heap.size,0,none⟩) n n) [] n:=by
 have hh:=heap_alloc_new w (.cells (madeCells zcells (n * 3)) e)
 have hf:=bv_ (List.replicate n Fx.zero)
 rw[List.length_replicate] at hf
 refine ⟨⟨?_,db_ hh ?_⟩,fun x hx=>by simp at hx⟩
 ·rw[List.nil_append,List.length_replicate]
  refine ⟨hf,.inr ⟨w.heap.size,n,madeCells zcells (n * 3),rfl,hb,hh,Nat.le_refl _,hn,size_madeCells _ _,?_⟩⟩
  rw[le_,List.take_of_length_le (Nat.le_of_eq hf)]
 ·rw[le_]
  exact d4_ _
theorem b2_{P:Program}(w:World){ops:Array Oper}{rest:List Oper}{o:Oper}{a:Act}{Q:Exit→Act→World→Prop}
 (hg:o.guard=none) (l c:Operand) (t:TypeId) (hop:o.op=Op.makeSlice t l c)
 (base:Nat) (e:TypeId) (i:TypeInfo) (h1:P.underlying t=some (.slice e)) (h2:P.info? e=some i) (h3:i.zero=some (.agg #[.bool false,.slice none 0 0,.slice none 0 0])) (h4:i.size=3) (h5:i.bytes=56)
 (kl kc:IntKind) (L C:Int) (n:Nat) (hl:a.eval l=.int kl L) (hc:a.eval c=.int kc C) (hL:L=(n:Int)) (hC:C=(n:Int)) (b3:n≤1000000) (b4:base≤w.heap.size)
 (hK:∀w',HalfC w' base e (.slice (some ⟨w.heap.size,0,none⟩) n n) [] n→w.grownBy w' none→w'.heap.size=w.heap.size+1→wpList P ops Q rest (a.put o.dst (.slice (some ⟨w.heap.size,0,none⟩) n n)) w') :
 wpList P ops Q (o :: rest) a w:=by
 refine wpList_plain hg fun K hK'=>?_
 have hb':(i.bytes:Int) * (n:Int)≤281474976710656:=by rw[h5];omega
 have hrun:=run_make (P:=P) w t e i _ h1 h2 h3 kl kc n n (by omega) (by omega) hb' (by omega)
 simp only[Int.toNat_natCast,h4] at hrun
 subst hL
 subst hC
 unfold Oper.wp
 simp[execOp,hop,hl,hc,hrun,Result.andThen]
 exact hK' _ _ (hK _ (re_ w base e n (by unfold maxLen;omega) b4) (World.grownBy_alloc w _ none) (World.size_alloc _ _))
theorem qh_{w:World}{base:Nat}{e:TypeId}{g n cap K:Nat}{xs:List Value}(h1:w.ownsRow base e 3 (.slice (some ⟨g,0,none⟩) n cap) K xs):n=K:=by
 rcases h1.2 with ⟨e1,e2⟩ | ⟨g',cap',cur,e1,_⟩
 ·cases e1
 ·simp only[Value.slice.injEq] at e1
  exact e1.2.1
theorem kk_{w:World}{base:Nat}{e:TypeId}{g n cap:Nat}{L:List Fx}{r:Nat}(h:HalfC w base e (.slice (some ⟨g,0,none⟩) n cap) L (r+1)){k:Nat}(hk:k=L.length) :
 (w.cell? ⟨g,k * 3,none⟩=some (.bool false)∧w.cell? ⟨g,k * 3+1,none⟩=some (.slice none 0 0)∧w.cell? ⟨g,k * 3+2,none⟩=some (.slice none 0 0))∧w.frozen? ⟨g,k * 3,none⟩=false∧w.frozen? ⟨g,k * 3+1,none⟩=false∧w.frozen? ⟨g,k * 3+2,none⟩=false:=by
 obtain⟨⟨h1,_⟩,_⟩:=h
 subst hk
 obtain rfl:=qh_ h1
 have hl:(L ++ List.replicate (r+1) Fx.zero).length=L.length+(r+1):=by rw[List.length_append,List.length_replicate]
 have hz:(L ++ List.replicate (r+1) Fx.zero).getD L.length Fx.zero=Fx.zero:=by
  rw[List.getD_eq_getElem?_getD,List.getElem?_append_right (Nat.le_refl _),Nat.sub_self];rfl
 obtain⟨c0,c1,c2⟩:=e0_ (L ++ List.replicate (r+1) Fx.zero) L.length (by omega)
 rw[hz] at c0 c1 c2
 have hf:=bv_ (L ++ List.replicate (r+1) Fx.zero)
 have p0:=h1.cellAt (L.length * 3) (by omega)
 have p1:=h1.cellAt (L.length * 3+1) (by omega)
 have p2:=h1.cellAt (L.length * 3+2) (by omega)
 rw[c0] at p0;rw[c1] at p1;rw[c2] at p2
 exact⟨⟨p0,p1,p2⟩,h1.frozenAt _,h1.frozenAt _,h1.frozenAt _⟩
theorem HalfC.stored{w:World}{base:Nat}{e:TypeId}{g n cap:Nat}{L:List Fx}{r:Nat}(h:HalfC w base e (.slice (some ⟨g,0,none⟩) n cap) L (r+1)){k:Nat}(hk:k=L.length)(x:Fx)(hx:x.ok w) :
 HalfC (((w.setCell ⟨g,k * 3,none⟩ (.bool x.s)).setCell ⟨g,k * 3+1,none⟩ (.slice x.a x.n x.c)).setCell ⟨g,k * 3+2,none⟩ (.slice x.b x.m x.d)) base e (.slice (some ⟨g,0,none⟩) n cap) (L ++ [x]) r∧
 w.grownBy (((w.setCell ⟨g,k * 3,none⟩ (.bool x.s)).setCell ⟨g,k * 3+1,none⟩ (.slice x.a x.n x.c)).setCell ⟨g,k * 3+2,none⟩ (.slice x.b x.m x.d)) (some g):=by
 obtain⟨⟨p0,p1,p2⟩,-⟩:=kk_ h hk
 obtain⟨⟨h1,h2⟩,h4⟩:=h
 subst hk
 have hl:(L ++ List.replicate (r+1) Fx.zero).length=L.length+(r+1):=by rw[List.length_append,List.length_replicate]
 obtain rfl:=qh_ h1
 have hset:(L ++ List.replicate (r+1) Fx.zero).set L.length x=(L ++ [x]) ++ List.replicate r Fx.zero:=by
  rw[List.set_append_right _ _ (Nat.le_refl _),Nat.sub_self,List.replicate_succ,List.set_cons_zero,List.append_assoc];rfl
 obtain⟨s0,g0⟩:=h1.stored (L.length * 3) (.bool x.s)
 obtain⟨s1,g1⟩:=s0.stored (L.length * 3+1) (.slice x.a x.n x.c)
 obtain⟨s2,g2⟩:=s1.stored (L.length * 3+2) (.slice x.b x.m x.d)
 have l0:=cf_ (j:=L.length * 3) (u:=.bool x.s) h2 p0 (fun y e=>by cases e)
 have l1:=cf_ (j:=L.length * 3+1) (u:=.slice x.a x.n x.c) l0 ((World.cell?_setCell_other _ ⟨g,L.length * 3,none⟩ ⟨g,L.length * 3+1,none⟩ _ (fun e=>by simp at e)).trans p1) (fun y e=>by cases e)
 have l2:=cf_ (j:=L.length * 3+2) (u:=.slice x.b x.m x.d) l1 (((World.cell?_setCell_other _ ⟨g,L.length * 3+1,none⟩ ⟨g,L.length * 3+2,none⟩ _ (fun e=>by simp at e)).trans (World.cell?_setCell_other _ ⟨g,L.length * 3,none⟩ ⟨g,L.length * 3+2,none⟩ _ (fun e=>by simp at e))).trans p2) (fun y e=>by cases e)
 have hg:=(g0.trans g1).trans g2
 refine ⟨⟨⟨?_,l2⟩,fun y hy=>?_⟩,hg⟩
 ·rw[←hset,es_ _ _ _ (by omega),List.length_set]
  exact s2
 ·rcases List.mem_append.1 hy with hy | hy
  ·exact Fx.aside (h4 y hy) h2 hg
  ·rw[List.mem_singleton.1 hy]
   exact Fx.aside hx h2 hg
def Half (w:World) (base:Nat) (e:TypeId) (v:Value) (qs:LR_) (r:Nat):Prop:=∃L,HalfC w base e v L r∧L.map Fx.q=qs∧∀x∈L,x.right
theorem Half.later{w w':World}{base:Nat}{e:TypeId}{v:Value}{qs:List Rat}{r:Nat}(h:Half w base e v qs r)(hb:Below w.heap.size w w'):Half w' base e v qs r:=by
 obtain⟨L,h1,h2,h3⟩:=h
 exact⟨L,h1.later hb,h2,h3⟩
theorem Half.l_ {w w':World}{x0 x1 x2 x3 x4}(h:Half w x0 x1 x2 x3 x4)(b:Below w.heap.size w w'):Hid (Half w' x0 x1 x2 x3 x4):=Lib.hid (h.later b)
theorem Half.start{w:World}{base:Nat}{e:TypeId}{v:Value}{r:Nat}(h:HalfC w base e v [] r):Half w base e v [] r:=⟨[],h,rfl,fun x hx=>by simp at hx⟩
theorem Half.done{w:World}{base:Nat}{e:TypeId}{v:Value}{qs:List Rat}(h:Half w base e v qs 0):Row w base e v qs:=by
 obtain⟨L,h1,h2,h3⟩:=h
 exact⟨L,h1.done.1,h2,fun x hx=>⟨h1.done.2 x hx,h3 x hx⟩⟩
theorem Half.cell{w:World}{base:Nat}{e:TypeId}{g n cap:Nat}{qs:List Rat}{r:Nat}(h:Half w base e (.slice (some ⟨g,0,none⟩) n cap) qs (r+1)){k:Nat}(hk:k=qs.length) :
 (w.cell? ⟨g,k * 3,none⟩=some (.bool false)∧w.cell? ⟨g,k * 3+1,none⟩=some (.slice none 0 0)∧w.cell? ⟨g,k * 3+2,none⟩=some (.slice none 0 0))∧w.frozen? ⟨g,k * 3,none⟩=false∧w.frozen? ⟨g,k * 3+1,none⟩=false∧w.frozen? ⟨g,k * 3+2,none⟩=false:=by
 obtain⟨L,h1,h2,h3⟩:=h
 exact kk_ h1 (by rw[hk,←h2,List.length_map])
theorem Half.stored{w:World}{base:Nat}{e:TypeId}{g n cap:Nat}{qs:List Rat}{r:Nat}(h:Half w base e (.slice (some ⟨g,0,none⟩) n cap) qs (r+1)){k:Nat}(hk:k=qs.length)(q:Rat)(a:OA_)(m c:Nat)(b:OA_)(l d:Nat)(ha:Wd w a m c (dg q.num.natAbs))(hb:Wd w b l d (dg q.den)) :
 Half (((w.setCell ⟨g,k * 3,none⟩ (.bool (zneg q.num))).setCell ⟨g,k * 3+1,none⟩ (.slice a m c)).setCell ⟨g,k * 3+2,none⟩ (.slice b l d)) base e (.slice (some ⟨g,0,none⟩) n cap) (qs ++ [q]) r∧
 w.grownBy (((w.setCell ⟨g,k * 3,none⟩ (.bool (zneg q.num))).setCell ⟨g,k * 3+1,none⟩ (.slice a m c)).setCell ⟨g,k * 3+2,none⟩ (.slice b l d)) (some g):=by
 obtain⟨L,h1,h2,h3⟩:=h
 obtain⟨h5,h6⟩:=h1.stored (k:=k) (by rw[hk,←h2,List.length_map]) (rx q a m c b l d) ⟨ha,hb⟩
 refine ⟨⟨L ++ [rx q a m c b l d],h5,by rw[List.map_append,h2];simp[rx_q],fun y hy=>?_⟩,h6⟩
 rcases List.mem_append.1 hy with hy | hy
 ·exact h3 y hy
 ·rw[List.mem_singleton.1 hy]
  exact di_ _ _ _ _ _ _ _
theorem Half.whole{w:World}{base:Nat}{e:TypeId}{v:Value}{T:List Rat}{k r:Nat}(h:Half w base e v (T.take k) r)(hk:T.length=k)(hr:r=0):Row w base e v T:=by
 subst hr
 exact h.done.whole hk
theorem whole_add(na:Bool)(a:OA_)(n cap:Nat)(la:List Nat)(nb:Bool)(b:OA_)(m cap':Nat)(lb:List Nat)(w:World)(ha:Wd w a n cap la)(hb:Wd w b m cap' lb)(hn:n≤104857600000)(hm:m≤104857600000) :
 Calls Tryz.prog 88 #[whV na a n cap,whV nb b m cap'] w (LstZ (zval na (val la)+zval nb (val lb)) w):=by
 have hB3:Below w.heap.size w (((w.alloc (.cells #[.bool na,.slice a n cap] 42)).alloc (.cells #[.bool nb,.slice b m cap'] 42)).alloc (.cells #[.bool false,.slice none 0 0] 42)):=ab_ (ab_ (aa_ _ _) (aa_ _ _)) (aa_ _ _)
 have Ha:=ha.l_ hB3
 have Hb:=hb.l_ hB3
 have HB:=hd_ hB3
 have h3b:=js_ w #[.bool na,.slice a n cap] #[.bool nb,.slice b m cap'] #[.bool false,.slice none 0 0] 42 42 42
 have HAo:=hd_ h3b.1
 have HBo:=hd_ h3b.2.1
 have HRo:=hd_ h3b.2.2
 have hla:=ha.trim_le
 have hlb:=hb.trim_le
 have Hla:=hd_ ha.len
 have Hlb:=hd_ hb.len
 clear ha hb hB3 h3b
 by_cases hne:na=nb
 ·subst hne
  have HV:Hid (zval na (val la+val lb)=zval na (val la)+zval na (val lb)):=hd_ (l5_ na _ _)
  have hva:Hid (vals [la,lb]=val la+val lb):=hd_ (by simp[vals])
  have hpl:Hid ((dg (vals [la,lb])).length≤209715200001):=hd_ (by have:=fj_ (val la) (val lb);rw[hva.out];omega)
  have hq:(na == na)=true:=by simp
  clear hla hlb
  go_enter Tryz.func88,Tryz.ntmps88
  unfold whV
  go_wp2
  generalize (((w.alloc (.cells #[.bool na,.slice a n cap] 42)).alloc (.cells #[.bool na,.slice b m cap'] 42)).alloc (.cells #[.bool false,.slice none 0 0] 42))=W at *
  have HAd:Hid (W.drew.heap[w.heap.size]? = some (.cells #[.bool na,.slice a n cap] 42 (0,0))):=hd_ HAo.out
  have HBd:Hid (W.drew.heap[w.heap.size+1]? = some (.cells #[.bool na,.slice b m cap'] 42 (0,0))):=hd_ HBo.out
  have HRd:Hid (W.drew.heap[w.heap.size+1+1]? = some (.cells #[.bool false,.slice none 0 0] 42 (0,0))):=hd_ HRo.out
  have Hd:Below W.heap.size W W.drew:=(Below.refl _ _).drew
  have Sd:=ck_ HAd.out HBd.out
  clear HAo HBo HRo
  have Sal:=fun o=>ck_ (ag_ HAd.out (aa_ W.drew o)) (ag_ HBd.out (aa_ W.drew o))
  go_region_held3 (fun w'=>w'.cell? ⟨w.heap.size,0,none⟩=some (.bool na)∧w'.cell? ⟨w.heap.size,1,none⟩=some (.slice a n cap)∧w'.cell? ⟨w.heap.size+1,0,none⟩=some (.bool na)∧w'.cell? ⟨w.heap.size+1,1,none⟩=some (.slice b m cap')) (first | exact Sd | exact Sal _ | exact Sq1 | exact Sq2 | exact Sq3 _ _)
   (first
   | (go_at_call 130;(refine (natSaid.add _ _ _ _ _ (Wds.lit2 W.drew 25 (Ha.out.later Hd) (Hb.out.later Hd)) (by omega) ?q3).mono ?_);(case q3=>have h7:=Hla.out;have h8:=Hlb.out;simp only[dz_];omega);rintro e w1 ⟨a1,n1,c1,rfl,h1,b1⟩;have bq1:=ab_ (aa_ W.drew _) b1;have hA1:=ag_ HAd.out bq1;have hB1:=ag_ HBd.out bq1;have Sq1:=ck_ hA1 hB1)
   | (go_at_call 129;(refine (dr_ na a1 n1 c1 _ _ h1 ?q5).mono ?_);(case q5=>have h7:=h1.len;have h8:=hpl.out;omega);rintro e w2 ⟨a2,n2,c2,rfl,h2,b2⟩;have Sq2:=ck_ (ag_ hA1 b2) (ag_ hB1 b2);have Sq3:=j2_ (g:=w.heap.size+1+1) (ag_ hA1 b2) (ag_ hB1 b2) (by omega) (by omega);have hRb:=ag_ (ag_ HRd.out bq1) b2;have r0:=ad_ hRb 0;have r1:=ad_ hRb 1;have f0:=ah_ hRb 0;have f1:=ah_ hRb 1;simp only[List.getElem?_toArray,List.getElem?_cons_zero,List.getElem?_cons_succ] at r0 r1;unfold whV))
  have hBe:=hd_ (ab_ HB.out (ab_ Hd (ab_ bq1 b2)))
  have H2:=hd_ h2
  have hl2:=hd_ hRb
  have HF:=hd_ (H2.out.stored2 hl2.out (zneg (zval na (vals [la,lb]))) (.slice a2 n2 c2))
  have HG:=hd_ (bk_ hl2.out (.bool (zneg (zval na (vals [la,lb])))) (.slice a2 n2 c2))
  have HB2:=hd_ (ay_ hBe.out (show w.heap.size≤w.heap.size+1+1 by omega) (.bool (zneg (zval na (vals [la,lb])))) (.slice a2 n2 c2))
  rw[hva.out,HV.out] at HF HG HB2
  rw[hva.out,HV.out]
  generalize zval na (val la)+zval na (val lb)=z at *
  go_wp2
  refine bodyPost_ret (results_cell_row Tryz.results88 _ _ (w.heap.size+1+1) 42 #[.bool (zneg z),.slice a2 n2 c2] (0,0) _ rfl HG.out Tryz.underlying42 rfl (by kernel_rfl)) rfl ?_
  exact⟨a2,n2,c2,rfl,HF.out,HB2.out⟩
 ·have hq:(na == nb)=false:=by simp[hne]
  have Hne:=hd_ hne
  have hpl:Hid ((dg (val la - val lb+(val lb - val la))).length≤209715200001):=hd_ (by
   have h1:=ax_ (show val la - val lb+(val lb - val la)≤val la+val lb by omega)
   have h2:=fj_ (val la) (val lb)
   omega)
  clear hne hla hlb
  go_enter Tryz.func88,Tryz.ntmps88
  unfold whV
  by_cases hlt:val la < val lb
  ·have hc:cmpI (val la) (val lb) < 0:=by rw[ig_ hlt];omega
   have Hlt:=hd_ hlt
   clear hlt
   go_wp2_with fail
   refine (natSaid.gap a n cap la b m cap' lb _ Ha.out Hb.out (by omega) (by omega)).mono ?_
   rintro e w1 ⟨a1,n1,c1,rfl,h1,b1⟩
   obtain⟨s0,s1,s2,s3⟩:=ck_ (ag_ HAo.out b1) (ag_ HBo.out b1)
   have HR1:=hd_ (ag_ HRo.out b1)
   have hn1:n1≤209715200001:=by rw[←h1.len];exact hpl.out
   have H1:=hd_ h1
   have HV:Hid (zval nb (val la - val lb+(val lb - val la))=zval na (val la)+zval nb (val lb)):=hd_ (by rw[Nat.sub_eq_zero_of_le (Nat.le_of_lt Hlt.out),Nat.zero_add];exact mo_ Hne.out Hlt.out)
   clear h1 HAo HBo HRo Ha Hb
   generalize cmpI (val la) (val lb)=cc at *
   go_wp2_with fail
   refine (dr_ nb a1 n1 c1 _ _ H1.out (by omega)).mono ?_
   rintro e w2 ⟨a2,n2,c2,rfl,h2,b2⟩
   clear s0 s1 s2 s3
   have hRb:=ag_ HR1.out b2
   have r0:=ad_ hRb 0
   have r1:=ad_ hRb 1
   have f0:=ah_ hRb 0
   have f1:=ah_ hRb 1
   simp only[List.getElem?_toArray,List.getElem?_cons_zero,List.getElem?_cons_succ] at r0 r1
   have hBe:=hd_ (ab_ HB.out (ab_ b1 b2))
   have H2:=hd_ h2
   have hl2:=hd_ hRb
   have HF:=hd_ (H2.out.stored2 hl2.out (zneg (zval nb (val la - val lb+(val lb - val la)))) (.slice a2 n2 c2))
   have HG:=hd_ (bk_ hl2.out (.bool (zneg (zval nb (val la - val lb+(val lb - val la))))) (.slice a2 n2 c2))
   have HB2:=hd_ (ay_ hBe.out (show w.heap.size≤w.heap.size+1+1 by omega) (.bool (zneg (zval nb (val la - val lb+(val lb - val la))))) (.slice a2 n2 c2))
   clear hRb h2 b1 b2 hBe
   rw[HV.out] at HF HG HB2
   rw[HV.out]
   generalize zval na (val la)+zval nb (val lb)=z at *
   unfold whV
   go_wp2
   refine bodyPost_ret (results_cell_row Tryz.results88 _ _ (w.heap.size+1+1) 42 #[.bool (zneg z),.slice a2 n2 c2] (0,0) _ rfl HG.out Tryz.underlying42 rfl (by kernel_rfl)) rfl ?_
   exact⟨a2,n2,c2,rfl,HF.out,HB2.out⟩
  ·have hc:¬cmpI (val la) (val lb) < 0:=by unfold cmpI;split <;> (try split) <;> omega
   have Hle:Hid (val lb≤val la):=hd_ (by omega)
   clear hlt
   go_wp2_with fail
   refine (natSaid.gap a n cap la b m cap' lb _ Ha.out Hb.out (by omega) (by omega)).mono ?_
   rintro e w1 ⟨a1,n1,c1,rfl,h1,b1⟩
   obtain⟨s0,s1,s2,s3⟩:=ck_ (ag_ HAo.out b1) (ag_ HBo.out b1)
   have HR1:=hd_ (ag_ HRo.out b1)
   have hn1:n1≤209715200001:=by rw[←h1.len];exact hpl.out
   have H1:=hd_ h1
   have HV:Hid (zval na (val la - val lb+(val lb - val la))=zval na (val la)+zval nb (val lb)):=hd_ (by rw[Nat.sub_eq_zero_of_le Hle.out,Nat.add_zero];exact ma_ Hne.out Hle.out)
   clear h1 HAo HBo HRo Ha Hb
   generalize cmpI (val la) (val lb)=cc at *
   go_wp2_with fail
   refine (dr_ na a1 n1 c1 _ _ H1.out (by omega)).mono ?_
   rintro e w2 ⟨a2,n2,c2,rfl,h2,b2⟩
   clear s0 s1 s2 s3
   have hRb:=ag_ HR1.out b2
   have r0:=ad_ hRb 0
   have r1:=ad_ hRb 1
   have f0:=ah_ hRb 0
   have f1:=ah_ hRb 1
   simp only[List.getElem?_toArray,List.getElem?_cons_zero,List.getElem?_cons_succ] at r0 r1
   have hBe:=hd_ (ab_ HB.out (ab_ b1 b2))
   have H2:=hd_ h2
   have hl2:=hd_ hRb
   have HF:=hd_ (H2.out.stored2 hl2.out (zneg (zval na (val la - val lb+(val lb - val la)))) (.slice a2 n2 c2))
   have HG:=hd_ (bk_ hl2.out (.bool (zneg (zval na (val la - val lb+(val lb - val la))))) (.slice a2 n2 c2))
   have HB2:=hd_ (ay_ hBe.out (show w.heap.size≤w.heap.size+1+1 by omega) (.bool (zneg (zval na (val la - val lb+(val lb - val la))))) (.slice a2 n2 c2))
   clear hRb h2 b1 b2 hBe
   rw[HV.out] at HF HG HB2
   rw[HV.out]
   generalize zval na (val la)+zval nb (val lb)=z at *
   unfold whV
   go_wp2
   refine bodyPost_ret (results_cell_row Tryz.results88 _ _ (w.heap.size+1+1) 42 #[.bool (zneg z),.slice a2 n2 c2] (0,0) _ rfl HG.out Tryz.underlying42 rfl (by kernel_rfl)) rfl ?_
   exact⟨a2,n2,c2,rfl,HF.out,HB2.out⟩
theorem whole_of(z:Int)(w:World)(hz:gq_ z):Calls Tryz.prog 96 #[.int .i64 z] w (LstZ z w):=by
 unfold gq_ at hz
 by_cases hlt:z < 0
 ·skip
  have HA:Hid (zval true z.natAbs=z):=hd_ (by unfold zval;simp;omega)
  have hv:((z.natAbs:Nat):Int) = -z:=by omega
  have hvb:z.natAbs≤18446744073709551615:=by omega
  generalize z.natAbs=v at *
  have hw:IntKind.u64.wrap (-IntKind.u64.wrap z)=(v:Int):=by rw[IntKind.wrap_u64,IntKind.wrap_u64];omega
  go_enter Tryz.func96,Tryz.ntmps96
  go_wp2_with fail
  rw[←hv]
  refine (natSaid.of v _ hvb).mono ?_
  rintro e w1 ⟨a1,n1,c1,rfl,h1,b1⟩
  have hn1:n1≤2:=by rw[←h1.len];exact bh_ (by omega)
  have hR:=qk_ w w1 _ _ b1
  have H1:=hd_ h1
  go_wp2_with fail
  refine (dr_ true a1 n1 c1 _ _ H1.out (by omega)).mono ?_
  rintro e w2 ⟨a2,n2,c2,rfl,h2,b2⟩
  have hRb:=ag_ hR b2
  have r0:=ad_ hRb 0
  have r1:=ad_ hRb 1
  have f0:=ah_ hRb 0
  have f1:=ah_ hRb 1
  simp only[List.getElem?_toArray,List.getElem?_cons_zero,List.getElem?_cons_succ] at r0 r1
  have hBe:=hd_ (ab_ (aa_ w _) (ab_ b1 b2))
  have H2:=hd_ h2
  have hl2:=hd_ hRb
  have HF:=hd_ (H2.out.stored2 hl2.out (zneg (zval true v)) (.slice a2 n2 c2))
  have HG:=hd_ (bk_ hl2.out (.bool (zneg (zval true v))) (.slice a2 n2 c2))
  have HB2:=hd_ (ay_ hBe.out (show w.heap.size≤w.heap.size by omega) (.bool (zneg (zval true v))) (.slice a2 n2 c2))
  clear hRb h2 b1 b2 hBe hR h1
  rw[HA.out] at HF HG HB2
  rw[HA.out]
  generalize hzz:zneg z=zb at *
  have Hzz:=hd_ hzz
  clear hzz
  unfold whV
  go_wp2
  refine bodyPost_ret (results_cell_row Tryz.results96 _ _ (w.heap.size) 42 #[.bool zb,.slice a2 n2 c2] (0,0) _ rfl HG.out Tryz.underlying42 rfl (by kernel_rfl)) rfl ?_
  exact⟨a2,n2,c2,by rw[Hzz.out];rfl,HF.out,HB2.out⟩
 ·skip
  have HA:Hid (zval false z.natAbs=z):=hd_ (by unfold zval;simp;omega)
  have hv:((z.natAbs:Nat):Int)=z:=by omega
  have hvb:z.natAbs≤18446744073709551615:=by omega
  generalize z.natAbs=v at *
  have hw:IntKind.u64.wrap z=(v:Int):=by rw[IntKind.wrap_u64];omega
  go_enter Tryz.func96,Tryz.ntmps96
  go_wp2_with fail
  rw[←hv]
  refine (natSaid.of v _ hvb).mono ?_
  rintro e w1 ⟨a1,n1,c1,rfl,h1,b1⟩
  have hn1:n1≤2:=by rw[←h1.len];exact bh_ (by omega)
  have hR:=qk_ w w1 _ _ b1
  have H1:=hd_ h1
  go_wp2_with fail
  refine (dr_ false a1 n1 c1 _ _ H1.out (by omega)).mono ?_
  rintro e w2 ⟨a2,n2,c2,rfl,h2,b2⟩
  have hRb:=ag_ hR b2
  have r0:=ad_ hRb 0
  have r1:=ad_ hRb 1
  have f0:=ah_ hRb 0
  have f1:=ah_ hRb 1
  simp only[List.getElem?_toArray,List.getElem?_cons_zero,List.getElem?_cons_succ] at r0 r1
  have hBe:=hd_ (ab_ (aa_ w _) (ab_ b1 b2))
  have H2:=hd_ h2
  have hl2:=hd_ hRb
  have HF:=hd_ (H2.out.stored2 hl2.out (zneg (zval false v)) (.slice a2 n2 c2))
  have HG:=hd_ (bk_ hl2.out (.bool (zneg (zval false v))) (.slice a2 n2 c2))
  have HB2:=hd_ (ay_ hBe.out (show w.heap.size≤w.heap.size by omega) (.bool (zneg (zval false v))) (.slice a2 n2 c2))
  clear hRb h2 b1 b2 hBe hR h1
  rw[HA.out] at HF HG HB2
  rw[HA.out]
  generalize hzz:zneg z=zb at *
  have Hzz:=hd_ hzz
  clear hzz
  unfold whV
  go_wp2
  refine bodyPost_ret (results_cell_row Tryz.results96 _ _ (w.heap.size) 42 #[.bool zb,.slice a2 n2 c2] (0,0) _ rfl HG.out Tryz.underlying42 rfl (by kernel_rfl)) rfl ?_
  exact⟨a2,n2,c2,by rw[Hzz.out];rfl,HF.out,HB2.out⟩
def Two (p q:List Nat) (ok:Bool) (w:World) (e:Ending) (w':World):Prop:=
 ∃(a:OA_) (n cap:Nat) (b:OA_) (m cap':Nat),e=.returned (.tuple #[.slice a n cap,.slice b m cap',.bool ok])∧Wd w' a n cap p∧Wd w' b m cap' q∧Below w.heap.size w w'
theorem dg_one{v:Nat}(h:(dg v).length=1):atw (dg v) 0=v:=by
 have h1:=val_two (l:=dg v) (by omega)
 rw[a8_,lj_ (l:=dg v) (i:=1) (by omega)] at h1
 omega
theorem m2_(a:OA_)(n cap:Nat)(b:OA_)(m cap':Nat)(lb:List Nat)(w:World)(hb:Wd w b m cap' lb)(hm:m≤524288000000)(h0:Hid (val lb=0)) :
 Calls Tryz.prog 153 #[.slice a n cap,.slice b m cap'] w (Two [] [] false w):=by
 go_enter Tryz.func153,Tryz.ntmps153
 go_wp2_with fail
 refine (natSaid.norm _ _ _ _ _ hb (by omega)).mono ?_
 rintro e w1 ⟨b1,M,c1,rfl,h1,hB1⟩
 rw[h0.out,co_] at h1
 obtain rfl:M=0:=h1.len.symm
 go_wp2
 go_ret3
 exact⟨_,_,_,_,_,_,rfl,Wd.ofNil _,Wd.ofNil _,hB1⟩
theorem i5_(a:OA_)(n cap:Nat)(la:List Nat)(b:OA_)(m cap':Nat)(lb:List Nat)(w:World)(ha:Wd w a n cap la)(hb:Wd w b m cap' lb)(hn:n≤524288000000)(hm:m≤524288000000)(h0:Hid (val lb≠0)) :
 Calls Tryz.prog 153 #[.slice a n cap,.slice b m cap'] w (Two (dg (val la / val lb)) (dg (val la % val lb)) true w):=by
 have hM:(dg (val lb)).length≤m:=hb.trim_le
 have Ha:=hd_ ha
 clear ha
 go_enter Tryz.func153,Tryz.ntmps153
 go_wp2_with fail
 refine (natSaid.norm _ _ _ _ _ hb (by omega)).mono ?_
 rintro e w1 ⟨b1,M,c1,rfl,h1,hB1⟩
 have HM:Hid ((dg (val lb)).length=M):=hd_ h1.len
 have hMn:M≤524288000000:=by have:=HM.out;omega
 have hM0:M≠0:=fun h=>h0.out (dg_nil_iff.1 (HM.out.trans h))
 have hMb:((M:Int) == 0)=false:=by simp[hM0]
 have H1:=hd_ h1
 have Ha1:=Ha.l_ hB1
 generalize hvb:val lb=vb at *
 clear h1 hb hM Ha hvb
 have Hv:Hid (val (dg vb)=vb):=hd_ (a8_ _)
 go_wp2_with fail
 refine (natSaid.cmp _ _ _ _ _ _ _ _ _ Ha1.out H1.out (by omega) (by omega)).mono ?_
 rintro e w2 ⟨rfl,hB2⟩
 rw[Hv.out]
 have Ha2:=Ha1.l_ hB2
 have H2:=H1.l_ hB2
 have hB12:=ab_ hB1 hB2
 clear H1 Ha1 hB1 hB2
 by_cases hlt:val la < vb
 ·have hc:cmpI (val la) vb < 0:=by rw[ig_ hlt];omega
  have Hq:Hid (val la / vb=0∧val la % vb=val la):=hd_ ⟨Nat.div_eq_of_lt hlt,Nat.mod_eq_of_lt hlt⟩
  clear hlt
  generalize cmpI (val la) vb=c at *
  go_wp2_with fail
  refine (natSaid.norm _ _ _ _ _ Ha2.out (by omega)).mono ?_
  rintro e w3 ⟨a3,n3,c3,rfl,h3,hB3⟩
  have H3:=hd_ h3
  clear h3
  go_wp2
  go_ret3
  exact⟨_,_,_,_,_,_,rfl,by rw[Hq.out.1,co_];exact Wd.ofNil _,by rw[Hq.out.2];exact H3.out,ab_ hB12 hB3⟩
 ·have hc:¬cmpI (val la) vb < 0:=by unfold cmpI;split <;> (try split) <;> omega
  have Hle:Hid (vb≤val la):=hd_ (by omega)
  clear hlt
  generalize cmpI (val la) vb=c at *
  by_cases hM1:M=1
  ·subst hM1
   obtain⟨bb,ob,rfl,hcb⟩:=H2.out.at (by omega)
   have hcb0:=hcb 0 (by omega)
   rw[dg_one HM.out,Nat.add_zero] at hcb0
   have hvw:vb < 4294967296:=by have:=cb_ vb;rw[HM.out] at this;simpa using this
   have hv0:0 < vb:=Nat.pos_of_ne_zero h0.out
   clear hcb
   go_wp2_with fail
   refine (quot_word _ _ _ _ vb _ Ha2.out (by omega) hvw hv0).mono ?_
   rintro e w3 ⟨a3,n3,c3,rfl,h3,hB3⟩
   have hrw:val la % vb < 4294967296:=Nat.lt_trans (Nat.mod_lt _ hv0) hvw
   have H3:=hd_ h3
   obtain⟨r,hr⟩:∃r,r=val la % vb:=⟨_,rfl⟩
   rw[←hr] at hrw ⊢
   have Hr:=hd_ hr
   clear h3 hr
   go_wp2_with fail
   refine (natSaid.of r _ (by omega)).mono ?_
   rintro e w4 ⟨a4,n4,c4,rfl,h4,hB4⟩
   have H4:=hd_ h4
   have H3b:=H3.l_ hB4
   clear h4
   go_wp2
   go_ret3
   exact⟨_,_,_,_,_,_,rfl,H3b.out,by rw[←Hr.out];exact H4.out,ab_ hB12 (ab_ hB3 hB4)⟩
  ·have hMc:((M:Int) == 1)=false:=by simp;omega
   go_wp2_with fail
   refine (quot_long _ _ _ _ _ _ _ vb _ Ha2.out H2.out (by omega) (by omega) (by omega) Hle).mono ?_
   rintro e w3 ⟨a3,n3,c3,b3,m3,d3,rfl,h3,k3,hB3⟩
   have H3:=hd_ h3
   have K3:=hd_ k3
   clear h3 k3
   go_wp2
   go_ret3
   exact⟨_,_,_,_,_,_,rfl,H3.out,K3.out,ab_ hB12 hB3⟩
theorem f5_(a:OA_)(n cap:Nat)(b:OA_)(m cap':Nat)(lb:List Nat)(w:World)(hb:Wd w b m cap' lb)(hm:m≤524288000000)(h0:Hid (val lb=0)) :
 Calls Tryz.prog 128 #[.slice a n cap,.slice b m cap'] w (Lst2 [] (.bool false) w):=by
 go_enter Tryz.func128,Tryz.ntmps128
 go_wp2_with fail
 refine (m2_ _ _ _ _ _ _ _ _ hb hm h0).mono ?_
 rintro e w1 ⟨a1,n1,c1,b1,m1,d1,rfl,h1,k1,hB1⟩
 go_wp2
 go_ret2
 exact⟨_,_,_,rfl,Wd.ofNil _,hB1⟩
def exactB (v x:Nat):Bool:=decide (v % x=0)
def jo_ (v x:Nat):List Nat:=if v % x=0 then dg (v / x) else []
theorem ld_(a:OA_)(n cap:Nat)(la:List Nat)(b:OA_)(m cap':Nat)(lb:List Nat)(w:World)(ha:Wd w a n cap la)(hb:Wd w b m cap' lb)(hn:n≤524288000000)(hm:m≤524288000000)(h0:Hid (val lb≠0)) :
 Calls Tryz.prog 128 #[.slice a n cap,.slice b m cap'] w (Lst2 (jo_ (val la) (val lb)) (.bool (exactB (val la) (val lb))) w):=by
 have hlen:(dg (val la % val lb)).length≤m:=by
  rw[←hb.len]
  exact Nat.le_trans (ax_ (Nat.le_of_lt (Nat.mod_lt _ (Nat.pos_of_ne_zero h0.out)))) (cs_ hb.ok)
 go_enter Tryz.func128,Tryz.ntmps128
 go_wp2_with fail
 refine (i5_ _ _ _ _ _ _ _ _ _ ha hb hn hm h0).mono ?_
 rintro e w1 ⟨a1,n1,c1,b1,m1,d1,rfl,h1,k1,hB1⟩
 have hm1:m1≤524288000000:=by rw[←k1.len];omega
 have H1:=hd_ h1
 have K1:=hd_ k1
 clear h1 k1 ha hb hlen
 have Hv:Hid (val (dg (val la % val lb))=val la % val lb):=hd_ (a8_ _)
 have HL:Hid (jo_ (val la) (val lb)=if val la % val lb=0 then dg (val la / val lb) else []):=hd_ rfl
 have HB:Hid (exactB (val la) (val lb)=decide (val la % val lb=0)):=hd_ rfl
 go_wp2_with fail
 refine (natSaid.zero _ _ _ _ _ K1.out (by omega)).mono ?_
 rintro e w2 ⟨rfl,hB2⟩
 rw[Hv.out]
 have H2:=H1.l_ hB2
 by_cases hz:val la % val lb=0
 ·rw[hz] at HL HB ⊢
  have HL2:Hid (jo_ (val la) (val lb)=dg (val la / val lb)):=hd_ HL.out
  clear hz HL
  go_wp2
  go_ret2
  exact⟨_,_,_,by rw[HB.out];rfl,by rw[HL2.out];exact H2.out,ab_ hB1 hB2⟩
 ·have HL2:Hid (jo_ (val la) (val lb)=[]):=hd_ (by rw[HL.out,if_neg hz])
  have hd:decide (val la % val lb=0)=false:=decide_eq_false hz
  rw[hd]
  rw[hd] at HB
  clear hz hd HL
  go_wp2
  go_ret2
  exact⟨_,_,_,by rw[HB.out];rfl,by rw[HL2.out];exact Wd.ofNil _,ab_ hB1 hB2⟩






def Pair2 (p q:List Nat) (w:World) (e:Ending) (w':World):Prop:=
 ∃(a:OA_) (n cap:Nat) (b:OA_) (m cap':Nat),e=.returned (.tuple #[.slice a n cap,.slice b m cap'])∧Wd w' a n cap p∧Wd w' b m cap' q∧Below w.heap.size w w'
structure CommonSaid:Prop where
end Go.Proofs.YtocebjbjnfammaaGreat
