import Derived.Test.YtocebjbjnfammaaGreatSG19
import Derived.Test.YtocebjbjnfammaaGreatSG13
import Derived.Deep.RegionHeld3
import Derived.Deep.CutRange
import Derived.Deep.RegionWith
import Derived.Deep.RegionLaw
import Derived.Test.YtocebjbjnfammaaGreatSG1
set_option maxRecDepth 4096
set_option maxHeartbeats 16000000
namespace Go.Proofs.YtocebjbjnfammaaGreat
open Go.RowKit
theorem Rf.turn{u v:List Rat}{c:Rat}(h:Rf u v)(hu:u≠[])(hc:c=1 / co u (plen u - 1)):Rf (ag_ c v) (ag_ c u)∧c≠0:=by
 have hu0:plen u≠0:=fun e=>hu (by rw[ay_ h.ur] at e;exact List.eq_nil_of_length_eq_zero e)
 have ht:=ec_ (a:=u) (n:=plen u - 1) (by omega)
 have hcu:c * co u (plen u - 1)=1:=by rw[hc];exact Rat.div_mul_cancel ht
 have hc0:c≠0:=fun e=>by rw[e,Rat.zero_mul] at hcu;exact absurd hcu (by decide)
 have hn:∀p:LR_,ah_ p=p→ah_ (ag_ c p)=ag_ c p:=fun p hp=>by
  have h1:plen (ag_ c p)=(ag_ c p).length:=by rw[bj_ hc0,ay_ hp,be_]
  rw[dq_]
  exact List.take_of_length_le (by rw[show (ah_ (ag_ c p)).length=plen (ag_ c p) from rfl,h1];exact Nat.le_refl _)
 obtain⟨s,t,hst⟩:=h.coprime
 refine ⟨⟨hn v h.vr,hn u h.ur,by rw[bj_ hc0];exact hu0,by rw[bj_ hc0,aj_];exact hcu,Cpr.sum ⟨ag_ (1 / c) t,ag_ (1 / c) s,fun x=>?_⟩⟩,hc0⟩
 have e4:1 / c * c=1:=Rat.div_mul_cancel hc0
 have e6:=hst x
 rw[au_,au_,au_,au_]
 generalize 1 / c=d at *
 have e5:d * ba_ x t * (c * ba_ x v)+d * ba_ x s * (c * ba_ x u)=d * c * (ba_ x s * ba_ x u+ba_ x t * ba_ x v):=by grind
 rw[e5,e4,e6,Rat.one_mul]
theorem isF.turn{U V u v:List Rat}{c:Rat}(h:isF U V u v)(hu:u≠[])(hc:c=1 / co u (plen u - 1)):isF V U (ag_ c v) (ag_ c u):=by
 obtain⟨h1,h2⟩:=h.1.turn hu hc
 have hn:¬(plen U=0∨plen V=0):=fun e=>hu (h.none_iff.1 e)
 refine ⟨h1,fun e=>absurd (.inl e) hn,fun _=>ap_ fun x=>?_⟩
 have e1:=ak_ x (h.2.2 (fun e=>hn (.inr e)))
 rw[ae_,ae_] at e1
 rw[ae_,ae_,au_,au_];grind
theorem Fz.turn{u v:List Rat}{h s:Nat}{c:Rat}(f:Fz u v h s)(hr:Rf u v)(hu:u≠[])(hc:c=1 / co u (plen u - 1)):Fz (ag_ c v) (ag_ c u) h s:=by
 obtain⟨a,b,d,d1,d2,d3,d4⟩:=f
 have hu0:plen u≠0:=fun e=>hu (by rw[ay_ hr.ur] at e;exact List.eq_nil_of_length_eq_zero e)
 have ht:=ec_ (a:=u) (n:=plen u - 1) (by omega)
 have hcu:c * co u (plen u - 1)=1:=by rw[hc];exact Rat.div_mul_cancel ht
 obtain⟨z,z1,z2⟩:=d3 (plen u - 1)
 rw[aj_] at z1
 have hd0:=nat_nz d1
 have hz0:z≠0:=fun e=>by
  rw[e] at z1
  rcases Rat.mul_eq_zero.1 z1 with g | g
  ·exact hd0 g
  ·exact ht g
 have hzc:(z:Rat) * c=((d:Nat):Rat):=by
  rw[←z1,Rat.mul_assoc,Rat.mul_comm (co u (plen u - 1)) c,hcu,Rat.mul_one]
 have hv:∀p:LR_,Ints (ag_ ((d:Nat):Rat) p) (pw s)→Ints (ag_ (z:Rat) (ag_ c p)) (pw s):=fun p hp=>hp.congr (fun i=>by rw[aj_,aj_,aj_,←hzc,Rat.mul_assoc])
 exact⟨by rw[be_];exact b,by rw[be_];exact a,z.natAbs,by omega,z2,(hv v d4).abs,(hv u d3).abs⟩
theorem Fv.turn{w:World}{a:Option Addr}{n c:Nat}{b:Option Addr}{m d:Nat}{u v:List Rat}{h s:Nat}{k:Rat}(f:Fv w a n c b m d u v h s)(hu:u≠[])(hc:k=1 / co u (plen u - 1)):Fv w b m d a n c (ag_ k v) (ag_ k u) h s:=by
 obtain⟨U,V,h1,h2,hf,hz,hz2⟩:=f
 exact⟨V,U,h2,h1,hf.turn hu hc,hz.swap,hz2.turn hf.1 hu hc⟩
theorem quo_form{u v x y A D:List Rat}{c:Rat}(h:isF (pmul u (ag_ c y)) (pmul v (ag_ c x)) A D)(hc:c≠0)(hv:plen v≠0)(hx:plen x≠0):isF (pmul u y) (pmul v x) A D:=by
 have hx2:plen (ag_ c x)≠0:=by rw[bj_ hc];exact hx
 refine h.cross (e8_ hv hx2) (e8_ hv hx) (ap_ fun z=>?_)
 rw[ae_,ae_,ae_,ae_,ae_,ae_,au_,au_];grind
theorem l2_(S:PolySaid)(a:OA_)(n c:Nat)(b:OA_)(m d:Nat)(u v:LR_)(h s:Nat)(w:World)(hA:Fv w a n c b m d u v h s)(hs:s+2≤1900000000)(hh:h≤50):Calls Tryz.prog 23 #[.agg #[.slice a n c,.slice b m d]] w (bi_ (.bool (decide (u=[]))) w):=by
 obtain⟨U,V,hU,hV,hf,hz,_⟩:=hA
 have h9:=lj_ S a n c b m d U V (s+2) w hU hV (by rw[←hU.len];have:=hz.lu;omega) (by rw[←hV.len];have:=hz.lv;omega) hs
 rwa [show decide (plen U=0∨plen V=0)=decide (u=[]) from decide_eq_decide.2 hf.none_iff] at h9
theorem st_(S:PolySaid)(FS:FracSaid)(a:OA_)(n c:Nat)(b:OA_)(m d:Nat)(h s:Nat)(a':OA_)(n' c':Nat)(b':OA_)(m' d':Nat)(x y:LR_)(k t:Nat)(w:World)(hB:Fv w a' n' c' b' m' d' x y k t)(hk:Fok2 h s k t)(hx0:x=[]):Calls Tryz.prog 29 #[.agg #[.slice a n c,.slice b m d],.agg #[.slice a' n' c',.slice b' m' d']] w (LstEV [] [1] (.bool false) w):=by
 obtain⟨s1,s2⟩:=on_ hk.1
 have HZE:∀w':World,Fv w' a' n' c' b' m' d' x y k t→Calls Tryz.prog 23 #[.agg #[.slice a' n' c',.slice b' m' d']] w' (bi_ (.bool true) w'):=fun w' g=>by
  have h9:=l2_ S a' n' c' b' m' d' x y k t w' g (by omega) (by omega)
  rwa [decide_eq_true hx0] at h9
 obtain⟨z0,hz0⟩:∃q:Rat,((0:Int):Rat)=q:=⟨_,rfl⟩
 have hz00:z0=0:=by rw[←hz0];rfl
 have lz:qlen z0≤2:=by rw[←hz0];exact br_ (by decide)
 have HO0:∀w':World,Calls Tryz.prog 47 #[.int .i64 0] w' (LstQ z0 w'):=fun w'=>hz0▸FS.of 0 w' (by decide)
 have HOF:∀(w':World) (a2:OA_) (n2 c2:Nat) (b2:OA_) (m2 d2:Nat),Wd w' a2 n2 c2 (dg z0.num.natAbs)→Wd w' b2 m2 d2 (dg z0.den)→Calls Tryz.prog 28 #[.agg #[.bool (zneg z0.num),.slice a2 n2 c2,.slice b2 m2 d2]] w' (LstE [] [1] w'):=fun w' a2 n2 c2 b2 m2 d2 g1 g2=>by
  have h9:=hj_ S FS _ z0 2 w' (Fr.right g1 g2 (by have:=g1.len;have:=a8_ z0;omega) (by have:=g2.len;have:=a7_ z0;omega)) (by decide) (Nat.le_refl 2)
  rwa [show ah_ [z0,0]=[] by rw[hz00];decide +kernel] at h9
 clear hz0 hz00 lz
 have HB:=hd_ (ab_ (ab_ (aa_ w (.cells #[.slice a n c,.slice b m d] 35)) (aa_ _ (.cells #[.slice a' n' c',.slice b' m' d'] 35))) (aa_ _ (.cells #[.slice none 0 0,.slice none 0 0] 35)))
 have X0:Hid ((((w.alloc (.cells #[.slice a n c,.slice b m d] 35)).alloc (.cells #[.slice a' n' c',.slice b' m' d'] 35)).alloc (.cells #[.slice none 0 0,.slice none 0 0] 35)).heap[w.heap.size]? = some (.cells #[.slice a n c,.slice b m d] 35 (0,0))):=hd_ (ac_ (ac_ (ai_ w _ _) (aa_ _ (.cells #[.slice a' n' c',.slice b' m' d'] 35))) (aa_ _ (.cells #[.slice none 0 0,.slice none 0 0] 35)))
 have X1:Hid ((((w.alloc (.cells #[.slice a n c,.slice b m d] 35)).alloc (.cells #[.slice a' n' c',.slice b' m' d'] 35)).alloc (.cells #[.slice none 0 0,.slice none 0 0] 35)).heap[w.heap.size+1]? = some (.cells #[.slice a' n' c',.slice b' m' d'] 35 (0,0))):=hd_ (ac_ (by have h9:=ai_ (w.alloc (.cells #[.slice a n c,.slice b m d] 35)) #[.slice a' n' c',.slice b' m' d'] 35;rwa [al_] at h9) (aa_ _ (.cells #[.slice none 0 0,.slice none 0 0] 35)))
 have R0:Hid ((((w.alloc (.cells #[.slice a n c,.slice b m d] 35)).alloc (.cells #[.slice a' n' c',.slice b' m' d'] 35)).alloc (.cells #[.slice none 0 0,.slice none 0 0] 35)).heap[w.heap.size+1+1]? = some (.cells #[.slice none 0 0,.slice none 0 0] 35 (0,0))):=hd_ (by have h9:=ai_ ((w.alloc (.cells #[.slice a n c,.slice b m d] 35)).alloc (.cells #[.slice a' n' c',.slice b' m' d'] 35)) #[.slice none 0 0,.slice none 0 0] 35;rwa [al_,al_] at h9)
 have FB:=hd_ (hB.later HB.out)
 have x0:=af_ X1.out 0
 have x1:=af_ X1.out 1
 simp only[List.getElem?_toArray,List.getElem?_cons_zero,List.getElem?_cons_succ] at x0 x1
 clear hB hk s1 s2 hx0
 go_enter Tryz.func29,Tryz.ntmps29
 go_wp2_with fail
 refine (HZE _ FB.out).mono ?_
 rintro e w1 ⟨rfl,b⟩
 clear x0 x1 HZE FB X0 X1
 replace HB:=bt_ HB b
 replace R0:=bl_ R0 b
 clear b
 go_wp2_with fail
 refine (HO0 _).mono ?_
 rintro e w2 ⟨a5,n5,c5,b5,m5,d5,rfl,h5,g5,b⟩
 replace HB:=bt_ HB b
 replace R0:=bl_ R0 b
 have Z1:=hd_ h5
 have Z2:=hd_ g5
 clear h5 g5 b HO0
 unfold frV
 go_wp2_with fail
 refine (HOF _ _ _ _ _ _ _ Z1.out Z2.out).mono ?_
 rintro e w3 ⟨a6,n6,c6,b6,m6,d6,rfl,h6,g6,b⟩
 replace HB:=bt_ HB b
 replace R0:=bl_ R0 b
 have P9:=hd_ h6
 have Q9:=hd_ g6
 clear h6 g6 b HOF Z1 Z2
 obtain⟨r0,r1⟩:=a0_ R0.out
 have e0:=ad_ R0.out 0
 have e1:=ad_ R0.out 1
 have R9:=hd_ (a4_ R0.out (.slice a6 n6 c6) (.slice b6 m6 d6))
 replace P9:=hd_ (P9.out.boxed R0.out (.slice a6 n6 c6) (.slice b6 m6 d6))
 replace Q9:=hd_ (Q9.out.boxed R0.out (.slice a6 n6 c6) (.slice b6 m6 d6))
 have G9:=hd_ (an_ HB.out (show w.heap.size≤w.heap.size+1+1 by omega) (.slice a6 n6 c6) (.slice b6 m6 d6))
 go_wp2
 refine bodyPost_ret (bb_ Tryz.results29 _ _ (w.heap.size+1+1) 35 #[.slice a6 n6 c6,.slice b6 m6 d6] (0,0) _ rfl R9.out Tryz.underlying35 rfl (by kernel_rfl)) rfl ?_
 exact⟨a6,n6,c6,b6,m6,d6,rfl,P9.out,Q9.out,G9.out⟩
theorem p8_(S:PolySaid)(FS:FracSaid)(a:OA_)(n c:Nat)(b:OA_)(m d:Nat)(u v:LR_)(h s:Nat)(a':OA_)(n' c':Nat)(b':OA_)(m' d':Nat)(x y:LR_)(k t:Nat)(w:World)(hA:Fv w a n c b m d u v h s)(hB:Fv w a' n' c' b' m' d' x y k t)(hk:Fok2 h s k t)(hx0:x≠[]):Calls Tryz.prog 29 #[.agg #[.slice a n c,.slice b m d],.agg #[.slice a' n' c',.slice b' m' d']] w (LstFV (pmul u y) (pmul v x) (.bool true) w):=by
 obtain⟨s1,s2⟩:=on_ hk.1
 have hxr:=hB.rf
 have hv0:=hA.rf.v0
 have hxp:plen x≠0:=fun e=>hx0 (by rw[ay_ hxr.ur] at e;exact List.eq_nil_of_length_eq_zero e)
 have HZE:∀w':World,Fv w' a' n' c' b' m' d' x y k t→Calls Tryz.prog 23 #[.agg #[.slice a' n' c',.slice b' m' d']] w' (bi_ (.bool false) w'):=fun w' g=>by
  have h9:=l2_ S a' n' c' b' m' d' x y k t w' g (by omega) (by omega)
  rwa [decide_eq_false hx0] at h9
 have HMU:∀w':World,Fv w' a n c b m d u v h s→Fv w' a' n' c' b' m' d' x y k t→Calls Tryz.prog 38 #[.agg #[.slice a n c,.slice b m d],.agg #[.slice b' m' d',.slice a' n' c']] w' (LstF (pmul u y) (pmul v x) w'):=fun w' g1 g2=>(ti_ S FS a n c b m d u v h s b' m' d' a' n' c' _ _ k t w' g1 (g2.turn hx0 rfl) hk).mono fun e w2 h9=>by
  obtain⟨a4,n4,c4,x4,b4,m4,d4,y4,k1,k2,k3,k4,k5⟩:=h9
  exact⟨a4,n4,c4,x4,b4,m4,d4,y4,k1,k2,k3,quo_form k4 (hxr.turn hx0 rfl).2 hv0 hxp,k5⟩
 have HB:=hd_ (ab_ (ab_ (aa_ w (.cells #[.slice a n c,.slice b m d] 35)) (aa_ _ (.cells #[.slice a' n' c',.slice b' m' d'] 35))) (aa_ _ (.cells #[.slice none 0 0,.slice none 0 0] 35)))
 have X0:Hid ((((w.alloc (.cells #[.slice a n c,.slice b m d] 35)).alloc (.cells #[.slice a' n' c',.slice b' m' d'] 35)).alloc (.cells #[.slice none 0 0,.slice none 0 0] 35)).heap[w.heap.size]? = some (.cells #[.slice a n c,.slice b m d] 35 (0,0))):=hd_ (ac_ (ac_ (ai_ w _ _) (aa_ _ (.cells #[.slice a' n' c',.slice b' m' d'] 35))) (aa_ _ (.cells #[.slice none 0 0,.slice none 0 0] 35)))
 have X1:Hid ((((w.alloc (.cells #[.slice a n c,.slice b m d] 35)).alloc (.cells #[.slice a' n' c',.slice b' m' d'] 35)).alloc (.cells #[.slice none 0 0,.slice none 0 0] 35)).heap[w.heap.size+1]? = some (.cells #[.slice a' n' c',.slice b' m' d'] 35 (0,0))):=hd_ (ac_ (by have h9:=ai_ (w.alloc (.cells #[.slice a n c,.slice b m d] 35)) #[.slice a' n' c',.slice b' m' d'] 35;rwa [al_] at h9) (aa_ _ (.cells #[.slice none 0 0,.slice none 0 0] 35)))
 have R0:Hid ((((w.alloc (.cells #[.slice a n c,.slice b m d] 35)).alloc (.cells #[.slice a' n' c',.slice b' m' d'] 35)).alloc (.cells #[.slice none 0 0,.slice none 0 0] 35)).heap[w.heap.size+1+1]? = some (.cells #[.slice none 0 0,.slice none 0 0] 35 (0,0))):=hd_ (by have h9:=ai_ ((w.alloc (.cells #[.slice a n c,.slice b m d] 35)).alloc (.cells #[.slice a' n' c',.slice b' m' d'] 35)) #[.slice none 0 0,.slice none 0 0] 35;rwa [al_,al_] at h9)
 have FA:=hd_ (hA.later HB.out)
 have FB:=hd_ (hB.later HB.out)
 obtain⟨x0,x1,x2,x3⟩:=am_ X0.out X1.out
 generalize pmul u y=pu at *
 generalize pmul v x=pv at *
 clear hA hB hk s1 s2 hx0 hxr hv0 hxp
 go_enter Tryz.func29,Tryz.ntmps29
 go_wp2_with fail
 refine (HZE _ FB.out).mono ?_
 rintro e w1 ⟨rfl,b⟩
 clear x0 x1 x2 x3 HZE
 replace HB:=bt_ HB b
 replace R0:=bl_ R0 b
 replace X0:=bl_ X0 b
 replace X1:=bl_ X1 b
 replace FA:=FA.l_ b
 replace FB:=FB.l_ b
 clear b
 obtain⟨x0,x1,x2,x3⟩:=am_ X0.out X1.out
 go_wp2_with fail
 refine (HMU _ FA.out FB.out).mono ?_
 rintro e w2 ⟨a2,n2,c2,qu,b2,m2,d2,qv,rfl,h2,g2,k2,b⟩
 clear x0 x1 x2 x3 HMU FA FB X0 X1
 replace HB:=bt_ HB b
 replace R0:=bl_ R0 b
 have P9:=hd_ h2
 have Q9:=hd_ g2
 have KF:=hd_ k2
 clear h2 g2 k2 b
 obtain⟨r0,r1⟩:=a0_ R0.out
 have e0:=ad_ R0.out 0
 have e1:=ad_ R0.out 1
 have R9:=hd_ (a4_ R0.out (.slice a2 n2 c2) (.slice b2 m2 d2))
 replace P9:=hd_ (P9.out.boxed R0.out (.slice a2 n2 c2) (.slice b2 m2 d2))
 replace Q9:=hd_ (Q9.out.boxed R0.out (.slice a2 n2 c2) (.slice b2 m2 d2))
 have G9:=hd_ (an_ HB.out (show w.heap.size≤w.heap.size+1+1 by omega) (.slice a2 n2 c2) (.slice b2 m2 d2))
 go_wp2
 refine bodyPost_ret (bb_ Tryz.results29 _ _ (w.heap.size+1+1) 35 #[.slice a2 n2 c2,.slice b2 m2 d2] (0,0) _ rfl R9.out Tryz.underlying35 rfl (by kernel_rfl)) rfl ?_
 exact⟨a2,n2,c2,qu,b2,m2,d2,qv,rfl,P9.out,Q9.out,KF.out,G9.out⟩
theorem ot_(S:PolySaid)(FS:FracSaid)(a:OA_)(n c:Nat)(b:OA_)(m d:Nat)(u v U V:LR_)(h s:Nat)(v9:Value)(x:Rat)(X:Nat)(w:World)(hU:Pv w a n c U (s+2))(hV:Pv w b m d V (s+2))(hf:isF U V u v)(hz:Fz U V h s)(hz2:Fz u v h s)(h9:Fr w v9 x X)(hk:Fok h s)(hb:(h+1) * ((h+1) * (X+8)+(s+3)+8)≤1900000000)(h0:ba_ x V=0):Calls Tryz.prog 16 #[.agg #[.slice a n c,.slice b m d],v9] w (gp_ (ba_ x u / ba_ x v) (.bool (decide (ba_ x v≠0))) w):=by
 obtain⟨s1,s2⟩:=on_ hk
 have hb9:∀n:Nat,n≤h→(n+1) * ((n+1) * (X+8)+(s+2)+8)≤1900000000:=fun n hn=>Nat.le_trans (Nat.mul_le_mul (by omega) (by have:(n+1) * (X+8)≤(h+1) * (X+8):=Nat.mul_le_mul_right _ (by omega);omega)) hb
 have lU:=hz.lu
 have lV:=hz.lv
 rw[hU.len] at lU
 rw[hV.len] at lV
 have lu:=hz2.lu
 have lv:=hz2.lv
 obtain⟨s9,a9,n9,c9,l9,b9,m9,d9,k9,rfl,h91,h92,h93,h94,h95⟩:=h9
 have HX9:=hd_ h95
 have HQ1:∀w':World,Pv w' a n c U (s+2)→Pv w' b m d V (s+2)→Wd w' a9 n9 c9 l9→Wd w' b9 m9 d9 k9→Calls Tryz.prog 68 #[.agg #[.slice a n c,.slice b m d],.agg #[.bool s9,.slice a9 n9 c9,.slice b9 m9 d9]] w' (gp_ (ba_ x U / ba_ x V) (.bool (decide (ba_ x V≠0))) w'):=fun w' g1 g2 g3 g4=>jm_ S FS a n c b m d U V _ x (s+2) X w' g1 g2 (Fr.of g3 g4 h93 h94 HX9.out) (by omega) (by omega) (hb9 n lU) (hb9 m lV)
 rw[decide_eq_false (by simp[h0]:¬(ba_ x V≠0))] at HQ1
 obtain⟨r,hr⟩:∃r,ba_ x U / ba_ x V=r:=⟨_,rfl⟩
 rw[hr] at HQ1
 have HNO:∀w':World,Pv w' a n c U (s+2)→Pv w' b m d V (s+2)→Calls Tryz.prog 20 #[.agg #[.slice a n c,.slice b m d]] w' (LstE u v w'):=fun w' g1 g2=>fa_ S FS a n c b m d u v h s w' ⟨U,V,g1,g2,hf,hz,hz2⟩ hk
 obtain⟨q,hq⟩:∃r,ba_ x u / ba_ x v=r:=⟨_,rfl⟩
 obtain⟨bo,hbo⟩:∃r,decide (ba_ x v≠0)=r:=⟨_,rfl⟩
 have HQ2:∀(w':World) (a1:OA_) (n1 c1:Nat) (b1:OA_) (m1 d1:Nat),Rw w' a1 n1 c1 u→Rw w' b1 m1 d1 v→Wd w' a9 n9 c9 l9→Wd w' b9 m9 d9 k9→Calls Tryz.prog 68 #[.agg #[.slice a1 n1 c1,.slice b1 m1 d1],.agg #[.bool s9,.slice a9 n9 c9,.slice b9 m9 d9]] w' (gp_ q (.bool bo) w'):=fun w' a1 n1 c1 b1 m1 d1 g1 g2 g3 g4=>hq▸hbo▸jm_ S FS a1 n1 c1 b1 m1 d1 u v _ x (s+2) X w' (Pv.right g1 hz2.qlen) (Pv.right g2 hz2.swap.qlen) (Fr.of g3 g4 h93 h94 HX9.out) (by rw[←g1.len];omega) (by rw[←g2.len];omega) (hb9 n1 (by rw[←g1.len];exact lu)) (hb9 m1 (by rw[←g2.len];exact lv))
 rw[hq,hbo]
 have HB:=hd_ (ab_ (ab_ (aa_ w (.cells #[.slice a n c,.slice b m d] 35)) (aa_ _ (.cells #[.bool s9,.slice a9 n9 c9,.slice b9 m9 d9] 44))) (aa_ _ (.cells #[.bool false,.slice none 0 0,.slice none 0 0] 44)))
 have X0:Hid ((((w.alloc (.cells #[.slice a n c,.slice b m d] 35)).alloc (.cells #[.bool s9,.slice a9 n9 c9,.slice b9 m9 d9] 44)).alloc (.cells #[.bool false,.slice none 0 0,.slice none 0 0] 44)).heap[w.heap.size]? = some (.cells #[.slice a n c,.slice b m d] 35 (0,0))):=hd_ (ac_ (ac_ (ai_ w _ _) (aa_ _ (.cells #[.bool s9,.slice a9 n9 c9,.slice b9 m9 d9] 44))) (aa_ _ (.cells #[.bool false,.slice none 0 0,.slice none 0 0] 44)))
 have X1:Hid ((((w.alloc (.cells #[.slice a n c,.slice b m d] 35)).alloc (.cells #[.bool s9,.slice a9 n9 c9,.slice b9 m9 d9] 44)).alloc (.cells #[.bool false,.slice none 0 0,.slice none 0 0] 44)).heap[w.heap.size+1]? = some (.cells #[.bool s9,.slice a9 n9 c9,.slice b9 m9 d9] 44 (0,0))):=hd_ (ac_ (by have h9:=ai_ (w.alloc (.cells #[.slice a n c,.slice b m d] 35)) #[.bool s9,.slice a9 n9 c9,.slice b9 m9 d9] 44;rwa [al_] at h9) (aa_ _ (.cells #[.bool false,.slice none 0 0,.slice none 0 0] 44)))
 have R0:Hid ((((w.alloc (.cells #[.slice a n c,.slice b m d] 35)).alloc (.cells #[.bool s9,.slice a9 n9 c9,.slice b9 m9 d9] 44)).alloc (.cells #[.bool false,.slice none 0 0,.slice none 0 0] 44)).heap[w.heap.size+1+1]? = some (.cells #[.bool false,.slice none 0 0,.slice none 0 0] 44 (0,0))):=hd_ (by have h9:=ai_ ((w.alloc (.cells #[.slice a n c,.slice b m d] 35)).alloc (.cells #[.bool s9,.slice a9 n9 c9,.slice b9 m9 d9] 44)) #[.bool false,.slice none 0 0,.slice none 0 0] 44;rwa [al_,al_] at h9)
 have FU:=hd_ (hU.later HB.out)
 have FV:=hd_ (hV.later HB.out)
 have F3:=hd_ (h91.later HB.out)
 have F4:=hd_ (h92.later HB.out)
 obtain⟨x0,x1,x2,x3,x4⟩:=cw_ X0.out X1.out
 clear hU hV hf hz hz2 hk hb h0 s1 s2 hb9 lU lV lu lv h91 h92 h93 h94 h95 HX9 hr hq hbo
 go_enter Tryz.func16,Tryz.ntmps16
 unfold frV
 go_wp2_with fail
 refine (HQ1 _ FU.out FV.out F3.out F4.out).mono ?_
 rintro e w1 ⟨a5,n5,c5,b5,m5,d5,rfl,h5,g5,b⟩
 clear x0 x1 x2 x3 x4 HQ1
 unfold frV
 have ba:=aa_ w1 (.cells #[.bool (zneg r.num),.slice a5 n5 c5,.slice b5 m5 d5] 44)
 have T0:=hd_ (ai_ w1 #[.bool (zneg r.num),.slice a5 n5 c5,.slice b5 m5 d5] 44)
 have hT9:w.heap.size+1+1 < w1.heap.size:=by
  have h9:=(Array.getElem?_eq_some_iff.1 (ac_ R0.out b)).1
  exact h9
 replace HB:=hd_ (ab_ (ab_ HB.out b) ba)
 replace X0:=hd_ (ac_ (ac_ X0.out b) ba)
 replace X1:=hd_ (ac_ (ac_ X1.out b) ba)
 replace R0:=hd_ (ac_ (ac_ R0.out b) ba)
 have GA:=hd_ ((FU.out.later b).later ba)
 have GB:=hd_ ((FV.out.later b).later ba)
 replace F3:=hd_ ((F3.out.later b).later ba)
 replace F4:=hd_ ((F4.out.later b).later ba)
 clear b ba h5 g5 FU FV
 obtain⟨g0,hg0⟩:∃g,w1.heap.size=g:=⟨_,rfl⟩
 rw[hg0] at hT9 T0
 go_wp2
 clear hg0
 generalize (w1.alloc (.cells #[.bool (zneg r.num),.slice a5 n5 c5,.slice b5 m5 d5] 44))=W at *
 replace HB:=bt_ HB (dw_ W)
 replace X0:Hid (W.drew.heap[w.heap.size]? = _):=hd_ X0.out
 replace X1:Hid (W.drew.heap[w.heap.size+1]? = _):=hd_ X1.out
 replace R0:Hid (W.drew.heap[w.heap.size+1+1]? = some (.cells #[.bool false,.slice none 0 0,.slice none 0 0] 44 (0,0))):=hd_ R0.out
 replace T0:Hid (W.drew.heap[g0]? = some (.cells #[.bool (zneg r.num),.slice a5 n5 c5,.slice b5 m5 d5] 44 (0,0))):=hd_ T0.out
 replace GA:=GA.l_ (dw_ W)
 replace GB:=GB.l_ (dw_ W)
 replace F3:=F3.l_ (dw_ W)
 replace F4:=F4.l_ (dw_ W)
 have pSn:=cw_ X0.out X1.out
 go_region_held3 (fun w'=>w'.cell? ⟨w.heap.size,0,none⟩=some (.slice a n c)∧w'.cell? ⟨w.heap.size,1,none⟩=some (.slice b m d)∧w'.cell? ⟨w.heap.size+1,0,none⟩=some (.bool s9)∧w'.cell? ⟨w.heap.size+1,1,none⟩=some (.slice a9 n9 c9)∧w'.cell? ⟨w.heap.size+1,2,none⟩=some (.slice b9 m9 d9)) (first | exact pSn | exact pSb _ _ _)
  (first
  | (go_at_call 20;(first
    | (refine (HNO _ GA.out GB.out).mono ?_;rintro e wp1 ⟨a21,n21,c21,b21,m21,d21,rfl,h21,g21,b⟩;replace HB:=bt_ HB b;replace X0:=bl_ X0 b;replace X1:=bl_ X1 b;replace R0:=bl_ R0 b;replace T0:=bl_ T0 b;replace GA:=GA.l_ b;replace GB:=GB.l_ b;replace F3:=F3.l_ b;replace F4:=F4.l_ b;have P1:=hd_ h21;have P2:=hd_ g21;clear h21 g21;clear b;clear pSn;have pSn:=cw_ X0.out X1.out;have pM1:=True.intro)))
  | (go_at_call 68;(first
    | (have pm1:=pM1;refine (HQ2 _ _ _ _ _ _ _ P1.out P2.out F3.out F4.out).mono ?_;rintro e wp2 ⟨a22,n22,c22,b22,m22,d22,rfl,h22,g22,b⟩;replace HB:=bt_ HB b;replace X0:=bl_ X0 b;replace X1:=bl_ X1 b;replace R0:=bl_ R0 b;replace T0:=bl_ T0 b;replace GA:=GA.l_ b;replace GB:=GB.l_ b;replace F3:=F3.l_ b;replace F4:=F4.l_ b;clear P1;clear P2;have Z1:=hd_ h22;have Z2:=hd_ g22;clear h22 g22;unfold frV;obtain⟨r0,r1,r2⟩:=as_ T0.out;have e0:=ad_ T0.out 0;have e1:=ad_ T0.out 1;have e2:=ad_ T0.out 2;have pSb:=fun u v q=>cw_ (bw_ (g:=g0) X0.out (by omega) u v q) (bw_ (g:=g0) X1.out (by omega) u v q);clear b;clear pSn;have pSn:=cw_ X0.out X1.out;clear pM1 pm1;have pM2:=True.intro))))
 have T9:=hd_ (bm_ T0.out (.bool (zneg q.num)) (.slice a22 n22 c22) (.slice b22 m22 d22))
 have RB:=hd_ (bw_ (g:=g0) R0.out (show w.heap.size+1+1≠g0 by omega) (.bool (zneg q.num)) (.slice a22 n22 c22) (.slice b22 m22 d22))
 have ZA:=hd_ (Z1.out.stored3 T0.out (zneg q.num) a22 n22 c22 (.slice b22 m22 d22))
 have ZD:=hd_ (Z2.out.stored3 T0.out (zneg q.num) a22 n22 c22 (.slice b22 m22 d22))
 have HB8:=hd_ (az_ HB.out (show w.heap.size≤g0 by omega) (.bool (zneg q.num)) (.slice a22 n22 c22) (.slice b22 m22 d22))
 generalize hW2:(((wp2.setCell ⟨g0,0,none⟩ (.bool (zneg q.num))).setCell ⟨g0,1,none⟩ (.slice a22 n22 c22)).setCell ⟨g0,2,none⟩ (.slice b22 m22 d22))=W2 at T9 RB ZA ZD HB8
 obtain⟨t0,t1,t2⟩:=as_ T9.out
 obtain⟨y0,y1,y2⟩:=as_ RB.out
 have f0:=ad_ RB.out 0
 have f1:=ad_ RB.out 1
 have f2:=ad_ RB.out 2
 have R9:=hd_ (bm_ RB.out (.bool (zneg q.num)) (.slice a22 n22 c22) (.slice b22 m22 d22))
 have P9:=hd_ (ZA.out.stored3 RB.out (zneg q.num) a22 n22 c22 (.slice b22 m22 d22))
 have Q9:=hd_ (ZD.out.stored3 RB.out (zneg q.num) a22 n22 c22 (.slice b22 m22 d22))
 have G9:=hd_ (az_ HB8.out (show w.heap.size≤w.heap.size+1+1 by omega) (.bool (zneg q.num)) (.slice a22 n22 c22) (.slice b22 m22 d22))
 subst hW2
 go_wp2
 refine bodyPost_ret (bb_ Tryz.results16 _ _ (w.heap.size+1+1) 44 #[.bool (zneg q.num),.slice a22 n22 c22,.slice b22 m22 d22] (0,0) _ rfl R9.out Tryz.underlying44 rfl (by kernel_rfl)) rfl ?_
 exact⟨a22,n22,c22,b22,m22,d22,rfl,P9.out,Q9.out,G9.out⟩
def BoxE (w:World) (g:Nat) (t:TypeId) (u v:LR_):Prop:=
 ∃(a:OA_) (n c:Nat) (b:OA_) (m d:Nat),w.heap[g]? = some (.cells #[.slice a n c,.slice b m d] t (0,0))∧Rw w a n c u∧Rw w b m d v
theorem Fv.boxed{w:World}{a:Option Addr}{n c:Nat}{b:Option Addr}{m d:Nat}{u v:List Rat}{h s:Nat}(f:Fv w a n c b m d u v h s){g:Nat}{x y:Option Addr}{n1 c1 n2 c2:Nat}{t:TypeId}(hg:w.heap[g]? = some (.cells #[.slice x n1 c1,.slice y n2 c2] t (0,0)))(p q:Value):Fv ((w.setCell ⟨g,0,none⟩ p).setCell ⟨g,1,none⟩ q) a n c b m d u v h s:=by
 obtain⟨U,V,h1,h2,h3⟩:=f
 exact⟨U,V,h1.boxed hg p q,h2.boxed hg p q,h3⟩
theorem ppow_next(u:LR_)(k:Nat):ah_ (pmul (ah_ (ppow u k)) u)=ah_ (ppow u (k+1)):=bu_ (a6_ (ar_ _) (peq.refl _))
theorem j5_(c x:Rat)(p:LR_):∀k:Nat,ba_ x (ppow (ag_ c p) k)=c ^ k * ba_ x (ppow p k)
 | 0=>by
   show ba_ x [1]=c ^ 0 * ba_ x [1]
   rw[Rat.pow_zero,Rat.one_mul]
 | k+1=>by
   show ba_ x (pmul (ppow (ag_ c p) k) (ag_ c p))=c ^ (k+1) * ba_ x (pmul (ppow p k) p)
   rw[ae_,ae_,j5_ c x p k,au_,Rat.pow_succ];grind
theorem qs_{u v A D:List Rat}{c:Rat}{k:Nat}(h:isF (ppow (ag_ c v) k) (ppow (ag_ c u) k) A D)(hu:plen u≠0)(hc:c≠0):isF (ppow v k) (ppow u k) A D:=by
 have h1:plen (ag_ c u)≠0:=by rw[bj_ hc];exact hu
 refine h.cross (hf_ h1 k) (hf_ hu k) (ap_ fun z=>?_)
 rw[ae_,ae_,j5_,j5_];grind
theorem pow_mul(S:PolySaid){u v:List Rat}(f:Fz u v 3 42){k:Nat}(hk:k < 3)(w':World)(a3:OA_)(n3 c3:Nat)(a4:OA_)(n4 c4:Nat)(g1:Rw w' a3 n3 c3 (ah_ (ppow u k)))(g2:Rw w' a4 n4 c4 u):Calls Tryz.prog 75 #[.slice a3 n3 c3,.slice a4 n4 c4] w' (b8_ (ah_ (ppow u (k+1))) w'):=by
 have h1:=(f.pow (by decide) k (by omega)).norms
 have h2:=h1.lu
 have h3:=f.lu
 have e3:=g1.len
 have e4:=g2.len
 have h9:=nb_ S (Pv.right g1 (N:=200) (fun q hq=>Nat.le_trans (h1.qlen q hq) (by omega))) (Pv.right g2 (N:=200) (fun q hq=>Nat.le_trans (f.qlen q hq) (by omega))) (by omega) (by omega) (Nat.le_trans (Nat.mul_le_mul (show n3+1≤20 by omega) (Nat.le_refl _)) (by decide))
 rwa [ppow_next] at h9
theorem pz_(S:PolySaid)(FS:FracSaid)(a:OA_)(n c:Nat)(b:OA_)(m d:Nat)(e:Int)(w:World)(he:e < -8):Calls Tryz.prog 31 #[.agg #[.slice a n c,.slice b m d],.int .i64 e] w (LstEV [] [1] (.bool false) w):=by
 obtain⟨z0,hz0⟩:∃q:Rat,((0:Int):Rat)=q:=⟨_,rfl⟩
 have hz00:z0=0:=by rw[←hz0];rfl
 have lz:qlen z0≤2:=by rw[←hz0];exact br_ (by decide)
 have HO0:∀w':World,Calls Tryz.prog 47 #[.int .i64 0] w' (LstQ z0 w'):=fun w'=>hz0▸FS.of 0 w' (by decide)
 have HOF:∀(w':World) (a2:OA_) (n2 c2:Nat) (b2:OA_) (m2 d2:Nat),Wd w' a2 n2 c2 (dg z0.num.natAbs)→Wd w' b2 m2 d2 (dg z0.den)→Calls Tryz.prog 28 #[.agg #[.bool (zneg z0.num),.slice a2 n2 c2,.slice b2 m2 d2]] w' (LstE [] [1] w'):=fun w' a2 n2 c2 b2 m2 d2 g1 g2=>by
  have h9:=hj_ S FS _ z0 2 w' (Fr.right g1 g2 (by have:=g1.len;have:=a8_ z0;omega) (by have:=g2.len;have:=a7_ z0;omega)) (by decide) (Nat.le_refl 2)
  rwa [show ah_ [z0,0]=[] by rw[hz00];decide +kernel] at h9
 clear hz0 hz00 lz
 have HB:=hd_ (ab_ (aa_ w (.cells #[.slice a n c,.slice b m d] 35)) (aa_ _ (.cells #[.slice none 0 0,.slice none 0 0] 35)))
 have X0:Hid (((w.alloc (.cells #[.slice a n c,.slice b m d] 35)).alloc (.cells #[.slice none 0 0,.slice none 0 0] 35)).heap[w.heap.size]? = some (.cells #[.slice a n c,.slice b m d] 35 (0,0))):=hd_ (ac_ (ai_ w _ _) (aa_ _ (.cells #[.slice none 0 0,.slice none 0 0] 35)))
 have R0:Hid (((w.alloc (.cells #[.slice a n c,.slice b m d] 35)).alloc (.cells #[.slice none 0 0,.slice none 0 0] 35)).heap[w.heap.size+1]? = some (.cells #[.slice none 0 0,.slice none 0 0] 35 (0,0))):=hd_ (by have h9:=ai_ (w.alloc (.cells #[.slice a n c,.slice b m d] 35)) #[.slice none 0 0,.slice none 0 0] 35;rwa [al_] at h9)
 go_enter Tryz.func31,Tryz.ntmps31
 go_wp2_with fail
 refine (HO0 _).mono ?_
 rintro e w2 ⟨a5,n5,c5,b5,m5,d5,rfl,h5,g5,b⟩
 replace HB:=bt_ HB b
 replace R0:=bl_ R0 b
 have Z1:=hd_ h5
 have Z2:=hd_ g5
 clear h5 g5 b HO0
 unfold frV
 go_wp2_with fail
 refine (HOF _ _ _ _ _ _ _ Z1.out Z2.out).mono ?_
 rintro e w3 ⟨a6,n6,c6,b6,m6,d6,rfl,h6,g6,b⟩
 replace HB:=bt_ HB b
 replace R0:=bl_ R0 b
 have P9:=hd_ h6
 have Q9:=hd_ g6
 clear h6 g6 b HOF Z1 Z2
 obtain⟨r0,r1⟩:=a0_ R0.out
 have e0:=ad_ R0.out 0
 have e1:=ad_ R0.out 1
 have R9:=hd_ (a4_ R0.out (.slice a6 n6 c6) (.slice b6 m6 d6))
 replace P9:=hd_ (P9.out.boxed R0.out (.slice a6 n6 c6) (.slice b6 m6 d6))
 replace Q9:=hd_ (Q9.out.boxed R0.out (.slice a6 n6 c6) (.slice b6 m6 d6))
 have G9:=hd_ (an_ HB.out (show w.heap.size≤w.heap.size+1 by omega) (.slice a6 n6 c6) (.slice b6 m6 d6))
 go_wp2
 refine bodyPost_ret (bb_ Tryz.results31 _ _ (w.heap.size+1) 35 #[.slice a6 n6 c6,.slice b6 m6 d6] (0,0) _ rfl R9.out Tryz.underlying35 rfl (by kernel_rfl)) rfl ?_
 exact⟨a6,n6,c6,b6,m6,d6,rfl,P9.out,Q9.out,G9.out⟩
theorem o2_(S:PolySaid)(FS:FracSaid)(a:OA_)(n c:Nat)(b:OA_)(m d:Nat)(e:Int)(w:World)(he:8 < e):Calls Tryz.prog 31 #[.agg #[.slice a n c,.slice b m d],.int .i64 e] w (LstEV [] [1] (.bool false) w):=by
 obtain⟨z0,hz0⟩:∃q:Rat,((0:Int):Rat)=q:=⟨_,rfl⟩
 have hz00:z0=0:=by rw[←hz0];rfl
 have lz:qlen z0≤2:=by rw[←hz0];exact br_ (by decide)
 have HO0:∀w':World,Calls Tryz.prog 47 #[.int .i64 0] w' (LstQ z0 w'):=fun w'=>hz0▸FS.of 0 w' (by decide)
 have HOF:∀(w':World) (a2:OA_) (n2 c2:Nat) (b2:OA_) (m2 d2:Nat),Wd w' a2 n2 c2 (dg z0.num.natAbs)→Wd w' b2 m2 d2 (dg z0.den)→Calls Tryz.prog 28 #[.agg #[.bool (zneg z0.num),.slice a2 n2 c2,.slice b2 m2 d2]] w' (LstE [] [1] w'):=fun w' a2 n2 c2 b2 m2 d2 g1 g2=>by
  have h9:=hj_ S FS _ z0 2 w' (Fr.right g1 g2 (by have:=g1.len;have:=a8_ z0;omega) (by have:=g2.len;have:=a7_ z0;omega)) (by decide) (Nat.le_refl 2)
  rwa [show ah_ [z0,0]=[] by rw[hz00];decide +kernel] at h9
 clear hz0 hz00 lz
 have HB:=hd_ (ab_ (aa_ w (.cells #[.slice a n c,.slice b m d] 35)) (aa_ _ (.cells #[.slice none 0 0,.slice none 0 0] 35)))
 have X0:Hid (((w.alloc (.cells #[.slice a n c,.slice b m d] 35)).alloc (.cells #[.slice none 0 0,.slice none 0 0] 35)).heap[w.heap.size]? = some (.cells #[.slice a n c,.slice b m d] 35 (0,0))):=hd_ (ac_ (ai_ w _ _) (aa_ _ (.cells #[.slice none 0 0,.slice none 0 0] 35)))
 have R0:Hid (((w.alloc (.cells #[.slice a n c,.slice b m d] 35)).alloc (.cells #[.slice none 0 0,.slice none 0 0] 35)).heap[w.heap.size+1]? = some (.cells #[.slice none 0 0,.slice none 0 0] 35 (0,0))):=hd_ (by have h9:=ai_ (w.alloc (.cells #[.slice a n c,.slice b m d] 35)) #[.slice none 0 0,.slice none 0 0] 35;rwa [al_] at h9)
 go_enter Tryz.func31,Tryz.ntmps31
 go_wp2_with fail
 refine (HO0 _).mono ?_
 rintro e w2 ⟨a5,n5,c5,b5,m5,d5,rfl,h5,g5,b⟩
 replace HB:=bt_ HB b
 replace R0:=bl_ R0 b
 have Z1:=hd_ h5
 have Z2:=hd_ g5
 clear h5 g5 b HO0
 unfold frV
 go_wp2_with fail
 refine (HOF _ _ _ _ _ _ _ Z1.out Z2.out).mono ?_
 rintro e w3 ⟨a6,n6,c6,b6,m6,d6,rfl,h6,g6,b⟩
 replace HB:=bt_ HB b
 replace R0:=bl_ R0 b
 have P9:=hd_ h6
 have Q9:=hd_ g6
 clear h6 g6 b HOF Z1 Z2
 obtain⟨r0,r1⟩:=a0_ R0.out
 have e0:=ad_ R0.out 0
 have e1:=ad_ R0.out 1
 have R9:=hd_ (a4_ R0.out (.slice a6 n6 c6) (.slice b6 m6 d6))
 replace P9:=hd_ (P9.out.boxed R0.out (.slice a6 n6 c6) (.slice b6 m6 d6))
 replace Q9:=hd_ (Q9.out.boxed R0.out (.slice a6 n6 c6) (.slice b6 m6 d6))
 have G9:=hd_ (an_ HB.out (show w.heap.size≤w.heap.size+1 by omega) (.slice a6 n6 c6) (.slice b6 m6 d6))
 go_wp2
 refine bodyPost_ret (bb_ Tryz.results31 _ _ (w.heap.size+1) 35 #[.slice a6 n6 c6,.slice b6 m6 d6] (0,0) _ rfl R9.out Tryz.underlying35 rfl (by kernel_rfl)) rfl ?_
 exact⟨a6,n6,c6,b6,m6,d6,rfl,P9.out,Q9.out,G9.out⟩
theorem ph_(S:PolySaid)(FS:FracSaid)(a:OA_)(n c:Nat)(b:OA_)(m d:Nat)(u v:LR_)(e:Int)(w:World)(hA:Fv w a n c b m d u v 3 42)(he:e < 0)(he8 : -8≤e)(hu:u=[]):Calls Tryz.prog 31 #[.agg #[.slice a n c,.slice b m d],.int .i64 e] w (LstEV [] [1] (.bool false) w):=by
 have HZE:∀w':World,Fv w' a n c b m d u v 3 42→Calls Tryz.prog 23 #[.agg #[.slice a n c,.slice b m d]] w' (bi_ (.bool true) w'):=fun w' g=>by
  have h9:=l2_ S a n c b m d u v 3 42 w' g (by decide) (by decide)
  rwa [decide_eq_true hu] at h9
 obtain⟨z0,hz0⟩:∃q:Rat,((0:Int):Rat)=q:=⟨_,rfl⟩
 have hz00:z0=0:=by rw[←hz0];rfl
 have lz:qlen z0≤2:=by rw[←hz0];exact br_ (by decide)
 have HO0:∀w':World,Calls Tryz.prog 47 #[.int .i64 0] w' (LstQ z0 w'):=fun w'=>hz0▸FS.of 0 w' (by decide)
 have HOF:∀(w':World) (a2:OA_) (n2 c2:Nat) (b2:OA_) (m2 d2:Nat),Wd w' a2 n2 c2 (dg z0.num.natAbs)→Wd w' b2 m2 d2 (dg z0.den)→Calls Tryz.prog 28 #[.agg #[.bool (zneg z0.num),.slice a2 n2 c2,.slice b2 m2 d2]] w' (LstE [] [1] w'):=fun w' a2 n2 c2 b2 m2 d2 g1 g2=>by
  have h9:=hj_ S FS _ z0 2 w' (Fr.right g1 g2 (by have:=g1.len;have:=a8_ z0;omega) (by have:=g2.len;have:=a7_ z0;omega)) (by decide) (Nat.le_refl 2)
  rwa [show ah_ [z0,0]=[] by rw[hz00];decide +kernel] at h9
 clear hz0 hz00 lz
 have HB:=hd_ (ab_ (aa_ w (.cells #[.slice a n c,.slice b m d] 35)) (aa_ _ (.cells #[.slice none 0 0,.slice none 0 0] 35)))
 have X0:Hid (((w.alloc (.cells #[.slice a n c,.slice b m d] 35)).alloc (.cells #[.slice none 0 0,.slice none 0 0] 35)).heap[w.heap.size]? = some (.cells #[.slice a n c,.slice b m d] 35 (0,0))):=hd_ (ac_ (ai_ w _ _) (aa_ _ (.cells #[.slice none 0 0,.slice none 0 0] 35)))
 have R0:Hid (((w.alloc (.cells #[.slice a n c,.slice b m d] 35)).alloc (.cells #[.slice none 0 0,.slice none 0 0] 35)).heap[w.heap.size+1]? = some (.cells #[.slice none 0 0,.slice none 0 0] 35 (0,0))):=hd_ (by have h9:=ai_ (w.alloc (.cells #[.slice a n c,.slice b m d] 35)) #[.slice none 0 0,.slice none 0 0] 35;rwa [al_] at h9)
 have FA:=hd_ (hA.later HB.out)
 clear hA hu
 go_enter Tryz.func31,Tryz.ntmps31
 obtain⟨x0,x1⟩:=a0_ X0.out
 go_wp2_with fail
 refine (HZE _ FA.out).mono ?_
 rintro e2 w1 ⟨rfl,b⟩
 clear x0 x1 HZE
 replace HB:=bt_ HB b
 replace R0:=bl_ R0 b
 clear X0 FA
 clear b
 go_wp2_with fail
 refine (HO0 _).mono ?_
 rintro e w2 ⟨a5,n5,c5,b5,m5,d5,rfl,h5,g5,b⟩
 replace HB:=bt_ HB b
 replace R0:=bl_ R0 b
 have Z1:=hd_ h5
 have Z2:=hd_ g5
 clear h5 g5 b HO0
 unfold frV
 go_wp2_with fail
 refine (HOF _ _ _ _ _ _ _ Z1.out Z2.out).mono ?_
 rintro e w3 ⟨a6,n6,c6,b6,m6,d6,rfl,h6,g6,b⟩
 replace HB:=bt_ HB b
 replace R0:=bl_ R0 b
 have P9:=hd_ h6
 have Q9:=hd_ g6
 clear h6 g6 b HOF Z1 Z2
 obtain⟨r0,r1⟩:=a0_ R0.out
 have e0:=ad_ R0.out 0
 have e1:=ad_ R0.out 1
 have R9:=hd_ (a4_ R0.out (.slice a6 n6 c6) (.slice b6 m6 d6))
 replace P9:=hd_ (P9.out.boxed R0.out (.slice a6 n6 c6) (.slice b6 m6 d6))
 replace Q9:=hd_ (Q9.out.boxed R0.out (.slice a6 n6 c6) (.slice b6 m6 d6))
 have G9:=hd_ (an_ HB.out (show w.heap.size≤w.heap.size+1 by omega) (.slice a6 n6 c6) (.slice b6 m6 d6))
 go_wp2
 refine bodyPost_ret (bb_ Tryz.results31 _ _ (w.heap.size+1) 35 #[.slice a6 n6 c6,.slice b6 m6 d6] (0,0) _ rfl R9.out Tryz.underlying35 rfl (by kernel_rfl)) rfl ?_
 exact⟨a6,n6,c6,b6,m6,d6,rfl,P9.out,Q9.out,G9.out⟩
theorem q7_(S:PolySaid)(FS:FracSaid)(a:OA_)(n c:Nat)(b:OA_)(m d:Nat)(u v:LR_)(e:Int)(w:World)(hA:Fv w a n c b m d u v 3 42)(he:0≤e)(he8:e≤3):Calls Tryz.prog 31 #[.agg #[.slice a n c,.slice b m d],.int .i64 e] w (LstFV (ppow u e.toNat) (ppow v e.toNat) (.bool true) w):=by
 have hB:=hA
 obtain⟨hr,fz,_⟩:=nu_ hB
 have HNO:∀w':World,Fv w' a n c b m d u v 3 42→Calls Tryz.prog 20 #[.agg #[.slice a n c,.slice b m d]] w' (LstE u v w'):=fun w' g=>fa_ S FS a n c b m d u v 3 42 w' g (by unfold Fok;decide)
 have HMU:=fun (k:Nat) (hk:k < 3)=>pow_mul S fz hk
 have HMV:=fun (k:Nat) (hk:k < 3)=>pow_mul S fz.swap hk
 have HEN:Hid (isF (ppow u e.toNat) (ppow v e.toNat) (ah_ (ppow u e.toNat)) (ah_ (ppow v e.toNat))):=hd_ (isF_pow hr _ (ar_ _) (a9_ _) (ar_ _) (a9_ _))
 obtain⟨z1,hz1⟩:∃q:Rat,((1:Int):Rat)=q:=⟨_,rfl⟩
 have hz11:z1=1:=by rw[←hz1];rfl
 have lz:qlen z1≤2:=by rw[←hz1];exact br_ (by decide)
 have HO1:∀w':World,Calls Tryz.prog 47 #[.int .i64 1] w' (LstQ z1 w'):=fun w'=>hz1▸FS.of 1 w' (by decide)
 have HOF:∀(w':World) (a2:OA_) (n2 c2:Nat) (b2:OA_) (m2 d2:Nat),Wd w' a2 n2 c2 (dg z1.num.natAbs)→Wd w' b2 m2 d2 (dg z1.den)→Calls Tryz.prog 28 #[.agg #[.bool (zneg z1.num),.slice a2 n2 c2,.slice b2 m2 d2]] w' (LstE (ah_ (ppow u 0)) (ah_ (ppow v 0)) w'):=fun w' a2 n2 c2 b2 m2 d2 g1 g2=>by
  have h9:=hj_ S FS _ z1 2 w' (Fr.right g1 g2 (by have:=g1.len;have:=a8_ z1;omega) (by have:=g2.len;have:=a7_ z1;omega)) (by decide) (Nat.le_refl 2)
  rwa [show ah_ [z1,0]=ah_ (ppow u 0) by rw[hz11];show ah_ [1,0]=ah_ [1];decide +kernel,show ([1]:LR_)=ah_ (ppow v 0) by show [1]=ah_ [1];decide +kernel] at h9
 obtain⟨K,hK⟩:∃K,e.toNat=K:=⟨_,rfl⟩
 rw[hK] at HEN
 rw[hK]
 have hK3:K≤3:=by omega
 have hKi:e=(K:Int):=by omega
 have HB:=hd_ (ab_ (aa_ w (.cells #[.slice a n c,.slice b m d] 35)) (aa_ _ (.cells #[.slice none 0 0,.slice none 0 0] 35)))
 have X0:Hid (((w.alloc (.cells #[.slice a n c,.slice b m d] 35)).alloc (.cells #[.slice none 0 0,.slice none 0 0] 35)).heap[w.heap.size]? = some (.cells #[.slice a n c,.slice b m d] 35 (0,0))):=hd_ (ac_ (ai_ w _ _) (aa_ _ (.cells #[.slice none 0 0,.slice none 0 0] 35)))
 have R0:Hid (((w.alloc (.cells #[.slice a n c,.slice b m d] 35)).alloc (.cells #[.slice none 0 0,.slice none 0 0] 35)).heap[w.heap.size+1]? = some (.cells #[.slice none 0 0,.slice none 0 0] 35 (0,0))):=hd_ (by have h9:=ai_ (w.alloc (.cells #[.slice a n c,.slice b m d] 35)) #[.slice none 0 0,.slice none 0 0] 35;rwa [al_] at h9)
 have FA:=hd_ (hA.later HB.out)
 obtain⟨up,hU9⟩:∃l,u=l:=⟨_,rfl⟩
 obtain⟨vp,hV9⟩:∃l,v=l:=⟨_,rfl⟩
 subst hU9
 subst hV9
 clear hA hB hr fz hz1 hz11 lz hK
 go_enter Tryz.func31,Tryz.ntmps31
 obtain⟨x0,x1⟩:=a0_ X0.out
 go_wp2_with fail
 refine (HNO _ FA.out).mono ?_
 rintro e2 w2 ⟨a1,n1,c1,b1,m1,d1,rfl,h1,g1,b⟩
 clear x0 x1 FA
 replace X0:=bl_ X0 b
 replace HB:=bt_ HB b
 replace R0:=bl_ R0 b
 obtain⟨x0,x1⟩:=a0_ X0.out
 have e0:=ad_ X0.out 0
 have e1:=ad_ X0.out 1
 have F1:=hd_ (h1.boxed X0.out (.slice a1 n1 c1) (.slice b1 m1 d1))
 have F2:=hd_ (g1.boxed X0.out (.slice a1 n1 c1) (.slice b1 m1 d1))
 replace HB:=hd_ (an_ HB.out (show w.heap.size≤w.heap.size by omega) (.slice a1 n1 c1) (.slice b1 m1 d1))
 replace R0:=hd_ (bh_ (g:=w.heap.size) R0.out (show w.heap.size+1≠w.heap.size by omega) (.slice a1 n1 c1) (.slice b1 m1 d1))
 replace X0:=hd_ (a4_ X0.out (.slice a1 n1 c1) (.slice b1 m1 d1))
 clear b h1 g1 HNO
 go_wp2_with fail
 refine (HO1 _).mono ?_
 rintro e2 w3 ⟨a5,n5,c5,b5,m5,d5,rfl,h5,g5,b⟩
 clear x0 x1 e0 e1
 replace HB:=bt_ HB b
 replace X0:=bl_ X0 b
 replace R0:=bl_ R0 b
 replace F1:=F1.l_ b
 replace F2:=F2.l_ b
 have Z5:=hd_ h5
 have Y5:=hd_ g5
 clear h5 g5 b
 unfold frV
 go_wp2_with fail
 refine (HOF _ _ _ _ _ _ _ Z5.out Y5.out).mono ?_
 rintro e2 w4 ⟨a4,n4,c4,b4,m4,d4,rfl,h4,g4,b⟩
 replace HB:=bt_ HB b
 replace X0:=bl_ X0 b
 replace R0:=bl_ R0 b
 replace F1:=F1.l_ b
 replace F2:=F2.l_ b
 clear Z5 Y5
 have hgw:w.heap.size+1 < w4.heap.size:=(Array.getElem?_eq_some_iff.1 R0.out).1
 have ba:=aa_ w4 (.cells #[.slice a4 n4 c4,.slice b4 m4 d4] 35)
 have HO:Hid (BoxE (w4.alloc (.cells #[.slice a4 n4 c4,.slice b4 m4 d4] 35)) w4.heap.size 35 (ah_ (ppow u 0)) (ah_ (ppow v 0))):=hd_ ⟨a4,n4,c4,b4,m4,d4,ai_ w4 _ _,h4.later ba,g4.later ba⟩
 replace HB:=bt_ HB ba
 replace X0:=bl_ X0 ba
 replace R0:=bl_ R0 ba
 replace F1:=F1.l_ ba
 replace F2:=F2.l_ ba
 clear h4 g4 b ba HO1 HOF
 go_wp2
 generalize w4.heap.size=g at *
 go_loopw [37] (fun iv wr=>∃k:Nat,iv=.int .i64 (k:Int)∧k≤K∧Hid (BoxE wr g 35 (ah_ (ppow u k)) (ah_ (ppow v k)))∧Hid (wr.heap[w.heap.size]? = some (.cells #[.slice a1 n1 c1,.slice b1 m1 d1] 35 (0,0)))∧Hid (wr.heap[w.heap.size+1]? = some (.cells #[.slice none 0 0,.slice none 0 0] 35 (0,0)))∧Hid (Rw wr a1 n1 c1 u)∧Hid (Rw wr b1 m1 d1 v)∧Hid (Below w.heap.size w wr)) (fun iv _=>K - (intOf iv).toNat)
 case atStart=>exact⟨0,by go_num,by omega,HO,X0,R0,F1,F2,HB⟩
 case round=>
  clear HO X0 R0 F1 F2 HB
  obtain⟨k,rfl,hk,HO,X0,R0,F1,F2,HB⟩:=hrel
  obtain⟨a4,n4,c4,b4,m4,d4,hO,h4,g4⟩:=HO.out
  have O0:=hd_ hO
  have F4:=hd_ h4
  have G4:=hd_ g4
  clear hO h4 g4
  by_cases hlt:k < K
  ·have hlt9:e > (k:Int):=by omega
   have HM1:=HMU k (by omega)
   have HM2:=HMV k (by omega)
   have HG:=hd_ (show ∀wx:World,BoxE wx g 35 (ah_ (ppow u (k+1))) (ah_ (ppow v (k+1)))→∃j,j=k+1∧BoxE wx g 35 (ah_ (ppow u j)) (ah_ (ppow v j)) from fun wx h9=>⟨_,rfl,h9⟩)
   generalize ah_ (ppow u k)=pu at HM1 HM2 F4 G4
   generalize ah_ (ppow v k)=pv at HM1 HM2 F4 G4
   generalize ah_ (ppow u (k+1))=qu at HM1 HM2 HG
   generalize ah_ (ppow v (k+1))=qv at HM1 HM2 HG
   clear HO
   obtain⟨x0,x1,x2,x3⟩:=am_ O0.out X0.out
   go_wp2
   clear x0 x1 x2 x3
   replace HB:=bt_ HB (dw_ wr)
   replace O0:Hid (wr.drew.heap[g]? = _):=hd_ O0.out
   replace X0:Hid (wr.drew.heap[w.heap.size]? = _):=hd_ X0.out
   replace R0:Hid (wr.drew.heap[w.heap.size+1]? = some (.cells #[.slice none 0 0,.slice none 0 0] 35 (0,0))):=hd_ R0.out
   replace F1:=F1.l_ (dw_ wr)
   replace F2:=F2.l_ (dw_ wr)
   replace F4:=F4.l_ (dw_ wr)
   replace G4:=G4.l_ (dw_ wr)
   obtain⟨pk0,pk1,pk2,pk3⟩:=am_ O0.out X0.out
   go_region_law (first
    | (go_simp;go_at_call 75;(first
      | (have pm1:=pM1;refine (HM2 _ _ _ _ _ _ _ G4.out F2.out).mono ?_;rintro e wp2 ⟨a7,n7,c7,rfl,h7,b⟩;replace HB:=bt_ HB b;replace O0:=bl_ O0 b;replace X0:=bl_ X0 b;replace R0:=bl_ R0 b;replace F1:=F1.l_ b;replace F2:=F2.l_ b;replace F4:=F4.l_ b;replace G4:=G4.l_ b;replace P6:=P6.l_ b;have P7:=hd_ h7;clear h7;have e0:=ad_ O0.out 0;have e1:=ad_ O0.out 1;clear b;obtain⟨pk0,pk1,pk2,pk3⟩:=am_ O0.out X0.out;clear pM1 pm1;have pM2:=True.intro)
      | (refine (HM1 _ _ _ _ _ _ _ F4.out F1.out).mono ?_;rintro e wp1 ⟨a6,n6,c6,rfl,h6,b⟩;replace HB:=bt_ HB b;replace O0:=bl_ O0 b;replace X0:=bl_ X0 b;replace R0:=bl_ R0 b;replace F1:=F1.l_ b;replace F2:=F2.l_ b;replace F4:=F4.l_ b;replace G4:=G4.l_ b;have P6:=hd_ h6;clear h6;clear b;obtain⟨pk0,pk1,pk2,pk3⟩:=am_ O0.out X0.out;have pM1:=True.intro))))
   all_goals (
    obtain⟨j,hj,hj2⟩:=HG.out _ (⟨a6,n6,c6,a7,n7,c7,a4_ O0.out _ _,P6.out.boxed O0.out _ _,P7.out.boxed O0.out _ _⟩:BoxE ((wp2.setCell ⟨g,0,none⟩ (.slice a6 n6 c6)).setCell ⟨g,1,none⟩ (.slice a7 n7 c7)) g 35 qu qv)
    have HO2:=hd_ hj2
    have HB2:=hd_ (an_ HB.out (show w.heap.size≤g by omega) (.slice a6 n6 c6) (.slice a7 n7 c7))
    have R2:=hd_ (bh_ R0.out (show w.heap.size+1≠g by omega) (.slice a6 n6 c6) (.slice a7 n7 c7))
    have X2:=hd_ (bh_ X0.out (show w.heap.size≠g by omega) (.slice a6 n6 c6) (.slice a7 n7 c7))
    have F12:=hd_ (F1.out.boxed O0.out (.slice a6 n6 c6) (.slice a7 n7 c7))
    have F22:=hd_ (F2.out.boxed O0.out (.slice a6 n6 c6) (.slice a7 n7 c7))
    clear hj2
    go_wp2
    go_roundw
    case rel=>exact⟨j,by rw[hj];go_num,by omega,HO2,X2,R2,F12,F22,HB2⟩
    case measure=>simp[intOf];omega)
  ·obtain rfl:k=K:=by omega
   clear hlt HO
   obtain⟨y0,y1⟩:=a0_ O0.out
   have P9:=hd_ F4.out
   have Q9:=hd_ G4.out
   obtain⟨r0,r1⟩:=a0_ R0.out
   have e0:=ad_ R0.out 0
   have e1:=ad_ R0.out 1
   have R9:=hd_ (a4_ R0.out (.slice a4 n4 c4) (.slice b4 m4 d4))
   replace P9:=hd_ (P9.out.boxed R0.out (.slice a4 n4 c4) (.slice b4 m4 d4))
   replace Q9:=hd_ (Q9.out.boxed R0.out (.slice a4 n4 c4) (.slice b4 m4 d4))
   have G9:=hd_ (an_ HB.out (show w.heap.size≤w.heap.size+1 by omega) (.slice a4 n4 c4) (.slice b4 m4 d4))
   go_wp2
   refine bodyPost_ret (bb_ Tryz.results31 _ _ (w.heap.size+1) 35 #[.slice a4 n4 c4,.slice b4 m4 d4] (0,0) _ rfl R9.out Tryz.underlying35 rfl (by kernel_rfl)) rfl ?_
   exact⟨a4,n4,c4,ah_ (ppow u k),b4,m4,d4,ah_ (ppow v k),rfl,P9.out,Q9.out,HEN.out,G9.out⟩
theorem qi_(S:PolySaid)(FS:FracSaid)(a:OA_)(n c:Nat)(b:OA_)(m d:Nat)(u v:LR_)(e:Int)(w:World)(hA:Fv w a n c b m d u v 3 42)(hu:u≠[])(he:e < 0)(he8 : -3≤e):Calls Tryz.prog 31 #[.agg #[.slice a n c,.slice b m d],.int .i64 e] w (LstFV (ppow v (-e).toNat) (ppow u (-e).toNat) (.bool true) w):=by
 have HZE:∀w':World,Fv w' a n c b m d u v 3 42→Calls Tryz.prog 23 #[.agg #[.slice a n c,.slice b m d]] w' (bi_ (.bool false) w'):=fun w' g=>by
  have h9:=l2_ S a n c b m d u v 3 42 w' g (by decide) (by decide)
  rwa [decide_eq_false hu] at h9
 obtain⟨kk,hkk⟩:∃q,1 / co u (plen u - 1)=q:=⟨_,rfl⟩
 have hur:=hA.rf
 have hu0:plen u≠0:=fun e=>hu (by rw[ay_ hur.ur] at e;exact List.eq_nil_of_length_eq_zero e)
 have hB:=hA.turn hu hkk.symm
 have hkk0:=(hur.turn hu hkk.symm).2
 obtain⟨hr,fz,_⟩:=nu_ hB
 have HNO:∀w':World,Fv w' b m d a n c (ag_ kk v) (ag_ kk u) 3 42→Calls Tryz.prog 20 #[.agg #[.slice b m d,.slice a n c]] w' (LstE (ag_ kk v) (ag_ kk u) w'):=fun w' g=>fa_ S FS b m d a n c (ag_ kk v) (ag_ kk u) 3 42 w' g (by unfold Fok;decide)
 have HMU:=fun (k:Nat) (hk:k < 3)=>pow_mul S fz hk
 have HMV:=fun (k:Nat) (hk:k < 3)=>pow_mul S fz.swap hk
 have HEN:Hid (isF (ppow v (-e).toNat) (ppow u (-e).toNat) (ah_ (ppow (ag_ kk v) (-e).toNat)) (ah_ (ppow (ag_ kk u) (-e).toNat))):=hd_ (qs_ (isF_pow hr _ (ar_ _) (a9_ _) (ar_ _) (a9_ _)) hu0 hkk0)
 obtain⟨z1,hz1⟩:∃q:Rat,((1:Int):Rat)=q:=⟨_,rfl⟩
 have hz11:z1=1:=by rw[←hz1];rfl
 have lz:qlen z1≤2:=by rw[←hz1];exact br_ (by decide)
 have HO1:∀w':World,Calls Tryz.prog 47 #[.int .i64 1] w' (LstQ z1 w'):=fun w'=>hz1▸FS.of 1 w' (by decide)
 have HOF:∀(w':World) (a2:OA_) (n2 c2:Nat) (b2:OA_) (m2 d2:Nat),Wd w' a2 n2 c2 (dg z1.num.natAbs)→Wd w' b2 m2 d2 (dg z1.den)→Calls Tryz.prog 28 #[.agg #[.bool (zneg z1.num),.slice a2 n2 c2,.slice b2 m2 d2]] w' (LstE (ah_ (ppow (ag_ kk v) 0)) (ah_ (ppow (ag_ kk u) 0)) w'):=fun w' a2 n2 c2 b2 m2 d2 g1 g2=>by
  have h9:=hj_ S FS _ z1 2 w' (Fr.right g1 g2 (by have:=g1.len;have:=a8_ z1;omega) (by have:=g2.len;have:=a7_ z1;omega)) (by decide) (Nat.le_refl 2)
  rwa [show ah_ [z1,0]=ah_ (ppow (ag_ kk v) 0) by rw[hz11];show ah_ [1,0]=ah_ [1];decide +kernel,show ([1]:LR_)=ah_ (ppow (ag_ kk u) 0) by show [1]=ah_ [1];decide +kernel] at h9
 obtain⟨K,hK⟩:∃K,(-e).toNat=K:=⟨_,rfl⟩
 rw[hK] at HEN
 rw[hK]
 have hK3:K≤3:=by omega
 have hKi : -e=(K:Int):=by omega
 have HB:=hd_ (ab_ (aa_ w (.cells #[.slice a n c,.slice b m d] 35)) (aa_ _ (.cells #[.slice none 0 0,.slice none 0 0] 35)))
 have X0:Hid (((w.alloc (.cells #[.slice a n c,.slice b m d] 35)).alloc (.cells #[.slice none 0 0,.slice none 0 0] 35)).heap[w.heap.size]? = some (.cells #[.slice a n c,.slice b m d] 35 (0,0))):=hd_ (ac_ (ai_ w _ _) (aa_ _ (.cells #[.slice none 0 0,.slice none 0 0] 35)))
 have R0:Hid (((w.alloc (.cells #[.slice a n c,.slice b m d] 35)).alloc (.cells #[.slice none 0 0,.slice none 0 0] 35)).heap[w.heap.size+1]? = some (.cells #[.slice none 0 0,.slice none 0 0] 35 (0,0))):=hd_ (by have h9:=ai_ (w.alloc (.cells #[.slice a n c,.slice b m d] 35)) #[.slice none 0 0,.slice none 0 0] 35;rwa [al_] at h9)
 have FA:=hd_ (hA.later HB.out)
 have HTN:Hid (∀w':World,Fv w' a n c b m d u v 3 42→Fv w' b m d a n c (ag_ kk v) (ag_ kk u) 3 42):=hd_ (fun w' g=>g.turn hu hkk.symm)
 generalize hU9:(ag_ kk v)=up at *
 generalize hV9:(ag_ kk u)=vp at *
 clear hA hB hr fz hz1 hz11 lz hK hu hkk hur hu0 hkk0 hU9 hV9
 go_enter Tryz.func31,Tryz.ntmps31
 obtain⟨x0,x1⟩:=a0_ X0.out
 go_wp2_with fail
 refine (HZE _ FA.out).mono ?_
 rintro e2 w1 ⟨rfl,b⟩
 clear x0 x1 HZE
 replace HB:=bt_ HB b
 replace R0:=bl_ R0 b
 replace X0:=bl_ X0 b
 replace FA:=FA.l_ b
 clear b
 obtain⟨x0,x1⟩:=a0_ X0.out
 have e0:=ad_ X0.out 0
 have e1:=ad_ X0.out 1
 have hwn:IntKind.i64.wrap (-e) = -e:=by rw[IntKind.wrap_i64];omega
 have FB:=hd_ (HTN.out _ (FA.out.boxed X0.out (.slice b m d) (.slice a n c)))
 replace HB:=hd_ (an_ HB.out (show w.heap.size≤w.heap.size by omega) (.slice b m d) (.slice a n c))
 replace R0:=hd_ (bh_ (g:=w.heap.size) R0.out (show w.heap.size+1≠w.heap.size by omega) (.slice b m d) (.slice a n c))
 have X9:=hd_ (a4_ X0.out (.slice b m d) (.slice a n c))
 have y0:=af_ X9.out 0
 have y1:=af_ X9.out 1
 simp only[List.getElem?_toArray,List.getElem?_cons_zero,List.getElem?_cons_succ] at y0 y1
 clear FA HTN
 go_wp2_with fail
 refine (HNO _ FB.out).mono ?_
 rintro e2 w2 ⟨a1,n1,c1,b1,m1,d1,rfl,h1,g1,b⟩
 clear x0 x1 y0 y1 e0 e1 X0
 have X0:=hd_ (ac_ X9.out b)
 clear X9 FB
 replace HB:=bt_ HB b
 replace R0:=bl_ R0 b
 obtain⟨x0,x1⟩:=a0_ X0.out
 have e0:=ad_ X0.out 0
 have e1:=ad_ X0.out 1
 have F1:=hd_ (h1.boxed X0.out (.slice a1 n1 c1) (.slice b1 m1 d1))
 have F2:=hd_ (g1.boxed X0.out (.slice a1 n1 c1) (.slice b1 m1 d1))
 replace HB:=hd_ (an_ HB.out (show w.heap.size≤w.heap.size by omega) (.slice a1 n1 c1) (.slice b1 m1 d1))
 replace R0:=hd_ (bh_ (g:=w.heap.size) R0.out (show w.heap.size+1≠w.heap.size by omega) (.slice a1 n1 c1) (.slice b1 m1 d1))
 replace X0:=hd_ (a4_ X0.out (.slice a1 n1 c1) (.slice b1 m1 d1))
 clear b h1 g1 HNO
 go_wp2_with fail
 refine (HO1 _).mono ?_
 rintro e2 w3 ⟨a5,n5,c5,b5,m5,d5,rfl,h5,g5,b⟩
 clear x0 x1 e0 e1
 replace HB:=bt_ HB b
 replace X0:=bl_ X0 b
 replace R0:=bl_ R0 b
 replace F1:=F1.l_ b
 replace F2:=F2.l_ b
 have Z5:=hd_ h5
 have Y5:=hd_ g5
 clear h5 g5 b
 unfold frV
 go_wp2_with fail
 refine (HOF _ _ _ _ _ _ _ Z5.out Y5.out).mono ?_
 rintro e2 w4 ⟨a4,n4,c4,b4,m4,d4,rfl,h4,g4,b⟩
 replace HB:=bt_ HB b
 replace X0:=bl_ X0 b
 replace R0:=bl_ R0 b
 replace F1:=F1.l_ b
 replace F2:=F2.l_ b
 clear Z5 Y5
 have hgw:w.heap.size+1 < w4.heap.size:=(Array.getElem?_eq_some_iff.1 R0.out).1
 have ba:=aa_ w4 (.cells #[.slice a4 n4 c4,.slice b4 m4 d4] 35)
 have HO:Hid (BoxE (w4.alloc (.cells #[.slice a4 n4 c4,.slice b4 m4 d4] 35)) w4.heap.size 35 (ah_ (ppow up 0)) (ah_ (ppow vp 0))):=hd_ ⟨a4,n4,c4,b4,m4,d4,ai_ w4 _ _,h4.later ba,g4.later ba⟩
 replace HB:=bt_ HB ba
 replace X0:=bl_ X0 ba
 replace R0:=bl_ R0 ba
 replace F1:=F1.l_ ba
 replace F2:=F2.l_ ba
 clear h4 g4 b ba HO1 HOF
 go_wp2
 generalize w4.heap.size=g at *
 go_loopw [37] (fun iv wr=>∃k:Nat,iv=.int .i64 (k:Int)∧k≤K∧Hid (BoxE wr g 35 (ah_ (ppow up k)) (ah_ (ppow vp k)))∧Hid (wr.heap[w.heap.size]? = some (.cells #[.slice a1 n1 c1,.slice b1 m1 d1] 35 (0,0)))∧Hid (wr.heap[w.heap.size+1]? = some (.cells #[.slice none 0 0,.slice none 0 0] 35 (0,0)))∧Hid (Rw wr a1 n1 c1 up)∧Hid (Rw wr b1 m1 d1 vp)∧Hid (Below w.heap.size w wr)) (fun iv _=>K - (intOf iv).toNat)
 case atStart=>exact⟨0,by go_num,by omega,HO,X0,R0,F1,F2,HB⟩
 case round=>
  clear HO X0 R0 F1 F2 HB
  obtain⟨k,rfl,hk,HO,X0,R0,F1,F2,HB⟩:=hrel
  obtain⟨a4,n4,c4,b4,m4,d4,hO,h4,g4⟩:=HO.out
  have O0:=hd_ hO
  have F4:=hd_ h4
  have G4:=hd_ g4
  clear hO h4 g4
  by_cases hlt:k < K
  ·have hlt9 : -e > (k:Int):=by omega
   have HM1:=HMU k (by omega)
   have HM2:=HMV k (by omega)
   have HG:=hd_ (show ∀wx:World,BoxE wx g 35 (ah_ (ppow up (k+1))) (ah_ (ppow vp (k+1)))→∃j,j=k+1∧BoxE wx g 35 (ah_ (ppow up j)) (ah_ (ppow vp j)) from fun wx h9=>⟨_,rfl,h9⟩)
   generalize ah_ (ppow up k)=pu at HM1 HM2 F4 G4
   generalize ah_ (ppow vp k)=pv at HM1 HM2 F4 G4
   generalize ah_ (ppow up (k+1))=qu at HM1 HM2 HG
   generalize ah_ (ppow vp (k+1))=qv at HM1 HM2 HG
   clear HO
   obtain⟨x0,x1,x2,x3⟩:=am_ O0.out X0.out
   go_wp2
   clear x0 x1 x2 x3
   replace HB:=bt_ HB (dw_ wr)
   replace O0:Hid (wr.drew.heap[g]? = _):=hd_ O0.out
   replace X0:Hid (wr.drew.heap[w.heap.size]? = _):=hd_ X0.out
   replace R0:Hid (wr.drew.heap[w.heap.size+1]? = some (.cells #[.slice none 0 0,.slice none 0 0] 35 (0,0))):=hd_ R0.out
   replace F1:=F1.l_ (dw_ wr)
   replace F2:=F2.l_ (dw_ wr)
   replace F4:=F4.l_ (dw_ wr)
   replace G4:=G4.l_ (dw_ wr)
   obtain⟨pk0,pk1,pk2,pk3⟩:=am_ O0.out X0.out
   go_region_law (first
    | (go_simp;go_at_call 75;(first
      | (have pm1:=pM1;refine (HM2 _ _ _ _ _ _ _ G4.out F2.out).mono ?_;rintro e wp2 ⟨a7,n7,c7,rfl,h7,b⟩;replace HB:=bt_ HB b;replace O0:=bl_ O0 b;replace X0:=bl_ X0 b;replace R0:=bl_ R0 b;replace F1:=F1.l_ b;replace F2:=F2.l_ b;replace F4:=F4.l_ b;replace G4:=G4.l_ b;replace P6:=P6.l_ b;have P7:=hd_ h7;clear h7;have e0:=ad_ O0.out 0;have e1:=ad_ O0.out 1;clear b;obtain⟨pk0,pk1,pk2,pk3⟩:=am_ O0.out X0.out;clear pM1 pm1;have pM2:=True.intro)
      | (refine (HM1 _ _ _ _ _ _ _ F4.out F1.out).mono ?_;rintro e wp1 ⟨a6,n6,c6,rfl,h6,b⟩;replace HB:=bt_ HB b;replace O0:=bl_ O0 b;replace X0:=bl_ X0 b;replace R0:=bl_ R0 b;replace F1:=F1.l_ b;replace F2:=F2.l_ b;replace F4:=F4.l_ b;replace G4:=G4.l_ b;have P6:=hd_ h6;clear h6;clear b;obtain⟨pk0,pk1,pk2,pk3⟩:=am_ O0.out X0.out;have pM1:=True.intro))))
   all_goals (
    obtain⟨j,hj,hj2⟩:=HG.out _ (⟨a6,n6,c6,a7,n7,c7,a4_ O0.out _ _,P6.out.boxed O0.out _ _,P7.out.boxed O0.out _ _⟩:BoxE ((wp2.setCell ⟨g,0,none⟩ (.slice a6 n6 c6)).setCell ⟨g,1,none⟩ (.slice a7 n7 c7)) g 35 qu qv)
    have HO2:=hd_ hj2
    have HB2:=hd_ (an_ HB.out (show w.heap.size≤g by omega) (.slice a6 n6 c6) (.slice a7 n7 c7))
    have R2:=hd_ (bh_ R0.out (show w.heap.size+1≠g by omega) (.slice a6 n6 c6) (.slice a7 n7 c7))
    have X2:=hd_ (bh_ X0.out (show w.heap.size≠g by omega) (.slice a6 n6 c6) (.slice a7 n7 c7))
    have F12:=hd_ (F1.out.boxed O0.out (.slice a6 n6 c6) (.slice a7 n7 c7))
    have F22:=hd_ (F2.out.boxed O0.out (.slice a6 n6 c6) (.slice a7 n7 c7))
    clear hj2
    go_wp2
    go_roundw
    case rel=>exact⟨j,by rw[hj];go_num,by omega,HO2,X2,R2,F12,F22,HB2⟩
    case measure=>simp[intOf];omega)
  ·obtain rfl:k=K:=by omega
   clear hlt HO
   obtain⟨y0,y1⟩:=a0_ O0.out
   have P9:=hd_ F4.out
   have Q9:=hd_ G4.out
   obtain⟨r0,r1⟩:=a0_ R0.out
   have e0:=ad_ R0.out 0
   have e1:=ad_ R0.out 1
   have R9:=hd_ (a4_ R0.out (.slice a4 n4 c4) (.slice b4 m4 d4))
   replace P9:=hd_ (P9.out.boxed R0.out (.slice a4 n4 c4) (.slice b4 m4 d4))
   replace Q9:=hd_ (Q9.out.boxed R0.out (.slice a4 n4 c4) (.slice b4 m4 d4))
   have G9:=hd_ (an_ HB.out (show w.heap.size≤w.heap.size+1 by omega) (.slice a4 n4 c4) (.slice b4 m4 d4))
   go_wp2
   refine bodyPost_ret (bb_ Tryz.results31 _ _ (w.heap.size+1) 35 #[.slice a4 n4 c4,.slice b4 m4 d4] (0,0) _ rfl R9.out Tryz.underlying35 rfl (by kernel_rfl)) rfl ?_
   exact⟨a4,n4,c4,ah_ (ppow up k),b4,m4,d4,ah_ (ppow vp k),rfl,P9.out,Q9.out,HEN.out,G9.out⟩
end Go.Proofs.YtocebjbjnfammaaGreat
