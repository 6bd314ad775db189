import Derived.Test.YtocebjbjnfammaaGreatTG15
import Derived.Test.YtocebjbjnfammaaGreatTG16
import Derived.Test.YtocebjbjnfammaaGreatTG6
import Derived.Test.YtocebjbjnfammaaGreatTG13
import Derived.Test.YtocebjbjnfammaaGreatTG8
import Derived.Test.YtocebjbjnfammaaGreatTG11
import Derived.Test.YtocebjbjnfammaaGreatTG5
import Derived.Test.YtocebjbjnfammaaGreatTG12
import Derived.Test.YtocebjbjnfammaaGreatTG3
import Derived.Deep.RegionHeld3
import Derived.Deep.CutRange
import Derived.Deep.RegionWith
import Derived.Test.YtocebjbjnfammaaGreatTG1
set_option maxRecDepth 4096
set_option maxHeartbeats 16000000
namespace Go.Proofs.YtocebjbjnfammaaGreat
open Go.RowKit
theorem ne_(HW:∀w:World,Calls Tryz.prog 9 #[] w (bf_ (.bool true) w))(a0:OA_)(n0 c0:Nat)(K0:List Fx)(b0:OA_)(m0 d0:Nat)(M0:List Fx)(a1:OA_)(n1 c1:Nat)(K1:List Fx)(b1:OA_)(m1 d1:Nat)(M1:List Fx)(s2:Bool)(a2:OA_)(n2 c2:Nat)(l2:List Nat)(b2:OA_)(m2 d2:Nat)(k2:List Nat)(w:World)(h0:Fxs w a0 n0 c0 K0)(j0:Fxs w b0 m0 d0 M0)(_h1:Fxs w a1 n1 c1 K1)(_j1:Fxs w b1 m1 d1 M1)(_h2:Wd w a2 n2 c2 l2)(_j2:Wd w b2 m2 d2 k2) (hb0:¬(((n0:Int)≤4∧thinI 1 K0)∧((m0:Int)≤4∧thinI 1 M0))):Calls Tryz.prog 3 #[.agg #[.slice a0 n0 c0,.slice b0 m0 d0],.agg #[.slice a1 n1 c1,.slice b1 m1 d1],frV s2 a2 n2 c2 b2 m2 d2] w (bf_ (.bool true) w):=by
 have HNB0:=hd_ hb0
 have HB:=hd_ (ab_ (ab_ (aa_ w (.cells #[.slice a0 n0 c0,.slice b0 m0 d0] 24)) (aa_ _ (.cells #[.slice a1 n1 c1,.slice b1 m1 d1] 24))) (aa_ _ (.cells #[.bool s2,.slice a2 n2 c2,.slice b2 m2 d2] 27)))
 have X0:Hid ((((w.alloc (.cells #[.slice a0 n0 c0,.slice b0 m0 d0] 24)).alloc (.cells #[.slice a1 n1 c1,.slice b1 m1 d1] 24)).alloc (.cells #[.bool s2,.slice a2 n2 c2,.slice b2 m2 d2] 27)).heap[w.heap.size]? = some (.cells #[.slice a0 n0 c0,.slice b0 m0 d0] 24 (0,0))):=hd_ (ac_ (ac_ (ai_ w _ _) (aa_ _ (.cells #[.slice a1 n1 c1,.slice b1 m1 d1] 24))) (aa_ _ (.cells #[.bool s2,.slice a2 n2 c2,.slice b2 m2 d2] 27)))
 have X1:Hid ((((w.alloc (.cells #[.slice a0 n0 c0,.slice b0 m0 d0] 24)).alloc (.cells #[.slice a1 n1 c1,.slice b1 m1 d1] 24)).alloc (.cells #[.bool s2,.slice a2 n2 c2,.slice b2 m2 d2] 27)).heap[w.heap.size+1]? = some (.cells #[.slice a1 n1 c1,.slice b1 m1 d1] 24 (0,0))):=hd_ (ac_ (by have h9:=ai_ (w.alloc (.cells #[.slice a0 n0 c0,.slice b0 m0 d0] 24)) #[.slice a1 n1 c1,.slice b1 m1 d1] 24;rwa [al_] at h9) (aa_ _ (.cells #[.bool s2,.slice a2 n2 c2,.slice b2 m2 d2] 27)))
 have X2:Hid ((((w.alloc (.cells #[.slice a0 n0 c0,.slice b0 m0 d0] 24)).alloc (.cells #[.slice a1 n1 c1,.slice b1 m1 d1] 24)).alloc (.cells #[.bool s2,.slice a2 n2 c2,.slice b2 m2 d2] 27)).heap[w.heap.size+1+1]? = some (.cells #[.bool s2,.slice a2 n2 c2,.slice b2 m2 d2] 27 (0,0))):=hd_ (by have h9:=ai_ ((w.alloc (.cells #[.slice a0 n0 c0,.slice b0 m0 d0] 24)).alloc (.cells #[.slice a1 n1 c1,.slice b1 m1 d1] 24)) #[.bool s2,.slice a2 n2 c2,.slice b2 m2 d2] 27;rwa [al_,al_] at h9)
 have HF0:=hd_ (h0.later HB.out)
 have HG0:=hd_ (j0.later HB.out)
 clear h0 j0 hb0
 go_enter Tryz.func3,Tryz.ntmps3
 unfold frV
 obtain⟨vk0,vk1,vk2,vk3,vk4,vk5,vk6⟩:=bx_ X0.out X1.out X2.out
 go_wp2_with fail
 refine (eg_ a0 n0 c0 K0 b0 m0 d0 M0 4 1 true _ HF0.out HG0.out (by decide) ⟨fun _=>HNB0.out,fun _=>rfl⟩).mono ?_
 rintro e wv1 ⟨rfl,b⟩
 clear vk0 vk1 vk2 vk3 vk4 vk5 vk6
 replace HB:=bt_ HB b
 replace X0:=bl_ X0 b
 replace X1:=bl_ X1 b
 replace X2:=bl_ X2 b
 replace HF0:=HF0.l_ b
 replace HG0:=HG0.l_ b
 clear b
 obtain⟨vk0,vk1,vk2,vk3,vk4,vk5,vk6⟩:=bx_ X0.out X1.out X2.out
 go_wp2_with fail
 refine (HW _).mono ?_
 rintro e wv2 ⟨rfl,b⟩
 clear vk0 vk1 vk2 vk3 vk4 vk5 vk6
 replace HB:=bt_ HB b
 replace X0:=bl_ X0 b
 replace X1:=bl_ X1 b
 replace X2:=bl_ X2 b
 replace HF0:=HF0.l_ b
 replace HG0:=HG0.l_ b
 clear b
 go_wp2
 go_ret
 exact⟨rfl,HB.out⟩
theorem nc_(HW:∀w:World,Calls Tryz.prog 9 #[] w (bf_ (.bool true) w))(a0:OA_)(n0 c0:Nat)(K0:List Fx)(b0:OA_)(m0 d0:Nat)(M0:List Fx)(a1:OA_)(n1 c1:Nat)(K1:List Fx)(b1:OA_)(m1 d1:Nat)(M1:List Fx)(s2:Bool)(a2:OA_)(n2 c2:Nat)(l2:List Nat)(b2:OA_)(m2 d2:Nat)(k2:List Nat)(w:World)(h0:Fxs w a0 n0 c0 K0)(j0:Fxs w b0 m0 d0 M0)(h1:Fxs w a1 n1 c1 K1)(j1:Fxs w b1 m1 d1 M1)(_h2:Wd w a2 n2 c2 l2)(_j2:Wd w b2 m2 d2 k2)(hb0:(((n0:Int)≤4∧thinI 1 K0)∧((m0:Int)≤4∧thinI 1 M0)))(hb1:¬(((n1:Int)≤4∧thinI 1 K1)∧((m1:Int)≤4∧thinI 1 M1))):Calls Tryz.prog 3 #[.agg #[.slice a0 n0 c0,.slice b0 m0 d0],.agg #[.slice a1 n1 c1,.slice b1 m1 d1],frV s2 a2 n2 c2 b2 m2 d2] w (bf_ (.bool true) w):=by
 have HNB0:=hd_ hb0
 have HNB1:=hd_ hb1
 have HB:=hd_ (ab_ (ab_ (aa_ w (.cells #[.slice a0 n0 c0,.slice b0 m0 d0] 24)) (aa_ _ (.cells #[.slice a1 n1 c1,.slice b1 m1 d1] 24))) (aa_ _ (.cells #[.bool s2,.slice a2 n2 c2,.slice b2 m2 d2] 27)))
 have X0:Hid ((((w.alloc (.cells #[.slice a0 n0 c0,.slice b0 m0 d0] 24)).alloc (.cells #[.slice a1 n1 c1,.slice b1 m1 d1] 24)).alloc (.cells #[.bool s2,.slice a2 n2 c2,.slice b2 m2 d2] 27)).heap[w.heap.size]? = some (.cells #[.slice a0 n0 c0,.slice b0 m0 d0] 24 (0,0))):=hd_ (ac_ (ac_ (ai_ w _ _) (aa_ _ (.cells #[.slice a1 n1 c1,.slice b1 m1 d1] 24))) (aa_ _ (.cells #[.bool s2,.slice a2 n2 c2,.slice b2 m2 d2] 27)))
 have X1:Hid ((((w.alloc (.cells #[.slice a0 n0 c0,.slice b0 m0 d0] 24)).alloc (.cells #[.slice a1 n1 c1,.slice b1 m1 d1] 24)).alloc (.cells #[.bool s2,.slice a2 n2 c2,.slice b2 m2 d2] 27)).heap[w.heap.size+1]? = some (.cells #[.slice a1 n1 c1,.slice b1 m1 d1] 24 (0,0))):=hd_ (ac_ (by have h9:=ai_ (w.alloc (.cells #[.slice a0 n0 c0,.slice b0 m0 d0] 24)) #[.slice a1 n1 c1,.slice b1 m1 d1] 24;rwa [al_] at h9) (aa_ _ (.cells #[.bool s2,.slice a2 n2 c2,.slice b2 m2 d2] 27)))
 have X2:Hid ((((w.alloc (.cells #[.slice a0 n0 c0,.slice b0 m0 d0] 24)).alloc (.cells #[.slice a1 n1 c1,.slice b1 m1 d1] 24)).alloc (.cells #[.bool s2,.slice a2 n2 c2,.slice b2 m2 d2] 27)).heap[w.heap.size+1+1]? = some (.cells #[.bool s2,.slice a2 n2 c2,.slice b2 m2 d2] 27 (0,0))):=hd_ (by have h9:=ai_ ((w.alloc (.cells #[.slice a0 n0 c0,.slice b0 m0 d0] 24)).alloc (.cells #[.slice a1 n1 c1,.slice b1 m1 d1] 24)) #[.bool s2,.slice a2 n2 c2,.slice b2 m2 d2] 27;rwa [al_,al_] at h9)
 have HF0:=hd_ (h0.later HB.out)
 have HG0:=hd_ (j0.later HB.out)
 have HF1:=hd_ (h1.later HB.out)
 have HG1:=hd_ (j1.later HB.out)
 clear h0 j0 hb0 h1 j1 hb1
 go_enter Tryz.func3,Tryz.ntmps3
 unfold frV
 obtain⟨vk0,vk1,vk2,vk3,vk4,vk5,vk6⟩:=bx_ X0.out X1.out X2.out
 go_wp2_with fail
 refine (eg_ a0 n0 c0 K0 b0 m0 d0 M0 4 1 false _ HF0.out HG0.out (by decide) ⟨fun h=>absurd h (by decide),fun h=>absurd HNB0.out h⟩).mono ?_
 rintro e wv1 ⟨rfl,b⟩
 clear vk0 vk1 vk2 vk3 vk4 vk5 vk6
 replace HB:=bt_ HB b
 replace X0:=bl_ X0 b
 replace X1:=bl_ X1 b
 replace X2:=bl_ X2 b
 replace HF0:=HF0.l_ b
 replace HG0:=HG0.l_ b
 replace HF1:=HF1.l_ b
 replace HG1:=HG1.l_ b
 clear b
 obtain⟨vk0,vk1,vk2,vk3,vk4,vk5,vk6⟩:=bx_ X0.out X1.out X2.out
 go_wp2_with fail
 refine (eg_ a1 n1 c1 K1 b1 m1 d1 M1 4 1 true _ HF1.out HG1.out (by decide) ⟨fun _=>HNB1.out,fun _=>rfl⟩).mono ?_
 rintro e wv2 ⟨rfl,b⟩
 clear vk0 vk1 vk2 vk3 vk4 vk5 vk6
 replace HB:=bt_ HB b
 replace X0:=bl_ X0 b
 replace X1:=bl_ X1 b
 replace X2:=bl_ X2 b
 replace HF0:=HF0.l_ b
 replace HG0:=HG0.l_ b
 replace HF1:=HF1.l_ b
 replace HG1:=HG1.l_ b
 clear b
 obtain⟨vk0,vk1,vk2,vk3,vk4,vk5,vk6⟩:=bx_ X0.out X1.out X2.out
 go_wp2_with fail
 refine (HW _).mono ?_
 rintro e wv3 ⟨rfl,b⟩
 clear vk0 vk1 vk2 vk3 vk4 vk5 vk6
 replace HB:=bt_ HB b
 replace X0:=bl_ X0 b
 replace X1:=bl_ X1 b
 replace X2:=bl_ X2 b
 replace HF0:=HF0.l_ b
 replace HG0:=HG0.l_ b
 replace HF1:=HF1.l_ b
 replace HG1:=HG1.l_ b
 clear b
 go_wp2
 go_ret
 exact⟨rfl,HB.out⟩
theorem nd_(HW:∀w:World,Calls Tryz.prog 9 #[] w (bf_ (.bool true) w))(a0:OA_)(n0 c0:Nat)(K0:List Fx)(b0:OA_)(m0 d0:Nat)(M0:List Fx)(a1:OA_)(n1 c1:Nat)(K1:List Fx)(b1:OA_)(m1 d1:Nat)(M1:List Fx)(s2:Bool)(a2:OA_)(n2 c2:Nat)(l2:List Nat)(b2:OA_)(m2 d2:Nat)(k2:List Nat)(w:World)(h0:Fxs w a0 n0 c0 K0)(j0:Fxs w b0 m0 d0 M0)(h1:Fxs w a1 n1 c1 K1)(j1:Fxs w b1 m1 d1 M1)(_h2:Wd w a2 n2 c2 l2)(_j2:Wd w b2 m2 d2 k2)(hb0:(((n0:Int)≤4∧thinI 1 K0)∧((m0:Int)≤4∧thinI 1 M0)))(hb1:(((n1:Int)≤4∧thinI 1 K1)∧((m1:Int)≤4∧thinI 1 M1)))(hk:1 < n2∨1 < m2):Calls Tryz.prog 3 #[.agg #[.slice a0 n0 c0,.slice b0 m0 d0],.agg #[.slice a1 n1 c1,.slice b1 m1 d1],frV s2 a2 n2 c2 b2 m2 d2] w (bf_ (.bool true) w):=by
 have HNB0:=hd_ hb0
 have HNB1:=hd_ hb1
 have hl2:(decide ((1:Int) < (n2:Int)) || decide ((1:Int) < (m2:Int)))=true:=by
  rcases hk with h | h
  ·rw[decide_eq_true (show (1:Int) < (n2:Int) by omega)];rfl
  ·rw[decide_eq_true (show (1:Int) < (m2:Int) by omega),Bool.or_true]
 have HB:=hd_ (ab_ (ab_ (aa_ w (.cells #[.slice a0 n0 c0,.slice b0 m0 d0] 24)) (aa_ _ (.cells #[.slice a1 n1 c1,.slice b1 m1 d1] 24))) (aa_ _ (.cells #[.bool s2,.slice a2 n2 c2,.slice b2 m2 d2] 27)))
 have X0:Hid ((((w.alloc (.cells #[.slice a0 n0 c0,.slice b0 m0 d0] 24)).alloc (.cells #[.slice a1 n1 c1,.slice b1 m1 d1] 24)).alloc (.cells #[.bool s2,.slice a2 n2 c2,.slice b2 m2 d2] 27)).heap[w.heap.size]? = some (.cells #[.slice a0 n0 c0,.slice b0 m0 d0] 24 (0,0))):=hd_ (ac_ (ac_ (ai_ w _ _) (aa_ _ (.cells #[.slice a1 n1 c1,.slice b1 m1 d1] 24))) (aa_ _ (.cells #[.bool s2,.slice a2 n2 c2,.slice b2 m2 d2] 27)))
 have X1:Hid ((((w.alloc (.cells #[.slice a0 n0 c0,.slice b0 m0 d0] 24)).alloc (.cells #[.slice a1 n1 c1,.slice b1 m1 d1] 24)).alloc (.cells #[.bool s2,.slice a2 n2 c2,.slice b2 m2 d2] 27)).heap[w.heap.size+1]? = some (.cells #[.slice a1 n1 c1,.slice b1 m1 d1] 24 (0,0))):=hd_ (ac_ (by have h9:=ai_ (w.alloc (.cells #[.slice a0 n0 c0,.slice b0 m0 d0] 24)) #[.slice a1 n1 c1,.slice b1 m1 d1] 24;rwa [al_] at h9) (aa_ _ (.cells #[.bool s2,.slice a2 n2 c2,.slice b2 m2 d2] 27)))
 have X2:Hid ((((w.alloc (.cells #[.slice a0 n0 c0,.slice b0 m0 d0] 24)).alloc (.cells #[.slice a1 n1 c1,.slice b1 m1 d1] 24)).alloc (.cells #[.bool s2,.slice a2 n2 c2,.slice b2 m2 d2] 27)).heap[w.heap.size+1+1]? = some (.cells #[.bool s2,.slice a2 n2 c2,.slice b2 m2 d2] 27 (0,0))):=hd_ (by have h9:=ai_ ((w.alloc (.cells #[.slice a0 n0 c0,.slice b0 m0 d0] 24)).alloc (.cells #[.slice a1 n1 c1,.slice b1 m1 d1] 24)) #[.bool s2,.slice a2 n2 c2,.slice b2 m2 d2] 27;rwa [al_,al_] at h9)
 have HF0:=hd_ (h0.later HB.out)
 have HG0:=hd_ (j0.later HB.out)
 have HF1:=hd_ (h1.later HB.out)
 have HG1:=hd_ (j1.later HB.out)
 clear h0 j0 hb0 h1 j1 hb1 hk
 go_enter Tryz.func3,Tryz.ntmps3
 unfold frV
 obtain⟨vk0,vk1,vk2,vk3,vk4,vk5,vk6⟩:=bx_ X0.out X1.out X2.out
 go_wp2_with fail
 refine (eg_ a0 n0 c0 K0 b0 m0 d0 M0 4 1 false _ HF0.out HG0.out (by decide) ⟨fun h=>absurd h (by decide),fun h=>absurd HNB0.out h⟩).mono ?_
 rintro e wv1 ⟨rfl,b⟩
 clear vk0 vk1 vk2 vk3 vk4 vk5 vk6
 replace HB:=bt_ HB b
 replace X0:=bl_ X0 b
 replace X1:=bl_ X1 b
 replace X2:=bl_ X2 b
 replace HF0:=HF0.l_ b
 replace HG0:=HG0.l_ b
 replace HF1:=HF1.l_ b
 replace HG1:=HG1.l_ b
 clear b
 obtain⟨vk0,vk1,vk2,vk3,vk4,vk5,vk6⟩:=bx_ X0.out X1.out X2.out
 go_wp2_with fail
 refine (eg_ a1 n1 c1 K1 b1 m1 d1 M1 4 1 false _ HF1.out HG1.out (by decide) ⟨fun h=>absurd h (by decide),fun h=>absurd HNB1.out h⟩).mono ?_
 rintro e wv2 ⟨rfl,b⟩
 clear vk0 vk1 vk2 vk3 vk4 vk5 vk6
 replace HB:=bt_ HB b
 replace X0:=bl_ X0 b
 replace X1:=bl_ X1 b
 replace X2:=bl_ X2 b
 replace HF0:=HF0.l_ b
 replace HG0:=HG0.l_ b
 replace HF1:=HF1.l_ b
 replace HG1:=HG1.l_ b
 clear b
 obtain⟨vk0,vk1,vk2,vk3,vk4,vk5,vk6⟩:=bx_ X0.out X1.out X2.out
 go_wp2_with fail
 refine (ig_ s2 a2 n2 c2 b2 m2 d2 1 _).mono ?_
 rintro e wv3 ⟨rfl,b⟩
 clear vk0 vk1 vk2 vk3 vk4 vk5 vk6
 replace HB:=bt_ HB b
 replace X0:=bl_ X0 b
 replace X1:=bl_ X1 b
 replace X2:=bl_ X2 b
 replace HF0:=HF0.l_ b
 replace HG0:=HG0.l_ b
 replace HF1:=HF1.l_ b
 replace HG1:=HG1.l_ b
 clear b
 rw[hl2]
 obtain⟨vk0,vk1,vk2,vk3,vk4,vk5,vk6⟩:=bx_ X0.out X1.out X2.out
 go_wp2_with fail
 refine (HW _).mono ?_
 rintro e wv4 ⟨rfl,b⟩
 clear vk0 vk1 vk2 vk3 vk4 vk5 vk6
 replace HB:=bt_ HB b
 replace X0:=bl_ X0 b
 replace X1:=bl_ X1 b
 replace X2:=bl_ X2 b
 replace HF0:=HF0.l_ b
 replace HG0:=HG0.l_ b
 replace HF1:=HF1.l_ b
 replace HG1:=HG1.l_ b
 clear b
 go_wp2
 go_ret
 exact⟨rfl,HB.out⟩
theorem pgrow{n X N:Nat}(hn:n≤4):(n+1) * ((n+1) * (X+8)+N+8)≤5 * (5 * (X+8)+N+8):=Nat.mul_le_mul (by omega) (by have:(n+1) * (X+8)≤5 * (X+8):=Nat.mul_le_mul_right _ (by omega);omega)
theorem hl_{u v:List Rat}{h s:Nat}(f:Fz u v h s)(hs:s+2≤15728640000):(∀q∈u,qlen q≤15728640000)∧∀q∈v,qlen q≤15728640000:=⟨fun q hq=>Nat.le_trans (f.qlen q hq) hs,fun q hq=>Nat.le_trans (f.swap.qlen q hq) hs⟩
theorem vl_{w:World}{a:Option Addr}{n c:Nat}{u:List Rat}{h:Nat}(k:Rw w a n c u)(l:u.length≤h)(hh:h≤1000):n≤1000:=by rw[←k.len];omega
theorem j6_{u v:List Rat}{h s:Nat}(f:Fz u v h s)(hh:h≤1000)(hs:s+2≤15728640000)(w':World)(a:OA_)(n c:Nat)(b:OA_)(m d:Nat)(a':OA_)(n' c':Nat)(b':OA_)(m' d':Nat)(g1:Rw w' a n c u)(g2:Rw w' b m d v)(g3:Rw w' a' n' c' u)(g4:Rw w' b' m' d' v):Calls Tryz.prog 19 #[.agg #[.slice a n c,.slice b m d],.agg #[.slice a' n' c',.slice b' m' d']] w' (bf_ (.bool true) w'):=
 law15_is a n c u b m d v a' n' c' u b' m' d' v true w' g1 g2 g3 g4 (vl_ g1 f.lu hh) (vl_ g2 f.lv hh) (hl_ f hs).1 (hl_ f hs).2 (hl_ f hs).1 (hl_ f hs).2 (decide_eq_true ⟨rfl,rfl⟩)
theorem jb_{u:List Rat}{r:Bool}(hr:decide (u=[])=r)(w':World)(a:OA_)(n c:Nat)(b:OA_)(m d:Nat)(g1:Rw w' a n c u):Calls Tryz.prog 21 #[.agg #[.slice a n c,.slice b m d]] w' (bf_ (.bool r) w'):=
 wb_ a n c b m d r w' (by
  rw[←hr,←g1.len]
  cases u with
  | nil=>rfl
  | cons x l=>simp;omega)
theorem gt_{a:Option Addr}{n c:Nat}{K:List Fx}{b:Option Addr}{m d:Nat}{M:List Fx}{u v:List Rat}{h s:Nat}(tk:thin 1 K)(tm:thin 1 M)(hz:Fz (fqs K) (fqs M) h s)(hf:isF (fqs K) (fqs M) u v)(hk:Fok h s)(w':World)(g1:Fxs w' a n c K)(g2:Fxs w' b m d M):Calls Tryz.prog 10 #[.agg #[.slice a n c,.slice b m d]] w' (LstX u v w'):=
 (n1_ a n c K b m d M h s w' g1 g2 (tk.mono (by decide)) (tm.mono (by decide)) hz hk).mono fun _ _ h9=>h9.just hf
theorem pk_{a:Option Addr}{n c:Nat}{K:List Fx}{b:Option Addr}{m d:Nat}{M:List Fx}(tk:thin 1 K)(tm:thin 1 M)(ln:n≤1000)(lm:m≤1000)(w':World)(g1:Fxs w' a n c K)(g2:Fxs w' b m d M):Calls Tryz.prog 12 #[.agg #[.slice a n c,.slice b m d]] w' (LstP (fqs K) (fqs M) w'):=
 (law15_to a n c K b m d M w' g1 g2 ln lm).mono fun _ _ ⟨a',c',b',d',h6,h7,h5,h4⟩=>⟨a',n,c',b',m,d',h6,⟨Pv.of h7 tk,Pv.of h5 tm⟩,h4⟩
theorem k9_(S:RatfSaid)(HW:∀w:World,Calls Tryz.prog 9 #[] w (bf_ (.bool true) w))(a0:OA_)(n0 c0:Nat)(K0:List Fx)(b0:OA_)(m0 d0:Nat)(M0:List Fx)(a1:OA_)(n1 c1:Nat)(K1:List Fx)(b1:OA_)(m1 d1:Nat)(M1:List Fx)(s2:Bool)(a2:OA_)(n2 c2:Nat)(l2:List Nat)(b2:OA_)(m2 d2:Nat)(k2:List Nat)(w:World)(h0:Fxs w a0 n0 c0 K0)(j0:Fxs w b0 m0 d0 M0)(h1:Fxs w a1 n1 c1 K1)(j1:Fxs w b1 m1 d1 M1)(h2:Wd w a2 n2 c2 l2)(j2:Wd w b2 m2 d2 k2)(hb0:(((n0:Int)≤4∧thinI 1 K0)∧((m0:Int)≤4∧thinI 1 M0)))(hb1:(((n1:Int)≤4∧thinI 1 K1)∧((m1:Int)≤4∧thinI 1 M1)))(hn2:n2≤1)(hm2:m2≤1):Calls Tryz.prog 3 #[.agg #[.slice a0 n0 c0,.slice b0 m0 d0],.agg #[.slice a1 n1 c1,.slice b1 m1 d1],frV s2 a2 n2 c2 b2 m2 d2] w (bf_ (.bool true) w):=by
 obtain⟨u,v,hf1⟩:=g1_ (fqs K0) (fqs M0)
 obtain⟨u2,v2,hf2⟩:=g1_ (fqs K1) (fqs M1)
 have t0:=thinI.out (N:=1) hb0.1.2
 have s0:=thinI.out (N:=1) hb0.2.2
 have t1:=thinI.out (N:=1) hb1.1.2
 have s1:=thinI.out (N:=1) hb1.2.2
 have p0:=Pv.of h0 t0
 have r0:=Pv.of j0 s0
 have p1:=Pv.of h1 t1
 have r1:=Pv.of j1 s1
 have l0:n0≤4:=by omega
 have l1:m0≤4:=by omega
 have l2':n1≤4:=by omega
 have l3:m1≤4:=by omega
 have y1:Fz (fqs K0) (fqs M0) 4 8:=Fz.of (N:=1) (n:=4) (m:=4) (p0.qlen_max (Nat.le_refl _)) (r0.qlen_max (Nat.le_refl _)) (by rw[p0.len];exact l0) (by rw[r0.len];exact l1) (Nat.le_refl _) (Nat.le_refl _) (by decide)
 have y2:Fz (fqs K1) (fqs M1) 4 8:=Fz.of (N:=1) (n:=4) (m:=4) (p1.qlen_max (Nat.le_refl _)) (r1.qlen_max (Nat.le_refl _)) (by rw[p1.len];exact l2') (by rw[r1.len];exact l3) (Nat.le_refl _) (Nat.le_refl _) (by decide)
 have f48:Fok 4 8:=by unfold Fok;decide
 have f4:Fok 4 72:=by unfold Fok;decide
 have f26:Fok 2 6:=by unfold Fok;decide
 have z1:Fz u v 4 72:=y1.right hf1 (by decide) (by decide)
 have z2:Fz u2 v2 4 72:=y2.right hf2 (by decide) (by decide)
 obtain⟨k,hk⟩:∃k,qval s2 (val l2) (val k2)=k:=⟨_,rfl⟩
 have hfk:∀w':World,Wd w' a2 n2 c2 l2→Wd w' b2 m2 d2 k2→Fr w' (frV s2 a2 n2 c2 b2 m2 d2) k 1:=fun w' h8 h9=>Fr.of h8 h9 hn2 hm2 hk
 have lk:qlen k≤1:=(hfk w h2 j2).len_max (Nat.le_refl _)
 have hone:∀x∈[(1:Rat)],qlen x≤1:=fun x hx=>by
  rw[List.mem_singleton.1 hx]
  refine ez_ ?_ ?_
  ·show (dg 1).length≤1
   rw[fk_ (by decide) (by decide)];exact Nat.le_refl _
  ·show (dg 1).length≤1
   rw[fk_ (by decide) (by decide)];exact Nat.le_refl _
 obtain⟨uz,vz,hz⟩:=g1_ (fqs M0) [1]
 have yz:Fz (fqs M0) [1] 4 8:=Fz.of (N:=1) (n:=4) (m:=1) (r0.qlen_max (Nat.le_refl _)) hone (by rw[r0.len];exact l1) (by simp) (by decide) (by decide) (by decide)
 obtain⟨du,dv,hd⟩:=g1_ (dup u v) (pmul v v)
 have zd:Fz du dv 8 2368:=(z1.dup (by decide)).right hd (by decide) (by decide)
 obtain⟨uo,vo,ho⟩:=g1_ [k] [1]
 have yo:Fz [k] [1] 2 6:=(Fz.of (N:=1) (n:=1) (m:=1) (h:=2) (s:=6) (fun x hx=>by rw[List.mem_singleton.1 hx];exact lk) hone (by simp) (by simp) (by decide) (by decide) (by decide))
 have zo:Fz uo vo 2 28:=yo.right ho (by decide) (by decide)
 obtain⟨q1,hq1⟩:∃q:Rat,((1:Int):Rat)=q:=⟨_,rfl⟩
 have hq11:q1=1:=by rw[←hq1];rfl
 have lq1:qlen q1≤2:=by rw[←hq1];exact b4_ (by decide)
 have h1r:Rf [1] [1]:=n9_ (by decide +kernel)
 have hON:isF [q1,0] [1] [1] [1]:=h1r.isF.of (aq_ fun z=>by rw[hq11];show (1:Rat)+z * 0=1+z * (0+z * 0);grind) (peq.refl _)
 have hp9:∀{w':World} (a:OA_) (n c:Nat) (b:OA_) (m d:Nat),Pvs w' a n c b m d (fqs K0) (fqs M0)→Fv w' a n c b m d u v 4 72:=fun a n c b m d h9=>(Fv.arg (k:=4) h9.1 h9.2 (by rw[←h9.1.len,p0.len];exact l0) (by rw[←h9.2.len,r0.len];exact l1) (by decide) (by decide) hf1).1
 have hp8:∀{w':World} (a:OA_) (n c:Nat) (b:OA_) (m d:Nat),Pvs w' a n c b m d (fqs K1) (fqs M1)→Fv w' a n c b m d u2 v2 4 72:=fun a n c b m d h9=>(Fv.arg (k:=4) h9.1 h9.2 (by rw[←h9.1.len,p1.len];exact l2') (by rw[←h9.2.len,r1.len];exact l3) (by decide) (by decide) hf2).1
 have lwd:∀{q:Rat} {N:Nat} {w':World} {a:Option Addr} {n c:Nat} {b:Option Addr} {m d:Nat},qlen q≤N→Wd w' a n c (dg q.num.natAbs)→Wd w' b m d (dg q.den)→n≤N∧m≤N:=fun {q N w' a n c b m d} g1 g2 g3=>⟨by rw[←g2.len];exact Nat.le_trans (a5_ _) g1,by rw[←g3.len];exact Nat.le_trans (a4_ _) g1⟩
 have lpe:∀x:LR_,x.length≤4→(∀q∈x,qlen q≤74)→qlen (ar_ k x)≤15728640000:=fun x g1 g2=>by
  have e1:=kz_ lk g2
  have e2:x.length * (74+1+3)≤4 * 78:=Nat.mul_le_mul_right _ g1
  omega
 have hev:∃(qv:Rat) (okv:Bool),(∀(w':World) (a:OA_) (n c:Nat) (b:OA_) (m d:Nat),Pvs w' a n c b m d (fqs K0) (fqs M0)→Wd w' a2 n2 c2 l2→Wd w' b2 m2 d2 k2→Calls Tryz.prog 16 #[.agg #[.slice a n c,.slice b m d],.agg #[.bool s2,.slice a2 n2 c2,.slice b2 m2 d2]] w' (en_ qv (.bool okv) w'))∧∀(w':World) (a:OA_) (n c:Nat) (b:OA_) (m d:Nat) (a3:OA_) (n3 c3:Nat) (b3:OA_) (m3 d3:Nat),Rw w' a n c u→Rw w' b m d v→Wd w' a3 n3 c3 (dg k.num.natAbs)→Wd w' b3 m3 d3 (dg k.den)→Calls Tryz.prog 18 #[.agg #[.slice a n c,.slice b m d],.agg #[.bool (zneg k.num),.slice a3 n3 c3,.slice b3 m3 d3]] w' (en_ qv (.bool okv) w'):=by
  by_cases x1:ar_ k v=0
  ·exact⟨0,false,fun w' a n c b m d h9 h8 h7=>S.eval_no a n c b m d u v 4 72 _ k 1 w' (hp9 a n c b m d h9) (hfk w' h8 h7) f4 (by decide) x1,fun w' a n c b m d a3 n3 c3 b3 m3 d3 g1 g2 g3 g4=>p1_ a n c u b m d v k a3 n3 c3 b3 m3 d3 74 1 w' g1 g2 g3 g4 (lwd lk g3 g4).1 (lwd lk g3 g4).2 z1.qlen z1.swap.qlen (Nat.le_trans (pgrow (by rw[←g1.len];exact z1.lu)) (by decide)) (Nat.le_trans (pgrow (by rw[←g2.len];exact z1.lv)) (by decide)) (lpe v z1.lv z1.swap.qlen) x1⟩
  ·exact⟨_,true,fun w' a n c b m d h9 h8 h7=>S.eval_yes a n c b m d u v 4 72 _ k 1 w' (hp9 a n c b m d h9) (hfk w' h8 h7) f4 (by decide) x1,fun w' a n c b m d a3 n3 c3 b3 m3 d3 g1 g2 g3 g4=>ng_ a n c u b m d v k a3 n3 c3 b3 m3 d3 74 1 w' g1 g2 g3 g4 (lwd lk g3 g4).1 (lwd lk g3 g4).2 z1.qlen z1.swap.qlen (Nat.le_trans (pgrow (by rw[←g1.len];exact z1.lu)) (by decide)) (Nat.le_trans (pgrow (by rw[←g2.len];exact z1.lv)) (by decide)) (lpe u z1.lu z1.qlen) (lpe v z1.lv z1.swap.qlen) x1⟩
 obtain⟨qv,okv,HEV,HEW⟩:=hev
 obtain⟨rz,hrz⟩:∃r,decide (u=[])=r:=⟨_,rfl⟩
 obtain⟨rs,hrs⟩:∃r,decide (u=u2∧v=v2)=r:=⟨_,rfl⟩
 by_cases hV:plen (fqs M0)=0
 ·have huz:uz=[]:=(hz.zero (.inl hV)).1
  exact pw_ HW (fqs K0) (fqs M0) (fqs K1) (fqs M1) u v u2 v2 uz vz du dv uo vo [1] k q1 qv okv rz rs a0 n0 c0 K0 b0 m0 d0 M0 a1 n1 c1 K1 b1 m1 d1 M1 s2 a2 n2 c2 l2 b2 m2 d2 k2 w h0 j0 h1 j1 h2 j2 hb0 hb1 hn2 hm2 (gt_ t0 s0 y1 hf1 f48) (fun w' g1 g2=>ho_ _ k w' (Fr.of g1 g2 (by omega) (by omega) hk)) (pk_ t0 s0 (by omega) (by omega)) (fun w' a n c b m d g=>(S.new a n c _ b m d _ u v 4 8 w' (g.1.more (by decide)) (g.2.more (by decide)) hf1 y1 f48).mono fun _ _ h9=>by rw[decide_eq_false (by simp[hV]:¬(plen (fqs M0)≠0))] at h9;exact h9.just hf1.1.isF) (fun w'=>hq1▸dg_ 1 w' g0_) (fun w' a n c b m d g1 g2=>(lg_ q1 a n c b m d 2 w' g1 g2 lq1 f26 (Nat.le_refl 2)).mono fun _ _ h9=>h9.just hON) (fun w' a n c g1 g2=>by obtain⟨L,e1,e2,e3⟩:=g2.thin hone;exact gt_ s0 e3 (by rw[e2];exact yz) (by rw[e2];exact hz) f48 w' g1 e1) (fun w'=>pt_ s2 a2 n2 c2 b2 m2 d2 w') (HEV) (HEW) (fun w' a n c b m d g=>(S.norm a n c b m d u v 4 72 w' (hp9 a n c b m d g) f4).mono fun _ _ h9=>h9.just hf1.1.isF) (j6_ z1 (by decide) (by decide)) (fun w' a n c b m d g1 _=>jb_ (decide_eq_true huz) w' a n c b m d g1) (fun w' a1' n1' c1' b1' m1' d1' a3 n3 c3 b3 m3 d3 g1 g2 g3 g4=>k2_ _ a1' n1' c1' b1' m1' d1' _ _ a3 n3 c3 b3 m3 d3 w' g1 g2 g3 g4) (fun w' a n c b m d g=>hrz▸S.zero a n c b m d u v 4 72 w' (hp9 a n c b m d g) f4) (fun w' a n c b m d g1 _=>jb_ hrz w' a n c b m d g1) (pk_ t1 s1 (by omega) (by omega)) (fun w' a n c b m d a' n' c' b' m' d' g1 g2=>hrs▸S.same a n c b m d u v 4 72 a' n' c' b' m' d' u2 v2 4 72 w' (hp9 a n c b m d g1) (hp8 a' n' c' b' m' d' g2) f4 f4 (by decide)) (gt_ t1 s1 y2 hf2 f48) (fun w' a n c b m d a' n' c' b' m' d' g1 g2 g3 g4=>oc_ a n c u b m d v a' n' c' u2 b' m' d' v2 rs w' g1 g2 g3 g4 (vl_ g1 z1.lu (by decide)) (vl_ g2 z1.lv (by decide)) (hl_ z1 (by decide)).1 (hl_ z1 (by decide)).2 (hl_ z2 (by decide)).1 (hl_ z2 (by decide)).2 hrs) (fun w' a n c b m d g=>(S.diff a n c b m d u v 4 72 w' (hp9 a n c b m d g) (by unfold Fok;decide)).mono fun _ _ h9=>h9.just hd) (fun w' a n c b m d g1 g2=>(n7_ a n c u b m d v w' g1 g2 z1 (by unfold Fok;decide)).mono fun _ _ h9=>h9.just hd) (j6_ zd (by decide) (by decide)) (fun w' g1 g2=>(S.of _ k 1 w' (hfk w' g1 g2) f26).mono fun _ _ h9=>h9.just ho) (fun w' a n c b m d g1 g2=>(lg_ k a n c b m d 2 w' g1 g2 (by omega) f26 (Nat.le_refl 2)).mono fun _ _ h9=>h9.just (ho.of (aq_ fun z=>by show k+z * 0=k+z * (0+z * 0);grind) (peq.refl _))) (j6_ zo (by decide) (by decide))
 ·have huz:uz≠[]:=fun e=>by
   have e1:=hz.2.2 (by rw[et_ (by decide)];decide)
   have e2:plen (pmul vz (fqs M0))=0:=by
    rw[←am_ e1,e];rfl
   rcases ms_ e2 with g | g
   ·exact hz.1.v0 g
   ·exact hV g
  exact o4_ HW (fqs K0) (fqs M0) (fqs K1) (fqs M1) u v u2 v2 uz vz du dv uo vo [1] k q1 qv okv rz rs a0 n0 c0 K0 b0 m0 d0 M0 a1 n1 c1 K1 b1 m1 d1 M1 s2 a2 n2 c2 l2 b2 m2 d2 k2 w h0 j0 h1 j1 h2 j2 hb0 hb1 hn2 hm2 (gt_ t0 s0 y1 hf1 f48) (fun w' g1 g2=>ho_ _ k w' (Fr.of g1 g2 (by omega) (by omega) hk)) (pk_ t0 s0 (by omega) (by omega)) (fun w' a n c b m d g=>(S.new a n c _ b m d _ u v 4 8 w' (g.1.more (by decide)) (g.2.more (by decide)) hf1 y1 f48).mono fun _ _ h9=>by rw[decide_eq_true hV] at h9;exact h9.just hf1.1.isF) (fun w'=>hq1▸dg_ 1 w' g0_) (fun w' a n c b m d g1 g2=>(lg_ q1 a n c b m d 2 w' g1 g2 lq1 f26 (Nat.le_refl 2)).mono fun _ _ h9=>h9.just hON) (fun w' a n c g1 g2=>by obtain⟨L,e1,e2,e3⟩:=g2.thin hone;exact gt_ s0 e3 (by rw[e2];exact yz) (by rw[e2];exact hz) f48 w' g1 e1) (fun w'=>pt_ s2 a2 n2 c2 b2 m2 d2 w') (HEV) (HEW) (fun w' a n c b m d g=>(S.norm a n c b m d u v 4 72 w' (hp9 a n c b m d g) f4).mono fun _ _ h9=>h9.just hf1.1.isF) (j6_ z1 (by decide) (by decide)) (fun w' a n c b m d g1 _=>jb_ (decide_eq_false huz) w' a n c b m d g1) (fun w' a1' n1' c1' b1' m1' d1' a3 n3 c3 b3 m3 d3 g1 g2 g3 g4=>k2_ _ a1' n1' c1' b1' m1' d1' _ _ a3 n3 c3 b3 m3 d3 w' g1 g2 g3 g4) (fun w' a n c b m d g=>hrz▸S.zero a n c b m d u v 4 72 w' (hp9 a n c b m d g) f4) (fun w' a n c b m d g1 _=>jb_ hrz w' a n c b m d g1) (pk_ t1 s1 (by omega) (by omega)) (fun w' a n c b m d a' n' c' b' m' d' g1 g2=>hrs▸S.same a n c b m d u v 4 72 a' n' c' b' m' d' u2 v2 4 72 w' (hp9 a n c b m d g1) (hp8 a' n' c' b' m' d' g2) f4 f4 (by decide)) (gt_ t1 s1 y2 hf2 f48) (fun w' a n c b m d a' n' c' b' m' d' g1 g2 g3 g4=>oc_ a n c u b m d v a' n' c' u2 b' m' d' v2 rs w' g1 g2 g3 g4 (vl_ g1 z1.lu (by decide)) (vl_ g2 z1.lv (by decide)) (hl_ z1 (by decide)).1 (hl_ z1 (by decide)).2 (hl_ z2 (by decide)).1 (hl_ z2 (by decide)).2 hrs) (fun w' a n c b m d g=>(S.diff a n c b m d u v 4 72 w' (hp9 a n c b m d g) (by unfold Fok;decide)).mono fun _ _ h9=>h9.just hd) (fun w' a n c b m d g1 g2=>(n7_ a n c u b m d v w' g1 g2 z1 (by unfold Fok;decide)).mono fun _ _ h9=>h9.just hd) (j6_ zd (by decide) (by decide)) (fun w' g1 g2=>(S.of _ k 1 w' (hfk w' g1 g2) f26).mono fun _ _ h9=>h9.just ho) (fun w' a n c b m d g1 g2=>(lg_ k a n c b m d 2 w' g1 g2 (by omega) f26 (Nat.le_refl 2)).mono fun _ _ h9=>h9.just (ho.of (aq_ fun z=>by show k+z * 0=k+z * (0+z * 0);grind) (peq.refl _))) (j6_ zo (by decide) (by decide))
theorem sj_(S:RatfSaid)(HW:∀w:World,Calls Tryz.prog 9 #[] w (bf_ (.bool true) w))(a0:OA_)(n0 c0:Nat)(K0:List Fx)(b0:OA_)(m0 d0:Nat)(M0:List Fx)(a1:OA_)(n1 c1:Nat)(K1:List Fx)(b1:OA_)(m1 d1:Nat)(M1:List Fx)(s2:Bool)(a2:OA_)(n2 c2:Nat)(l2:List Nat)(b2:OA_)(m2 d2:Nat)(k2:List Nat)(w:World)(h0:Fxs w a0 n0 c0 K0)(j0:Fxs w b0 m0 d0 M0)(h1:Fxs w a1 n1 c1 K1)(j1:Fxs w b1 m1 d1 M1)(h2:Wd w a2 n2 c2 l2)(j2:Wd w b2 m2 d2 k2):Calls Tryz.prog 3 #[.agg #[.slice a0 n0 c0,.slice b0 m0 d0],.agg #[.slice a1 n1 c1,.slice b1 m1 d1],frV s2 a2 n2 c2 b2 m2 d2] w (bf_ (.bool true) w):=by
 by_cases hb0:(((n0:Int)≤4∧thinI 1 K0)∧((m0:Int)≤4∧thinI 1 M0))
 ·by_cases hb1:(((n1:Int)≤4∧thinI 1 K1)∧((m1:Int)≤4∧thinI 1 M1))
  ·by_cases hk:1 < n2∨1 < m2
   ·exact nd_ HW a0 n0 c0 K0 b0 m0 d0 M0 a1 n1 c1 K1 b1 m1 d1 M1 s2 a2 n2 c2 l2 b2 m2 d2 k2 w h0 j0 h1 j1 h2 j2 hb0 hb1 hk
   ·exact k9_ S HW a0 n0 c0 K0 b0 m0 d0 M0 a1 n1 c1 K1 b1 m1 d1 M1 s2 a2 n2 c2 l2 b2 m2 d2 k2 w h0 j0 h1 j1 h2 j2 hb0 hb1 (by omega) (by omega)
  ·exact nc_ HW a0 n0 c0 K0 b0 m0 d0 M0 a1 n1 c1 K1 b1 m1 d1 M1 s2 a2 n2 c2 l2 b2 m2 d2 k2 w h0 j0 h1 j1 h2 j2 hb0 hb1
 ·exact ne_ HW a0 n0 c0 K0 b0 m0 d0 M0 a1 n1 c1 K1 b1 m1 d1 M1 s2 a2 n2 c2 l2 b2 m2 d2 k2 w h0 j0 h1 j1 h2 j2 hb0
def Cpr (p q:LR_):Prop:=∃s t:LR_,∀x,ar_ x s * ar_ x p+ar_ x t * ar_ x q=1
theorem Cpr.sum{p q:List Rat}(h:Cpr p q):∃s t,peq (padd (pmul s p) (pmul t q)) [1]:=by
 obtain⟨s,t,h⟩:=h
 exact⟨s,t,aq_ fun x=>by rw[a2_,af_,af_,bs_];exact h x⟩
theorem Rf.coprime{u v:List Rat}(h:Rf u v):Cpr u v:=h.eval_cop
theorem Cpr.symm{p q:List Rat}(h:Cpr p q):Cpr q p:=by
 obtain⟨s,t,h⟩:=h
 exact⟨t,s,fun x=>by have:=h x;grind⟩
theorem Cpr.mul{p q r:List Rat}(h:Cpr p q)(k:Cpr p r):Cpr p (pmul q r):=by
 obtain⟨s,t,h⟩:=h
 obtain⟨s',t',k⟩:=k
 refine ⟨padd (pmul (pmul s s') p) (padd (pmul (pmul s t') r) (pmul (pmul t q) s')),pmul t t',fun x=>?_⟩
 have h1:=h x
 have k1:=k x
 have e:(ar_ x s * ar_ x p+ar_ x t * ar_ x q) * (ar_ x s' * ar_ x p+ar_ x t' * ar_ x r)=1:=by rw[h1,k1];decide +kernel
 simp only[a2_,af_]
 rw[←e];grind
theorem Cpr.part{p q k r:List Rat}(h:Cpr p q)(e:peq q (pmul k r)):Cpr p k∧Cpr p r:=by
 obtain⟨s,t,h⟩:=h
 refine ⟨⟨s,pmul t r,fun x=>?_⟩,⟨s,pmul t k,fun x=>?_⟩⟩
 ·have h1:=h x
  have e1:=ak_ x e
  rw[af_] at e1 ⊢
  rw[e1] at h1
  rw[←h1];grind
 ·have h1:=h x
  have e1:=ak_ x e
  rw[af_] at e1 ⊢
  rw[e1] at h1
  rw[←h1];grind
theorem Cpr.of{p q p' q':List Rat}(h:Cpr p q)(hp:peq p p')(hq:peq q q'):Cpr p' q':=by
 obtain⟨s,t,h⟩:=h
 exact⟨s,t,fun x=>by rw[←ak_ x hp,←ak_ x hq];exact h x⟩
theorem Cpr.shift{p q p' k:List Rat}(h:Cpr p q)(e:peq p' (padd p (pmul k q))):Cpr p' q:=by
 obtain⟨s,t,h⟩:=h
 refine ⟨s,psub t (pmul s k),fun x=>?_⟩
 have h1:=h x
 have e1:=ak_ x e
 rw[a2_,af_] at e1
 rw[e1,cd_,af_,←h1];grind
theorem cop_one(p:LR_):Cpr p [1]:=⟨[],[1],fun x=>by rw[bs_];show 0 * _+_=_;grind⟩
theorem Cpr.pow{p q:List Rat}(h:Cpr p q):∀k,Cpr p (ppow q k)
 | 0=>cop_one p
 | k+1=>(h.pow k).mul h
theorem gcd_cop{U V g x y:List Rat}(hg:common U V g)(hg0:plen g≠0)(hx:peq U (pmul x g))(hy:peq V (pmul y g)):Cpr x y:=by
 obtain⟨s,t,hst⟩:=hg.2.2
 have hb:peq (padd (pmul s x) (pmul t y)) [1]:=f2_ hg0 (aq_ fun z=>by
  have e1:=ak_ z hst
  have e2:=ak_ z hx
  have e3:=ak_ z hy
  rw[a2_,af_,af_] at e1
  rw[af_] at e2 e3
  rw[af_,af_,bs_,a2_,af_,af_];grind)
 exact⟨s,t,fun z=>by have:=ak_ z hb;rwa [a2_,af_,af_,bs_] at this⟩
def Mon1 (p:LR_):Prop:=plen p≠0∧co p (plen p - 1)=1
theorem Mon1.of{p q:List Rat}(h:Mon1 p)(e:peq p q):Mon1 q:=⟨by rw[←am_ e];exact h.1,by rw[←am_ e,←e];exact h.2⟩
theorem Rf.monic{u v:List Rat}(h:Rf u v):Mon1 v:=⟨h.v0,h.one⟩
theorem qb_:Mon1 [1]:=⟨by rw[et_ (by decide)];decide,by rw[et_ (by decide)];rfl⟩
theorem Mon1.mul{p q:List Rat}(h:Mon1 p)(k:Mon1 q):Mon1 (pmul p q):=by
 have h0:=h.1
 have k0:=k.1
 obtain⟨e1,e2⟩:=fr_ (a:=p) (b:=q) (m:=plen p - 1) (n:=plen q - 1) (by omega) (by omega)
 refine ⟨by omega,?_⟩
 rw[e1,Nat.add_sub_cancel,e2,h.2,k.2];decide +kernel
theorem Mon1.left{p a g:List Rat}(h:Mon1 p)(hg:Mon1 g)(e:peq p (pmul a g)):Mon1 a:=by
 have ha:plen a≠0:=fun e0=>h.1 (by rw[am_ e,am_ (a1_ (cy_ e0) (peq.refl g))];rfl)
 have g0:=hg.1
 obtain⟨e1,e2⟩:=fr_ (a:=a) (b:=g) (m:=plen a - 1) (n:=plen g - 1) (by omega) (by omega)
 refine ⟨ha,?_⟩
 have h2:=(h.of e).2
 rw[e1,Nat.add_sub_cancel,e2,hg.2,Rat.mul_one] at h2
 exact h2
theorem Mon1.pow{p:List Rat}(h:Mon1 p):∀k,Mon1 (ppow p k)
 | 0=>qb_
 | k+1=>(h.pow k).mul h
theorem isGcd.monic{U V g:List Rat}(h:isGcd U V g)(hg:plen g≠0):Mon1 g:=⟨hg,h.2 _ (by omega)⟩
theorem Rf.of_cop{u v U V:List Rat}(h:Cpr u v)(hv:Mon1 v)(eu:peq U u)(ev:peq V v)(nu:ah_ U=U)(nv:ah_ V=V):Rf U V:=
 ⟨nu,nv,(hv.of ev.symm).1,(hv.of ev.symm).2,(h.of eu.symm ev.symm).sum⟩
structure PartP (U V:LR_) (h K:Nat) (x y g:LR_):Prop where
 nx:ah_ x=x
 ny:ah_ y=y
 ng:ah_ g=g
 dx:peq U (pmul x g)
 dy:peq V (pmul y g)
 gcd:isGcd U V g
 sz:Fz g g h K
theorem PartP.g0{U V x y g:List Rat}{h K:Nat}(p:PartP U V h K x y g)(hV:plen V≠0):plen g≠0:=fun e=>hV (by rw[am_ p.dy,am_ (a1_ (peq.refl y) (cy_ e)),am_ (d9_ y)];rfl)
theorem PartP.Cpr{U V x y g:List Rat}{h K:Nat}(p:PartP U V h K x y g)(hV:plen V≠0):Go.Proofs.YtocebjbjnfammaaGreat.Cpr x y:=gcd_cop p.gcd.1 (p.g0 hV) p.dx p.dy
theorem PartP.rf{U V x y g:List Rat}{h K:Nat}(p:PartP U V h K x y g)(hV:Mon1 V):Rf x y:=by
 have hg:=p.gcd.monic (p.g0 hV.1)
 exact Rf.of_cop (p.Cpr hV.1) (hV.left hg p.dy) (peq.refl _) (peq.refl _) p.nx p.ny
theorem PartP.isF{U V x y g:List Rat}{h K:Nat}(p:PartP U V h K x y g)(hV:Mon1 V):isF U V x y:=by
 refine ⟨p.rf hV,fun e=>absurd e hV.1,fun _=>aq_ fun z=>?_⟩
 have e1:=ak_ z p.dx
 have e2:=ak_ z p.dy
 rw[af_] at e1 e2
 rw[af_,af_,e1,e2];grind
theorem Fz.pair{A A' B B':List Rat}{h k s t:Nat}(f:Fz A A' h s)(g:Fz B B' k t):Fz A B (max h k) (s+t):=by
 obtain⟨a1,a2,c,c1,c2,c3,c4⟩:=f
 obtain⟨b1,b2,d,d1,d2,d3,d4⟩:=g
 refine ⟨by omega,by omega,c * d,Nat.mul_pos c1 d1,by rw[ey_];exact Nat.mul_le_mul c2 d2,fun i=>?_,fun i=>?_⟩
 ·obtain⟨z,e1,e2⟩:=c3 i
  refine ⟨(d:Int) * z,?_,?_⟩
  ·rw[aj_] at e1 ⊢
   rw[Rat.intCast_mul,Rat.intCast_natCast,←e1,Rat.natCast_mul];grind
  ·rw[Int.natAbs_mul,Int.natAbs_natCast,ey_,Nat.mul_comm]
   exact Nat.mul_le_mul e2 d2
 ·obtain⟨z,e1,e2⟩:=d3 i
  refine ⟨(c:Int) * z,?_,?_⟩
  ·rw[aj_] at e1 ⊢
   rw[Rat.intCast_mul,Rat.intCast_natCast,←e1,Rat.natCast_mul];grind
  ·rw[Int.natAbs_mul,Int.natAbs_natCast,ey_]
   exact Nat.mul_le_mul c2 e2
theorem Fz.same{U V U' V':List Rat}{h s h':Nat}(f:Fz U V h s)(eU:peq U U')(eV:peq V V')(l:U'.length≤h')(m:V'.length≤h'):Fz U' V' h' s:=by
 obtain⟨a,b,c,c1,c2,c3,c4⟩:=f
 exact⟨l,m,c,c1,c2,c3.congr (bu_ _ eU),c4.congr (bu_ _ eV)⟩
theorem Fz.norms{U V:List Rat}{h s:Nat}(f:Fz U V h s):Fz (ah_ U) (ah_ V) h s:=f.same (au_ U).symm (au_ V).symm (Nat.le_trans (az_ U) f.lu) (Nat.le_trans (az_ V) f.lv)
theorem isF_mul{u v x y u1 y1 g x1 v1 g' A D:List Rat}{h k K K':Nat}(hu:Rf u v)(hx:Rf x y)(p:PartP u y h K u1 y1 g)(p':PartP x v k K' x1 v1 g')(hA:peq A (pmul u1 x1))(nA:ah_ A=A)(hD:peq D (pmul v1 y1))(nD:ah_ D=D) :
 isF (pmul u x) (pmul v y) A D:=by
 have mv:=hu.monic
 have my:=hx.monic
 have mg:=p.gcd.monic (p.g0 my.1)
 have mg':=p'.gcd.monic (p'.g0 mv.1)
 have my1:=my.left mg p.dy
 have mv1:=mv.left mg' p'.dy
 have c1:Cpr u1 v1:=((hu.coprime.part p'.dy).1.symm.part p.dx).1.symm
 have c2:Cpr x1 y1:=((hx.coprime.part p.dy).1.symm.part p'.dx).1.symm
 have c3:=p.Cpr my.1
 have c4:=p'.Cpr mv.1
 refine ⟨Rf.of_cop ((c1.mul c3).symm.mul (c4.mul c2).symm).symm (mv1.mul my1) hA hD nA nD,fun e=>absurd e (mv.mul my).1,fun _=>aq_ fun z=>?_⟩
 have e1:=ak_ z p.dx
 have e2:=ak_ z p.dy
 have e3:=ak_ z p'.dx
 have e4:=ak_ z p'.dy
 have e5:=ak_ z hA
 have e6:=ak_ z hD
 simp only[af_] at e1 e2 e3 e4 e5 e6 ⊢
 rw[e1,e2,e3,e4,e5,e6];grind
theorem vr_{a:List Rat}(h:2≤plen a):plen (bw_ a)≠0:=fun e=>by
 have h1:=plen_zero.1 e (plen a - 2)
 rw[dk_] at h1
 rcases Rat.mul_eq_zero.1 h1 with h2 | h2
 ·have:=Rat.natCast_inj.1 (h2.trans (show (0:Rat)=((0:Nat):Rat) from rfl));omega
 ·exact dl_ (a:=a) (n:=plen a - 2+1) (by omega) h2
theorem dvd_mult{c rest h D:List Rat}(k:Cpr c rest)(e:peq D (pmul rest h))(d:pdvd c D):pdvd c h:=by
 obtain⟨s,t,k⟩:=k
 obtain⟨j,d⟩:=d
 refine ⟨padd (pmul s h) (pmul t j),aq_ fun x=>?_⟩
 have k1:=k x
 have e1:=ak_ x e
 have d1:=ak_ x d
 rw[af_] at e1 d1
 rw[af_,a2_,af_,af_]
 have h1:ar_ x h * (ar_ x s * ar_ x c+ar_ x t * ar_ x rest)=ar_ x h:=by rw[k1,Rat.mul_one]
 rw[←h1]
 have h2:ar_ x h * (ar_ x s * ar_ x c+ar_ x t * ar_ x rest)=ar_ x s * ar_ x h * ar_ x c+ar_ x t * (ar_ x rest * ar_ x h):=by grind
 rw[h2,←e1,d1]
 first | (rw[h1] at h2;grind) | grind
theorem dvd_most{c:List Rat}(hc:2≤plen c):∀(n:Nat) (D:LR_),plen D≤n→plen D≠0→∃m w,peq D (pmul (ppow c m) w)∧¬pdvd c w:=by
 intro n
 induction n with
 | zero=>intro D h1 h2;exact absurd (Nat.le_zero.1 h1) h2
 | succ n ih=>
   intro D h1 h2
   by_cases hd:pdvd c D
   ·obtain⟨k,hk⟩:=hd
    have hk0:plen k≠0:=fun e=>h2 (by rw[am_ hk,am_ (a1_ (cy_ e) (peq.refl c))];rfl)
    have hl:=am_ hk
    rw[dq_ hk0 (by omega)] at hl
    obtain⟨m,w,e,hw⟩:=ih k (by omega) hk0
    refine ⟨m+1,w,aq_ fun x=>?_,hw⟩
    have e1:=ak_ x hk
    have e2:=ak_ x e
    rw[af_] at e1 e2
    rw[e1,e2,af_]
    show _=ar_ x (pmul (ppow c m) c) * _
    rw[af_];grind
   ·exact⟨0,D,aq_ fun x=>by rw[af_];show _=ar_ x [1] * _;rw[bs_,Rat.one_mul],hd⟩
theorem qx_(c:LR_):∀m:Nat,peq (bw_ (ppow c (m+1))) (ag_ ((m+1:Nat):Rat) (pmul (ppow c m) (bw_ c)))
 | 0=>aq_ fun x=>by
   have h0:peq (ppow c 1) c:=aq_ fun y=>by
    show ar_ y (pmul [1] c)=_
    rw[af_,bs_,Rat.one_mul]
   rw[ak_ x (lw_ h0),ap_,af_]
   show _=((1:Nat):Rat) * (ar_ x [1] * _)
   rw[bs_]
   have h1:((1:Nat):Rat)=1:=rfl
   rw[h1];grind
 | m+1=>aq_ fun x=>by
   have h1:=ak_ x (rv_ (ppow c (m+1)) c)
   have h2:=ak_ x (qx_ c m)
   have h3:ar_ x (bw_ (ppow c (m+1+1)))=ar_ x (bw_ (pmul (ppow c (m+1)) c)):=rfl
   have h4:ar_ x (ppow c (m+1))=ar_ x (ppow c m) * ar_ x c:=by
    show ar_ x (pmul (ppow c m) c)=_
    rw[af_]
   have h5:((m+1+1:Nat):Rat)=((m+1:Nat):Rat)+1:=by rw[Rat.natCast_add];rfl
   simp only[a2_,af_,ap_] at h1 h2 ⊢
   rw[h3,h1,h2,h4,h5]
   generalize ((m+1:Nat):Rat)=a at *
   grind
theorem rest_all{D rest h slope:List Rat}(hD:plen D≠0)(e:peq D (pmul rest h))(e':peq (bw_ D) (pmul slope h)):∀(n:Nat) (c:LR_),plen c≤n→pdvd c D→Cpr c rest→plen c=1:=by
 intro n
 induction n with
 | zero=>
   intro c h1 h2 _
   obtain⟨k,hk⟩:=h2
   exact absurd (by rw[am_ hk,am_ (a1_ (peq.refl k) (cy_ (Nat.le_zero.1 h1))),am_ (d9_ k)];rfl) hD
 | succ n ih=>
   intro c h1 h2 h3
   have hc0:=(pdvd.len h2 hD).1
   by_cases hc:plen c=1
   ·exact hc
   exfalso
   have hc2:2≤plen c:=by omega
   have hcc:Cpr c (bw_ c):=by
    obtain⟨f,hf⟩:=g4_ _ (ah_ c) (ah_ (bw_ c)) (Nat.le_refl _) (a7_ _) (a7_ _)
    have hf':=hf.of (au_ c) (au_ (bw_ c)) (peq.refl f)
    have hl:=pdvd.len hf'.2.1 (vr_ hc2)
    have hle:=g5_ c
    obtain⟨j,hj⟩:=hf'.1
    have hf1:plen f=1:=ih f (by omega) (pdvd.trans hf'.1 h2) ((h3.symm.part hj).2.symm)
    obtain⟨s,t,hst⟩:=hf'.2.2
    have ht:=dl_ (a:=f) (n:=0) hf1
    have hfe:∀x,ar_ x f=co f 0:=fun x=>by
     rw[ak_ x (show peq f [co f 0] from fun i=>by
      cases i with
      | zero=>rfl
      | succ i=>rw[b8_ (a:=f) (by omega),b1_,d8_]),bs_]
    refine ⟨ag_ (1 / co f 0) s,ag_ (1 / co f 0) t,fun x=>?_⟩
    have h8:=ak_ x hst
    rw[a2_,af_,af_,hfe x] at h8
    have h9:1 / co f 0 * co f 0=1:=Rat.div_mul_cancel ht
    rw[ap_,ap_]
    generalize 1 / co f 0=d at *
    rw[h8] at h9
    rw[←h9];grind
   obtain⟨m,w,hm,hw⟩:=dvd_most hc2 _ D (Nat.le_refl _) hD
   cases m with
   | zero=>
     refine hw ?_
     obtain⟨j,hj⟩:=h2
     refine ⟨j,peq.trans (aq_ fun x=>?_) hj⟩
     rw[ak_ x hm,af_]
     show _=ar_ x [1] * _
     rw[bs_,Rat.one_mul]
   | succ m=>
     have hp0:plen (ppow c m)≠0:=rk_ (by omega) m
     have hd:pdvd (ppow c (m+1)) h:=dvd_mult ((h3.symm.pow (m+1)).symm) e ⟨w,hm.trans (ml_ _ _)⟩
     obtain⟨j,hj⟩:=hd
     have hkey:peq (ag_ ((m+1:Nat):Rat) (pmul (bw_ c) w)) (pmul c (psub (pmul slope j) (bw_ w))):=f2_ hp0 (aq_ fun x=>by
      have g1:=ak_ x (rv_ (ppow c (m+1)) w)
      have g2:=ak_ x (lw_ hm)
      have g3:=ak_ x (qx_ c m)
      have g4:=ak_ x e'
      have g5:=ak_ x hj
      have g6:ar_ x (ppow c (m+1))=ar_ x (ppow c m) * ar_ x c:=by
       show ar_ x (pmul (ppow c m) c)=_
       rw[af_]
      simp only[a2_,cd_,af_,ap_] at g1 g2 g3 g4 g5 ⊢
      rw[g1,g3,g6] at g2
      rw[g4,g5,g6] at g2
      generalize ((m+1:Nat):Rat)=a at *
      grind)
     refine hw ?_
     obtain⟨s,t,hst⟩:=hcc
     have ha:((m+1:Nat):Rat)≠0:=fun e0=>by have:=Rat.natCast_inj.1 (e0.trans (show (0:Rat)=((0:Nat):Rat) from rfl));omega
     refine ⟨padd (pmul s w) (ag_ (1 / ((m+1:Nat):Rat)) (pmul t (psub (pmul slope j) (bw_ w)))),aq_ fun x=>?_⟩
     have g1:=hst x
     have g2:=ak_ x hkey
     have g3:1 / ((m+1:Nat):Rat) * ((m+1:Nat):Rat)=1:=Rat.div_mul_cancel ha
     simp only[a2_,cd_,af_,ap_] at g2 ⊢
     generalize ((m+1:Nat):Rat)=a at *
     generalize 1 / a=b at *
     generalize ar_ x slope * ar_ x j - ar_ x (bw_ w)=Z at *
     have g4:ar_ x (bw_ c) * ar_ x w=b * (ar_ x c * Z):=by
      rw[←g2]
      have:b * (a * (ar_ x (bw_ c) * ar_ x w))=b * a * (ar_ x (bw_ c) * ar_ x w):=by grind
      rw[this,g3,Rat.one_mul]
     have g5:ar_ x w * (ar_ x s * ar_ x c+ar_ x t * ar_ x (bw_ c))=ar_ x w:=by rw[g1,Rat.mul_one]
     rw[←g5]
     have g6:ar_ x w * (ar_ x s * ar_ x c+ar_ x t * ar_ x (bw_ c))=ar_ x s * ar_ x w * ar_ x c+ar_ x t * (ar_ x (bw_ c) * ar_ x w):=by grind
     rw[g6,g4]
     first | (rw[g5] at g6;grind) | grind
theorem rest_cop{D rest h slope up:List Rat}(hD:plen D≠0)(e:peq D (pmul rest h))(e':peq (bw_ D) (pmul slope h))(hu:Cpr up rest):Cpr up D:=by
 obtain⟨f,hf⟩:=g4_ _ (ah_ up) (ah_ D) (Nat.le_refl _) (a7_ _) (a7_ _)
 have hf':=hf.of (au_ up) (au_ D) (peq.refl f)
 obtain⟨j,hj⟩:=hf'.1
 have hf1:plen f=1:=rest_all hD e e' _ f (Nat.le_refl _) hf'.2.1 ((hu.symm.part hj).2.symm)
 obtain⟨s,t,hst⟩:=hf'.2.2
 have ht:=dl_ (a:=f) (n:=0) hf1
 have hfe:∀x,ar_ x f=co f 0:=fun x=>by
  rw[ak_ x (show peq f [co f 0] from fun i=>by
   cases i with
   | zero=>rfl
   | succ i=>rw[b8_ (a:=f) (by omega),b1_,d8_]),bs_]
 refine ⟨ag_ (1 / co f 0) s,ag_ (1 / co f 0) t,fun x=>?_⟩
 have h8:=ak_ x hst
 rw[a2_,af_,af_,hfe x] at h8
 have h9:1 / co f 0 * co f 0=1:=Rat.div_mul_cancel ht
 rw[ap_,ap_]
 generalize 1 / co f 0=d at *
 rw[h8] at h9
 rw[←h9];grind
theorem isF_dup{u v slope rest g A D:List Rat}{h K:Nat}(hu:Rf u v)(p:PartP (bw_ v) v h K slope rest g)(hA:peq A (psub (pmul (bw_ u) rest) (pmul u slope)))(nA:ah_ A=A)(hD:peq D (pmul v rest))(nD:ah_ D=D) :
 isF (dup u v) (pmul v v) A D:=by
 have mv:=hu.monic
 have mg:=p.gcd.monic (p.g0 mv.1)
 have mr:=mv.left mg p.dy
 have c1:Cpr slope rest:=p.Cpr mv.1
 have c2:Cpr u rest:=(hu.coprime.part p.dy).1
 have c3:Cpr (ag_ (-1) (pmul u slope)) rest:=by
  obtain⟨s,t,h9⟩:=(c2.symm.mul c1.symm).symm
  refine ⟨ag_ (-1) s,t,fun x=>?_⟩
  have h8:=h9 x
  rw[af_] at h8
  rw[ap_,ap_,af_,←h8];grind
 have c4:Cpr A rest:=c3.shift (k:=bw_ u) (hA.trans (aq_ fun x=>by rw[cd_,a2_,ap_];grind))
 have c5:Cpr A v:=rest_cop mv.1 p.dy p.dx c4
 refine ⟨Rf.of_cop (c5.mul c4) (mv.mul mr) (peq.refl _) hD nA nD,fun e=>absurd e (mv.mul mv).1,fun _=>aq_ fun z=>?_⟩
 have e1:=ak_ z p.dx
 have e2:=ak_ z p.dy
 have e3:=ak_ z hA
 have e4:=ak_ z hD
 unfold dup
 simp only[af_,cd_] at e1 e2 e3 e4 ⊢
 rw[e3,e4,e1]
 generalize ar_ z (bw_ u)=a at *
 generalize ar_ z u=b at *
 generalize ar_ z slope=c at *
 generalize ar_ z rest=d at *
 generalize ar_ z g=f at *
 rw[e2];grind
theorem inv_room{z:Int}{S:Nat}(h:z.natAbs≤pw S):qlen (1 / (z:Rat))≤S+2:=by
 have h1:((1:Int):Rat)=1:=rfl
 rw[←h1]
 exact de_ (by have:=fi_ S;omega) h
theorem nat_nz{c:Nat}(h:0 < c):((c:Nat):Rat)≠0:=fun e=>by have h9:c=0:=Rat.natCast_inj.1 (e.trans rfl);omega
def LstQuo (A g:LR_) (w:World) (e:Ending) (w':World):Prop:=∃(a:OA_) (n c:Nat) (q:LR_) (b:OA_) (m d:Nat),e=.returned (.tuple #[.slice a n c,.slice b m d,.bool true])∧Rw w' a n c q∧ah_ q=q∧peq A (pmul q g)∧Below w.heap.size w w'
def o1_ (U V:LR_) (h K:Nat) (w:World) (e:Ending) (w':World):Prop:=∃(a:OA_) (n c:Nat) (x:LR_) (b:OA_) (m d:Nat) (y:LR_) (a':OA_) (n' c':Nat) (g:LR_),e=.returned (.tuple #[.slice a n c,.slice b m d,.slice a' n' c'])∧Rw w' a n c x∧Rw w' b m d y∧Rw w' a' n' c' g∧PartP U V h K x y g∧Below w.heap.size w w'
theorem ue_(S:PolySaid){w:World}{a b:Option Addr}{n c m d h s S0:Nat}{A g:List Rat}{cc:Nat}{z:Int}(hA:Pv w a n c A 1900000000)(hg:Rw w b m d g)(hn:n≤h)(hm:m≤h)(hh:h≤50)(c0:0 < cc)(cs:cc≤pw s)(cA:Ints (ag_ ((cc:Nat):Rat) A) (pw s))(hsS:s≤S0)(gq:∀q∈g,qlen q≤1900000000)(g0:plen g≠0)(z0:z≠0)(zs:z.natAbs≤pw (S0+2))(zg:Ints (ag_ (z:Rat) g) (pw (S0+2)))(hd:pdvd g A)(hT:(4 * h+24) * (S0+5)≤1900000000) :
 Calls Tryz.prog 107 #[.slice a n c,.slice b m d] w (LstQuo A g w):=by
 obtain⟨L,h1,rfl,h3⟩:=hA
 obtain⟨M,k1,k2,k3⟩:=hg.thin gq
 subst k2
 have hq1:qlen (1 / ((cc:Nat):Rat))≤s+2:=dp_ (z:=1) (t:=s) (by have:=fi_ s;omega) cs
 have hq2:qlen (1 / (z:Rat))≤S0+2+2:=inv_room zs
 have hb:4 * (qlen (1 / ((cc:Nat):Rat))+qlen (1 / (z:Rat))+(n+4) * (S0+2+3))≤(4 * h+24) * (S0+5):=by
  have e1:(n+4) * (S0+2+3)≤(h+4) * (S0+5):=Nat.mul_le_mul (by omega) (by omega)
  have e2:(4 * h+24) * (S0+5)=4 * ((h+4) * (S0+5))+8 * (S0+5):=by rw[show 4 * h+24=4 * (h+4)+8 by omega,Nat.add_mul,Nat.mul_assoc]
  omega
 refine (S.div_more a n c L b m d M _ _ _ _ (S0+2) _ w h1 k1 (by omega) (by omega) h3 k3 (cA.mono (ch_ (by omega))) zg (d1_ (nat_nz c0) _) (d1_ (ex_ z0) _) hb hT (hd_ g0)).mono fun e w' h9=>?_
 obtain⟨a1,n1,c1,q,a2,n2,c2,r,g1,g2,g3,g4,g5,g6,g7,g8,g9⟩:=h9
 have hr:=hd.rest g4
 exact⟨a1,n1,c1,q,a2,n2,c2,g1,g2,g5,g4.1.trans (aq_ fun x=>by rw[a2_,ak_ x (cy_ hr)];show _+(0:Rat)=_;grind),g9⟩
theorem i1_(S:PolySaid)(a:OA_)(n c:Nat)(U:LR_)(b:OA_)(m d:Nat)(V:LR_)(h s:Nat)(w:World)(hU:Pv w a n c U 1900000000)(hV:Pv w b m d V 1900000000)(hz:Fz U V h s)(hk:Pok h s)(hV0:plen V≠0) :
 Calls Tryz.prog 62 #[.slice a n c,.slice b m d] w (o1_ U V h ((s+1) * (2 * h+1)+2) w):=by
 obtain⟨hh,hT⟩:=hk
 have hn:n≤h:=by rw[←hU.len];exact hz.lu
 have hm:m≤h:=by rw[←hV.len];exact hz.lv
 obtain⟨cc,c0,cs,cU,cV⟩:=hz.form
 obtain⟨S1,hS1⟩:∃S1,(s+1) * (2 * h+1)=S1:=⟨_,rfl⟩
 rw[hS1] at hT ⊢
 obtain⟨S0,hS0⟩:∃S0,(s+1) * (plen U+plen V+1)=S0:=⟨_,rfl⟩
 have lU:=bb_ U
 have lV:=bb_ V
 have hS01:S0≤S1:=by
  rw[←hS0,←hS1]
  exact Nat.mul_le_mul_left _ (by have:=hz.lu;have:=hz.lv;omega)
 have hsS:s≤S0:=by rw[←hS0,Nat.mul_add,Nat.mul_one];omega
 have hT0:(4 * h+24) * (S0+5)≤1900000000:=Nat.le_trans (Nat.mul_le_mul_left _ (by omega)) hT
 have hsm:24 * (S0+5)≤1900000000:=Nat.le_trans (Nat.mul_le_mul_right _ (by omega)) hT0
 have hGC:∀w':World,Pv w' a n c U 1900000000→Pv w' b m d V 1900000000→Calls Tryz.prog 106 #[.slice a n c,.slice b m d] w' (p3_ U V (S0+2) w'):=fun w' g1 g2=>by
  obtain⟨L,h1,h2,h3⟩:=g1
  obtain⟨M,k1,k2,k3⟩:=g2
  have h9:=S.gcd_more a n c L b m d M cc s S0 h w' h1 k1 hn hm (by omega) h3 k3 c0 cs (by rw[h2];exact cU) (by rw[k2];exact cV) (by rw[h2,k2];exact hS0) (Nat.le_trans (Nat.mul_le_mul (by omega) (by omega)) hT0)
  rwa [h2,k2] at h9
 have HU:=hd_ hU
 have HV:=hd_ hV
 have HN:=hd_ (And.intro hn (And.intro hm (And.intro hh (And.intro hsS (And.intro hS01 (And.intro hT0 hsm))))))
 have HC:=hd_ (And.intro c0 (And.intro cs (And.intro cU cV)))
 have HV0:=hd_ hV0
 have HLV:=hd_ (show plen V≤h by have:=hz.lv;omega)
 clear hU hV hz hT hn hm hh hS0 hS1 hS01 hsS hT0 hsm lU lV c0 cs cU cV hV0
 go_enter Tryz.func62,Tryz.ntmps62
 go_wp2_with fail
 refine (hGC _ HU.out HV.out).mono ?_
 rintro e w1 ⟨a3,n3,c3,g,rfl,h7,hg1,hg2,hg3,⟨z,hz0,hz1,hz2⟩,bw⟩
 obtain⟨hn,hm,hh,hsS,hS01,hT0,hsm⟩:=HN.out
 obtain⟨c0,cs,cU,cV⟩:=HC.out
 have hgl:=hg1.1.2.1.len HV0.out
 have hlg:g.length=n3:=h7.len
 have hgn:=a0_ hg2
 have hgz:Fz g g h (S1+2):=by
  have hp:pw (S0+2)≤pw (S1+2):=ch_ (by omega)
  have hl:=HLV.out
  exact⟨by omega,by omega,z.natAbs,by omega,Nat.le_trans hz1 hp,hz2.abs.mono hp,hz2.abs.mono hp⟩
 have hq9:∀q∈g,qlen q≤1900000000:=fun q hq=>Nat.le_trans (hg3 q hq) (by omega)
 have hn3:n3≤h:=by have:=HLV.out;omega
 have HDU:∀w':World,Pv w' a n c U 1900000000→Rw w' a3 n3 c3 g→Calls Tryz.prog 107 #[.slice a n c,.slice a3 n3 c3] w' (LstQuo U g w'):=fun w' g1 g2=>ue_ S g1 g2 hn hn3 hh c0 cs cU hsS hq9 hgl.1 hz0 hz1 hz2 hg1.1.1 hT0
 have HDV:∀w':World,Pv w' b m d V 1900000000→Rw w' a3 n3 c3 g→Calls Tryz.prog 107 #[.slice b m d,.slice a3 n3 c3] w' (LstQuo V g w'):=fun w' g1 g2=>ue_ S g1 g2 hm hn3 hh c0 cs cV hsS hq9 hgl.1 hz0 hz1 hz2 hg1.1.2.1 hT0
 have HB:=hd_ bw
 replace HU:=HU.l_ bw
 replace HV:=HV.l_ bw
 have GG:=hd_ h7
 have HG1:=hd_ (And.intro hg1 (And.intro hg2 hgz))
 clear bw h7 hg1 hg2 hg3 hz0 hz1 hz2 hgl hlg hgn hgz hq9 hn3 hn hm hh hsS hS01 hT0 hsm c0 cs cU cV HN HC HV0 HLV hGC
 go_wp2_with fail
 refine (HDU _ HU.out GG.out).mono ?_
 rintro e w2 ⟨a4,n4,c4,x,b4,m4,d4,rfl,h4,hx1,hx2,bw⟩
 replace HB:=bt_ HB bw
 replace HV:=HV.l_ bw
 replace GG:=GG.l_ bw
 have XX:=hd_ h4
 have HX:=hd_ (And.intro hx1 hx2)
 clear bw h4 hx1 hx2 HU HDU
 go_wp2_with fail
 refine (HDV _ HV.out GG.out).mono ?_
 rintro e w3 ⟨a5,n5,c5,y,b5,m5,d5,rfl,h5,hy1,hy2,bw⟩
 replace HB:=bt_ HB bw
 replace GG:=GG.l_ bw
 replace XX:=XX.l_ bw
 have YY:=hd_ h5
 have HY:=hd_ (And.intro hy1 hy2)
 clear bw h5 hy1 hy2 HV HDV
 go_wp2
 go_ret3
 exact⟨a4,n4,c4,x,a5,n5,c5,y,a3,n3,c3,g,rfl,XX.out,YY.out,GG.out,⟨HX.out.1,HY.out.1,HG1.out.2.1,HX.out.2,HY.out.2,HG1.out.1,HG1.out.2.2⟩,HB.out⟩
theorem Pv.boxed{w:World}{a:Option Addr}{n c N:Nat}{P:List Rat}(h:Pv w a n c P N){g:Nat}{x y:Option Addr}{n1 c1 n2 c2:Nat}{t:TypeId}(hg:w.heap[g]? = some (.cells #[.slice x n1 c1,.slice y n2 c2] t (0,0)))(u v:Value) :
 Pv ((w.setCell ⟨g,0,none⟩ u).setCell ⟨g,1,none⟩ v) a n c P N:=by
 obtain⟨L,h1,h2⟩:=h
 exact⟨L,h1.aside (v:=.slice (some ⟨g,0,none⟩) 0 0) (ds_ hg if_) (cs_ (ce_ w g 0 u) (ce_ _ g 1 v)),h2⟩
theorem sc_{u:List Rat}(h:ah_ u=u):ah_ (ag_ (-1) u)=ag_ (-1) u:=by
 have h1:plen (ag_ (-1) u)=(ag_ (-1) u).length:=by rw[bm_ (by decide),a0_ h,a9_]
 rw[dd_]
 exact List.take_of_length_le (by rw[show (ah_ (ag_ (-1) u)).length=plen (ag_ (-1) u) from rfl,h1];exact Nat.le_refl _)
theorem Rf.minus{u v:List Rat}(h:Rf u v):Rf (ag_ (-1) u) v:=by
 obtain⟨s,t,hst⟩:=h.coprime
 exact⟨sc_ h.ur,h.vr,h.v0,h.one,Cpr.sum ⟨ag_ (-1) s,t,fun x=>by rw[ap_,ap_,←hst x];grind⟩⟩
theorem isF.minus{U V u v:List Rat}(h:isF U V u v):isF (ag_ (-1) U) V (ag_ (-1) u) v:=by
 refine ⟨h.1.minus,fun e=>by rw[h.2.1 e];rfl,fun e=>aq_ fun x=>?_⟩
 have:=ak_ x (h.2.2 e)
 rw[af_,af_] at this
 rw[af_,af_,ap_,ap_];grind
theorem t7_(S:PolySaid){w:World}{v:Value}{q:Rat}{a:Option Addr}{n c N:Nat}{P:List Rat}(hv:Fr w v q 900000000)(h:Pv w a n c P N)(hn:n≤300)(hN:N≤900000000):Calls Tryz.prog 64 #[v,.slice a n c] w (b5_ (ah_ (ag_ q P)) w):=by
 obtain⟨L,h1,rfl,h3⟩:=h
 exact S.scale v q a n c L w hv h1 hn (h3.mono hN)
theorem og_{A X:Nat}{x:Rat}(hx:qlen x≤X):∀{l:List Rat},(∀q∈l,qlen q≤A)→qlen (ar_ x l)≤1+l.length * (A+X+3)
 | [],_=>by
   show qlen 0≤_
   rw[cw_];omega
 | c :: l,h=>by
   have h1:=og_ hx (l:=l) (fun q hq=>h q (List.mem_cons_of_mem _ hq))
   have h2:=h c (List.mem_cons_self ..)
   have h3:=ci_ x (ar_ x l)
   have h4:=fm_ c (x * ar_ x l)
   rw[ar_,List.length_cons,Nat.add_mul];omega
theorem g8_(S:PolySaid)(FS:FracSaid)(a:OA_)(n c:Nat)(b:OA_)(m d:Nat)(U V:LR_)(v9:Value)(x:Rat)(N X:Nat)(w:World)(hU:Pv w a n c U N)(hV:Pv w b m d V N)(hx:Fr w v9 x X)(hn:n≤50)(hm:m≤50)(hbU:(n+1) * ((n+1) * (X+8)+N+8)≤1900000000)(hbV:(m+1) * ((m+1) * (X+8)+N+8)≤1900000000) :
 Calls Tryz.prog 68 #[.agg #[.slice a n c,.slice b m d],v9] w (en_ (ar_ x U / ar_ x V) (.bool (decide (ar_ x V≠0))) w):=by
 have hxl:=hx.len
 have hlen:∀(P:LR_) (a:OA_) (n c:Nat),Pv w a n c P N→(n+1) * ((n+1) * (X+8)+N+8)≤1900000000→qlen (ar_ x P)≤2097152000:=fun P a n c g1 g2=>by
  have h1:=og_ hxl g1.qlen
  rw[g1.len] at h1
  have h2:n * (N+1+(X+1)+3)≤(n+1) * ((n+1) * (X+8)+N+8):=Nat.mul_le_mul (by omega) (by have:X+8≤(n+1) * (X+8):=Nat.le_mul_of_pos_left _ (by omega);omega)
  omega
 have lU:=hlen U a n c hU hbU
 have lV:=hlen V b m d hV hbV
 obtain⟨s9,a9,n9,c9,l9,b9,m9,d9,k9,rfl,h91,h92,h93,h94,h95⟩:=hx
 have HX9:=hd_ h95
 have HEU:∀w':World,Pv w' a n c U N→Wd w' a9 n9 c9 l9→Wd w' b9 m9 d9 k9→Calls Tryz.prog 112 #[.slice a n c,.agg #[.bool s9,.slice a9 n9 c9,.slice b9 m9 d9]] w' (LstQ (ar_ x U) w'):=fun w' g1 g2 g3=>eval_pv S g1 (Fr.of g2 g3 h93 h94 HX9.out) (by omega) hbU
 have HEV:∀w':World,Pv w' b m d V N→Wd w' a9 n9 c9 l9→Wd w' b9 m9 d9 k9→Calls Tryz.prog 112 #[.slice b m d,.agg #[.bool s9,.slice a9 n9 c9,.slice b9 m9 d9]] w' (LstQ (ar_ x V) w'):=fun w' g1 g2 g3=>eval_pv S g1 (Fr.of g2 g3 h93 h94 HX9.out) (by omega) hbV
 obtain⟨p,hp⟩:∃p,ar_ x U=p:=⟨_,rfl⟩
 obtain⟨q,hq⟩:∃p,ar_ x V=p:=⟨_,rfl⟩
 rw[hp] at lU
 rw[hq] at lV
 simp only[hp] at HEU
 simp only[hq] at HEV
 rw[hp,hq]
 have HQU:∀(w':World) (a2:OA_) (n2 c2:Nat) (b2:OA_) (m2 d2:Nat) (a3:OA_) (n3 c3:Nat) (b3:OA_) (m3 d3:Nat),Wd w' a2 n2 c2 (dg p.num.natAbs)→Wd w' b2 m2 d2 (dg p.den)→Wd w' a3 n3 c3 (dg q.num.natAbs)→Wd w' b3 m3 d3 (dg q.den)→Calls Tryz.prog 63 #[.agg #[.bool (zneg p.num),.slice a2 n2 c2,.slice b2 m2 d2],.agg #[.bool (zneg q.num),.slice a3 n3 c3,.slice b3 m3 d3]] w' (en_ (p / q) (.bool (decide (q≠0))) w'):=fun w' a2 n2 c2 b2 m2 d2 a3 n3 c3 b3 m3 d3 g1 g2 g3 g4=>FS.quo _ _ p q w' (Fr.right g1 g2 (by have:=g1.len;have:=a5_ p;omega) (by have:=g2.len;have:=a4_ p;omega)) (Fr.right g3 g4 (by have:=g3.len;have:=a5_ q;omega) (by have:=g4.len;have:=a4_ q;omega))
 obtain⟨r,hr⟩:∃r,p / q=r:=⟨_,rfl⟩
 obtain⟨bo,hbo⟩:∃r,decide (q≠0)=r:=⟨_,rfl⟩
 simp only[hr,hbo] at HQU
 rw[hr,hbo]
 have HB:=hd_ (ab_ (ab_ (aa_ w (.cells #[.slice a n c,.slice b m d] 35)) (aa_ _ (.cells #[.bool s9,.slice a9 n9 c9,.slice b9 m9 d9] 44))) (aa_ _ (.cells #[.bool false,.slice none 0 0,.slice none 0 0] 44)))
 have X0:Hid ((((w.alloc (.cells #[.slice a n c,.slice b m d] 35)).alloc (.cells #[.bool s9,.slice a9 n9 c9,.slice b9 m9 d9] 44)).alloc (.cells #[.bool false,.slice none 0 0,.slice none 0 0] 44)).heap[w.heap.size]? = some (.cells #[.slice a n c,.slice b m d] 35 (0,0))):=hd_ (ac_ (ac_ (ai_ w _ _) (aa_ _ (.cells #[.bool s9,.slice a9 n9 c9,.slice b9 m9 d9] 44))) (aa_ _ (.cells #[.bool false,.slice none 0 0,.slice none 0 0] 44)))
 have X1:Hid ((((w.alloc (.cells #[.slice a n c,.slice b m d] 35)).alloc (.cells #[.bool s9,.slice a9 n9 c9,.slice b9 m9 d9] 44)).alloc (.cells #[.bool false,.slice none 0 0,.slice none 0 0] 44)).heap[w.heap.size+1]? = some (.cells #[.bool s9,.slice a9 n9 c9,.slice b9 m9 d9] 44 (0,0))):=hd_ (ac_ (by have h9:=ai_ (w.alloc (.cells #[.slice a n c,.slice b m d] 35)) #[.bool s9,.slice a9 n9 c9,.slice b9 m9 d9] 44;rwa [al_] at h9) (aa_ _ (.cells #[.bool false,.slice none 0 0,.slice none 0 0] 44)))
 have R0:Hid ((((w.alloc (.cells #[.slice a n c,.slice b m d] 35)).alloc (.cells #[.bool s9,.slice a9 n9 c9,.slice b9 m9 d9] 44)).alloc (.cells #[.bool false,.slice none 0 0,.slice none 0 0] 44)).heap[w.heap.size+1+1]? = some (.cells #[.bool false,.slice none 0 0,.slice none 0 0] 44 (0,0))):=hd_ (by have h9:=ai_ ((w.alloc (.cells #[.slice a n c,.slice b m d] 35)).alloc (.cells #[.bool s9,.slice a9 n9 c9,.slice b9 m9 d9] 44)) #[.bool false,.slice none 0 0,.slice none 0 0] 44;rwa [al_,al_] at h9)
 have A1:=hd_ (hU.later HB.out)
 have B1:=hd_ (hV.later HB.out)
 have F3:=hd_ (h91.later HB.out)
 have F4:=hd_ (h92.later HB.out)
 clear hU hV h91 h92 h93 h94 h95 HX9 hxl hlen lU lV hp hq hr hbo hn hm hbU hbV
 go_enter Tryz.func68,Tryz.ntmps68
 unfold frV
 go_wp2
 generalize (((w.alloc (.cells #[.slice a n c,.slice b m d] 35)).alloc (.cells #[.bool s9,.slice a9 n9 c9,.slice b9 m9 d9] 44)).alloc (.cells #[.bool false,.slice none 0 0,.slice none 0 0] 44))=W at *
 replace HB:=bt_ HB (dw_ W)
 replace X0:Hid (W.drew.heap[w.heap.size]? = _):=hd_ X0.out
 replace X1:Hid (W.drew.heap[w.heap.size+1]? = _):=hd_ X1.out
 replace R0:Hid (W.drew.heap[w.heap.size+1+1]? = some (.cells #[.bool false,.slice none 0 0,.slice none 0 0] 44 (0,0))):=hd_ R0.out
 replace A1:=A1.l_ (dw_ W)
 replace B1:=B1.l_ (dw_ W)
 replace F3:=F3.l_ (dw_ W)
 replace F4:=F4.l_ (dw_ W)
 have pSn:=cb_ X0.out X1.out
 go_region_held3 (fun w'=>w'.cell? ⟨w.heap.size,0,none⟩=some (.slice a n c)∧w'.cell? ⟨w.heap.size,1,none⟩=some (.slice b m d)∧w'.cell? ⟨w.heap.size+1,0,none⟩=some (.bool s9)∧w'.cell? ⟨w.heap.size+1,1,none⟩=some (.slice a9 n9 c9)∧w'.cell? ⟨w.heap.size+1,2,none⟩=some (.slice b9 m9 d9)) (first | exact pSn | exact pSb _ _ _)
  (first
  | (go_at_call 112;(first
    | (have pm1:=pM1;refine (HEV _ B1.out F3.out F4.out).mono ?_;rintro e wp2 ⟨a22,n22,c22,b22,m22,d22,rfl,h22,g22,b⟩;replace HB:=bt_ HB b;replace X0:=bl_ X0 b;replace X1:=bl_ X1 b;replace R0:=bl_ R0 b;replace A1:=A1.l_ b;replace B1:=B1.l_ b;replace F3:=F3.l_ b;replace F4:=F4.l_ b;replace Z1:=Z1.l_ b;replace Z2:=Z2.l_ b;have Z3:=hd_ h22;have Z4:=hd_ g22;clear h22 g22;unfold frV;clear b;clear pSn;have pSn:=cb_ X0.out X1.out;clear pM1 pm1;have pM2:=True.intro)
    | (refine (HEU _ A1.out F3.out F4.out).mono ?_;rintro e wp1 ⟨a21,n21,c21,b21,m21,d21,rfl,h21,g21,b⟩;replace HB:=bt_ HB b;replace X0:=bl_ X0 b;replace X1:=bl_ X1 b;replace R0:=bl_ R0 b;replace A1:=A1.l_ b;replace B1:=B1.l_ b;replace F3:=F3.l_ b;replace F4:=F4.l_ b;have Z1:=hd_ h21;have Z2:=hd_ g21;clear h21 g21;unfold frV;clear b;clear pSn;have pSn:=cb_ X0.out X1.out;have pM1:=True.intro)))
  | (go_at_call 63;(first
    | (have pm2:=pM2;refine (HQU _ _ _ _ _ _ _ _ _ _ _ _ _ Z1.out Z2.out Z3.out Z4.out).mono ?_;rintro e wp3 ⟨a23,n23,c23,b23,m23,d23,rfl,h23,g23,b⟩;replace HB:=bt_ HB b;replace X0:=bl_ X0 b;replace X1:=bl_ X1 b;replace R0:=bl_ R0 b;replace A1:=A1.l_ b;replace B1:=B1.l_ b;replace F3:=F3.l_ b;replace F4:=F4.l_ b;clear Z1;clear Z2;clear Z3;clear Z4;have F22:=hd_ h23;have G22:=hd_ g23;clear h23 g23;unfold frV;obtain⟨r0,r1,r2⟩:=ao_ R0.out;have e0:=ae_ R0.out 0;have e1:=ae_ R0.out 1;have e2:=ae_ R0.out 2;have pSb:=fun u v q=>cb_ (bk_ (g:=w.heap.size+1+1) X0.out (by omega) u v q) (bk_ (g:=w.heap.size+1+1) X1.out (by omega) u v q);clear b;clear pSn;have pSn:=cb_ X0.out X1.out;clear pM2 pm2;have pM3:=True.intro))))
 have R9:=hd_ (be_ R0.out (.bool (zneg r.num)) (.slice a23 n23 c23) (.slice b23 m23 d23))
 have P9:=hd_ (F22.out.stored3 R0.out (zneg r.num) a23 n23 c23 (.slice b23 m23 d23))
 have Q9:=hd_ (G22.out.stored3 R0.out (zneg r.num) a23 n23 c23 (.slice b23 m23 d23))
 have G9:=hd_ (as_ HB.out (show w.heap.size≤w.heap.size+1+1 by omega) (.bool (zneg r.num)) (.slice a23 n23 c23) (.slice b23 m23 d23))
 go_wp2
 refine bodyPost_ret (bo_ Tryz.results68 _ _ (w.heap.size+1+1) 44 #[.bool (zneg r.num),.slice a23 n23 c23,.slice b23 m23 d23] (0,0) _ rfl R9.out Tryz.underlying44 rfl (by kernel_rfl)) rfl ?_
 exact⟨a23,n23,c23,b23,m23,d23,rfl,P9.out,Q9.out,G9.out⟩
end Go.Proofs.YtocebjbjnfammaaGreat
