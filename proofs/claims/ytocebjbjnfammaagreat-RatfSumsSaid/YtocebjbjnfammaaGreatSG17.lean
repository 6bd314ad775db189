import Derived.Test.YtocebjbjnfammaaGreatSG13
import Derived.Test.YtocebjbjnfammaaGreatSG12
import Derived.Test.YtocebjbjnfammaaGreatSG5
import Derived.Test.YtocebjbjnfammaaGreatSG8
import Derived.Deep.RegionHeld3
import Derived.Test.YtocebjbjnfammaaGreatSG16
import Derived.Test.YtocebjbjnfammaaGreatSG11
import Derived.Test.YtocebjbjnfammaaGreatSG3
import Derived.Deep.CutRange
import Derived.Deep.RegionWith
import Derived.Test.YtocebjbjnfammaaGreatSG1
set_option maxRecDepth 4096
set_option maxHeartbeats 16000000
namespace Go.Proofs.YtocebjbjnfammaaGreat
open Go.RowKit
theorem isF.sums{A B C D m n x y u v:List Rat}(h:isF (padd (pmul A D) (pmul C B)) (pmul B D) u v)(hB:plen B≠0)(hD:plen D≠0)(h1:isF A B m n)(h2:isF C D x y):isF (padd (pmul m y) (pmul x n)) (pmul n y) u v:=by
 refine h.cross (e8_ hB hD) (e8_ h1.1.v0 h2.1.v0) (ap_ fun z=>?_)
 have e1:=ak_ z (h1.2.2 hB)
 have e2:=ak_ z (h2.2.2 hD)
 rw[ae_,ae_] at e1 e2
 simp only[ae_,a2_]
 grind
theorem oy_(HW:∀w:World,Calls Tryz.prog 9 #[] w (bi_ (.bool true) w))(a0:OA_)(n0 c0:Nat)(K0:List Fx)(b0:OA_)(m0 d0:Nat)(M0:List Fx)(a1:OA_)(n1 c1:Nat)(K1:List Fx)(b1:OA_)(m1 d1:Nat)(M1:List Fx)(e:Int)(w:World)(h0:Fxs w a0 n0 c0 K0)(j0:Fxs w b0 m0 d0 M0)(_h1:Fxs w a1 n1 c1 K1)(_j1:Fxs w b1 m1 d1 M1)(hb0:¬(((n0:Int)≤3∧thinI 1 K0)∧((m0:Int)≤3∧thinI 1 M0))):Calls Tryz.prog 4 #[.agg #[.slice a0 n0 c0,.slice b0 m0 d0],.agg #[.slice a1 n1 c1,.slice b1 m1 d1],.int .i64 e] w (bi_ (.bool true) w):=by
 have HNB0:=hd_ hb0
 have HB:=hd_ (ab_ (aa_ w (.cells #[.slice a0 n0 c0,.slice b0 m0 d0] 24)) (aa_ _ (.cells #[.slice a1 n1 c1,.slice b1 m1 d1] 24)))
 have X0:Hid (((w.alloc (.cells #[.slice a0 n0 c0,.slice b0 m0 d0] 24)).alloc (.cells #[.slice a1 n1 c1,.slice b1 m1 d1] 24)).heap[w.heap.size]? = some (.cells #[.slice a0 n0 c0,.slice b0 m0 d0] 24 (0,0))):=hd_ (ac_ (ai_ w _ _) (aa_ _ (.cells #[.slice a1 n1 c1,.slice b1 m1 d1] 24)))
 have X1:Hid (((w.alloc (.cells #[.slice a0 n0 c0,.slice b0 m0 d0] 24)).alloc (.cells #[.slice a1 n1 c1,.slice b1 m1 d1] 24)).heap[w.heap.size+1]? = some (.cells #[.slice a1 n1 c1,.slice b1 m1 d1] 24 (0,0))):=hd_ (by have h9:=ai_ (w.alloc (.cells #[.slice a0 n0 c0,.slice b0 m0 d0] 24)) #[.slice a1 n1 c1,.slice b1 m1 d1] 24;rwa [al_] at h9)
 have HF0:=hd_ (h0.later HB.out)
 have HG0:=hd_ (j0.later HB.out)
 clear h0 j0 hb0
 go_enter Tryz.func4,Tryz.ntmps4
 obtain⟨vk0,vk1,vk2,vk3⟩:=am_ X0.out X1.out
 go_wp2_with fail
 refine (dn_ a0 n0 c0 K0 b0 m0 d0 M0 3 1 true _ HF0.out HG0.out (by decide) ⟨fun _=>HNB0.out,fun _=>rfl⟩).mono ?_
 rintro e wv1 ⟨rfl,b⟩
 clear vk0 vk1 vk2 vk3
 replace HB:=bt_ HB b
 replace X0:=bl_ X0 b
 replace X1:=bl_ X1 b
 replace HF0:=HF0.l_ b
 replace HG0:=HG0.l_ b
 clear b
 obtain⟨vk0,vk1,vk2,vk3⟩:=am_ X0.out X1.out
 go_wp2_with fail
 refine (HW _).mono ?_
 rintro e wv2 ⟨rfl,b⟩
 clear vk0 vk1 vk2 vk3
 replace HB:=bt_ HB b
 replace X0:=bl_ X0 b
 replace X1:=bl_ X1 b
 replace HF0:=HF0.l_ b
 replace HG0:=HG0.l_ b
 clear b
 go_wp2
 go_ret
 exact⟨rfl,HB.out⟩
theorem ol_(HW:∀w:World,Calls Tryz.prog 9 #[] w (bi_ (.bool true) w))(a0:OA_)(n0 c0:Nat)(K0:List Fx)(b0:OA_)(m0 d0:Nat)(M0:List Fx)(a1:OA_)(n1 c1:Nat)(K1:List Fx)(b1:OA_)(m1 d1:Nat)(M1:List Fx)(e:Int)(w:World)(h0:Fxs w a0 n0 c0 K0)(j0:Fxs w b0 m0 d0 M0)(h1:Fxs w a1 n1 c1 K1)(j1:Fxs w b1 m1 d1 M1)(hb0:(((n0:Int)≤3∧thinI 1 K0)∧((m0:Int)≤3∧thinI 1 M0)))(hb1:¬(((n1:Int)≤3∧thinI 1 K1)∧((m1:Int)≤3∧thinI 1 M1))):Calls Tryz.prog 4 #[.agg #[.slice a0 n0 c0,.slice b0 m0 d0],.agg #[.slice a1 n1 c1,.slice b1 m1 d1],.int .i64 e] w (bi_ (.bool true) w):=by
 have HNB0:=hd_ hb0
 have HNB1:=hd_ hb1
 have HB:=hd_ (ab_ (aa_ w (.cells #[.slice a0 n0 c0,.slice b0 m0 d0] 24)) (aa_ _ (.cells #[.slice a1 n1 c1,.slice b1 m1 d1] 24)))
 have X0:Hid (((w.alloc (.cells #[.slice a0 n0 c0,.slice b0 m0 d0] 24)).alloc (.cells #[.slice a1 n1 c1,.slice b1 m1 d1] 24)).heap[w.heap.size]? = some (.cells #[.slice a0 n0 c0,.slice b0 m0 d0] 24 (0,0))):=hd_ (ac_ (ai_ w _ _) (aa_ _ (.cells #[.slice a1 n1 c1,.slice b1 m1 d1] 24)))
 have X1:Hid (((w.alloc (.cells #[.slice a0 n0 c0,.slice b0 m0 d0] 24)).alloc (.cells #[.slice a1 n1 c1,.slice b1 m1 d1] 24)).heap[w.heap.size+1]? = some (.cells #[.slice a1 n1 c1,.slice b1 m1 d1] 24 (0,0))):=hd_ (by have h9:=ai_ (w.alloc (.cells #[.slice a0 n0 c0,.slice b0 m0 d0] 24)) #[.slice a1 n1 c1,.slice b1 m1 d1] 24;rwa [al_] at h9)
 have HF0:=hd_ (h0.later HB.out)
 have HG0:=hd_ (j0.later HB.out)
 have HF1:=hd_ (h1.later HB.out)
 have HG1:=hd_ (j1.later HB.out)
 clear h0 j0 hb0 h1 j1 hb1
 go_enter Tryz.func4,Tryz.ntmps4
 obtain⟨vk0,vk1,vk2,vk3⟩:=am_ X0.out X1.out
 go_wp2_with fail
 refine (dn_ a0 n0 c0 K0 b0 m0 d0 M0 3 1 false _ HF0.out HG0.out (by decide) ⟨fun h=>absurd h (by decide),fun h=>absurd HNB0.out h⟩).mono ?_
 rintro e wv1 ⟨rfl,b⟩
 clear vk0 vk1 vk2 vk3
 replace HB:=bt_ HB b
 replace X0:=bl_ X0 b
 replace X1:=bl_ X1 b
 replace HF0:=HF0.l_ b
 replace HG0:=HG0.l_ b
 replace HF1:=HF1.l_ b
 replace HG1:=HG1.l_ b
 clear b
 obtain⟨vk0,vk1,vk2,vk3⟩:=am_ X0.out X1.out
 go_wp2_with fail
 refine (dn_ a1 n1 c1 K1 b1 m1 d1 M1 3 1 true _ HF1.out HG1.out (by decide) ⟨fun _=>HNB1.out,fun _=>rfl⟩).mono ?_
 rintro e wv2 ⟨rfl,b⟩
 clear vk0 vk1 vk2 vk3
 replace HB:=bt_ HB b
 replace X0:=bl_ X0 b
 replace X1:=bl_ X1 b
 replace HF0:=HF0.l_ b
 replace HG0:=HG0.l_ b
 replace HF1:=HF1.l_ b
 replace HG1:=HG1.l_ b
 clear b
 obtain⟨vk0,vk1,vk2,vk3⟩:=am_ X0.out X1.out
 go_wp2_with fail
 refine (HW _).mono ?_
 rintro e wv3 ⟨rfl,b⟩
 clear vk0 vk1 vk2 vk3
 replace HB:=bt_ HB b
 replace X0:=bl_ X0 b
 replace X1:=bl_ X1 b
 replace HF0:=HF0.l_ b
 replace HG0:=HG0.l_ b
 replace HF1:=HF1.l_ b
 replace HG1:=HG1.l_ b
 clear b
 go_wp2
 go_ret
 exact⟨rfl,HB.out⟩
theorem of_(HW:∀w:World,Calls Tryz.prog 9 #[] w (bi_ (.bool true) w))(a0:OA_)(n0 c0:Nat)(K0:List Fx)(b0:OA_)(m0 d0:Nat)(M0:List Fx)(a1:OA_)(n1 c1:Nat)(K1:List Fx)(b1:OA_)(m1 d1:Nat)(M1:List Fx)(e:Int)(w:World)(h0:Fxs w a0 n0 c0 K0)(j0:Fxs w b0 m0 d0 M0)(h1:Fxs w a1 n1 c1 K1)(j1:Fxs w b1 m1 d1 M1)(hb0:(((n0:Int)≤3∧thinI 1 K0)∧((m0:Int)≤3∧thinI 1 M0)))(hb1:(((n1:Int)≤3∧thinI 1 K1)∧((m1:Int)≤3∧thinI 1 M1)))(he : -8≤e)(he3:e < -3):Calls Tryz.prog 4 #[.agg #[.slice a0 n0 c0,.slice b0 m0 d0],.agg #[.slice a1 n1 c1,.slice b1 m1 d1],.int .i64 e] w (bi_ (.bool true) w):=by
 have HNB0:=hd_ hb0
 have HNB1:=hd_ hb1
 have HB:=hd_ (ab_ (aa_ w (.cells #[.slice a0 n0 c0,.slice b0 m0 d0] 24)) (aa_ _ (.cells #[.slice a1 n1 c1,.slice b1 m1 d1] 24)))
 have X0:Hid (((w.alloc (.cells #[.slice a0 n0 c0,.slice b0 m0 d0] 24)).alloc (.cells #[.slice a1 n1 c1,.slice b1 m1 d1] 24)).heap[w.heap.size]? = some (.cells #[.slice a0 n0 c0,.slice b0 m0 d0] 24 (0,0))):=hd_ (ac_ (ai_ w _ _) (aa_ _ (.cells #[.slice a1 n1 c1,.slice b1 m1 d1] 24)))
 have X1:Hid (((w.alloc (.cells #[.slice a0 n0 c0,.slice b0 m0 d0] 24)).alloc (.cells #[.slice a1 n1 c1,.slice b1 m1 d1] 24)).heap[w.heap.size+1]? = some (.cells #[.slice a1 n1 c1,.slice b1 m1 d1] 24 (0,0))):=hd_ (by have h9:=ai_ (w.alloc (.cells #[.slice a0 n0 c0,.slice b0 m0 d0] 24)) #[.slice a1 n1 c1,.slice b1 m1 d1] 24;rwa [al_] at h9)
 have HF0:=hd_ (h0.later HB.out)
 have HG0:=hd_ (j0.later HB.out)
 have HF1:=hd_ (h1.later HB.out)
 have HG1:=hd_ (j1.later HB.out)
 clear h0 j0 hb0 h1 j1 hb1
 go_enter Tryz.func4,Tryz.ntmps4
 obtain⟨vk0,vk1,vk2,vk3⟩:=am_ X0.out X1.out
 go_wp2_with fail
 refine (dn_ a0 n0 c0 K0 b0 m0 d0 M0 3 1 false _ HF0.out HG0.out (by decide) ⟨fun h=>absurd h (by decide),fun h=>absurd HNB0.out h⟩).mono ?_
 rintro e wv1 ⟨rfl,b⟩
 clear vk0 vk1 vk2 vk3
 replace HB:=bt_ HB b
 replace X0:=bl_ X0 b
 replace X1:=bl_ X1 b
 replace HF0:=HF0.l_ b
 replace HG0:=HG0.l_ b
 replace HF1:=HF1.l_ b
 replace HG1:=HG1.l_ b
 clear b
 obtain⟨vk0,vk1,vk2,vk3⟩:=am_ X0.out X1.out
 go_wp2_with fail
 refine (dn_ a1 n1 c1 K1 b1 m1 d1 M1 3 1 false _ HF1.out HG1.out (by decide) ⟨fun h=>absurd h (by decide),fun h=>absurd HNB1.out h⟩).mono ?_
 rintro e wv2 ⟨rfl,b⟩
 clear vk0 vk1 vk2 vk3
 replace HB:=bt_ HB b
 replace X0:=bl_ X0 b
 replace X1:=bl_ X1 b
 replace HF0:=HF0.l_ b
 replace HG0:=HG0.l_ b
 replace HF1:=HF1.l_ b
 replace HG1:=HG1.l_ b
 clear b
 obtain⟨vk0,vk1,vk2,vk3⟩:=am_ X0.out X1.out
 go_wp2_with fail
 refine (HW _).mono ?_
 rintro e wv3 ⟨rfl,b⟩
 clear vk0 vk1 vk2 vk3
 replace HB:=bt_ HB b
 replace X0:=bl_ X0 b
 replace X1:=bl_ X1 b
 replace HF0:=HF0.l_ b
 replace HG0:=HG0.l_ b
 replace HF1:=HF1.l_ b
 replace HG1:=HG1.l_ b
 clear b
 go_wp2
 go_ret
 exact⟨rfl,HB.out⟩
theorem oo_(HW:∀w:World,Calls Tryz.prog 9 #[] w (bi_ (.bool true) w))(a0:OA_)(n0 c0:Nat)(K0:List Fx)(b0:OA_)(m0 d0:Nat)(M0:List Fx)(a1:OA_)(n1 c1:Nat)(K1:List Fx)(b1:OA_)(m1 d1:Nat)(M1:List Fx)(e:Int)(w:World)(h0:Fxs w a0 n0 c0 K0)(j0:Fxs w b0 m0 d0 M0)(h1:Fxs w a1 n1 c1 K1)(j1:Fxs w b1 m1 d1 M1)(hb0:(((n0:Int)≤3∧thinI 1 K0)∧((m0:Int)≤3∧thinI 1 M0)))(hb1:(((n1:Int)≤3∧thinI 1 K1)∧((m1:Int)≤3∧thinI 1 M1)))(he:3 < e)(he8:e≤8):Calls Tryz.prog 4 #[.agg #[.slice a0 n0 c0,.slice b0 m0 d0],.agg #[.slice a1 n1 c1,.slice b1 m1 d1],.int .i64 e] w (bi_ (.bool true) w):=by
 have HNB0:=hd_ hb0
 have HNB1:=hd_ hb1
 have HB:=hd_ (ab_ (aa_ w (.cells #[.slice a0 n0 c0,.slice b0 m0 d0] 24)) (aa_ _ (.cells #[.slice a1 n1 c1,.slice b1 m1 d1] 24)))
 have X0:Hid (((w.alloc (.cells #[.slice a0 n0 c0,.slice b0 m0 d0] 24)).alloc (.cells #[.slice a1 n1 c1,.slice b1 m1 d1] 24)).heap[w.heap.size]? = some (.cells #[.slice a0 n0 c0,.slice b0 m0 d0] 24 (0,0))):=hd_ (ac_ (ai_ w _ _) (aa_ _ (.cells #[.slice a1 n1 c1,.slice b1 m1 d1] 24)))
 have X1:Hid (((w.alloc (.cells #[.slice a0 n0 c0,.slice b0 m0 d0] 24)).alloc (.cells #[.slice a1 n1 c1,.slice b1 m1 d1] 24)).heap[w.heap.size+1]? = some (.cells #[.slice a1 n1 c1,.slice b1 m1 d1] 24 (0,0))):=hd_ (by have h9:=ai_ (w.alloc (.cells #[.slice a0 n0 c0,.slice b0 m0 d0] 24)) #[.slice a1 n1 c1,.slice b1 m1 d1] 24;rwa [al_] at h9)
 have HF0:=hd_ (h0.later HB.out)
 have HG0:=hd_ (j0.later HB.out)
 have HF1:=hd_ (h1.later HB.out)
 have HG1:=hd_ (j1.later HB.out)
 clear h0 j0 hb0 h1 j1 hb1
 go_enter Tryz.func4,Tryz.ntmps4
 obtain⟨vk0,vk1,vk2,vk3⟩:=am_ X0.out X1.out
 go_wp2_with fail
 refine (dn_ a0 n0 c0 K0 b0 m0 d0 M0 3 1 false _ HF0.out HG0.out (by decide) ⟨fun h=>absurd h (by decide),fun h=>absurd HNB0.out h⟩).mono ?_
 rintro e wv1 ⟨rfl,b⟩
 clear vk0 vk1 vk2 vk3
 replace HB:=bt_ HB b
 replace X0:=bl_ X0 b
 replace X1:=bl_ X1 b
 replace HF0:=HF0.l_ b
 replace HG0:=HG0.l_ b
 replace HF1:=HF1.l_ b
 replace HG1:=HG1.l_ b
 clear b
 obtain⟨vk0,vk1,vk2,vk3⟩:=am_ X0.out X1.out
 go_wp2_with fail
 refine (dn_ a1 n1 c1 K1 b1 m1 d1 M1 3 1 false _ HF1.out HG1.out (by decide) ⟨fun h=>absurd h (by decide),fun h=>absurd HNB1.out h⟩).mono ?_
 rintro e wv2 ⟨rfl,b⟩
 clear vk0 vk1 vk2 vk3
 replace HB:=bt_ HB b
 replace X0:=bl_ X0 b
 replace X1:=bl_ X1 b
 replace HF0:=HF0.l_ b
 replace HG0:=HG0.l_ b
 replace HF1:=HF1.l_ b
 replace HG1:=HG1.l_ b
 clear b
 have hx1:¬(e < -3):=by omega
 obtain⟨vk0,vk1,vk2,vk3⟩:=am_ X0.out X1.out
 go_wp2_with fail
 refine (HW _).mono ?_
 rintro e wv3 ⟨rfl,b⟩
 clear vk0 vk1 vk2 vk3
 replace HB:=bt_ HB b
 replace X0:=bl_ X0 b
 replace X1:=bl_ X1 b
 replace HF0:=HF0.l_ b
 replace HG0:=HG0.l_ b
 replace HF1:=HF1.l_ b
 replace HG1:=HG1.l_ b
 clear b
 go_wp2
 go_ret
 exact⟨rfl,HB.out⟩
theorem lq_(S:RatfSaid)(HW:∀w:World,Calls Tryz.prog 9 #[] w (bi_ (.bool true) w))(a0:OA_)(n0 c0:Nat)(K0:List Fx)(b0:OA_)(m0 d0:Nat)(M0:List Fx)(a1:OA_)(n1 c1:Nat)(K1:List Fx)(b1:OA_)(m1 d1:Nat)(M1:List Fx)(e:Int)(w:World)(h0:Fxs w a0 n0 c0 K0)(j0:Fxs w b0 m0 d0 M0)(h1:Fxs w a1 n1 c1 K1)(j1:Fxs w b1 m1 d1 M1)(hb0:(((n0:Int)≤3∧thinI 1 K0)∧((m0:Int)≤3∧thinI 1 M0)))(hb1:(((n1:Int)≤3∧thinI 1 K1)∧((m1:Int)≤3∧thinI 1 M1)))(he:e < -8∨(-3≤e∧e≤3)∨8 < e):Calls Tryz.prog 4 #[.agg #[.slice a0 n0 c0,.slice b0 m0 d0],.agg #[.slice a1 n1 c1,.slice b1 m1 d1],.int .i64 e] w (bi_ (.bool true) w):=by
 obtain⟨u1,v1,hf1⟩:=d1_ (fqs K0) (fqs M0)
 obtain⟨u2,v2,hf2⟩:=d1_ (fqs K1) (fqs M1)
 have t0:=thinI.out (N:=1) hb0.1.2
 have s0:=thinI.out (N:=1) hb0.2.2
 have t1:=thinI.out (N:=1) hb1.1.2
 have s1:=thinI.out (N:=1) hb1.2.2
 have p0:=Pv.of h0 t0
 have r0:=Pv.of j0 s0
 have p1:=Pv.of h1 t1
 have r1:=Pv.of j1 s1
 have l0:n0≤3:=by omega
 have l1:m0≤3:=by omega
 have l2':n1≤3:=by omega
 have l3:m1≤3:=by omega
 have y1:Fz (fqs K0) (fqs M0) 3 6:=Fz.of (N:=1) (n:=3) (m:=3) (p0.qlen_max (Nat.le_refl _)) (r0.qlen_max (Nat.le_refl _)) (by rw[p0.len];exact l0) (by rw[r0.len];exact l1) (Nat.le_refl _) (Nat.le_refl _) (by decide)
 have y2:Fz (fqs K1) (fqs M1) 3 6:=Fz.of (N:=1) (n:=3) (m:=3) (p1.qlen_max (Nat.le_refl _)) (r1.qlen_max (Nat.le_refl _)) (by rw[p1.len];exact l2') (by rw[r1.len];exact l3) (Nat.le_refl _) (Nat.le_refl _) (by decide)
 have f36:Fok 3 6:=by unfold Fok;decide
 have f26:Fok 2 6:=by unfold Fok;decide
 have f2:Fok2 3 42 3 42:=by unfold Fok2 Fok;decide
 have f6:Fok (3+3) (42+42+2):=by unfold Fok;decide
 have z1:Fz u1 v1 3 42:=y1.right hf1 (by decide) (by decide)
 have z2:Fz u2 v2 3 42:=y2.right hf2 (by decide) (by decide)
 have hV1:=hf1.1.v0
 have hV2:=hf2.1.v0
 have hp9:∀{w':World} (a:OA_) (n c:Nat) (b:OA_) (m d:Nat),Pvs w' a n c b m d (fqs K0) (fqs M0)→Fv w' a n c b m d u1 v1 3 42:=fun a n c b m d h9=>(Fv.arg (k:=3) h9.1 h9.2 (by rw[←h9.1.len,p0.len];exact l0) (by rw[←h9.2.len,r0.len];exact l1) (by decide) (by decide) hf1).1
 have hp8:∀{w':World} (a:OA_) (n c:Nat) (b:OA_) (m d:Nat),Pvs w' a n c b m d (fqs K1) (fqs M1)→Fv w' a n c b m d u2 v2 3 42:=fun a n c b m d h9=>(Fv.arg (k:=3) h9.1 h9.2 (by rw[←h9.1.len,p1.len];exact l2') (by rw[←h9.2.len,r1.len];exact l3) (by decide) (by decide) hf2).1
 have hnone:isF [] [1] [] [1]:=rf_nought.isF
 have fnone:Fz [] [1] 3 42:=(Fz.of (N:=1) (n:=0) (m:=1) (h:=3) (s:=42) (fun x hx=>by simp at hx) (fun x hx=>by rw[List.mem_singleton.1 hx];exact fj_ et_ et_) (by simp) (by simp) (by decide) (by decide) (by decide))
 have hkp:∀k,k < 3→Fok (1+k * 3+3) ((2+k * (42+2)+1) * (2 * (1+k * 3))+42+2):=fun k hk=>by
  have:k=0∨k=1∨k=2:=by omega
  rcases this with rfl | rfl | rfl <;> (unfold Fok;decide)
 have hpow:∃(up vp:LR_) (py:Bool),(∀(w':World) (a:OA_) (n c:Nat) (b:OA_) (m d:Nat),Pvs w' a n c b m d (fqs K0) (fqs M0)→Calls Tryz.prog 31 #[.agg #[.slice a n c,.slice b m d],.int .i64 e] w' (lr_ up vp (.bool py) w'))∧(∀(w':World) (a:OA_) (n c:Nat) (b:OA_) (m d:Nat),Rw w' a n c u1→Rw w' b m d v1→Calls Tryz.prog 32 #[.agg #[.slice a n c,.slice b m d],.int .i64 e] w' (lr_ up vp (.bool py) w'))∧Fz up vp 10 2700:=by
  by_cases c1:e < -8
  ·exact⟨[],[1],false,fun w' a n c b m d g=>(S.pow_no a n c b m d u1 v1 e w' (hp9 a n c b m d g) (.inl c1)).mono fun _ _ h9=>h9.just hnone,fun w' a n c b m d _ _=>(n8_ a n c b m d e w' c1).mono fun _ _ h9=>h9.just hnone,fnone.mono (by decide) (by decide)⟩
  by_cases c2:8 < e
  ·exact⟨[],[1],false,fun w' a n c b m d g=>(S.pow_no a n c b m d u1 v1 e w' (hp9 a n c b m d g) (.inr (.inl c2))).mono fun _ _ h9=>h9.just hnone,fun w' a n c b m d _ _=>(mx_ a n c b m d e w' c2).mono fun _ _ h9=>h9.just hnone,fnone.mono (by decide) (by decide)⟩
  have c3 : -3≤e∧e≤3:=by omega
  by_cases c4:0≤e
  ·obtain⟨up,vp,hp⟩:=d1_ (ppow u1 e.toNat) (ppow v1 e.toNat)
   exact⟨up,vp,true,fun w' a n c b m d g=>(S.pow_pos a n c b m d u1 v1 e w' (hp9 a n c b m d g) c4 c3.2).mono fun _ _ h9=>h9.just hp,fun w' a n c b m d g1 g2=>(om_ a n c u1 b m d v1 e w' g1 g2 z1 hV1 c4 (by omega) (by decide) (fun k hk=>hkp k (by omega))).mono fun _ _ h9=>h9.just hp,(((z1.pow (by decide) e.toNat (by omega)).mono (show 1+e.toNat * 3≤10 by omega) (show 2+e.toNat * (42+2)≤134 by omega)).right hp (by decide) (by decide)).mono (by decide) (by decide)⟩
  ·by_cases c5:u1=[]
   ·exact⟨[],[1],false,fun w' a n c b m d g=>(S.pow_no a n c b m d u1 v1 e w' (hp9 a n c b m d g) (.inr (.inr ⟨by omega,c5⟩))).mono fun _ _ h9=>h9.just hnone,fun w' a n c b m d g1 _=>(m0_ a n c u1 b m d e w' g1 c5 (by omega) (by omega)).mono fun _ _ h9=>h9.just hnone,fnone.mono (by decide) (by decide)⟩
   ·obtain⟨up,vp,hp⟩:=d1_ (ppow v1 (-e).toNat) (ppow u1 (-e).toNat)
    have hU1:plen u1≠0:=fun g=>c5 (by rw[ay_ hf1.1.ur] at g;exact List.eq_nil_of_length_eq_zero g)
    exact⟨up,vp,true,fun w' a n c b m d g=>(S.pow_neg a n c b m d u1 v1 e w' (hp9 a n c b m d g) c5 (by omega) c3.1).mono fun _ _ h9=>h9.just hp,fun w' a n c b m d g1 g2=>(oe_ a n c u1 b m d v1 e w' g1 g2 z1 hU1 c5 (by omega) (by omega) (by decide) (fun k hk=>hkp k (by omega))).mono fun _ _ h9=>h9.just hp,(((z1.swap.pow (by decide) (-e).toNat (by omega)).mono (show 1+(-e).toNat * 3≤10 by omega) (show 2+(-e).toNat * (42+2)≤134 by omega)).right hp (by decide) (by decide)).mono (by decide) (by decide)⟩
 obtain⟨up,vp,py,HPX,HPM,zp⟩:=hpow
 obtain⟨ug,vg,hg⟩:=d1_ (ag_ (-1) u1) v1
 have zg:Fz ug vg 3 258:=z1.minus.right hg (by decide) (by decide)
 obtain⟨us,vs,hs⟩:=d1_ (padd (pmul u1 v2) (pmul u2 v1)) (pmul v1 v2)
 have zs:Fz us vs 6 1044:=(z1.add z2 (by decide) (by decide)).right hs (by decide) (by decide)
 obtain⟨ud,vd,hd⟩:=d1_ (psub (pmul u1 v2) (pmul u2 v1)) (pmul v1 v2)
 have hd2:isF (padd (pmul u1 v2) (pmul (ag_ (-1) u2) v1)) (pmul v1 v2) ud vd:=hd.of (ap_ fun z=>by rw[cj_,a2_,ae_,ae_,ae_,au_];grind) (peq.refl _)
 have zd:Fz ud vd 6 1044:=(z1.add z2.minus (by decide) (by decide)).right hd2 (by decide) (by decide)
 obtain⟨un,vn,hn⟩:=d1_ (ag_ (-1) u2) v2
 have zn:Fz un vn 3 258:=z2.minus.right hn (by decide) (by decide)
 have hd3:isF (padd (pmul u1 vn) (pmul un v1)) (pmul v1 vn) ud vd:=hd2.sums hV1 hV2 hf1.1.isF hn
 obtain⟨um,vm,hm⟩:=d1_ (pmul u1 u2) (pmul v1 v2)
 have zm:Fz um vm 6 1044:=(z1.mul z2 (by decide)).right hm (by decide) (by decide)
 obtain⟨uq,vq,hq⟩:=d1_ (pmul u1 v2) (pmul v1 u2)
 have zq:Fz uq vq 6 1044:=(z1.mul z2.swap (by decide)).right hq (by decide) (by decide)
 obtain⟨q0,hq0⟩:∃q:Rat,((0:Int):Rat)=q:=⟨_,rfl⟩
 have hq00:q0=0:=by rw[←hq0];rfl
 have lq0:qlen q0≤2:=by rw[←hq0];exact br_ (by decide)
 have hON:isF [q0,0] [1] [] [1]:=hnone.of (ap_ fun z=>by rw[hq00];show (0:Rat)=0+z * (0+z * 0);grind) (peq.refl _)
 by_cases hx:u2=[]
 ·have hqn:isF (pmul u1 v2) (pmul v1 u2) [] [1]:=gn_ (.inr (by rw[hx,ao_ (d4_ v1)];rfl))
  obtain⟨e1,e2⟩:=hqn.same hq
  subst e1
  subst e2
  exact qb_ HW (fqs K0) (fqs M0) (fqs K1) (fqs M1) u1 v1 u2 v2 [] [1] up vp ug vg us vs ud vd un vn um vm q0 py a0 n0 c0 K0 b0 m0 d0 M0 a1 n1 c1 K1 b1 m1 d1 M1 e w h0 j0 h1 j1 hb0 hb1 he (ix_ t0 s0 y1 hf1 f36) (ix_ t1 s1 y2 hf2 f36) (op_ t0 s0 (by omega) (by omega)) (op_ t1 s1 (by omega) (by omega)) (fun w' a n c b m d a' n' c' b' m' d' g1 g2=>(S.quo a n c b m d u1 v1 3 42 a' n' c' b' m' d' u2 v2 3 42 w' (hp9 a n c b m d g1) (hp8 a' n' c' b' m' d' g2) f2).mono fun _ _ h9=>by rw[show decide (u2≠[])=false by simp[hx]] at h9;exact h9.just hq) (fun w'=>hq0▸cz_ 0 w' c3_) (fun w' a n c b m d g1 g2=>(gd_ q0 a n c b m d 2 w' g1 g2 lq0 f26 (Nat.le_refl 2)).mono fun _ _ h9=>h9.just hON) (fun w' a n c b m d g1 _=>qv_ (decide_eq_true hx) w' a n c b m d g1) (HPX) (HPM) (fi_ zq (by decide) (by decide)) (fi_ zp (by decide) (by decide)) (fun w' a n c b m d g=>(S.neg a n c b m d u1 v1 3 42 w' (hp9 a n c b m d g) (by unfold Fok;decide)).mono fun _ _ h9=>h9.just hg) (fun w' a n c b m d g1 g2=>(jk_ a n c u1 b m d v1 w' g1 g2 z1 hV1 (by unfold Fok;decide) f26).mono fun _ _ h9=>h9.just hg) (fi_ zg (by decide) (by decide)) (fun w' a n c b m d a' n' c' b' m' d' g1 g2=>(S.add a n c b m d u1 v1 3 42 a' n' c' b' m' d' u2 v2 3 42 w' (hp9 a n c b m d g1) (hp8 a' n' c' b' m' d' g2) f2).mono fun _ _ h9=>h9.just hs) (fun w' a n c b m d a' n' c' b' m' d' g1 g2 g3 g4=>(i0_ a n c u1 b m d v1 a' n' c' u2 b' m' d' v2 w' g1 g2 z1 g3 g4 z2 f6).mono fun _ _ h9=>h9.just hs) (fi_ zs (by decide) (by decide)) (fun w' a n c b m d a' n' c' b' m' d' g1 g2=>(S.sub a n c b m d u1 v1 3 42 a' n' c' b' m' d' u2 v2 3 42 w' (hp9 a n c b m d g1) (hp8 a' n' c' b' m' d' g2) f2).mono fun _ _ h9=>h9.just hd) (fun w' a n c b m d g1 g2=>(jk_ a n c u2 b m d v2 w' g1 g2 z2 hV2 (by unfold Fok;decide) f26).mono fun _ _ h9=>h9.just hn) (fun w' a n c b m d a' n' c' b' m' d' g1 g2 g3 g4=>(i0_ a n c u1 b m d v1 a' n' c' un b' m' d' vn w' g1 g2 z1 g3 g4 zn (by unfold Fok;decide)).mono fun _ _ h9=>h9.just hd3) (fi_ zd (by decide) (by decide)) (fun w' a n c b m d a' n' c' b' m' d' g1 g2=>(S.mul a n c b m d u1 v1 3 42 a' n' c' b' m' d' u2 v2 3 42 w' (hp9 a n c b m d g1) (hp8 a' n' c' b' m' d' g2) f2).mono fun _ _ h9=>h9.just hm) (fun w' a n c b m d a' n' c' b' m' d' g1 g2 g3 g4=>(iy_ a n c u1 b m d v1 a' n' c' u2 b' m' d' v2 w' g1 g2 z1 g3 g4 z2 f6).mono fun _ _ h9=>h9.just hm) (fi_ zm (by decide) (by decide))
 ·exact qf_ HW (fqs K0) (fqs M0) (fqs K1) (fqs M1) u1 v1 u2 v2 uq vq up vp ug vg us vs ud vd un vn um vm q0 py a0 n0 c0 K0 b0 m0 d0 M0 a1 n1 c1 K1 b1 m1 d1 M1 e w h0 j0 h1 j1 hb0 hb1 he (ix_ t0 s0 y1 hf1 f36) (ix_ t1 s1 y2 hf2 f36) (op_ t0 s0 (by omega) (by omega)) (op_ t1 s1 (by omega) (by omega)) (fun w' a n c b m d a' n' c' b' m' d' g1 g2=>(S.quo a n c b m d u1 v1 3 42 a' n' c' b' m' d' u2 v2 3 42 w' (hp9 a n c b m d g1) (hp8 a' n' c' b' m' d' g2) f2).mono fun _ _ h9=>by rw[decide_eq_true hx] at h9;exact h9.just hq) (fun w'=>hq0▸cz_ 0 w' c3_) (fun w' a n c b m d g1 g2=>(gd_ q0 a n c b m d 2 w' g1 g2 lq0 f26 (Nat.le_refl 2)).mono fun _ _ h9=>h9.just hON) (fun w' a n c b m d g1 _=>qv_ (decide_eq_false hx) w' a n c b m d g1) (fun w' a n c b m d a' n' c' b' m' d' g1 g2 g3 g4=>(p5_ a n c u1 b m d v1 a' n' c' u2 b' m' d' v2 w' g1 g2 z1 g3 g4 z2 f6).mono fun _ _ h9=>h9.just hq) (HPX) (HPM) (fi_ zq (by decide) (by decide)) (fi_ zp (by decide) (by decide)) (fun w' a n c b m d g=>(S.neg a n c b m d u1 v1 3 42 w' (hp9 a n c b m d g) (by unfold Fok;decide)).mono fun _ _ h9=>h9.just hg) (fun w' a n c b m d g1 g2=>(jk_ a n c u1 b m d v1 w' g1 g2 z1 hV1 (by unfold Fok;decide) f26).mono fun _ _ h9=>h9.just hg) (fi_ zg (by decide) (by decide)) (fun w' a n c b m d a' n' c' b' m' d' g1 g2=>(S.add a n c b m d u1 v1 3 42 a' n' c' b' m' d' u2 v2 3 42 w' (hp9 a n c b m d g1) (hp8 a' n' c' b' m' d' g2) f2).mono fun _ _ h9=>h9.just hs) (fun w' a n c b m d a' n' c' b' m' d' g1 g2 g3 g4=>(i0_ a n c u1 b m d v1 a' n' c' u2 b' m' d' v2 w' g1 g2 z1 g3 g4 z2 f6).mono fun _ _ h9=>h9.just hs) (fi_ zs (by decide) (by decide)) (fun w' a n c b m d a' n' c' b' m' d' g1 g2=>(S.sub a n c b m d u1 v1 3 42 a' n' c' b' m' d' u2 v2 3 42 w' (hp9 a n c b m d g1) (hp8 a' n' c' b' m' d' g2) f2).mono fun _ _ h9=>h9.just hd) (fun w' a n c b m d g1 g2=>(jk_ a n c u2 b m d v2 w' g1 g2 z2 hV2 (by unfold Fok;decide) f26).mono fun _ _ h9=>h9.just hn) (fun w' a n c b m d a' n' c' b' m' d' g1 g2 g3 g4=>(i0_ a n c u1 b m d v1 a' n' c' un b' m' d' vn w' g1 g2 z1 g3 g4 zn (by unfold Fok;decide)).mono fun _ _ h9=>h9.just hd3) (fi_ zd (by decide) (by decide)) (fun w' a n c b m d a' n' c' b' m' d' g1 g2=>(S.mul a n c b m d u1 v1 3 42 a' n' c' b' m' d' u2 v2 3 42 w' (hp9 a n c b m d g1) (hp8 a' n' c' b' m' d' g2) f2).mono fun _ _ h9=>h9.just hm) (fun w' a n c b m d a' n' c' b' m' d' g1 g2 g3 g4=>(iy_ a n c u1 b m d v1 a' n' c' u2 b' m' d' v2 w' g1 g2 z1 g3 g4 z2 f6).mono fun _ _ h9=>h9.just hm) (fi_ zm (by decide) (by decide))
theorem u0_(S:RatfSaid)(HW:∀w:World,Calls Tryz.prog 9 #[] w (bi_ (.bool true) w))(a0:OA_)(n0 c0:Nat)(K0:List Fx)(b0:OA_)(m0 d0:Nat)(M0:List Fx)(a1:OA_)(n1 c1:Nat)(K1:List Fx)(b1:OA_)(m1 d1:Nat)(M1:List Fx)(e:Int)(w:World)(h0:Fxs w a0 n0 c0 K0)(j0:Fxs w b0 m0 d0 M0)(h1:Fxs w a1 n1 c1 K1)(j1:Fxs w b1 m1 d1 M1):Calls Tryz.prog 4 #[.agg #[.slice a0 n0 c0,.slice b0 m0 d0],.agg #[.slice a1 n1 c1,.slice b1 m1 d1],.int .i64 e] w (bi_ (.bool true) w):=by
 by_cases hb0:(((n0:Int)≤3∧thinI 1 K0)∧((m0:Int)≤3∧thinI 1 M0))
 ·by_cases hb1:(((n1:Int)≤3∧thinI 1 K1)∧((m1:Int)≤3∧thinI 1 M1))
  ·by_cases k1 : -8≤e∧e < -3
   ·exact of_ HW a0 n0 c0 K0 b0 m0 d0 M0 a1 n1 c1 K1 b1 m1 d1 M1 e w h0 j0 h1 j1 hb0 hb1 k1.1 k1.2
   ·by_cases k2:3 < e∧e≤8
    ·exact oo_ HW a0 n0 c0 K0 b0 m0 d0 M0 a1 n1 c1 K1 b1 m1 d1 M1 e w h0 j0 h1 j1 hb0 hb1 k2.1 k2.2
    ·exact lq_ S HW a0 n0 c0 K0 b0 m0 d0 M0 a1 n1 c1 K1 b1 m1 d1 M1 e w h0 j0 h1 j1 hb0 hb1 (by omega)
  ·exact ol_ HW a0 n0 c0 K0 b0 m0 d0 M0 a1 n1 c1 K1 b1 m1 d1 M1 e w h0 j0 h1 j1 hb0 hb1
 ·exact oy_ HW a0 n0 c0 K0 b0 m0 d0 M0 a1 n1 c1 K1 b1 m1 d1 M1 e w h0 j0 h1 j1 hb0
def Cpr (p q:LR_):Prop:=∃s t:LR_,∀x,ba_ x s * ba_ x p+ba_ x t * ba_ x q=1
theorem Cpr.sum{p q:List Rat}(h:Cpr p q):∃s t,peq (padd (pmul s p) (pmul t q)) [1]:=by
 obtain⟨s,t,h⟩:=h
 exact⟨s,t,ap_ fun x=>by rw[a2_,ae_,ae_,b3_];exact h x⟩
theorem Rf.coprime{u v:List Rat}(h:Rf u v):Cpr u v:=h.eval_cop
theorem Cpr.symm{p q:List Rat}(h:Cpr p q):Cpr q p:=by
 obtain⟨s,t,h⟩:=h
 exact⟨t,s,fun x=>by have:=h x;grind⟩
theorem Cpr.mul{p q r:List Rat}(h:Cpr p q)(k:Cpr p r):Cpr p (pmul q r):=by
 obtain⟨s,t,h⟩:=h
 obtain⟨s',t',k⟩:=k
 refine ⟨padd (pmul (pmul s s') p) (padd (pmul (pmul s t') r) (pmul (pmul t q) s')),pmul t t',fun x=>?_⟩
 have h1:=h x
 have k1:=k x
 have e:(ba_ x s * ba_ x p+ba_ x t * ba_ x q) * (ba_ x s' * ba_ x p+ba_ x t' * ba_ x r)=1:=by rw[h1,k1];decide +kernel
 simp only[a2_,ae_]
 rw[←e];grind
theorem Cpr.part{p q k r:List Rat}(h:Cpr p q)(e:peq q (pmul k r)):Cpr p k∧Cpr p r:=by
 obtain⟨s,t,h⟩:=h
 refine ⟨⟨s,pmul t r,fun x=>?_⟩,⟨s,pmul t k,fun x=>?_⟩⟩
 ·have h1:=h x
  have e1:=ak_ x e
  rw[ae_] at e1 ⊢
  rw[e1] at h1
  rw[←h1];grind
 ·have h1:=h x
  have e1:=ak_ x e
  rw[ae_] at e1 ⊢
  rw[e1] at h1
  rw[←h1];grind
theorem Cpr.of{p q p' q':List Rat}(h:Cpr p q)(hp:peq p p')(hq:peq q q'):Cpr p' q':=by
 obtain⟨s,t,h⟩:=h
 exact⟨s,t,fun x=>by rw[←ak_ x hp,←ak_ x hq];exact h x⟩
theorem Cpr.shift{p q p' k:List Rat}(h:Cpr p q)(e:peq p' (padd p (pmul k q))):Cpr p' q:=by
 obtain⟨s,t,h⟩:=h
 refine ⟨s,psub t (pmul s k),fun x=>?_⟩
 have h1:=h x
 have e1:=ak_ x e
 rw[a2_,ae_] at e1
 rw[e1,cj_,ae_,←h1];grind
theorem cop_one(p:LR_):Cpr p [1]:=⟨[],[1],fun x=>by rw[b3_];show 0 * _+_=_;grind⟩
theorem Cpr.pow{p q:List Rat}(h:Cpr p q):∀k,Cpr p (ppow q k)
 | 0=>cop_one p
 | k+1=>(h.pow k).mul h
theorem Cpr.pows{p q:List Rat}(h:Cpr p q)(k:Nat):Cpr (ppow p k) (ppow q k):=((h.pow k).symm.pow k).symm
theorem gcd_cop{U V g x y:List Rat}(hg:common U V g)(hg0:plen g≠0)(hx:peq U (pmul x g))(hy:peq V (pmul y g)):Cpr x y:=by
 obtain⟨s,t,hst⟩:=hg.2.2
 have hb:peq (padd (pmul s x) (pmul t y)) [1]:=g3_ hg0 (ap_ fun z=>by
  have e1:=ak_ z hst
  have e2:=ak_ z hx
  have e3:=ak_ z hy
  rw[a2_,ae_,ae_] at e1
  rw[ae_] at e2 e3
  rw[ae_,ae_,b3_,a2_,ae_,ae_];grind)
 exact⟨s,t,fun z=>by have:=ak_ z hb;rwa [a2_,ae_,ae_,b3_] at this⟩
def Mon1 (p:LR_):Prop:=plen p≠0∧co p (plen p - 1)=1
theorem Mon1.of{p q:List Rat}(h:Mon1 p)(e:peq p q):Mon1 q:=⟨by rw[←ao_ e];exact h.1,by rw[←ao_ e,←e];exact h.2⟩
theorem Rf.monic{u v:List Rat}(h:Rf u v):Mon1 v:=⟨h.v0,h.one⟩
theorem p7_:Mon1 [1]:=⟨by rw[eo_ (by decide)];decide,by rw[eo_ (by decide)];rfl⟩
theorem Mon1.mul{p q:List Rat}(h:Mon1 p)(k:Mon1 q):Mon1 (pmul p q):=by
 have h0:=h.1
 have k0:=k.1
 obtain⟨e1,e2⟩:=fp_ (a:=p) (b:=q) (m:=plen p - 1) (n:=plen q - 1) (by omega) (by omega)
 refine ⟨by omega,?_⟩
 rw[e1,Nat.add_sub_cancel,e2,h.2,k.2];decide +kernel
theorem Mon1.left{p a g:List Rat}(h:Mon1 p)(hg:Mon1 g)(e:peq p (pmul a g)):Mon1 a:=by
 have ha:plen a≠0:=fun e0=>h.1 (by rw[ao_ e,ao_ (a6_ (c2_ e0) (peq.refl g))];rfl)
 have g0:=hg.1
 obtain⟨e1,e2⟩:=fp_ (a:=a) (b:=g) (m:=plen a - 1) (n:=plen g - 1) (by omega) (by omega)
 refine ⟨ha,?_⟩
 have h2:=(h.of e).2
 rw[e1,Nat.add_sub_cancel,e2,hg.2,Rat.mul_one] at h2
 exact h2
theorem Mon1.pow{p:List Rat}(h:Mon1 p):∀k,Mon1 (ppow p k)
 | 0=>p7_
 | k+1=>(h.pow k).mul h
theorem isGcd.monic{U V g:List Rat}(h:isGcd U V g)(hg:plen g≠0):Mon1 g:=⟨hg,h.2 _ (by omega)⟩
theorem Rf.of_cop{u v U V:List Rat}(h:Cpr u v)(hv:Mon1 v)(eu:peq U u)(ev:peq V v)(nu:ah_ U=U)(nv:ah_ V=V):Rf U V:=
 ⟨nu,nv,(hv.of ev.symm).1,(hv.of ev.symm).2,(h.of eu.symm ev.symm).sum⟩
structure PartP (U V:LR_) (h K:Nat) (x y g:LR_):Prop where
 nx:ah_ x=x
 ny:ah_ y=y
 ng:ah_ g=g
 dx:peq U (pmul x g)
 dy:peq V (pmul y g)
 gcd:isGcd U V g
 sz:Fz g g h K
theorem PartP.g0{U V x y g:List Rat}{h K:Nat}(p:PartP U V h K x y g)(hV:plen V≠0):plen g≠0:=fun e=>hV (by rw[ao_ p.dy,ao_ (a6_ (peq.refl y) (c2_ e)),ao_ (d4_ y)];rfl)
theorem PartP.Cpr{U V x y g:List Rat}{h K:Nat}(p:PartP U V h K x y g)(hV:plen V≠0):Go.Proofs.YtocebjbjnfammaaGreat.Cpr x y:=gcd_cop p.gcd.1 (p.g0 hV) p.dx p.dy
theorem PartP.rf{U V x y g:List Rat}{h K:Nat}(p:PartP U V h K x y g)(hV:Mon1 V):Rf x y:=by
 have hg:=p.gcd.monic (p.g0 hV.1)
 exact Rf.of_cop (p.Cpr hV.1) (hV.left hg p.dy) (peq.refl _) (peq.refl _) p.nx p.ny
theorem PartP.isF{U V x y g:List Rat}{h K:Nat}(p:PartP U V h K x y g)(hV:Mon1 V):isF U V x y:=by
 refine ⟨p.rf hV,fun e=>absurd e hV.1,fun _=>ap_ fun z=>?_⟩
 have e1:=ak_ z p.dx
 have e2:=ak_ z p.dy
 rw[ae_] at e1 e2
 rw[ae_,ae_,e1,e2];grind
theorem Fz.pair{A A' B B':List Rat}{h k s t:Nat}(f:Fz A A' h s)(g:Fz B B' k t):Fz A B (max h k) (s+t):=by
 obtain⟨a1,a2,c,c1,c2,c3,c4⟩:=f
 obtain⟨b1,b2,d,d1,d2,d3,d4⟩:=g
 refine ⟨by omega,by omega,c * d,Nat.mul_pos c1 d1,by rw[ff_];exact Nat.mul_le_mul c2 d2,fun i=>?_,fun i=>?_⟩
 ·obtain⟨z,e1,e2⟩:=c3 i
  refine ⟨(d:Int) * z,?_,?_⟩
  ·rw[aj_] at e1 ⊢
   rw[Rat.intCast_mul,Rat.intCast_natCast,←e1,Rat.natCast_mul];grind
  ·rw[Int.natAbs_mul,Int.natAbs_natCast,ff_,Nat.mul_comm]
   exact Nat.mul_le_mul e2 d2
 ·obtain⟨z,e1,e2⟩:=d3 i
  refine ⟨(c:Int) * z,?_,?_⟩
  ·rw[aj_] at e1 ⊢
   rw[Rat.intCast_mul,Rat.intCast_natCast,←e1,Rat.natCast_mul];grind
  ·rw[Int.natAbs_mul,Int.natAbs_natCast,ff_]
   exact Nat.mul_le_mul c2 e2
theorem Fz.same{U V U' V':List Rat}{h s h':Nat}(f:Fz U V h s)(eU:peq U U')(eV:peq V V')(l:U'.length≤h')(m:V'.length≤h'):Fz U' V' h' s:=by
 obtain⟨a,b,c,c1,c2,c3,c4⟩:=f
 exact⟨l,m,c,c1,c2,c3.congr (b0_ _ eU),c4.congr (b0_ _ eV)⟩
theorem Fz.norms{U V:List Rat}{h s:Nat}(f:Fz U V h s):Fz (ah_ U) (ah_ V) h s:=f.same (ar_ U).symm (ar_ V).symm (Nat.le_trans (ax_ U) f.lu) (Nat.le_trans (ax_ V) f.lv)
theorem isF_add{u v x y x1 y1 g up up2 g2 q D:List Rat}{h k K K':Nat}(hu:Rf u v)(hx:Rf x y)(p:PartP v y h K x1 y1 g)(hup:peq up (padd (pmul u y1) (pmul x x1)))(p2:PartP up g k K' up2 g2 q)(hD:peq D (pmul (pmul x1 y1) g2))(nD:ah_ D=D) :
 isF (padd (pmul u y) (pmul x v)) (pmul v y) up2 D:=by
 have mv:=hu.monic
 have my:=hx.monic
 have mg:=p.gcd.monic (p.g0 my.1)
 have mx1:=mv.left mg p.dx
 have my1:=my.left mg p.dy
 have mq:=p2.gcd.monic (p2.g0 mg.1)
 have mg2:=mg.left mq p2.dy
 have c1:Cpr up x1:=by
  have a1:Cpr u x1:=(hu.coprime.part p.dx).1
  have a2:Cpr (pmul u y1) x1:=(a1.symm.mul (p.Cpr my.1)).symm
  exact a2.shift hup
 have c2:Cpr up y1:=by
  have a1:Cpr x y1:=(hx.coprime.part p.dy).1
  have a2:Cpr (pmul x x1) y1:=(a1.symm.mul (p.Cpr my.1).symm).symm
  exact a2.shift (k:=u) (hup.trans (ap_ fun z=>by rw[a2_,a2_];grind))
 have c3:Cpr up2 x1:=(c1.symm.part p2.dx).1.symm
 have c4:Cpr up2 y1:=(c2.symm.part p2.dx).1.symm
 have c5:=p2.Cpr mg.1
 refine ⟨Rf.of_cop ((c3.mul c4).mul c5) ((mx1.mul my1).mul mg2) (peq.refl _) hD p2.nx nD,fun e=>absurd e (mv.mul my).1,fun _=>ap_ fun z=>?_⟩
 have e1:=ak_ z p.dx
 have e2:=ak_ z p.dy
 have e3:=ak_ z hup
 have e4:=ak_ z p2.dx
 have e5:=ak_ z p2.dy
 have e6:=ak_ z hD
 simp only[a2_,ae_] at e1 e2 e3 e4 e5 e6 ⊢
 rw[e1,e2,e6]
 have e7:ba_ z up2 * ba_ z q=ba_ z u * ba_ z y1+ba_ z x * ba_ z x1:=by rw[←e4];exact e3
 rw[e5]
 generalize ba_ z up2=U at *
 generalize ba_ z q=Q at *
 generalize ba_ z u=A at *
 generalize ba_ z x=B at *
 generalize ba_ z x1=C at *
 generalize ba_ z y1=E at *
 generalize ba_ z g2=G at *
 have e8:(A * (E * (G * Q))+B * (C * (G * Q))) * (C * E * G)=(A * E+B * C) * (G * Q * (C * E * G)):=by grind
 first
  | (have e9:U * (C * (G * Q) * (E * (G * Q)))=(U * Q) * (G * Q * (C * E * G)):=by grind
     rw[e9,e8,e7])
  | grind
theorem isF_mul{u v x y u1 y1 g x1 v1 g' A D:List Rat}{h k K K':Nat}(hu:Rf u v)(hx:Rf x y)(p:PartP u y h K u1 y1 g)(p':PartP x v k K' x1 v1 g')(hA:peq A (pmul u1 x1))(nA:ah_ A=A)(hD:peq D (pmul v1 y1))(nD:ah_ D=D) :
 isF (pmul u x) (pmul v y) A D:=by
 have mv:=hu.monic
 have my:=hx.monic
 have mg:=p.gcd.monic (p.g0 my.1)
 have mg':=p'.gcd.monic (p'.g0 mv.1)
 have my1:=my.left mg p.dy
 have mv1:=mv.left mg' p'.dy
 have c1:Cpr u1 v1:=((hu.coprime.part p'.dy).1.symm.part p.dx).1.symm
 have c2:Cpr x1 y1:=((hx.coprime.part p.dy).1.symm.part p'.dx).1.symm
 have c3:=p.Cpr my.1
 have c4:=p'.Cpr mv.1
 refine ⟨Rf.of_cop ((c1.mul c3).symm.mul (c4.mul c2).symm).symm (mv1.mul my1) hA hD nA nD,fun e=>absurd e (mv.mul my).1,fun _=>ap_ fun z=>?_⟩
 have e1:=ak_ z p.dx
 have e2:=ak_ z p.dy
 have e3:=ak_ z p'.dx
 have e4:=ak_ z p'.dy
 have e5:=ak_ z hA
 have e6:=ak_ z hD
 simp only[ae_] at e1 e2 e3 e4 e5 e6 ⊢
 rw[e1,e2,e3,e4,e5,e6];grind
theorem isF_pow{u v A D:List Rat}(h:Rf u v)(k:Nat)(hA:peq A (ppow u k))(nA:ah_ A=A)(hD:peq D (ppow v k))(nD:ah_ D=D):isF (ppow u k) (ppow v k) A D:=
 (Rf.of_cop (h.coprime.pows k) (h.monic.pow k) hA hD nA nD).isF.of hA hD
theorem inv_room{z:Int}{S:Nat}(h:z.natAbs≤pw S):qlen (1 / (z:Rat))≤S+2:=by
 have h1:((1:Int):Rat)=1:=rfl
 rw[←h1]
 exact db_ (by have:=fh_ S;omega) h
theorem nat_nz{c:Nat}(h:0 < c):((c:Nat):Rat)≠0:=fun e=>by have h9:c=0:=Rat.natCast_inj.1 (e.trans rfl);omega
def LstQuo (A g:LR_) (w:World) (e:Ending) (w':World):Prop:=∃(a:OA_) (n c:Nat) (q:LR_) (b:OA_) (m d:Nat),e=.returned (.tuple #[.slice a n c,.slice b m d,.bool true])∧Rw w' a n c q∧ah_ q=q∧peq A (pmul q g)∧Below w.heap.size w w'
def l4_ (U V:LR_) (h K:Nat) (w:World) (e:Ending) (w':World):Prop:=∃(a:OA_) (n c:Nat) (x:LR_) (b:OA_) (m d:Nat) (y:LR_) (a':OA_) (n' c':Nat) (g:LR_),e=.returned (.tuple #[.slice a n c,.slice b m d,.slice a' n' c'])∧Rw w' a n c x∧Rw w' b m d y∧Rw w' a' n' c' g∧PartP U V h K x y g∧Below w.heap.size w w'
theorem tk_(S:PolySaid){w:World}{a b:Option Addr}{n c m d h s S0:Nat}{A g:List Rat}{cc:Nat}{z:Int}(hA:Pv w a n c A 1900000000)(hg:Rw w b m d g)(hn:n≤h)(hm:m≤h)(hh:h≤50)(c0:0 < cc)(cs:cc≤pw s)(cA:Ints (ag_ ((cc:Nat):Rat) A) (pw s))(hsS:s≤S0)(gq:∀q∈g,qlen q≤1900000000)(g0:plen g≠0)(z0:z≠0)(zs:z.natAbs≤pw (S0+2))(zg:Ints (ag_ (z:Rat) g) (pw (S0+2)))(hd:pdvd g A)(hT:(4 * h+24) * (S0+5)≤1900000000) :
 Calls Tryz.prog 107 #[.slice a n c,.slice b m d] w (LstQuo A g w):=by
 obtain⟨L,h1,rfl,h3⟩:=hA
 obtain⟨M,k1,k2,k3⟩:=hg.thin gq
 subst k2
 have hq1:qlen (1 / ((cc:Nat):Rat))≤s+2:=dj_ (z:=1) (t:=s) (by have:=fh_ s;omega) cs
 have hq2:qlen (1 / (z:Rat))≤S0+2+2:=inv_room zs
 have hb:4 * (qlen (1 / ((cc:Nat):Rat))+qlen (1 / (z:Rat))+(n+4) * (S0+2+3))≤(4 * h+24) * (S0+5):=by
  have e1:(n+4) * (S0+2+3)≤(h+4) * (S0+5):=Nat.mul_le_mul (by omega) (by omega)
  have e2:(4 * h+24) * (S0+5)=4 * ((h+4) * (S0+5))+8 * (S0+5):=by rw[show 4 * h+24=4 * (h+4)+8 by omega,Nat.add_mul,Nat.mul_assoc]
  omega
 refine (S.div_more a n c L b m d M _ _ _ _ (S0+2) _ w h1 k1 (by omega) (by omega) h3 k3 (cA.mono (cn_ (by omega))) zg (du_ (nat_nz c0) _) (du_ (eq_ z0) _) hb hT (hd_ g0)).mono fun e w' h9=>?_
 obtain⟨a1,n1,c1,q,a2,n2,c2,r,g1,g2,g3,g4,g5,g6,g7,g8,g9⟩:=h9
 have hr:=hd.rest g4
 exact⟨a1,n1,c1,q,a2,n2,c2,g1,g2,g5,g4.1.trans (ap_ fun x=>by rw[a2_,ak_ x (c2_ hr)];show _+(0:Rat)=_;grind),g9⟩
theorem gv_(S:PolySaid)(a:OA_)(n c:Nat)(U:LR_)(b:OA_)(m d:Nat)(V:LR_)(h s:Nat)(w:World)(hU:Pv w a n c U 1900000000)(hV:Pv w b m d V 1900000000)(hz:Fz U V h s)(hk:Pok h s)(hV0:plen V≠0) :
 Calls Tryz.prog 62 #[.slice a n c,.slice b m d] w (l4_ U V h ((s+1) * (2 * h+1)+2) w):=by
 obtain⟨hh,hT⟩:=hk
 have hn:n≤h:=by rw[←hU.len];exact hz.lu
 have hm:m≤h:=by rw[←hV.len];exact hz.lv
 obtain⟨cc,c0,cs,cU,cV⟩:=hz.form
 obtain⟨S1,hS1⟩:∃S1,(s+1) * (2 * h+1)=S1:=⟨_,rfl⟩
 rw[hS1] at hT ⊢
 obtain⟨S0,hS0⟩:∃S0,(s+1) * (plen U+plen V+1)=S0:=⟨_,rfl⟩
 have lU:=bc_ U
 have lV:=bc_ V
 have hS01:S0≤S1:=by
  rw[←hS0,←hS1]
  exact Nat.mul_le_mul_left _ (by have:=hz.lu;have:=hz.lv;omega)
 have hsS:s≤S0:=by rw[←hS0,Nat.mul_add,Nat.mul_one];omega
 have hT0:(4 * h+24) * (S0+5)≤1900000000:=Nat.le_trans (Nat.mul_le_mul_left _ (by omega)) hT
 have hsm:24 * (S0+5)≤1900000000:=Nat.le_trans (Nat.mul_le_mul_right _ (by omega)) hT0
 have hGC:∀w':World,Pv w' a n c U 1900000000→Pv w' b m d V 1900000000→Calls Tryz.prog 106 #[.slice a n c,.slice b m d] w' (o5_ U V (S0+2) w'):=fun w' g1 g2=>by
  obtain⟨L,h1,h2,h3⟩:=g1
  obtain⟨M,k1,k2,k3⟩:=g2
  have h9:=S.gcd_more a n c L b m d M cc s S0 h w' h1 k1 hn hm (by omega) h3 k3 c0 cs (by rw[h2];exact cU) (by rw[k2];exact cV) (by rw[h2,k2];exact hS0) (Nat.le_trans (Nat.mul_le_mul (by omega) (by omega)) hT0)
  rwa [h2,k2] at h9
 have HU:=hd_ hU
 have HV:=hd_ hV
 have HN:=hd_ (And.intro hn (And.intro hm (And.intro hh (And.intro hsS (And.intro hS01 (And.intro hT0 hsm))))))
 have HC:=hd_ (And.intro c0 (And.intro cs (And.intro cU cV)))
 have HV0:=hd_ hV0
 have HLV:=hd_ (show plen V≤h by have:=hz.lv;omega)
 clear hU hV hz hT hn hm hh hS0 hS1 hS01 hsS hT0 hsm lU lV c0 cs cU cV hV0
 go_enter Tryz.func62,Tryz.ntmps62
 go_wp2_with fail
 refine (hGC _ HU.out HV.out).mono ?_
 rintro e w1 ⟨a3,n3,c3,g,rfl,h7,hg1,hg2,hg3,⟨z,hz0,hz1,hz2⟩,bw⟩
 obtain⟨hn,hm,hh,hsS,hS01,hT0,hsm⟩:=HN.out
 obtain⟨c0,cs,cU,cV⟩:=HC.out
 have hgl:=hg1.1.2.1.len HV0.out
 have hlg:g.length=n3:=h7.len
 have hgn:=ay_ hg2
 have hgz:Fz g g h (S1+2):=by
  have hp:pw (S0+2)≤pw (S1+2):=cn_ (by omega)
  have hl:=HLV.out
  exact⟨by omega,by omega,z.natAbs,by omega,Nat.le_trans hz1 hp,hz2.abs.mono hp,hz2.abs.mono hp⟩
 have hq9:∀q∈g,qlen q≤1900000000:=fun q hq=>Nat.le_trans (hg3 q hq) (by omega)
 have hn3:n3≤h:=by have:=HLV.out;omega
 have HDU:∀w':World,Pv w' a n c U 1900000000→Rw w' a3 n3 c3 g→Calls Tryz.prog 107 #[.slice a n c,.slice a3 n3 c3] w' (LstQuo U g w'):=fun w' g1 g2=>tk_ S g1 g2 hn hn3 hh c0 cs cU hsS hq9 hgl.1 hz0 hz1 hz2 hg1.1.1 hT0
 have HDV:∀w':World,Pv w' b m d V 1900000000→Rw w' a3 n3 c3 g→Calls Tryz.prog 107 #[.slice b m d,.slice a3 n3 c3] w' (LstQuo V g w'):=fun w' g1 g2=>tk_ S g1 g2 hm hn3 hh c0 cs cV hsS hq9 hgl.1 hz0 hz1 hz2 hg1.1.2.1 hT0
 have HB:=hd_ bw
 replace HU:=HU.l_ bw
 replace HV:=HV.l_ bw
 have GG:=hd_ h7
 have HG1:=hd_ (And.intro hg1 (And.intro hg2 hgz))
 clear bw h7 hg1 hg2 hg3 hz0 hz1 hz2 hgl hlg hgn hgz hq9 hn3 hn hm hh hsS hS01 hT0 hsm c0 cs cU cV HN HC HV0 HLV hGC
 go_wp2_with fail
 refine (HDU _ HU.out GG.out).mono ?_
 rintro e w2 ⟨a4,n4,c4,x,b4,m4,d4,rfl,h4,hx1,hx2,bw⟩
 replace HB:=bt_ HB bw
 replace HV:=HV.l_ bw
 replace GG:=GG.l_ bw
 have XX:=hd_ h4
 have HX:=hd_ (And.intro hx1 hx2)
 clear bw h4 hx1 hx2 HU HDU
 go_wp2_with fail
 refine (HDV _ HV.out GG.out).mono ?_
 rintro e w3 ⟨a5,n5,c5,y,b5,m5,d5,rfl,h5,hy1,hy2,bw⟩
 replace HB:=bt_ HB bw
 replace GG:=GG.l_ bw
 replace XX:=XX.l_ bw
 have YY:=hd_ h5
 have HY:=hd_ (And.intro hy1 hy2)
 clear bw h5 hy1 hy2 HV HDV
 go_wp2
 go_ret3
 exact⟨a4,n4,c4,x,a5,n5,c5,y,a3,n3,c3,g,rfl,XX.out,YY.out,GG.out,⟨HX.out.1,HY.out.1,HG1.out.2.1,HX.out.2,HY.out.2,HG1.out.1,HG1.out.2.2⟩,HB.out⟩
theorem Pv.boxed{w:World}{a:Option Addr}{n c N:Nat}{P:List Rat}(h:Pv w a n c P N){g:Nat}{x y:Option Addr}{n1 c1 n2 c2:Nat}{t:TypeId}(hg:w.heap[g]? = some (.cells #[.slice x n1 c1,.slice y n2 c2] t (0,0)))(u v:Value) :
 Pv ((w.setCell ⟨g,0,none⟩ u).setCell ⟨g,1,none⟩ v) a n c P N:=by
 obtain⟨L,h1,h2⟩:=h
 exact⟨L,h1.aside (v:=.slice (some ⟨g,0,none⟩) 0 0) (co_ hg fs_) (cb_ (bv_ w g 0 u) (bv_ _ g 1 v)),h2⟩
def LstH (u v:LR_) (h s:Nat) (w:World) (e:Ending) (w':World):Prop:=∃(a:OA_) (n c:Nat) (b:OA_) (m d:Nat),e=.returned (.agg #[.slice a n c,.slice b m d])∧Fv w' a n c b m d u v h s∧Below w.heap.size w w'
def LstPr (U V:LR_) (N:Nat) (w:World) (e:Ending) (w':World):Prop:=∃(a:OA_) (n c:Nat) (b:OA_) (m d:Nat),e=.returned (.agg #[.slice a n c,.slice b m d])∧Pv w' a n c U N∧Pv w' b m d V N∧Below w.heap.size w w'
theorem ru_{u:List Rat}(h:ah_ u=u):ah_ (ag_ (-1) u)=ag_ (-1) u:=by
 have h1:plen (ag_ (-1) u)=(ag_ (-1) u).length:=by rw[bj_ (by decide),ay_ h,be_]
 rw[dq_]
 exact List.take_of_length_le (by rw[show (ah_ (ag_ (-1) u)).length=plen (ag_ (-1) u) from rfl,h1];exact Nat.le_refl _)
theorem Rf.minus{u v:List Rat}(h:Rf u v):Rf (ag_ (-1) u) v:=by
 obtain⟨s,t,hst⟩:=h.coprime
 exact⟨ru_ h.ur,h.vr,h.v0,h.one,Cpr.sum ⟨ag_ (-1) s,t,fun x=>by rw[au_,au_,←hst x];grind⟩⟩
theorem isF.minus{U V u v:List Rat}(h:isF U V u v):isF (ag_ (-1) U) V (ag_ (-1) u) v:=by
 refine ⟨h.1.minus,fun e=>by rw[h.2.1 e];rfl,fun e=>ap_ fun x=>?_⟩
 have:=ak_ x (h.2.2 e)
 rw[ae_,ae_] at this
 rw[ae_,ae_,au_,au_];grind
theorem um_{u:List Rat}{N:Nat}(h:∀q∈u,qlen q≤N)(hN:1≤N):∀q∈ah_ (ag_ (-1) u),qlen q≤N:=cg_ fun i=>by
 rw[e5_,aj_,show -1 * co u i = -(co u i) by grind,tn_]
 exact cr_ hN h i
theorem po_(S:PolySaid){w:World}{v:Value}{q:Rat}{a:Option Addr}{n c N:Nat}{P:List Rat}(hv:Fr w v q 900000000)(h:Pv w a n c P N)(hn:n≤300)(hN:N≤900000000):Calls Tryz.prog 64 #[v,.slice a n c] w (b8_ (ah_ (ag_ q P)) w):=by
 obtain⟨L,h1,rfl,h3⟩:=h
 exact S.scale v q a n c L w hv h1 hn (h3.mono hN)
theorem sa_(S:PolySaid)(FS:FracSaid)(a:OA_)(n c:Nat)(b:OA_)(m d:Nat)(U V:LR_)(N:Nat)(w:World)(hU:Pv w a n c U N)(hV:Pv w b m d V N)(hq:∀q∈U,qlen q≤N)(h1:1≤N)(hN:N≤900000000)(hn:n≤50) :
 Calls Tryz.prog 82 #[.agg #[.slice a n c,.slice b m d]] w (LstPr (ah_ (ag_ (-1) U)) V N w):=by
 obtain⟨z0,hz0⟩:∃q:Rat,((-1:Int):Rat)=q:=⟨_,rfl⟩
 have hz00:z0 = -1:=by rw[←hz0];rfl
 have lz:qlen z0≤2:=by rw[←hz0];exact br_ (by decide)
 have HO1:∀w':World,Calls Tryz.prog 47 #[.int .i64 (-1)] w' (LstQ z0 w'):=fun w'=>hz0▸FS.of (-1) w' (by decide)
 have hPq:∀q∈ah_ (ag_ z0 U),qlen q≤N:=by rw[hz00];exact um_ hq h1
 rw[←hz00]
 obtain⟨P',hP'⟩:∃l,ah_ (ag_ z0 U)=l:=⟨_,rfl⟩
 have HSC:∀(w':World) (a2:OA_) (n2 c2:Nat) (b2:OA_) (m2 d2:Nat),Wd w' a2 n2 c2 (dg z0.num.natAbs)→Wd w' b2 m2 d2 (dg z0.den)→Pv w' a n c U N→Calls Tryz.prog 64 #[.agg #[.bool (zneg z0.num),.slice a2 n2 c2,.slice b2 m2 d2],.slice a n c] w' (b8_ P' w'):=fun w' a2 n2 c2 b2 m2 d2 g1 g2 g3=>hP'▸po_ S (Fr.right g1 g2 (by have:=g1.len;have:=a8_ z0;omega) (by have:=g2.len;have:=a7_ z0;omega)) g3 (by omega) hN
 rw[hP'] at hPq ⊢
 have HPQ:=hd_ hPq
 have HB:=hd_ (ab_ (aa_ w (.cells #[.slice a n c,.slice b m d] 35)) (aa_ _ (.cells #[.slice none 0 0,.slice none 0 0] 35)))
 have X0:Hid (((w.alloc (.cells #[.slice a n c,.slice b m d] 35)).alloc (.cells #[.slice none 0 0,.slice none 0 0] 35)).heap[w.heap.size]? = some (.cells #[.slice a n c,.slice b m d] 35 (0,0))):=hd_ (ac_ (ai_ w _ _) (aa_ _ (.cells #[.slice none 0 0,.slice none 0 0] 35)))
 have R0:Hid (((w.alloc (.cells #[.slice a n c,.slice b m d] 35)).alloc (.cells #[.slice none 0 0,.slice none 0 0] 35)).heap[w.heap.size+1]? = some (.cells #[.slice none 0 0,.slice none 0 0] 35 (0,0))):=hd_ (by have h9:=ai_ (w.alloc (.cells #[.slice a n c,.slice b m d] 35)) #[.slice none 0 0,.slice none 0 0] 35;rwa [al_] at h9)
 have A1:=hd_ (hU.later HB.out)
 have B1:=hd_ (hV.later HB.out)
 clear hU hV hq h1 hN hn hz0 hz00 lz hP' hPq
 go_enter Tryz.func82,Tryz.ntmps82
 go_wp2
 generalize ((w.alloc (.cells #[.slice a n c,.slice b m d] 35)).alloc (.cells #[.slice none 0 0,.slice none 0 0] 35))=W at *
 replace HB:=bt_ HB (dw_ W)
 replace X0:Hid (W.drew.heap[w.heap.size]? = _):=hd_ X0.out
 replace R0:Hid (W.drew.heap[w.heap.size+1]? = some (.cells #[.slice none 0 0,.slice none 0 0] 35 (0,0))):=hd_ R0.out
 replace A1:=A1.l_ (dw_ W)
 replace B1:=B1.l_ (dw_ W)
 have pSn:=d3_ X0.out
 go_region_held3 (fun w'=>w'.cell? ⟨w.heap.size,0,none⟩=some (.slice a n c)∧w'.cell? ⟨w.heap.size,1,none⟩=some (.slice b m d)) (first | exact pSn | exact pSb _ _)
  (first
  | (go_at_call 47;(first
    | (refine (HO1 _).mono ?_;rintro e wp1 ⟨a21,n21,c21,b21,m21,d21,rfl,h21,g21,b⟩;replace HB:=bt_ HB b;replace X0:=bl_ X0 b;replace R0:=bl_ R0 b;replace A1:=A1.l_ b;replace B1:=B1.l_ b;have Z1:=hd_ h21;have Z2:=hd_ g21;clear h21 g21;unfold frV;clear b;clear pSn;have pSn:=d3_ X0.out;have pM1:=True.intro)))
  | (go_at_call 64;(first
    | (have pm1:=pM1;refine (HSC _ _ _ _ _ _ _ Z1.out Z2.out A1.out).mono ?_;rintro e wp2 ⟨a22,n22,c22,rfl,h22,b⟩;replace HB:=bt_ HB b;replace X0:=bl_ X0 b;replace R0:=bl_ R0 b;replace A1:=A1.l_ b;replace B1:=B1.l_ b;clear Z1;clear Z2;have P9:=hd_ h22;clear h22;obtain⟨r0,r1⟩:=a0_ R0.out;have e0:=ad_ R0.out 0;have e1:=ad_ R0.out 1;have pSb:=fun u v=>d3_ (bh_ (g:=w.heap.size+1) X0.out (by omega) u v);clear b;clear pSn;have pSn:=d3_ X0.out;clear pM1 pm1;have pM2:=True.intro))))
 have Q9:=hd_ B1.out
 have R9:=hd_ (a4_ R0.out (.slice a22 n22 c22) (.slice b m d))
 replace P9:=hd_ (P9.out.boxed R0.out (.slice a22 n22 c22) (.slice b m d))
 replace Q9:=hd_ (Q9.out.boxed R0.out (.slice a22 n22 c22) (.slice b m d))
 have G9:=hd_ (an_ HB.out (show w.heap.size≤w.heap.size+1 by omega) (.slice a22 n22 c22) (.slice b m d))
 go_wp2
 refine bodyPost_ret (results_cell_row Tryz.results82 _ _ (w.heap.size+1) 35 #[.slice a22 n22 c22,.slice b m d] (0,0) _ rfl R9.out Tryz.underlying35 rfl (by kernel_rfl)) rfl ?_
 exact⟨a22,n22,c22,b,m,d,rfl,Pv.right P9.out HPQ.out,Q9.out,G9.out⟩
theorem nw_{A X:Nat}{x:Rat}(hx:qlen x≤X):∀{l:List Rat},(∀q∈l,qlen q≤A)→qlen (ba_ x l)≤1+l.length * (A+X+3)
 | [],_=>by
   show qlen 0≤_
   rw[cy_];omega
 | c :: l,h=>by
   have h1:=nw_ hx (l:=l) (fun q hq=>h q (List.mem_cons_of_mem _ hq))
   have h2:=h c (List.mem_cons_self ..)
   have h3:=cu_ x (ba_ x l)
   have h4:=gz_ c (x * ba_ x l)
   rw[ba_,List.length_cons,Nat.add_mul];omega
theorem jm_(S:PolySaid)(FS:FracSaid)(a:OA_)(n c:Nat)(b:OA_)(m d:Nat)(U V:LR_)(v9:Value)(x:Rat)(N X:Nat)(w:World)(hU:Pv w a n c U N)(hV:Pv w b m d V N)(hx:Fr w v9 x X)(hn:n≤50)(hm:m≤50)(hbU:(n+1) * ((n+1) * (X+8)+N+8)≤1900000000)(hbV:(m+1) * ((m+1) * (X+8)+N+8)≤1900000000) :
 Calls Tryz.prog 68 #[.agg #[.slice a n c,.slice b m d],v9] w (gp_ (ba_ x U / ba_ x V) (.bool (decide (ba_ x V≠0))) w):=by
 have hxl:=hx.len
 have hlen:∀(P:LR_) (a:OA_) (n c:Nat),Pv w a n c P N→(n+1) * ((n+1) * (X+8)+N+8)≤1900000000→qlen (ba_ x P)≤2097152000:=fun P a n c g1 g2=>by
  have h1:=nw_ hxl g1.qlen
  rw[g1.len] at h1
  have h2:n * (N+1+(X+1)+3)≤(n+1) * ((n+1) * (X+8)+N+8):=Nat.mul_le_mul (by omega) (by have:X+8≤(n+1) * (X+8):=Nat.le_mul_of_pos_left _ (by omega);omega)
  omega
 have lU:=hlen U a n c hU hbU
 have lV:=hlen V b m d hV hbV
 obtain⟨s9,a9,n9,c9,l9,b9,m9,d9,k9,rfl,h91,h92,h93,h94,h95⟩:=hx
 have HX9:=hd_ h95
 have HEU:∀w':World,Pv w' a n c U N→Wd w' a9 n9 c9 l9→Wd w' b9 m9 d9 k9→Calls Tryz.prog 112 #[.slice a n c,.agg #[.bool s9,.slice a9 n9 c9,.slice b9 m9 d9]] w' (LstQ (ba_ x U) w'):=fun w' g1 g2 g3=>eval_pv S g1 (Fr.of g2 g3 h93 h94 HX9.out) (by omega) hbU
 have HEV:∀w':World,Pv w' b m d V N→Wd w' a9 n9 c9 l9→Wd w' b9 m9 d9 k9→Calls Tryz.prog 112 #[.slice b m d,.agg #[.bool s9,.slice a9 n9 c9,.slice b9 m9 d9]] w' (LstQ (ba_ x V) w'):=fun w' g1 g2 g3=>eval_pv S g1 (Fr.of g2 g3 h93 h94 HX9.out) (by omega) hbV
 obtain⟨p,hp⟩:∃p,ba_ x U=p:=⟨_,rfl⟩
 obtain⟨q,hq⟩:∃p,ba_ x V=p:=⟨_,rfl⟩
 rw[hp] at lU
 rw[hq] at lV
 simp only[hp] at HEU
 simp only[hq] at HEV
 rw[hp,hq]
 have HQU:∀(w':World) (a2:OA_) (n2 c2:Nat) (b2:OA_) (m2 d2:Nat) (a3:OA_) (n3 c3:Nat) (b3:OA_) (m3 d3:Nat),Wd w' a2 n2 c2 (dg p.num.natAbs)→Wd w' b2 m2 d2 (dg p.den)→Wd w' a3 n3 c3 (dg q.num.natAbs)→Wd w' b3 m3 d3 (dg q.den)→Calls Tryz.prog 63 #[.agg #[.bool (zneg p.num),.slice a2 n2 c2,.slice b2 m2 d2],.agg #[.bool (zneg q.num),.slice a3 n3 c3,.slice b3 m3 d3]] w' (gp_ (p / q) (.bool (decide (q≠0))) w'):=fun w' a2 n2 c2 b2 m2 d2 a3 n3 c3 b3 m3 d3 g1 g2 g3 g4=>FS.quo _ _ p q w' (Fr.right g1 g2 (by have:=g1.len;have:=a8_ p;omega) (by have:=g2.len;have:=a7_ p;omega)) (Fr.right g3 g4 (by have:=g3.len;have:=a8_ q;omega) (by have:=g4.len;have:=a7_ q;omega))
 obtain⟨r,hr⟩:∃r,p / q=r:=⟨_,rfl⟩
 obtain⟨bo,hbo⟩:∃r,decide (q≠0)=r:=⟨_,rfl⟩
 simp only[hr,hbo] at HQU
 rw[hr,hbo]
 have HB:=hd_ (ab_ (ab_ (aa_ w (.cells #[.slice a n c,.slice b m d] 35)) (aa_ _ (.cells #[.bool s9,.slice a9 n9 c9,.slice b9 m9 d9] 44))) (aa_ _ (.cells #[.bool false,.slice none 0 0,.slice none 0 0] 44)))
 have X0:Hid ((((w.alloc (.cells #[.slice a n c,.slice b m d] 35)).alloc (.cells #[.bool s9,.slice a9 n9 c9,.slice b9 m9 d9] 44)).alloc (.cells #[.bool false,.slice none 0 0,.slice none 0 0] 44)).heap[w.heap.size]? = some (.cells #[.slice a n c,.slice b m d] 35 (0,0))):=hd_ (ac_ (ac_ (ai_ w _ _) (aa_ _ (.cells #[.bool s9,.slice a9 n9 c9,.slice b9 m9 d9] 44))) (aa_ _ (.cells #[.bool false,.slice none 0 0,.slice none 0 0] 44)))
 have X1:Hid ((((w.alloc (.cells #[.slice a n c,.slice b m d] 35)).alloc (.cells #[.bool s9,.slice a9 n9 c9,.slice b9 m9 d9] 44)).alloc (.cells #[.bool false,.slice none 0 0,.slice none 0 0] 44)).heap[w.heap.size+1]? = some (.cells #[.bool s9,.slice a9 n9 c9,.slice b9 m9 d9] 44 (0,0))):=hd_ (ac_ (by have h9:=ai_ (w.alloc (.cells #[.slice a n c,.slice b m d] 35)) #[.bool s9,.slice a9 n9 c9,.slice b9 m9 d9] 44;rwa [al_] at h9) (aa_ _ (.cells #[.bool false,.slice none 0 0,.slice none 0 0] 44)))
 have R0:Hid ((((w.alloc (.cells #[.slice a n c,.slice b m d] 35)).alloc (.cells #[.bool s9,.slice a9 n9 c9,.slice b9 m9 d9] 44)).alloc (.cells #[.bool false,.slice none 0 0,.slice none 0 0] 44)).heap[w.heap.size+1+1]? = some (.cells #[.bool false,.slice none 0 0,.slice none 0 0] 44 (0,0))):=hd_ (by have h9:=ai_ ((w.alloc (.cells #[.slice a n c,.slice b m d] 35)).alloc (.cells #[.bool s9,.slice a9 n9 c9,.slice b9 m9 d9] 44)) #[.bool false,.slice none 0 0,.slice none 0 0] 44;rwa [al_,al_] at h9)
 have A1:=hd_ (hU.later HB.out)
 have B1:=hd_ (hV.later HB.out)
 have F3:=hd_ (h91.later HB.out)
 have F4:=hd_ (h92.later HB.out)
 clear hU hV h91 h92 h93 h94 h95 HX9 hxl hlen lU lV hp hq hr hbo hn hm hbU hbV
 go_enter Tryz.func68,Tryz.ntmps68
 unfold frV
 go_wp2
 generalize (((w.alloc (.cells #[.slice a n c,.slice b m d] 35)).alloc (.cells #[.bool s9,.slice a9 n9 c9,.slice b9 m9 d9] 44)).alloc (.cells #[.bool false,.slice none 0 0,.slice none 0 0] 44))=W at *
 replace HB:=bt_ HB (dw_ W)
 replace X0:Hid (W.drew.heap[w.heap.size]? = _):=hd_ X0.out
 replace X1:Hid (W.drew.heap[w.heap.size+1]? = _):=hd_ X1.out
 replace R0:Hid (W.drew.heap[w.heap.size+1+1]? = some (.cells #[.bool false,.slice none 0 0,.slice none 0 0] 44 (0,0))):=hd_ R0.out
 replace A1:=A1.l_ (dw_ W)
 replace B1:=B1.l_ (dw_ W)
 replace F3:=F3.l_ (dw_ W)
 replace F4:=F4.l_ (dw_ W)
 have pSn:=cw_ X0.out X1.out
 go_region_held3 (fun w'=>w'.cell? ⟨w.heap.size,0,none⟩=some (.slice a n c)∧w'.cell? ⟨w.heap.size,1,none⟩=some (.slice b m d)∧w'.cell? ⟨w.heap.size+1,0,none⟩=some (.bool s9)∧w'.cell? ⟨w.heap.size+1,1,none⟩=some (.slice a9 n9 c9)∧w'.cell? ⟨w.heap.size+1,2,none⟩=some (.slice b9 m9 d9)) (first | exact pSn | exact pSb _ _ _)
  (first
  | (go_at_call 112;(first
    | (have pm1:=pM1;refine (HEV _ B1.out F3.out F4.out).mono ?_;rintro e wp2 ⟨a22,n22,c22,b22,m22,d22,rfl,h22,g22,b⟩;replace HB:=bt_ HB b;replace X0:=bl_ X0 b;replace X1:=bl_ X1 b;replace R0:=bl_ R0 b;replace A1:=A1.l_ b;replace B1:=B1.l_ b;replace F3:=F3.l_ b;replace F4:=F4.l_ b;replace Z1:=Z1.l_ b;replace Z2:=Z2.l_ b;have Z3:=hd_ h22;have Z4:=hd_ g22;clear h22 g22;unfold frV;clear b;clear pSn;have pSn:=cw_ X0.out X1.out;clear pM1 pm1;have pM2:=True.intro)
    | (refine (HEU _ A1.out F3.out F4.out).mono ?_;rintro e wp1 ⟨a21,n21,c21,b21,m21,d21,rfl,h21,g21,b⟩;replace HB:=bt_ HB b;replace X0:=bl_ X0 b;replace X1:=bl_ X1 b;replace R0:=bl_ R0 b;replace A1:=A1.l_ b;replace B1:=B1.l_ b;replace F3:=F3.l_ b;replace F4:=F4.l_ b;have Z1:=hd_ h21;have Z2:=hd_ g21;clear h21 g21;unfold frV;clear b;clear pSn;have pSn:=cw_ X0.out X1.out;have pM1:=True.intro)))
  | (go_at_call 63;(first
    | (have pm2:=pM2;refine (HQU _ _ _ _ _ _ _ _ _ _ _ _ _ Z1.out Z2.out Z3.out Z4.out).mono ?_;rintro e wp3 ⟨a23,n23,c23,b23,m23,d23,rfl,h23,g23,b⟩;replace HB:=bt_ HB b;replace X0:=bl_ X0 b;replace X1:=bl_ X1 b;replace R0:=bl_ R0 b;replace A1:=A1.l_ b;replace B1:=B1.l_ b;replace F3:=F3.l_ b;replace F4:=F4.l_ b;clear Z1;clear Z2;clear Z3;clear Z4;have F22:=hd_ h23;have G22:=hd_ g23;clear h23 g23;unfold frV;obtain⟨r0,r1,r2⟩:=as_ R0.out;have e0:=ad_ R0.out 0;have e1:=ad_ R0.out 1;have e2:=ad_ R0.out 2;have pSb:=fun u v q=>cw_ (bw_ (g:=w.heap.size+1+1) X0.out (by omega) u v q) (bw_ (g:=w.heap.size+1+1) X1.out (by omega) u v q);clear b;clear pSn;have pSn:=cw_ X0.out X1.out;clear pM2 pm2;have pM3:=True.intro))))
 have R9:=hd_ (bm_ R0.out (.bool (zneg r.num)) (.slice a23 n23 c23) (.slice b23 m23 d23))
 have P9:=hd_ (F22.out.stored3 R0.out (zneg r.num) a23 n23 c23 (.slice b23 m23 d23))
 have Q9:=hd_ (G22.out.stored3 R0.out (zneg r.num) a23 n23 c23 (.slice b23 m23 d23))
 have G9:=hd_ (az_ HB.out (show w.heap.size≤w.heap.size+1+1 by omega) (.bool (zneg r.num)) (.slice a23 n23 c23) (.slice b23 m23 d23))
 go_wp2
 refine bodyPost_ret (bb_ Tryz.results68 _ _ (w.heap.size+1+1) 44 #[.bool (zneg r.num),.slice a23 n23 c23,.slice b23 m23 d23] (0,0) _ rfl R9.out Tryz.underlying44 rfl (by kernel_rfl)) rfl ?_
 exact⟨a23,n23,c23,b23,m23,d23,rfl,P9.out,Q9.out,G9.out⟩
end Go.Proofs.YtocebjbjnfammaaGreat
