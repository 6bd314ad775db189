import Derived.Test.YtocebjbjnfammaaGreatVG8
import Derived.Test.YtocebjbjnfammaaGreatVG7
import Derived.Test.YtocebjbjnfammaaGreatVG3
import Derived.Test.YtocebjbjnfammaaGreatVG5
import Derived.Deep.RegionHeld3
import Derived.Deep.CutRange
import Derived.Deep.RegionWith
import Derived.Test.YtocebjbjnfammaaGreatVG1
set_option maxRecDepth 4096
set_option maxHeartbeats 16000000
namespace Go.Proofs.YtocebjbjnfammaaGreat
open Go.RowKit
theorem kd_(HW:∀w:World,Calls Tryz.prog 9 #[] w (bg_ (.bool true) w))(u1 v1 u2 v2:LR_)(e1 e2:Rat)(a0:OA_)(n0 c0:Nat)(K0:List Fx)(b0:OA_)(m0 d0:Nat)(M0:List Fx)(a1:OA_)(n1 c1:Nat)(K1:List Fx)(b1:OA_)(m1 d1:Nat)(M1:List Fx)(s2:Bool)(a2:OA_)(n2 c2:Nat)(l2:List Nat)(b2:OA_)(m2 d2:Nat)(k2:List Nat)(w:World)(h0:Fxs w a0 n0 c0 K0)(j0:Fxs w b0 m0 d0 M0)(h1:Fxs w a1 n1 c1 K1)(j1:Fxs w b1 m1 d1 M1)(h2:Wd w a2 n2 c2 l2)(j2:Wd w b2 m2 d2 k2)(hb0:(((n0:Int)≤3∧thinI 1 K0)∧((m0:Int)≤3∧thinI 1 M0)))(hb1:(((n1:Int)≤3∧thinI 1 K1)∧((m1:Int)≤3∧thinI 1 M1)))(hn2:n2≤1)(hm2:m2≤1)(HT0:∀w':World,Fxs w' a0 n0 c0 K0→Fxs w' b0 m0 d0 M0→Calls Tryz.prog 12 #[.agg #[.slice a0 n0 c0,.slice b0 m0 d0]] w' (LstG u1 v1 3 42 w'))(HT1:∀w':World,Fxs w' a1 n1 c1 K1→Fxs w' b1 m1 d1 M1→Calls Tryz.prog 12 #[.agg #[.slice a1 n1 c1,.slice b1 m1 d1]] w' (LstG u2 v2 3 42 w'))(HE1:∀(w':World) (a:OA_) (n c:Nat) (b:OA_) (m d:Nat),Fv w' a n c b m d u1 v1 3 42→Wd w' a2 n2 c2 l2→Wd w' b2 m2 d2 k2→Calls Tryz.prog 16 #[.agg #[.slice a n c,.slice b m d],.agg #[.bool s2,.slice a2 n2 c2,.slice b2 m2 d2]] w' (di_ e1 (.bool false) w'))(HE2:∀(w':World) (a:OA_) (n c:Nat) (b:OA_) (m d:Nat),Fv w' a n c b m d u2 v2 3 42→Wd w' a2 n2 c2 l2→Wd w' b2 m2 d2 k2→Calls Tryz.prog 16 #[.agg #[.slice a n c,.slice b m d],.agg #[.bool s2,.slice a2 n2 c2,.slice b2 m2 d2]] w' (di_ e2 (.bool false) w')):Calls Tryz.prog 5 #[.agg #[.slice a0 n0 c0,.slice b0 m0 d0],.agg #[.slice a1 n1 c1,.slice b1 m1 d1],frV s2 a2 n2 c2 b2 m2 d2] w (bg_ (.bool true) w):=by
 have hl2:(decide ((1:Int) < (n2:Int)) || decide ((1:Int) < (m2:Int)))=false:=by rw[decide_eq_false (by omega),decide_eq_false (by omega)];rfl
 have HNB0:=hd_ hb0
 have HNB1:=hd_ hb1
 have HB:=hd_ (ab_ (ab_ (aa_ w (.cells #[.slice a0 n0 c0,.slice b0 m0 d0] 24)) (aa_ _ (.cells #[.slice a1 n1 c1,.slice b1 m1 d1] 24))) (aa_ _ (.cells #[.bool s2,.slice a2 n2 c2,.slice b2 m2 d2] 27)))
 have X0:Hid ((((w.alloc (.cells #[.slice a0 n0 c0,.slice b0 m0 d0] 24)).alloc (.cells #[.slice a1 n1 c1,.slice b1 m1 d1] 24)).alloc (.cells #[.bool s2,.slice a2 n2 c2,.slice b2 m2 d2] 27)).heap[w.heap.size]? = some (.cells #[.slice a0 n0 c0,.slice b0 m0 d0] 24 (0,0))):=hd_ (ae_ (ae_ (aj_ w _ _) (aa_ _ (.cells #[.slice a1 n1 c1,.slice b1 m1 d1] 24))) (aa_ _ (.cells #[.bool s2,.slice a2 n2 c2,.slice b2 m2 d2] 27)))
 have X1:Hid ((((w.alloc (.cells #[.slice a0 n0 c0,.slice b0 m0 d0] 24)).alloc (.cells #[.slice a1 n1 c1,.slice b1 m1 d1] 24)).alloc (.cells #[.bool s2,.slice a2 n2 c2,.slice b2 m2 d2] 27)).heap[w.heap.size+1]? = some (.cells #[.slice a1 n1 c1,.slice b1 m1 d1] 24 (0,0))):=hd_ (ae_ (by have h9:=aj_ (w.alloc (.cells #[.slice a0 n0 c0,.slice b0 m0 d0] 24)) #[.slice a1 n1 c1,.slice b1 m1 d1] 24;rwa [aq_] at h9) (aa_ _ (.cells #[.bool s2,.slice a2 n2 c2,.slice b2 m2 d2] 27)))
 have X2:Hid ((((w.alloc (.cells #[.slice a0 n0 c0,.slice b0 m0 d0] 24)).alloc (.cells #[.slice a1 n1 c1,.slice b1 m1 d1] 24)).alloc (.cells #[.bool s2,.slice a2 n2 c2,.slice b2 m2 d2] 27)).heap[w.heap.size+1+1]? = some (.cells #[.bool s2,.slice a2 n2 c2,.slice b2 m2 d2] 27 (0,0))):=hd_ (by have h9:=aj_ ((w.alloc (.cells #[.slice a0 n0 c0,.slice b0 m0 d0] 24)).alloc (.cells #[.slice a1 n1 c1,.slice b1 m1 d1] 24)) #[.bool s2,.slice a2 n2 c2,.slice b2 m2 d2] 27;rwa [aq_,aq_] at h9)
 have HF0:=hd_ (h0.later HB.out)
 have HG0:=hd_ (j0.later HB.out)
 have HF1:=hd_ (h1.later HB.out)
 have HG1:=hd_ (j1.later HB.out)
 have A2:=hd_ (h2.later HB.out)
 have D2:=hd_ (j2.later HB.out)
 clear h0 j0 h1 j1 h2 j2 hb0 hb1
 go_enter Tryz.func5,Tryz.ntmps5
 unfold frV
 obtain⟨vk0,vk1,vk2,vk3,vk4,vk5,vk6⟩:=a2_ X0.out X1.out X2.out
 go_wp2_with fail
 refine (cj_ a0 n0 c0 K0 b0 m0 d0 M0 3 1 false _ HF0.out HG0.out (by decide) ⟨fun h=>absurd h (by decide),fun h=>absurd HNB0.out h⟩).mono ?_
 rintro e wv1 ⟨rfl,b⟩
 clear vk0 vk1 vk2 vk3 vk4 vk5 vk6
 replace HB:=bt_ HB b
 replace X0:=bl_ X0 b
 replace X1:=bl_ X1 b
 replace X2:=bl_ X2 b
 replace HF0:=HF0.l_ b
 replace HG0:=HG0.l_ b
 replace HF1:=HF1.l_ b
 replace HG1:=HG1.l_ b
 replace A2:=A2.l_ b
 replace D2:=D2.l_ b
 clear b
 obtain⟨vk0,vk1,vk2,vk3,vk4,vk5,vk6⟩:=a2_ X0.out X1.out X2.out
 go_wp2_with fail
 refine (cj_ a1 n1 c1 K1 b1 m1 d1 M1 3 1 false _ HF1.out HG1.out (by decide) ⟨fun h=>absurd h (by decide),fun h=>absurd HNB1.out h⟩).mono ?_
 rintro e wv2 ⟨rfl,b⟩
 clear vk0 vk1 vk2 vk3 vk4 vk5 vk6
 replace HB:=bt_ HB b
 replace X0:=bl_ X0 b
 replace X1:=bl_ X1 b
 replace X2:=bl_ X2 b
 replace HF0:=HF0.l_ b
 replace HG0:=HG0.l_ b
 replace HF1:=HF1.l_ b
 replace HG1:=HG1.l_ b
 replace A2:=A2.l_ b
 replace D2:=D2.l_ b
 clear b
 obtain⟨vk0,vk1,vk2,vk3,vk4,vk5,vk6⟩:=a2_ X0.out X1.out X2.out
 go_wp2_with fail
 refine (eo_ s2 a2 n2 c2 b2 m2 d2 1 _).mono ?_
 rintro e wv3 ⟨rfl,b⟩
 clear vk0 vk1 vk2 vk3 vk4 vk5 vk6
 replace HB:=bt_ HB b
 replace X0:=bl_ X0 b
 replace X1:=bl_ X1 b
 replace X2:=bl_ X2 b
 replace HF0:=HF0.l_ b
 replace HG0:=HG0.l_ b
 replace HF1:=HF1.l_ b
 replace HG1:=HG1.l_ b
 replace A2:=A2.l_ b
 replace D2:=D2.l_ b
 clear b
 rw[hl2]
 obtain⟨vk0,vk1,vk2,vk3,vk4,vk5,vk6⟩:=a2_ X0.out X1.out X2.out
 go_wp2_with fail
 refine (HT0 _ HF0.out HG0.out).mono ?_
 rintro e wv4 ⟨a3,n3,c3,b3,m3,d3,rfl,h3,b⟩
 clear vk0 vk1 vk2 vk3 vk4 vk5 vk6
 clear HF0 HG0
 have X:=hd_ h3
 have ba:=aa_ wv4 (.cells #[.slice a3 n3 c3,.slice b3 m3 d3] 35)
 have BX:=hd_ (aj_ wv4 #[.slice a3 n3 c3,.slice b3 m3 d3] 35)
 have bb:=ab_ b ba
 replace X:=X.l_ ba
 replace HB:=bt_ HB bb
 replace X0:=bl_ X0 bb
 replace X1:=bl_ X1 bb
 replace X2:=bl_ X2 bb
 replace HF1:=HF1.l_ bb
 replace HG1:=HG1.l_ bb
 replace A2:=A2.l_ bb
 replace D2:=D2.l_ bb
 clear b ba bb
 clear h3
 go_upto_region 4 with fail
 generalize wv4.alloc (.cells #[.slice a3 n3 c3,.slice b3 m3 d3] 35)=wr at *
 obtain⟨vk0,vk1,vk2,vk3,vk4,vk5,vk6,vk7,vk8⟩:=ec_ X0.out X1.out X2.out BX.out
 go_wp2_with fail
 refine (HT1 _ HF1.out HG1.out).mono ?_
 rintro e wv5 ⟨a4,n4,c4,b4,m4,d4,rfl,h4,b⟩
 clear vk0 vk1 vk2 vk3 vk4 vk5 vk6 vk7 vk8
 clear HF1 HG1
 have Y:=hd_ h4
 have ba:=aa_ wv5 (.cells #[.slice a4 n4 c4,.slice b4 m4 d4] 35)
 have BY:=hd_ (aj_ wv5 #[.slice a4 n4 c4,.slice b4 m4 d4] 35)
 have bb:=ab_ b ba
 replace Y:=Y.l_ ba
 replace HB:=bt_ HB bb
 replace X0:=bl_ X0 bb
 replace X1:=bl_ X1 bb
 replace X2:=bl_ X2 bb
 replace BX:=bl_ BX bb
 replace A2:=A2.l_ bb
 replace D2:=D2.l_ bb
 replace X:=X.l_ bb
 clear b ba bb
 clear h4
 go_upto_region 5 with fail
 generalize wv5.alloc (.cells #[.slice a4 n4 c4,.slice b4 m4 d4] 35)=wr at *
 obtain⟨vk0,vk1,vk2,vk3,vk4,vk5,vk6,vk7,vk8,vk9,vk10⟩:=dy_ X0.out X1.out X2.out BX.out BY.out
 go_wp2_with fail
 refine (g4_ s2 a2 n2 c2 b2 m2 d2 _).mono ?_
 rintro e wv6 ⟨rfl,b⟩
 clear vk0 vk1 vk2 vk3 vk4 vk5 vk6 vk7 vk8 vk9 vk10
 have ba:=aa_ wv6 (.cells #[.bool s2,.slice a2 n2 c2,.slice b2 m2 d2] 44)
 have BZ:=hd_ (aj_ wv6 #[.bool s2,.slice a2 n2 c2,.slice b2 m2 d2] 44)
 have bb:=ab_ b ba
 replace HB:=bt_ HB bb
 replace X0:=bl_ X0 bb
 replace X1:=bl_ X1 bb
 replace X2:=bl_ X2 bb
 replace BX:=bl_ BX bb
 replace BY:=bl_ BY bb
 replace A2:=A2.l_ bb
 replace D2:=D2.l_ bb
 replace X:=X.l_ bb
 replace Y:=Y.l_ bb
 clear b ba bb
 (try unfold frV)
 go_upto_region 6 with fail
 generalize wv6.alloc (.cells #[.bool s2,.slice a2 n2 c2,.slice b2 m2 d2] 44)=wr at *
 obtain⟨vk0,vk1,vk2,vk3,vk4,vk5,vk6,vk7,vk8,vk9,vk10,vk11,vk12,vk13⟩:=df_ X0.out X1.out X2.out BX.out BY.out BZ.out
 go_wp2_with fail
 refine (HE1 _ _ _ _ _ _ _ X.out A2.out D2.out).mono ?_
 rintro e wv7 ⟨a61,n61,c61,b61,m61,d61,rfl,h61,g61,b⟩
 clear vk0 vk1 vk2 vk3 vk4 vk5 vk6 vk7 vk8 vk9 vk10 vk11 vk12 vk13
 have A61:=hd_ h61
 have E61:=hd_ g61
 have ba:=aa_ wv7 (.cells #[.bool (zneg e1.num),.slice a61 n61 c61,.slice b61 m61 d61] 44)
 have B61:=hd_ (aj_ wv7 #[.bool (zneg e1.num),.slice a61 n61 c61,.slice b61 m61 d61] 44)
 have bb:=ab_ b ba
 replace A61:=A61.l_ ba
 replace E61:=E61.l_ ba
 replace HB:=bt_ HB bb
 replace X0:=bl_ X0 bb
 replace X1:=bl_ X1 bb
 replace X2:=bl_ X2 bb
 replace BX:=bl_ BX bb
 replace BY:=bl_ BY bb
 replace BZ:=bl_ BZ bb
 replace A2:=A2.l_ bb
 replace D2:=D2.l_ bb
 replace X:=X.l_ bb
 replace Y:=Y.l_ bb
 clear b ba bb
 clear h61 g61
 (try unfold frV)
 go_upto_region 7 with fail
 generalize wv7.alloc (.cells #[.bool (zneg e1.num),.slice a61 n61 c61,.slice b61 m61 d61] 44)=wr at *
 obtain⟨vk0,vk1,vk2,vk3,vk4,vk5,vk6,vk7,vk8,vk9,vk10,vk11,vk12,vk13,vk14,vk15,vk16⟩:=cw_ X0.out X1.out X2.out BX.out BY.out BZ.out B61.out
 go_wp2_with fail
 refine (HE2 _ _ _ _ _ _ _ Y.out A2.out D2.out).mono ?_
 rintro e wv8 ⟨a62,n62,c62,b62,m62,d62,rfl,h62,g62,b⟩
 clear vk0 vk1 vk2 vk3 vk4 vk5 vk6 vk7 vk8 vk9 vk10 vk11 vk12 vk13 vk14 vk15 vk16
 have A62:=hd_ h62
 have E62:=hd_ g62
 have ba:=aa_ wv8 (.cells #[.bool (zneg e2.num),.slice a62 n62 c62,.slice b62 m62 d62] 44)
 have B62:=hd_ (aj_ wv8 #[.bool (zneg e2.num),.slice a62 n62 c62,.slice b62 m62 d62] 44)
 have bb:=ab_ b ba
 replace A62:=A62.l_ ba
 replace E62:=E62.l_ ba
 replace HB:=bt_ HB bb
 replace X0:=bl_ X0 bb
 replace X1:=bl_ X1 bb
 replace X2:=bl_ X2 bb
 replace BX:=bl_ BX bb
 replace BY:=bl_ BY bb
 replace BZ:=bl_ BZ bb
 replace B61:=bl_ B61 bb
 replace A2:=A2.l_ bb
 replace D2:=D2.l_ bb
 replace X:=X.l_ bb
 replace Y:=Y.l_ bb
 replace A61:=A61.l_ bb
 replace E61:=E61.l_ bb
 clear b ba bb
 clear h62 g62
 (try unfold frV)
 go_upto_region 8 with fail
 generalize wv8.alloc (.cells #[.bool (zneg e2.num),.slice a62 n62 c62,.slice b62 m62 d62] 44)=wr at *
 go_wp2_with fail
 refine (HW _).mono ?_
 rintro e wv9 ⟨rfl,b⟩
 replace HB:=bt_ HB b
 go_wp2
 go_ret
 exact⟨rfl,HB.out⟩
theorem jh_(HW:∀w:World,Calls Tryz.prog 9 #[] w (bg_ (.bool true) w))(u1 v1 u2 v2:LR_)(e1 e2:Rat)(a0:OA_)(n0 c0:Nat)(K0:List Fx)(b0:OA_)(m0 d0:Nat)(M0:List Fx)(a1:OA_)(n1 c1:Nat)(K1:List Fx)(b1:OA_)(m1 d1:Nat)(M1:List Fx)(s2:Bool)(a2:OA_)(n2 c2:Nat)(l2:List Nat)(b2:OA_)(m2 d2:Nat)(k2:List Nat)(w:World)(h0:Fxs w a0 n0 c0 K0)(j0:Fxs w b0 m0 d0 M0)(h1:Fxs w a1 n1 c1 K1)(j1:Fxs w b1 m1 d1 M1)(h2:Wd w a2 n2 c2 l2)(j2:Wd w b2 m2 d2 k2)(hb0:(((n0:Int)≤3∧thinI 1 K0)∧((m0:Int)≤3∧thinI 1 M0)))(hb1:(((n1:Int)≤3∧thinI 1 K1)∧((m1:Int)≤3∧thinI 1 M1)))(hn2:n2≤1)(hm2:m2≤1)(HT0:∀w':World,Fxs w' a0 n0 c0 K0→Fxs w' b0 m0 d0 M0→Calls Tryz.prog 12 #[.agg #[.slice a0 n0 c0,.slice b0 m0 d0]] w' (LstG u1 v1 3 42 w'))(HT1:∀w':World,Fxs w' a1 n1 c1 K1→Fxs w' b1 m1 d1 M1→Calls Tryz.prog 12 #[.agg #[.slice a1 n1 c1,.slice b1 m1 d1]] w' (LstG u2 v2 3 42 w'))(HE1:∀(w':World) (a:OA_) (n c:Nat) (b:OA_) (m d:Nat),Fv w' a n c b m d u1 v1 3 42→Wd w' a2 n2 c2 l2→Wd w' b2 m2 d2 k2→Calls Tryz.prog 16 #[.agg #[.slice a n c,.slice b m d],.agg #[.bool s2,.slice a2 n2 c2,.slice b2 m2 d2]] w' (di_ e1 (.bool false) w'))(HE2:∀(w':World) (a:OA_) (n c:Nat) (b:OA_) (m d:Nat),Fv w' a n c b m d u2 v2 3 42→Wd w' a2 n2 c2 l2→Wd w' b2 m2 d2 k2→Calls Tryz.prog 16 #[.agg #[.slice a n c,.slice b m d],.agg #[.bool s2,.slice a2 n2 c2,.slice b2 m2 d2]] w' (di_ e2 (.bool true) w')):Calls Tryz.prog 5 #[.agg #[.slice a0 n0 c0,.slice b0 m0 d0],.agg #[.slice a1 n1 c1,.slice b1 m1 d1],frV s2 a2 n2 c2 b2 m2 d2] w (bg_ (.bool true) w):=by
 have hl2:(decide ((1:Int) < (n2:Int)) || decide ((1:Int) < (m2:Int)))=false:=by rw[decide_eq_false (by omega),decide_eq_false (by omega)];rfl
 have HNB0:=hd_ hb0
 have HNB1:=hd_ hb1
 have HB:=hd_ (ab_ (ab_ (aa_ w (.cells #[.slice a0 n0 c0,.slice b0 m0 d0] 24)) (aa_ _ (.cells #[.slice a1 n1 c1,.slice b1 m1 d1] 24))) (aa_ _ (.cells #[.bool s2,.slice a2 n2 c2,.slice b2 m2 d2] 27)))
 have X0:Hid ((((w.alloc (.cells #[.slice a0 n0 c0,.slice b0 m0 d0] 24)).alloc (.cells #[.slice a1 n1 c1,.slice b1 m1 d1] 24)).alloc (.cells #[.bool s2,.slice a2 n2 c2,.slice b2 m2 d2] 27)).heap[w.heap.size]? = some (.cells #[.slice a0 n0 c0,.slice b0 m0 d0] 24 (0,0))):=hd_ (ae_ (ae_ (aj_ w _ _) (aa_ _ (.cells #[.slice a1 n1 c1,.slice b1 m1 d1] 24))) (aa_ _ (.cells #[.bool s2,.slice a2 n2 c2,.slice b2 m2 d2] 27)))
 have X1:Hid ((((w.alloc (.cells #[.slice a0 n0 c0,.slice b0 m0 d0] 24)).alloc (.cells #[.slice a1 n1 c1,.slice b1 m1 d1] 24)).alloc (.cells #[.bool s2,.slice a2 n2 c2,.slice b2 m2 d2] 27)).heap[w.heap.size+1]? = some (.cells #[.slice a1 n1 c1,.slice b1 m1 d1] 24 (0,0))):=hd_ (ae_ (by have h9:=aj_ (w.alloc (.cells #[.slice a0 n0 c0,.slice b0 m0 d0] 24)) #[.slice a1 n1 c1,.slice b1 m1 d1] 24;rwa [aq_] at h9) (aa_ _ (.cells #[.bool s2,.slice a2 n2 c2,.slice b2 m2 d2] 27)))
 have X2:Hid ((((w.alloc (.cells #[.slice a0 n0 c0,.slice b0 m0 d0] 24)).alloc (.cells #[.slice a1 n1 c1,.slice b1 m1 d1] 24)).alloc (.cells #[.bool s2,.slice a2 n2 c2,.slice b2 m2 d2] 27)).heap[w.heap.size+1+1]? = some (.cells #[.bool s2,.slice a2 n2 c2,.slice b2 m2 d2] 27 (0,0))):=hd_ (by have h9:=aj_ ((w.alloc (.cells #[.slice a0 n0 c0,.slice b0 m0 d0] 24)).alloc (.cells #[.slice a1 n1 c1,.slice b1 m1 d1] 24)) #[.bool s2,.slice a2 n2 c2,.slice b2 m2 d2] 27;rwa [aq_,aq_] at h9)
 have HF0:=hd_ (h0.later HB.out)
 have HG0:=hd_ (j0.later HB.out)
 have HF1:=hd_ (h1.later HB.out)
 have HG1:=hd_ (j1.later HB.out)
 have A2:=hd_ (h2.later HB.out)
 have D2:=hd_ (j2.later HB.out)
 clear h0 j0 h1 j1 h2 j2 hb0 hb1
 go_enter Tryz.func5,Tryz.ntmps5
 unfold frV
 obtain⟨vk0,vk1,vk2,vk3,vk4,vk5,vk6⟩:=a2_ X0.out X1.out X2.out
 go_wp2_with fail
 refine (cj_ a0 n0 c0 K0 b0 m0 d0 M0 3 1 false _ HF0.out HG0.out (by decide) ⟨fun h=>absurd h (by decide),fun h=>absurd HNB0.out h⟩).mono ?_
 rintro e wv1 ⟨rfl,b⟩
 clear vk0 vk1 vk2 vk3 vk4 vk5 vk6
 replace HB:=bt_ HB b
 replace X0:=bl_ X0 b
 replace X1:=bl_ X1 b
 replace X2:=bl_ X2 b
 replace HF0:=HF0.l_ b
 replace HG0:=HG0.l_ b
 replace HF1:=HF1.l_ b
 replace HG1:=HG1.l_ b
 replace A2:=A2.l_ b
 replace D2:=D2.l_ b
 clear b
 obtain⟨vk0,vk1,vk2,vk3,vk4,vk5,vk6⟩:=a2_ X0.out X1.out X2.out
 go_wp2_with fail
 refine (cj_ a1 n1 c1 K1 b1 m1 d1 M1 3 1 false _ HF1.out HG1.out (by decide) ⟨fun h=>absurd h (by decide),fun h=>absurd HNB1.out h⟩).mono ?_
 rintro e wv2 ⟨rfl,b⟩
 clear vk0 vk1 vk2 vk3 vk4 vk5 vk6
 replace HB:=bt_ HB b
 replace X0:=bl_ X0 b
 replace X1:=bl_ X1 b
 replace X2:=bl_ X2 b
 replace HF0:=HF0.l_ b
 replace HG0:=HG0.l_ b
 replace HF1:=HF1.l_ b
 replace HG1:=HG1.l_ b
 replace A2:=A2.l_ b
 replace D2:=D2.l_ b
 clear b
 obtain⟨vk0,vk1,vk2,vk3,vk4,vk5,vk6⟩:=a2_ X0.out X1.out X2.out
 go_wp2_with fail
 refine (eo_ s2 a2 n2 c2 b2 m2 d2 1 _).mono ?_
 rintro e wv3 ⟨rfl,b⟩
 clear vk0 vk1 vk2 vk3 vk4 vk5 vk6
 replace HB:=bt_ HB b
 replace X0:=bl_ X0 b
 replace X1:=bl_ X1 b
 replace X2:=bl_ X2 b
 replace HF0:=HF0.l_ b
 replace HG0:=HG0.l_ b
 replace HF1:=HF1.l_ b
 replace HG1:=HG1.l_ b
 replace A2:=A2.l_ b
 replace D2:=D2.l_ b
 clear b
 rw[hl2]
 obtain⟨vk0,vk1,vk2,vk3,vk4,vk5,vk6⟩:=a2_ X0.out X1.out X2.out
 go_wp2_with fail
 refine (HT0 _ HF0.out HG0.out).mono ?_
 rintro e wv4 ⟨a3,n3,c3,b3,m3,d3,rfl,h3,b⟩
 clear vk0 vk1 vk2 vk3 vk4 vk5 vk6
 clear HF0 HG0
 have X:=hd_ h3
 have ba:=aa_ wv4 (.cells #[.slice a3 n3 c3,.slice b3 m3 d3] 35)
 have BX:=hd_ (aj_ wv4 #[.slice a3 n3 c3,.slice b3 m3 d3] 35)
 have bb:=ab_ b ba
 replace X:=X.l_ ba
 replace HB:=bt_ HB bb
 replace X0:=bl_ X0 bb
 replace X1:=bl_ X1 bb
 replace X2:=bl_ X2 bb
 replace HF1:=HF1.l_ bb
 replace HG1:=HG1.l_ bb
 replace A2:=A2.l_ bb
 replace D2:=D2.l_ bb
 clear b ba bb
 clear h3
 go_upto_region 4 with fail
 generalize wv4.alloc (.cells #[.slice a3 n3 c3,.slice b3 m3 d3] 35)=wr at *
 obtain⟨vk0,vk1,vk2,vk3,vk4,vk5,vk6,vk7,vk8⟩:=ec_ X0.out X1.out X2.out BX.out
 go_wp2_with fail
 refine (HT1 _ HF1.out HG1.out).mono ?_
 rintro e wv5 ⟨a4,n4,c4,b4,m4,d4,rfl,h4,b⟩
 clear vk0 vk1 vk2 vk3 vk4 vk5 vk6 vk7 vk8
 clear HF1 HG1
 have Y:=hd_ h4
 have ba:=aa_ wv5 (.cells #[.slice a4 n4 c4,.slice b4 m4 d4] 35)
 have BY:=hd_ (aj_ wv5 #[.slice a4 n4 c4,.slice b4 m4 d4] 35)
 have bb:=ab_ b ba
 replace Y:=Y.l_ ba
 replace HB:=bt_ HB bb
 replace X0:=bl_ X0 bb
 replace X1:=bl_ X1 bb
 replace X2:=bl_ X2 bb
 replace BX:=bl_ BX bb
 replace A2:=A2.l_ bb
 replace D2:=D2.l_ bb
 replace X:=X.l_ bb
 clear b ba bb
 clear h4
 go_upto_region 5 with fail
 generalize wv5.alloc (.cells #[.slice a4 n4 c4,.slice b4 m4 d4] 35)=wr at *
 obtain⟨vk0,vk1,vk2,vk3,vk4,vk5,vk6,vk7,vk8,vk9,vk10⟩:=dy_ X0.out X1.out X2.out BX.out BY.out
 go_wp2_with fail
 refine (g4_ s2 a2 n2 c2 b2 m2 d2 _).mono ?_
 rintro e wv6 ⟨rfl,b⟩
 clear vk0 vk1 vk2 vk3 vk4 vk5 vk6 vk7 vk8 vk9 vk10
 have ba:=aa_ wv6 (.cells #[.bool s2,.slice a2 n2 c2,.slice b2 m2 d2] 44)
 have BZ:=hd_ (aj_ wv6 #[.bool s2,.slice a2 n2 c2,.slice b2 m2 d2] 44)
 have bb:=ab_ b ba
 replace HB:=bt_ HB bb
 replace X0:=bl_ X0 bb
 replace X1:=bl_ X1 bb
 replace X2:=bl_ X2 bb
 replace BX:=bl_ BX bb
 replace BY:=bl_ BY bb
 replace A2:=A2.l_ bb
 replace D2:=D2.l_ bb
 replace X:=X.l_ bb
 replace Y:=Y.l_ bb
 clear b ba bb
 (try unfold frV)
 go_upto_region 6 with fail
 generalize wv6.alloc (.cells #[.bool s2,.slice a2 n2 c2,.slice b2 m2 d2] 44)=wr at *
 obtain⟨vk0,vk1,vk2,vk3,vk4,vk5,vk6,vk7,vk8,vk9,vk10,vk11,vk12,vk13⟩:=df_ X0.out X1.out X2.out BX.out BY.out BZ.out
 go_wp2_with fail
 refine (HE1 _ _ _ _ _ _ _ X.out A2.out D2.out).mono ?_
 rintro e wv7 ⟨a61,n61,c61,b61,m61,d61,rfl,h61,g61,b⟩
 clear vk0 vk1 vk2 vk3 vk4 vk5 vk6 vk7 vk8 vk9 vk10 vk11 vk12 vk13
 have A61:=hd_ h61
 have E61:=hd_ g61
 have ba:=aa_ wv7 (.cells #[.bool (zneg e1.num),.slice a61 n61 c61,.slice b61 m61 d61] 44)
 have B61:=hd_ (aj_ wv7 #[.bool (zneg e1.num),.slice a61 n61 c61,.slice b61 m61 d61] 44)
 have bb:=ab_ b ba
 replace A61:=A61.l_ ba
 replace E61:=E61.l_ ba
 replace HB:=bt_ HB bb
 replace X0:=bl_ X0 bb
 replace X1:=bl_ X1 bb
 replace X2:=bl_ X2 bb
 replace BX:=bl_ BX bb
 replace BY:=bl_ BY bb
 replace BZ:=bl_ BZ bb
 replace A2:=A2.l_ bb
 replace D2:=D2.l_ bb
 replace X:=X.l_ bb
 replace Y:=Y.l_ bb
 clear b ba bb
 clear h61 g61
 (try unfold frV)
 go_upto_region 7 with fail
 generalize wv7.alloc (.cells #[.bool (zneg e1.num),.slice a61 n61 c61,.slice b61 m61 d61] 44)=wr at *
 obtain⟨vk0,vk1,vk2,vk3,vk4,vk5,vk6,vk7,vk8,vk9,vk10,vk11,vk12,vk13,vk14,vk15,vk16⟩:=cw_ X0.out X1.out X2.out BX.out BY.out BZ.out B61.out
 go_wp2_with fail
 refine (HE2 _ _ _ _ _ _ _ Y.out A2.out D2.out).mono ?_
 rintro e wv8 ⟨a62,n62,c62,b62,m62,d62,rfl,h62,g62,b⟩
 clear vk0 vk1 vk2 vk3 vk4 vk5 vk6 vk7 vk8 vk9 vk10 vk11 vk12 vk13 vk14 vk15 vk16
 have A62:=hd_ h62
 have E62:=hd_ g62
 have ba:=aa_ wv8 (.cells #[.bool (zneg e2.num),.slice a62 n62 c62,.slice b62 m62 d62] 44)
 have B62:=hd_ (aj_ wv8 #[.bool (zneg e2.num),.slice a62 n62 c62,.slice b62 m62 d62] 44)
 have bb:=ab_ b ba
 replace A62:=A62.l_ ba
 replace E62:=E62.l_ ba
 replace HB:=bt_ HB bb
 replace X0:=bl_ X0 bb
 replace X1:=bl_ X1 bb
 replace X2:=bl_ X2 bb
 replace BX:=bl_ BX bb
 replace BY:=bl_ BY bb
 replace BZ:=bl_ BZ bb
 replace B61:=bl_ B61 bb
 replace A2:=A2.l_ bb
 replace D2:=D2.l_ bb
 replace X:=X.l_ bb
 replace Y:=Y.l_ bb
 replace A61:=A61.l_ bb
 replace E61:=E61.l_ bb
 clear b ba bb
 clear h62 g62
 (try unfold frV)
 go_upto_region 8 with fail
 generalize wv8.alloc (.cells #[.bool (zneg e2.num),.slice a62 n62 c62,.slice b62 m62 d62] 44)=wr at *
 go_wp2_with fail
 refine (HW _).mono ?_
 rintro e wv9 ⟨rfl,b⟩
 replace HB:=bt_ HB b
 go_wp2
 go_ret
 exact⟨rfl,HB.out⟩
theorem kr_(HW:∀w:World,Calls Tryz.prog 9 #[] w (bg_ (.bool true) w))(u1 v1 u2 v2:LR_)(e1 e2:Rat)(a0:OA_)(n0 c0:Nat)(K0:List Fx)(b0:OA_)(m0 d0:Nat)(M0:List Fx)(a1:OA_)(n1 c1:Nat)(K1:List Fx)(b1:OA_)(m1 d1:Nat)(M1:List Fx)(s2:Bool)(a2:OA_)(n2 c2:Nat)(l2:List Nat)(b2:OA_)(m2 d2:Nat)(k2:List Nat)(w:World)(h0:Fxs w a0 n0 c0 K0)(j0:Fxs w b0 m0 d0 M0)(h1:Fxs w a1 n1 c1 K1)(j1:Fxs w b1 m1 d1 M1)(h2:Wd w a2 n2 c2 l2)(j2:Wd w b2 m2 d2 k2)(hb0:(((n0:Int)≤3∧thinI 1 K0)∧((m0:Int)≤3∧thinI 1 M0)))(hb1:(((n1:Int)≤3∧thinI 1 K1)∧((m1:Int)≤3∧thinI 1 M1)))(hn2:n2≤1)(hm2:m2≤1)(HT0:∀w':World,Fxs w' a0 n0 c0 K0→Fxs w' b0 m0 d0 M0→Calls Tryz.prog 12 #[.agg #[.slice a0 n0 c0,.slice b0 m0 d0]] w' (LstG u1 v1 3 42 w'))(HT1:∀w':World,Fxs w' a1 n1 c1 K1→Fxs w' b1 m1 d1 M1→Calls Tryz.prog 12 #[.agg #[.slice a1 n1 c1,.slice b1 m1 d1]] w' (LstG u2 v2 3 42 w'))(HE1:∀(w':World) (a:OA_) (n c:Nat) (b:OA_) (m d:Nat),Fv w' a n c b m d u1 v1 3 42→Wd w' a2 n2 c2 l2→Wd w' b2 m2 d2 k2→Calls Tryz.prog 16 #[.agg #[.slice a n c,.slice b m d],.agg #[.bool s2,.slice a2 n2 c2,.slice b2 m2 d2]] w' (di_ e1 (.bool true) w'))(HE2:∀(w':World) (a:OA_) (n c:Nat) (b:OA_) (m d:Nat),Fv w' a n c b m d u2 v2 3 42→Wd w' a2 n2 c2 l2→Wd w' b2 m2 d2 k2→Calls Tryz.prog 16 #[.agg #[.slice a n c,.slice b m d],.agg #[.bool s2,.slice a2 n2 c2,.slice b2 m2 d2]] w' (di_ e2 (.bool false) w')):Calls Tryz.prog 5 #[.agg #[.slice a0 n0 c0,.slice b0 m0 d0],.agg #[.slice a1 n1 c1,.slice b1 m1 d1],frV s2 a2 n2 c2 b2 m2 d2] w (bg_ (.bool true) w):=by
 have hl2:(decide ((1:Int) < (n2:Int)) || decide ((1:Int) < (m2:Int)))=false:=by rw[decide_eq_false (by omega),decide_eq_false (by omega)];rfl
 have HNB0:=hd_ hb0
 have HNB1:=hd_ hb1
 have HB:=hd_ (ab_ (ab_ (aa_ w (.cells #[.slice a0 n0 c0,.slice b0 m0 d0] 24)) (aa_ _ (.cells #[.slice a1 n1 c1,.slice b1 m1 d1] 24))) (aa_ _ (.cells #[.bool s2,.slice a2 n2 c2,.slice b2 m2 d2] 27)))
 have X0:Hid ((((w.alloc (.cells #[.slice a0 n0 c0,.slice b0 m0 d0] 24)).alloc (.cells #[.slice a1 n1 c1,.slice b1 m1 d1] 24)).alloc (.cells #[.bool s2,.slice a2 n2 c2,.slice b2 m2 d2] 27)).heap[w.heap.size]? = some (.cells #[.slice a0 n0 c0,.slice b0 m0 d0] 24 (0,0))):=hd_ (ae_ (ae_ (aj_ w _ _) (aa_ _ (.cells #[.slice a1 n1 c1,.slice b1 m1 d1] 24))) (aa_ _ (.cells #[.bool s2,.slice a2 n2 c2,.slice b2 m2 d2] 27)))
 have X1:Hid ((((w.alloc (.cells #[.slice a0 n0 c0,.slice b0 m0 d0] 24)).alloc (.cells #[.slice a1 n1 c1,.slice b1 m1 d1] 24)).alloc (.cells #[.bool s2,.slice a2 n2 c2,.slice b2 m2 d2] 27)).heap[w.heap.size+1]? = some (.cells #[.slice a1 n1 c1,.slice b1 m1 d1] 24 (0,0))):=hd_ (ae_ (by have h9:=aj_ (w.alloc (.cells #[.slice a0 n0 c0,.slice b0 m0 d0] 24)) #[.slice a1 n1 c1,.slice b1 m1 d1] 24;rwa [aq_] at h9) (aa_ _ (.cells #[.bool s2,.slice a2 n2 c2,.slice b2 m2 d2] 27)))
 have X2:Hid ((((w.alloc (.cells #[.slice a0 n0 c0,.slice b0 m0 d0] 24)).alloc (.cells #[.slice a1 n1 c1,.slice b1 m1 d1] 24)).alloc (.cells #[.bool s2,.slice a2 n2 c2,.slice b2 m2 d2] 27)).heap[w.heap.size+1+1]? = some (.cells #[.bool s2,.slice a2 n2 c2,.slice b2 m2 d2] 27 (0,0))):=hd_ (by have h9:=aj_ ((w.alloc (.cells #[.slice a0 n0 c0,.slice b0 m0 d0] 24)).alloc (.cells #[.slice a1 n1 c1,.slice b1 m1 d1] 24)) #[.bool s2,.slice a2 n2 c2,.slice b2 m2 d2] 27;rwa [aq_,aq_] at h9)
 have HF0:=hd_ (h0.later HB.out)
 have HG0:=hd_ (j0.later HB.out)
 have HF1:=hd_ (h1.later HB.out)
 have HG1:=hd_ (j1.later HB.out)
 have A2:=hd_ (h2.later HB.out)
 have D2:=hd_ (j2.later HB.out)
 clear h0 j0 h1 j1 h2 j2 hb0 hb1
 go_enter Tryz.func5,Tryz.ntmps5
 unfold frV
 obtain⟨vk0,vk1,vk2,vk3,vk4,vk5,vk6⟩:=a2_ X0.out X1.out X2.out
 go_wp2_with fail
 refine (cj_ a0 n0 c0 K0 b0 m0 d0 M0 3 1 false _ HF0.out HG0.out (by decide) ⟨fun h=>absurd h (by decide),fun h=>absurd HNB0.out h⟩).mono ?_
 rintro e wv1 ⟨rfl,b⟩
 clear vk0 vk1 vk2 vk3 vk4 vk5 vk6
 replace HB:=bt_ HB b
 replace X0:=bl_ X0 b
 replace X1:=bl_ X1 b
 replace X2:=bl_ X2 b
 replace HF0:=HF0.l_ b
 replace HG0:=HG0.l_ b
 replace HF1:=HF1.l_ b
 replace HG1:=HG1.l_ b
 replace A2:=A2.l_ b
 replace D2:=D2.l_ b
 clear b
 obtain⟨vk0,vk1,vk2,vk3,vk4,vk5,vk6⟩:=a2_ X0.out X1.out X2.out
 go_wp2_with fail
 refine (cj_ a1 n1 c1 K1 b1 m1 d1 M1 3 1 false _ HF1.out HG1.out (by decide) ⟨fun h=>absurd h (by decide),fun h=>absurd HNB1.out h⟩).mono ?_
 rintro e wv2 ⟨rfl,b⟩
 clear vk0 vk1 vk2 vk3 vk4 vk5 vk6
 replace HB:=bt_ HB b
 replace X0:=bl_ X0 b
 replace X1:=bl_ X1 b
 replace X2:=bl_ X2 b
 replace HF0:=HF0.l_ b
 replace HG0:=HG0.l_ b
 replace HF1:=HF1.l_ b
 replace HG1:=HG1.l_ b
 replace A2:=A2.l_ b
 replace D2:=D2.l_ b
 clear b
 obtain⟨vk0,vk1,vk2,vk3,vk4,vk5,vk6⟩:=a2_ X0.out X1.out X2.out
 go_wp2_with fail
 refine (eo_ s2 a2 n2 c2 b2 m2 d2 1 _).mono ?_
 rintro e wv3 ⟨rfl,b⟩
 clear vk0 vk1 vk2 vk3 vk4 vk5 vk6
 replace HB:=bt_ HB b
 replace X0:=bl_ X0 b
 replace X1:=bl_ X1 b
 replace X2:=bl_ X2 b
 replace HF0:=HF0.l_ b
 replace HG0:=HG0.l_ b
 replace HF1:=HF1.l_ b
 replace HG1:=HG1.l_ b
 replace A2:=A2.l_ b
 replace D2:=D2.l_ b
 clear b
 rw[hl2]
 obtain⟨vk0,vk1,vk2,vk3,vk4,vk5,vk6⟩:=a2_ X0.out X1.out X2.out
 go_wp2_with fail
 refine (HT0 _ HF0.out HG0.out).mono ?_
 rintro e wv4 ⟨a3,n3,c3,b3,m3,d3,rfl,h3,b⟩
 clear vk0 vk1 vk2 vk3 vk4 vk5 vk6
 clear HF0 HG0
 have X:=hd_ h3
 have ba:=aa_ wv4 (.cells #[.slice a3 n3 c3,.slice b3 m3 d3] 35)
 have BX:=hd_ (aj_ wv4 #[.slice a3 n3 c3,.slice b3 m3 d3] 35)
 have bb:=ab_ b ba
 replace X:=X.l_ ba
 replace HB:=bt_ HB bb
 replace X0:=bl_ X0 bb
 replace X1:=bl_ X1 bb
 replace X2:=bl_ X2 bb
 replace HF1:=HF1.l_ bb
 replace HG1:=HG1.l_ bb
 replace A2:=A2.l_ bb
 replace D2:=D2.l_ bb
 clear b ba bb
 clear h3
 go_upto_region 4 with fail
 generalize wv4.alloc (.cells #[.slice a3 n3 c3,.slice b3 m3 d3] 35)=wr at *
 obtain⟨vk0,vk1,vk2,vk3,vk4,vk5,vk6,vk7,vk8⟩:=ec_ X0.out X1.out X2.out BX.out
 go_wp2_with fail
 refine (HT1 _ HF1.out HG1.out).mono ?_
 rintro e wv5 ⟨a4,n4,c4,b4,m4,d4,rfl,h4,b⟩
 clear vk0 vk1 vk2 vk3 vk4 vk5 vk6 vk7 vk8
 clear HF1 HG1
 have Y:=hd_ h4
 have ba:=aa_ wv5 (.cells #[.slice a4 n4 c4,.slice b4 m4 d4] 35)
 have BY:=hd_ (aj_ wv5 #[.slice a4 n4 c4,.slice b4 m4 d4] 35)
 have bb:=ab_ b ba
 replace Y:=Y.l_ ba
 replace HB:=bt_ HB bb
 replace X0:=bl_ X0 bb
 replace X1:=bl_ X1 bb
 replace X2:=bl_ X2 bb
 replace BX:=bl_ BX bb
 replace A2:=A2.l_ bb
 replace D2:=D2.l_ bb
 replace X:=X.l_ bb
 clear b ba bb
 clear h4
 go_upto_region 5 with fail
 generalize wv5.alloc (.cells #[.slice a4 n4 c4,.slice b4 m4 d4] 35)=wr at *
 obtain⟨vk0,vk1,vk2,vk3,vk4,vk5,vk6,vk7,vk8,vk9,vk10⟩:=dy_ X0.out X1.out X2.out BX.out BY.out
 go_wp2_with fail
 refine (g4_ s2 a2 n2 c2 b2 m2 d2 _).mono ?_
 rintro e wv6 ⟨rfl,b⟩
 clear vk0 vk1 vk2 vk3 vk4 vk5 vk6 vk7 vk8 vk9 vk10
 have ba:=aa_ wv6 (.cells #[.bool s2,.slice a2 n2 c2,.slice b2 m2 d2] 44)
 have BZ:=hd_ (aj_ wv6 #[.bool s2,.slice a2 n2 c2,.slice b2 m2 d2] 44)
 have bb:=ab_ b ba
 replace HB:=bt_ HB bb
 replace X0:=bl_ X0 bb
 replace X1:=bl_ X1 bb
 replace X2:=bl_ X2 bb
 replace BX:=bl_ BX bb
 replace BY:=bl_ BY bb
 replace A2:=A2.l_ bb
 replace D2:=D2.l_ bb
 replace X:=X.l_ bb
 replace Y:=Y.l_ bb
 clear b ba bb
 (try unfold frV)
 go_upto_region 6 with fail
 generalize wv6.alloc (.cells #[.bool s2,.slice a2 n2 c2,.slice b2 m2 d2] 44)=wr at *
 obtain⟨vk0,vk1,vk2,vk3,vk4,vk5,vk6,vk7,vk8,vk9,vk10,vk11,vk12,vk13⟩:=df_ X0.out X1.out X2.out BX.out BY.out BZ.out
 go_wp2_with fail
 refine (HE1 _ _ _ _ _ _ _ X.out A2.out D2.out).mono ?_
 rintro e wv7 ⟨a61,n61,c61,b61,m61,d61,rfl,h61,g61,b⟩
 clear vk0 vk1 vk2 vk3 vk4 vk5 vk6 vk7 vk8 vk9 vk10 vk11 vk12 vk13
 have A61:=hd_ h61
 have E61:=hd_ g61
 have ba:=aa_ wv7 (.cells #[.bool (zneg e1.num),.slice a61 n61 c61,.slice b61 m61 d61] 44)
 have B61:=hd_ (aj_ wv7 #[.bool (zneg e1.num),.slice a61 n61 c61,.slice b61 m61 d61] 44)
 have bb:=ab_ b ba
 replace A61:=A61.l_ ba
 replace E61:=E61.l_ ba
 replace HB:=bt_ HB bb
 replace X0:=bl_ X0 bb
 replace X1:=bl_ X1 bb
 replace X2:=bl_ X2 bb
 replace BX:=bl_ BX bb
 replace BY:=bl_ BY bb
 replace BZ:=bl_ BZ bb
 replace A2:=A2.l_ bb
 replace D2:=D2.l_ bb
 replace X:=X.l_ bb
 replace Y:=Y.l_ bb
 clear b ba bb
 clear h61 g61
 (try unfold frV)
 go_upto_region 7 with fail
 generalize wv7.alloc (.cells #[.bool (zneg e1.num),.slice a61 n61 c61,.slice b61 m61 d61] 44)=wr at *
 obtain⟨vk0,vk1,vk2,vk3,vk4,vk5,vk6,vk7,vk8,vk9,vk10,vk11,vk12,vk13,vk14,vk15,vk16⟩:=cw_ X0.out X1.out X2.out BX.out BY.out BZ.out B61.out
 go_wp2_with fail
 refine (HE2 _ _ _ _ _ _ _ Y.out A2.out D2.out).mono ?_
 rintro e wv8 ⟨a62,n62,c62,b62,m62,d62,rfl,h62,g62,b⟩
 clear vk0 vk1 vk2 vk3 vk4 vk5 vk6 vk7 vk8 vk9 vk10 vk11 vk12 vk13 vk14 vk15 vk16
 have A62:=hd_ h62
 have E62:=hd_ g62
 have ba:=aa_ wv8 (.cells #[.bool (zneg e2.num),.slice a62 n62 c62,.slice b62 m62 d62] 44)
 have B62:=hd_ (aj_ wv8 #[.bool (zneg e2.num),.slice a62 n62 c62,.slice b62 m62 d62] 44)
 have bb:=ab_ b ba
 replace A62:=A62.l_ ba
 replace E62:=E62.l_ ba
 replace HB:=bt_ HB bb
 replace X0:=bl_ X0 bb
 replace X1:=bl_ X1 bb
 replace X2:=bl_ X2 bb
 replace BX:=bl_ BX bb
 replace BY:=bl_ BY bb
 replace BZ:=bl_ BZ bb
 replace B61:=bl_ B61 bb
 replace A2:=A2.l_ bb
 replace D2:=D2.l_ bb
 replace X:=X.l_ bb
 replace Y:=Y.l_ bb
 replace A61:=A61.l_ bb
 replace E61:=E61.l_ bb
 clear b ba bb
 clear h62 g62
 (try unfold frV)
 go_upto_region 8 with fail
 generalize wv8.alloc (.cells #[.bool (zneg e2.num),.slice a62 n62 c62,.slice b62 m62 d62] 44)=wr at *
 go_wp2_with fail
 refine (HW _).mono ?_
 rintro e wv9 ⟨rfl,b⟩
 replace HB:=bt_ HB b
 go_wp2
 go_ret
 exact⟨rfl,HB.out⟩
theorem jp_(HW:∀w:World,Calls Tryz.prog 9 #[] w (bg_ (.bool true) w))(u1 v1 u2 v2:LR_)(us vs ud vd up vp uq vq:LR_)(e1 e2 es ed ep eq:Rat)(sg:Int)(a0:OA_)(n0 c0:Nat)(K0:List Fx)(b0:OA_)(m0 d0:Nat)(M0:List Fx)(a1:OA_)(n1 c1:Nat)(K1:List Fx)(b1:OA_)(m1 d1:Nat)(M1:List Fx)(s2:Bool)(a2:OA_)(n2 c2:Nat)(l2:List Nat)(b2:OA_)(m2 d2:Nat)(k2:List Nat)(w:World)(h0:Fxs w a0 n0 c0 K0)(j0:Fxs w b0 m0 d0 M0)(h1:Fxs w a1 n1 c1 K1)(j1:Fxs w b1 m1 d1 M1)(h2:Wd w a2 n2 c2 l2)(j2:Wd w b2 m2 d2 k2)(hb0:(((n0:Int)≤3∧thinI 1 K0)∧((m0:Int)≤3∧thinI 1 M0)))(hb1:(((n1:Int)≤3∧thinI 1 K1)∧((m1:Int)≤3∧thinI 1 M1)))(hn2:n2≤1)(hm2:m2≤1)(HT0:∀w':World,Fxs w' a0 n0 c0 K0→Fxs w' b0 m0 d0 M0→Calls Tryz.prog 12 #[.agg #[.slice a0 n0 c0,.slice b0 m0 d0]] w' (LstG u1 v1 3 42 w'))(HT1:∀w':World,Fxs w' a1 n1 c1 K1→Fxs w' b1 m1 d1 M1→Calls Tryz.prog 12 #[.agg #[.slice a1 n1 c1,.slice b1 m1 d1]] w' (LstG u2 v2 3 42 w'))(HE1:∀(w':World) (a:OA_) (n c:Nat) (b:OA_) (m d:Nat),Fv w' a n c b m d u1 v1 3 42→Wd w' a2 n2 c2 l2→Wd w' b2 m2 d2 k2→Calls Tryz.prog 16 #[.agg #[.slice a n c,.slice b m d],.agg #[.bool s2,.slice a2 n2 c2,.slice b2 m2 d2]] w' (di_ e1 (.bool true) w'))(HE2:∀(w':World) (a:OA_) (n c:Nat) (b:OA_) (m d:Nat),Fv w' a n c b m d u2 v2 3 42→Wd w' a2 n2 c2 l2→Wd w' b2 m2 d2 k2→Calls Tryz.prog 16 #[.agg #[.slice a n c,.slice b m d],.agg #[.bool s2,.slice a2 n2 c2,.slice b2 m2 d2]] w' (di_ e2 (.bool true) w'))(HA1:∀(w':World) (a:OA_) (n c:Nat) (b:OA_) (m d:Nat) (a':OA_) (n' c':Nat) (b':OA_) (m' d':Nat),Fv w' a n c b m d u1 v1 3 42→Fv w' a' n' c' b' m' d' u2 v2 3 42→Calls Tryz.prog 35 #[.agg #[.slice a n c,.slice b m d],.agg #[.slice a' n' c',.slice b' m' d']] w' (LstG us vs 5 870 w'))(HES:∀(w':World) (a:OA_) (n c:Nat) (b:OA_) (m d:Nat),Fv w' a n c b m d us vs 5 870→Wd w' a2 n2 c2 l2→Wd w' b2 m2 d2 k2→Calls Tryz.prog 16 #[.agg #[.slice a n c,.slice b m d],.agg #[.bool s2,.slice a2 n2 c2,.slice b2 m2 d2]] w' (di_ es (.bool true) w'))(HD1:∀(w':World) (a:OA_) (n c:Nat) (b:OA_) (m d:Nat) (a':OA_) (n' c':Nat) (b':OA_) (m' d':Nat),Fv w' a n c b m d u1 v1 3 42→Fv w' a' n' c' b' m' d' u2 v2 3 42→Calls Tryz.prog 37 #[.agg #[.slice a n c,.slice b m d],.agg #[.slice a' n' c',.slice b' m' d']] w' (LstG ud vd 5 870 w'))(HED:∀(w':World) (a:OA_) (n c:Nat) (b:OA_) (m d:Nat),Fv w' a n c b m d ud vd 5 870→Wd w' a2 n2 c2 l2→Wd w' b2 m2 d2 k2→Calls Tryz.prog 16 #[.agg #[.slice a n c,.slice b m d],.agg #[.bool s2,.slice a2 n2 c2,.slice b2 m2 d2]] w' (di_ ed (.bool true) w'))(HM1:∀(w':World) (a:OA_) (n c:Nat) (b:OA_) (m d:Nat) (a':OA_) (n' c':Nat) (b':OA_) (m' d':Nat),Fv w' a n c b m d u1 v1 3 42→Fv w' a' n' c' b' m' d' u2 v2 3 42→Calls Tryz.prog 38 #[.agg #[.slice a n c,.slice b m d],.agg #[.slice a' n' c',.slice b' m' d']] w' (LstG up vp 5 870 w'))(HEP:∀(w':World) (a:OA_) (n c:Nat) (b:OA_) (m d:Nat),Fv w' a n c b m d up vp 5 870→Wd w' a2 n2 c2 l2→Wd w' b2 m2 d2 k2→Calls Tryz.prog 16 #[.agg #[.slice a n c,.slice b m d],.agg #[.bool s2,.slice a2 n2 c2,.slice b2 m2 d2]] w' (di_ ep (.bool true) w'))(HFA:∀(w':World) (a1:OA_) (n1 c1:Nat) (b1:OA_) (m1 d1:Nat) (a3:OA_) (n3 c3:Nat) (b3:OA_) (m3 d3:Nat),Wd w' a1 n1 c1 (dg e1.num.natAbs)→Wd w' b1 m1 d1 (dg e1.den)→Wd w' a3 n3 c3 (dg e2.num.natAbs)→Wd w' b3 m3 d3 (dg e2.den)→Calls Tryz.prog 41 #[.agg #[.bool (zneg e1.num),.slice a1 n1 c1,.slice b1 m1 d1],.agg #[.bool (zneg e2.num),.slice a3 n3 c3,.slice b3 m3 d3]] w' (LstQ es w'))(HFS:∀(w':World) (a1:OA_) (n1 c1:Nat) (b1:OA_) (m1 d1:Nat) (a3:OA_) (n3 c3:Nat) (b3:OA_) (m3 d3:Nat),Wd w' a1 n1 c1 (dg e1.num.natAbs)→Wd w' b1 m1 d1 (dg e1.den)→Wd w' a3 n3 c3 (dg e2.num.natAbs)→Wd w' b3 m3 d3 (dg e2.den)→Calls Tryz.prog 42 #[.agg #[.bool (zneg e1.num),.slice a1 n1 c1,.slice b1 m1 d1],.agg #[.bool (zneg e2.num),.slice a3 n3 c3,.slice b3 m3 d3]] w' (LstQ ed w'))(HFM:∀(w':World) (a1:OA_) (n1 c1:Nat) (b1:OA_) (m1 d1:Nat) (a3:OA_) (n3 c3:Nat) (b3:OA_) (m3 d3:Nat),Wd w' a1 n1 c1 (dg e1.num.natAbs)→Wd w' b1 m1 d1 (dg e1.den)→Wd w' a3 n3 c3 (dg e2.num.natAbs)→Wd w' b3 m3 d3 (dg e2.den)→Calls Tryz.prog 43 #[.agg #[.bool (zneg e1.num),.slice a1 n1 c1,.slice b1 m1 d1],.agg #[.bool (zneg e2.num),.slice a3 n3 c3,.slice b3 m3 d3]] w' (LstQ ep w'))(HSS:∀(w':World) (a1:OA_) (n1 c1:Nat) (b1:OA_) (m1 d1:Nat) (a3:OA_) (n3 c3:Nat) (b3:OA_) (m3 d3:Nat),Wd w' a1 n1 c1 (dg es.num.natAbs)→Wd w' b1 m1 d1 (dg es.den)→Wd w' a3 n3 c3 (dg es.num.natAbs)→Wd w' b3 m3 d3 (dg es.den)→Calls Tryz.prog 40 #[.agg #[.bool (zneg es.num),.slice a1 n1 c1,.slice b1 m1 d1],.agg #[.bool (zneg es.num),.slice a3 n3 c3,.slice b3 m3 d3]] w' (bg_ (.bool true) w'))(HSD:∀(w':World) (a1:OA_) (n1 c1:Nat) (b1:OA_) (m1 d1:Nat) (a3:OA_) (n3 c3:Nat) (b3:OA_) (m3 d3:Nat),Wd w' a1 n1 c1 (dg ed.num.natAbs)→Wd w' b1 m1 d1 (dg ed.den)→Wd w' a3 n3 c3 (dg ed.num.natAbs)→Wd w' b3 m3 d3 (dg ed.den)→Calls Tryz.prog 40 #[.agg #[.bool (zneg ed.num),.slice a1 n1 c1,.slice b1 m1 d1],.agg #[.bool (zneg ed.num),.slice a3 n3 c3,.slice b3 m3 d3]] w' (bg_ (.bool true) w'))(HSP:∀(w':World) (a1:OA_) (n1 c1:Nat) (b1:OA_) (m1 d1:Nat) (a3:OA_) (n3 c3:Nat) (b3:OA_) (m3 d3:Nat),Wd w' a1 n1 c1 (dg ep.num.natAbs)→Wd w' b1 m1 d1 (dg ep.den)→Wd w' a3 n3 c3 (dg ep.num.natAbs)→Wd w' b3 m3 d3 (dg ep.den)→Calls Tryz.prog 40 #[.agg #[.bool (zneg ep.num),.slice a1 n1 c1,.slice b1 m1 d1],.agg #[.bool (zneg ep.num),.slice a3 n3 c3,.slice b3 m3 d3]] w' (bg_ (.bool true) w'))(HSG:∀(w':World) (a1:OA_) (n1 c1:Nat) (b1:OA_) (m1 d1:Nat),Wd w' a1 n1 c1 (dg e2.num.natAbs)→Wd w' b1 m1 d1 (dg e2.den)→Calls Tryz.prog 44 #[.agg #[.bool (zneg e2.num),.slice a1 n1 c1,.slice b1 m1 d1]] w' (bg_ (.int .i64 sg) w'))(HQ:sg≠0→∀(w':World) (a:OA_) (n c:Nat) (b:OA_) (m d:Nat) (a':OA_) (n' c':Nat) (b':OA_) (m' d':Nat),Fv w' a n c b m d u1 v1 3 42→Fv w' a' n' c' b' m' d' u2 v2 3 42→Calls Tryz.prog 29 #[.agg #[.slice a n c,.slice b m d],.agg #[.slice a' n' c',.slice b' m' d']] w' (LstGV uq vq 5 870 (.bool true) w'))(HEQ:sg≠0→∀(w':World) (a:OA_) (n c:Nat) (b:OA_) (m d:Nat),Fv w' a n c b m d uq vq 5 870→Wd w' a2 n2 c2 l2→Wd w' b2 m2 d2 k2→Calls Tryz.prog 16 #[.agg #[.slice a n c,.slice b m d],.agg #[.bool s2,.slice a2 n2 c2,.slice b2 m2 d2]] w' (di_ eq (.bool true) w'))(HMQ:sg≠0→∀(w':World) (a1:OA_) (n1 c1:Nat) (b1:OA_) (m1 d1:Nat) (a3:OA_) (n3 c3:Nat) (b3:OA_) (m3 d3:Nat),Wd w' a1 n1 c1 (dg eq.num.natAbs)→Wd w' b1 m1 d1 (dg eq.den)→Wd w' a3 n3 c3 (dg e2.num.natAbs)→Wd w' b3 m3 d3 (dg e2.den)→Calls Tryz.prog 43 #[.agg #[.bool (zneg eq.num),.slice a1 n1 c1,.slice b1 m1 d1],.agg #[.bool (zneg e2.num),.slice a3 n3 c3,.slice b3 m3 d3]] w' (LstQ e1 w'))(HS1:∀(w':World) (a1:OA_) (n1 c1:Nat) (b1:OA_) (m1 d1:Nat) (a3:OA_) (n3 c3:Nat) (b3:OA_) (m3 d3:Nat),Wd w' a1 n1 c1 (dg e1.num.natAbs)→Wd w' b1 m1 d1 (dg e1.den)→Wd w' a3 n3 c3 (dg e1.num.natAbs)→Wd w' b3 m3 d3 (dg e1.den)→Calls Tryz.prog 40 #[.agg #[.bool (zneg e1.num),.slice a1 n1 c1,.slice b1 m1 d1],.agg #[.bool (zneg e1.num),.slice a3 n3 c3,.slice b3 m3 d3]] w' (bg_ (.bool true) w')):Calls Tryz.prog 5 #[.agg #[.slice a0 n0 c0,.slice b0 m0 d0],.agg #[.slice a1 n1 c1,.slice b1 m1 d1],frV s2 a2 n2 c2 b2 m2 d2] w (bg_ (.bool true) w):=by
 have hl2:(decide ((1:Int) < (n2:Int)) || decide ((1:Int) < (m2:Int)))=false:=by rw[decide_eq_false (by omega),decide_eq_false (by omega)];rfl
 have HNB0:=hd_ hb0
 have HNB1:=hd_ hb1
 have HB:=hd_ (ab_ (ab_ (aa_ w (.cells #[.slice a0 n0 c0,.slice b0 m0 d0] 24)) (aa_ _ (.cells #[.slice a1 n1 c1,.slice b1 m1 d1] 24))) (aa_ _ (.cells #[.bool s2,.slice a2 n2 c2,.slice b2 m2 d2] 27)))
 have X0:Hid ((((w.alloc (.cells #[.slice a0 n0 c0,.slice b0 m0 d0] 24)).alloc (.cells #[.slice a1 n1 c1,.slice b1 m1 d1] 24)).alloc (.cells #[.bool s2,.slice a2 n2 c2,.slice b2 m2 d2] 27)).heap[w.heap.size]? = some (.cells #[.slice a0 n0 c0,.slice b0 m0 d0] 24 (0,0))):=hd_ (ae_ (ae_ (aj_ w _ _) (aa_ _ (.cells #[.slice a1 n1 c1,.slice b1 m1 d1] 24))) (aa_ _ (.cells #[.bool s2,.slice a2 n2 c2,.slice b2 m2 d2] 27)))
 have X1:Hid ((((w.alloc (.cells #[.slice a0 n0 c0,.slice b0 m0 d0] 24)).alloc (.cells #[.slice a1 n1 c1,.slice b1 m1 d1] 24)).alloc (.cells #[.bool s2,.slice a2 n2 c2,.slice b2 m2 d2] 27)).heap[w.heap.size+1]? = some (.cells #[.slice a1 n1 c1,.slice b1 m1 d1] 24 (0,0))):=hd_ (ae_ (by have h9:=aj_ (w.alloc (.cells #[.slice a0 n0 c0,.slice b0 m0 d0] 24)) #[.slice a1 n1 c1,.slice b1 m1 d1] 24;rwa [aq_] at h9) (aa_ _ (.cells #[.bool s2,.slice a2 n2 c2,.slice b2 m2 d2] 27)))
 have X2:Hid ((((w.alloc (.cells #[.slice a0 n0 c0,.slice b0 m0 d0] 24)).alloc (.cells #[.slice a1 n1 c1,.slice b1 m1 d1] 24)).alloc (.cells #[.bool s2,.slice a2 n2 c2,.slice b2 m2 d2] 27)).heap[w.heap.size+1+1]? = some (.cells #[.bool s2,.slice a2 n2 c2,.slice b2 m2 d2] 27 (0,0))):=hd_ (by have h9:=aj_ ((w.alloc (.cells #[.slice a0 n0 c0,.slice b0 m0 d0] 24)).alloc (.cells #[.slice a1 n1 c1,.slice b1 m1 d1] 24)) #[.bool s2,.slice a2 n2 c2,.slice b2 m2 d2] 27;rwa [aq_,aq_] at h9)
 have HF0:=hd_ (h0.later HB.out)
 have HG0:=hd_ (j0.later HB.out)
 have HF1:=hd_ (h1.later HB.out)
 have HG1:=hd_ (j1.later HB.out)
 have A2:=hd_ (h2.later HB.out)
 have D2:=hd_ (j2.later HB.out)
 clear h0 j0 h1 j1 h2 j2 hb0 hb1
 go_enter Tryz.func5,Tryz.ntmps5
 unfold frV
 obtain⟨vk0,vk1,vk2,vk3,vk4,vk5,vk6⟩:=a2_ X0.out X1.out X2.out
 go_wp2_with fail
 refine (cj_ a0 n0 c0 K0 b0 m0 d0 M0 3 1 false _ HF0.out HG0.out (by decide) ⟨fun h=>absurd h (by decide),fun h=>absurd HNB0.out h⟩).mono ?_
 rintro e wv1 ⟨rfl,b⟩
 clear vk0 vk1 vk2 vk3 vk4 vk5 vk6
 replace HB:=bt_ HB b
 replace X0:=bl_ X0 b
 replace X1:=bl_ X1 b
 replace X2:=bl_ X2 b
 replace HF0:=HF0.l_ b
 replace HG0:=HG0.l_ b
 replace HF1:=HF1.l_ b
 replace HG1:=HG1.l_ b
 replace A2:=A2.l_ b
 replace D2:=D2.l_ b
 clear b
 obtain⟨vk0,vk1,vk2,vk3,vk4,vk5,vk6⟩:=a2_ X0.out X1.out X2.out
 go_wp2_with fail
 refine (cj_ a1 n1 c1 K1 b1 m1 d1 M1 3 1 false _ HF1.out HG1.out (by decide) ⟨fun h=>absurd h (by decide),fun h=>absurd HNB1.out h⟩).mono ?_
 rintro e wv2 ⟨rfl,b⟩
 clear vk0 vk1 vk2 vk3 vk4 vk5 vk6
 replace HB:=bt_ HB b
 replace X0:=bl_ X0 b
 replace X1:=bl_ X1 b
 replace X2:=bl_ X2 b
 replace HF0:=HF0.l_ b
 replace HG0:=HG0.l_ b
 replace HF1:=HF1.l_ b
 replace HG1:=HG1.l_ b
 replace A2:=A2.l_ b
 replace D2:=D2.l_ b
 clear b
 obtain⟨vk0,vk1,vk2,vk3,vk4,vk5,vk6⟩:=a2_ X0.out X1.out X2.out
 go_wp2_with fail
 refine (eo_ s2 a2 n2 c2 b2 m2 d2 1 _).mono ?_
 rintro e wv3 ⟨rfl,b⟩
 clear vk0 vk1 vk2 vk3 vk4 vk5 vk6
 replace HB:=bt_ HB b
 replace X0:=bl_ X0 b
 replace X1:=bl_ X1 b
 replace X2:=bl_ X2 b
 replace HF0:=HF0.l_ b
 replace HG0:=HG0.l_ b
 replace HF1:=HF1.l_ b
 replace HG1:=HG1.l_ b
 replace A2:=A2.l_ b
 replace D2:=D2.l_ b
 clear b
 rw[hl2]
 obtain⟨vk0,vk1,vk2,vk3,vk4,vk5,vk6⟩:=a2_ X0.out X1.out X2.out
 go_wp2_with fail
 refine (HT0 _ HF0.out HG0.out).mono ?_
 rintro e wv4 ⟨a3,n3,c3,b3,m3,d3,rfl,h3,b⟩
 clear vk0 vk1 vk2 vk3 vk4 vk5 vk6
 clear HF0 HG0
 have X:=hd_ h3
 have ba:=aa_ wv4 (.cells #[.slice a3 n3 c3,.slice b3 m3 d3] 35)
 have BX:=hd_ (aj_ wv4 #[.slice a3 n3 c3,.slice b3 m3 d3] 35)
 have bb:=ab_ b ba
 replace X:=X.l_ ba
 replace HB:=bt_ HB bb
 replace X0:=bl_ X0 bb
 replace X1:=bl_ X1 bb
 replace X2:=bl_ X2 bb
 replace HF1:=HF1.l_ bb
 replace HG1:=HG1.l_ bb
 replace A2:=A2.l_ bb
 replace D2:=D2.l_ bb
 clear b ba bb
 clear h3
 go_upto_region 4 with fail
 generalize wv4.alloc (.cells #[.slice a3 n3 c3,.slice b3 m3 d3] 35)=wr at *
 obtain⟨vk0,vk1,vk2,vk3,vk4,vk5,vk6,vk7,vk8⟩:=ec_ X0.out X1.out X2.out BX.out
 go_wp2_with fail
 refine (HT1 _ HF1.out HG1.out).mono ?_
 rintro e wv5 ⟨a4,n4,c4,b4,m4,d4,rfl,h4,b⟩
 clear vk0 vk1 vk2 vk3 vk4 vk5 vk6 vk7 vk8
 clear HF1 HG1
 have Y:=hd_ h4
 have ba:=aa_ wv5 (.cells #[.slice a4 n4 c4,.slice b4 m4 d4] 35)
 have BY:=hd_ (aj_ wv5 #[.slice a4 n4 c4,.slice b4 m4 d4] 35)
 have bb:=ab_ b ba
 replace Y:=Y.l_ ba
 replace HB:=bt_ HB bb
 replace X0:=bl_ X0 bb
 replace X1:=bl_ X1 bb
 replace X2:=bl_ X2 bb
 replace BX:=bl_ BX bb
 replace A2:=A2.l_ bb
 replace D2:=D2.l_ bb
 replace X:=X.l_ bb
 clear b ba bb
 clear h4
 go_upto_region 5 with fail
 generalize wv5.alloc (.cells #[.slice a4 n4 c4,.slice b4 m4 d4] 35)=wr at *
 obtain⟨vk0,vk1,vk2,vk3,vk4,vk5,vk6,vk7,vk8,vk9,vk10⟩:=dy_ X0.out X1.out X2.out BX.out BY.out
 go_wp2_with fail
 refine (g4_ s2 a2 n2 c2 b2 m2 d2 _).mono ?_
 rintro e wv6 ⟨rfl,b⟩
 clear vk0 vk1 vk2 vk3 vk4 vk5 vk6 vk7 vk8 vk9 vk10
 have ba:=aa_ wv6 (.cells #[.bool s2,.slice a2 n2 c2,.slice b2 m2 d2] 44)
 have BZ:=hd_ (aj_ wv6 #[.bool s2,.slice a2 n2 c2,.slice b2 m2 d2] 44)
 have bb:=ab_ b ba
 replace HB:=bt_ HB bb
 replace X0:=bl_ X0 bb
 replace X1:=bl_ X1 bb
 replace X2:=bl_ X2 bb
 replace BX:=bl_ BX bb
 replace BY:=bl_ BY bb
 replace A2:=A2.l_ bb
 replace D2:=D2.l_ bb
 replace X:=X.l_ bb
 replace Y:=Y.l_ bb
 clear b ba bb
 (try unfold frV)
 go_upto_region 6 with fail
 generalize wv6.alloc (.cells #[.bool s2,.slice a2 n2 c2,.slice b2 m2 d2] 44)=wr at *
 obtain⟨vk0,vk1,vk2,vk3,vk4,vk5,vk6,vk7,vk8,vk9,vk10,vk11,vk12,vk13⟩:=df_ X0.out X1.out X2.out BX.out BY.out BZ.out
 go_wp2_with fail
 refine (HE1 _ _ _ _ _ _ _ X.out A2.out D2.out).mono ?_
 rintro e wv7 ⟨a61,n61,c61,b61,m61,d61,rfl,h61,g61,b⟩
 clear vk0 vk1 vk2 vk3 vk4 vk5 vk6 vk7 vk8 vk9 vk10 vk11 vk12 vk13
 have A61:=hd_ h61
 have E61:=hd_ g61
 have ba:=aa_ wv7 (.cells #[.bool (zneg e1.num),.slice a61 n61 c61,.slice b61 m61 d61] 44)
 have B61:=hd_ (aj_ wv7 #[.bool (zneg e1.num),.slice a61 n61 c61,.slice b61 m61 d61] 44)
 have bb:=ab_ b ba
 replace A61:=A61.l_ ba
 replace E61:=E61.l_ ba
 replace HB:=bt_ HB bb
 replace X0:=bl_ X0 bb
 replace X1:=bl_ X1 bb
 replace X2:=bl_ X2 bb
 replace BX:=bl_ BX bb
 replace BY:=bl_ BY bb
 replace BZ:=bl_ BZ bb
 replace A2:=A2.l_ bb
 replace D2:=D2.l_ bb
 replace X:=X.l_ bb
 replace Y:=Y.l_ bb
 clear b ba bb
 clear h61 g61
 (try unfold frV)
 go_upto_region 7 with fail
 generalize wv7.alloc (.cells #[.bool (zneg e1.num),.slice a61 n61 c61,.slice b61 m61 d61] 44)=wr at *
 obtain⟨vk0,vk1,vk2,vk3,vk4,vk5,vk6,vk7,vk8,vk9,vk10,vk11,vk12,vk13,vk14,vk15,vk16⟩:=cw_ X0.out X1.out X2.out BX.out BY.out BZ.out B61.out
 go_wp2_with fail
 refine (HE2 _ _ _ _ _ _ _ Y.out A2.out D2.out).mono ?_
 rintro e wv8 ⟨a62,n62,c62,b62,m62,d62,rfl,h62,g62,b⟩
 clear vk0 vk1 vk2 vk3 vk4 vk5 vk6 vk7 vk8 vk9 vk10 vk11 vk12 vk13 vk14 vk15 vk16
 have A62:=hd_ h62
 have E62:=hd_ g62
 have ba:=aa_ wv8 (.cells #[.bool (zneg e2.num),.slice a62 n62 c62,.slice b62 m62 d62] 44)
 have B62:=hd_ (aj_ wv8 #[.bool (zneg e2.num),.slice a62 n62 c62,.slice b62 m62 d62] 44)
 have bb:=ab_ b ba
 replace A62:=A62.l_ ba
 replace E62:=E62.l_ ba
 replace HB:=bt_ HB bb
 replace X0:=bl_ X0 bb
 replace X1:=bl_ X1 bb
 replace X2:=bl_ X2 bb
 replace BX:=bl_ BX bb
 replace BY:=bl_ BY bb
 replace BZ:=bl_ BZ bb
 replace B61:=bl_ B61 bb
 replace A2:=A2.l_ bb
 replace D2:=D2.l_ bb
 replace X:=X.l_ bb
 replace Y:=Y.l_ bb
 replace A61:=A61.l_ bb
 replace E61:=E61.l_ bb
 clear b ba bb
 clear h62 g62
 (try unfold frV)
 go_upto_region 8 with fail
 generalize wv8.alloc (.cells #[.bool (zneg e2.num),.slice a62 n62 c62,.slice b62 m62 d62] 44)=wr at *
 obtain⟨gx,hgx⟩:∃g,wv4.heap.size=g:=⟨_,rfl⟩
 obtain⟨gy,hgy⟩:∃g,wv5.heap.size=g:=⟨_,rfl⟩
 obtain⟨gz,hgz⟩:∃g,wv6.heap.size=g:=⟨_,rfl⟩
 obtain⟨gm,hgm⟩:∃g,wv7.heap.size=g:=⟨_,rfl⟩
 obtain⟨gn,hgn⟩:∃g,wv8.heap.size=g:=⟨_,rfl⟩
 rw[hgx] at BX ⊢
 rw[hgy] at BY ⊢
 rw[hgz] at BZ ⊢
 rw[hgm] at B61 ⊢
 rw[hgn] at B62 ⊢
 clear hgx hgy hgz hgm hgn X0 X1 X2 HT0 HT1 HE1 HE2
 have SU:=hd_ (a2_ BX.out BY.out BZ.out)
 go_upto_region 10 with fail
 go_cut [14,15] from 60 to 67 (fun cv ov wx=>∃(g:Nat) (a51:OA_) (n51 c51:Nat) (b51:OA_) (m51 d51:Nat),cv=.pointer (some ⟨g,0,none⟩)∧ov=.bool true∧Hid (wx.heap[g]? = some (.cells #[.bool (zneg es.num),.slice a51 n51 c51,.slice b51 m51 d51] 44 (0,0)))∧Hid (Wd wx a51 n51 c51 (dg es.num.natAbs))∧Hid (Wd wx b51 m51 d51 (dg es.den))∧Hid (Below wr.heap.size wr wx))
 case first=>
  obtain⟨s0,s1,s2,s3,s4,s5,s6⟩:=a3_ SU.out (Below.refl wr.heap.size wr)
  go_wp2
  clear s0 s1 s2 s3 s4 s5 s6
  have G1:Below wr.heap.size wr wr.drew:=(Below.refl _ _).drew
  have G2:∀o,Below wr.heap.size wr (wr.alloc o).drew:=fun o=>(aa_ wr o).drew
  have qS:=a3_ SU.out (G1)
  have qA:=fun (o:Obj)=>a3_ SU.out (G2 o)
  go_region_held3 (fun w'=>w'.cell? ⟨gx,0,none⟩=some (.slice a3 n3 c3)∧w'.cell? ⟨gx,1,none⟩=some (.slice b3 m3 d3)∧w'.cell? ⟨gy,0,none⟩=some (.slice a4 n4 c4)∧w'.cell? ⟨gy,1,none⟩=some (.slice b4 m4 d4)∧w'.cell? ⟨gz,0,none⟩=some (.bool s2)∧w'.cell? ⟨gz,1,none⟩=some (.slice a2 n2 c2)∧w'.cell? ⟨gz,2,none⟩=some (.slice b2 m2 d2)) (first | with_reducible exact qS | with_reducible exact qA _ | with_reducible exact qC)
   (first
   | (go_at_call 35;(first
     | ((first
       | ((with_reducible refine (HA1 wr.drew _ _ _ _ _ _ _ _ _ _ _ _ (X.out.later G1) (Y.out.later G1)).mono ?_);rintro ed wq0 ⟨a41,n41,c41,b41,m41,d41,rfl,h41,bw⟩;have bb:=ab_ G1 bw;have BC:=hd_ bb;replace X:=X.l_ bb;replace Y:=Y.l_ bb;replace A2:=A2.l_ bb;replace D2:=D2.l_ bb;have SM:=hd_ (h41);clear bb bw qS qA;clear h41;(try unfold frV);have qS:=a3_ SU.out (BC.out);have qA:=fun (o:Obj)=>a3_ SU.out (ab_ BC.out (aa_ wq0 o));have M0:=True.intro)
       | ((with_reducible refine (HA1 (wr.alloc (.cells #[.bool false,.slice none 0 0,.slice none 0 0] 44)).drew _ _ _ _ _ _ _ _ _ _ _ _ (X.out.later (G2 (.cells #[.bool false,.slice none 0 0,.slice none 0 0] 44))) (Y.out.later (G2 (.cells #[.bool false,.slice none 0 0,.slice none 0 0] 44)))).mono ?_);have hzb:wr.heap.size≤wr.heap.size:=Nat.le_refl _;rintro ed wq0 ⟨a41,n41,c41,b41,m41,d41,rfl,h41,bw⟩;have bb:=ab_ (G2 (.cells #[.bool false,.slice none 0 0,.slice none 0 0] 44)) bw;have BC:=hd_ bb;replace X:=X.l_ bb;replace Y:=Y.l_ bb;replace A2:=A2.l_ bb;replace D2:=D2.l_ bb;have SM:=hd_ (h41);have ZF:=hd_ (ae_ (w:=(wr.alloc (.cells #[.bool false,.slice none 0 0,.slice none 0 0] 44)).drew) (aj_ wr #[.bool false,.slice none 0 0,.slice none 0 0] 44) bw);clear bb bw qS qA;clear h41;(try unfold frV);have qS:=a3_ SU.out (BC.out);have qA:=fun (o:Obj)=>a3_ SU.out (ab_ BC.out (aa_ wq0 o));have M0:=True.intro)))))
   | (go_at_call 16;(first
     | (have mm:=M0;(first
       | (have yy9:=ZF;(with_reducible refine (HES wq0 _ _ _ _ _ _ SM.out A2.out D2.out).mono ?_);rintro ed wq1 ⟨a51,n51,c51,b51,m51,d51,rfl,h51,g51,bw⟩;have bb:=bw;replace BC:=bt_ BC bb;replace X:=X.l_ bb;replace Y:=Y.l_ bb;replace A2:=A2.l_ bb;replace D2:=D2.l_ bb;replace SM:=SM.l_ bb;have A51:=hd_ (h51);have E51:=hd_ (g51);replace ZF:=bl_ ZF bw;clear yy9;clear bb bw qS qA;clear h51 g51;(try unfold frV);have qS:=a3_ SU.out (BC.out);have qA:=fun (o:Obj)=>a3_ SU.out (ab_ BC.out (aa_ wq1 o));obtain⟨z0,z1,z2⟩:=as_ ZF.out;have f0:=af_ ZF.out 0;have f1:=af_ ZF.out 1;have f2:=af_ ZF.out 2;have qC:=a3_ SU.out (aw_ BC.out hzb (.bool (zneg es.num)) (.slice a51 n51 c51) (.slice b51 m51 d51));have M1:=True.intro)
       | ((with_reducible refine (HES wq0 _ _ _ _ _ _ SM.out A2.out D2.out).mono ?_);rintro ed wq1 ⟨a51,n51,c51,b51,m51,d51,rfl,h51,g51,bw⟩;have bb:=bw;replace BC:=bt_ BC bb;replace X:=X.l_ bb;replace Y:=Y.l_ bb;replace A2:=A2.l_ bb;replace D2:=D2.l_ bb;replace SM:=SM.l_ bb;have A51:=hd_ (h51);have E51:=hd_ (g51);clear bb bw qS qA;clear h51 g51;(try unfold frV);have qS:=a3_ SU.out (BC.out);have qA:=fun (o:Obj)=>a3_ SU.out (ab_ BC.out (aa_ wq1 o));have M1:=True.intro)
       | (have ba:=aa_ wq0 (.cells #[.bool false,.slice none 0 0,.slice none 0 0] 44);(with_reducible refine (HES (wq0.alloc (.cells #[.bool false,.slice none 0 0,.slice none 0 0] 44)) _ _ _ _ _ _ (SM.out.later ba) (A2.out.later ba) (D2.out.later ba)).mono ?_);have hzb:wr.heap.size≤wq0.heap.size:=BC.out.size;rintro ed wq1 ⟨a51,n51,c51,b51,m51,d51,rfl,h51,g51,bw⟩;have bb:=ab_ ba bw;replace BC:=bt_ BC bb;replace X:=X.l_ bb;replace Y:=Y.l_ bb;replace A2:=A2.l_ bb;replace D2:=D2.l_ bb;replace SM:=SM.l_ bb;have A51:=hd_ (h51);have E51:=hd_ (g51);have ZF:=hd_ (ae_ (aj_ wq0 #[.bool false,.slice none 0 0,.slice none 0 0] 44) bw);clear ba;clear bb bw qS qA;clear h51 g51;(try unfold frV);have qS:=a3_ SU.out (BC.out);have qA:=fun (o:Obj)=>a3_ SU.out (ab_ BC.out (aa_ wq1 o));obtain⟨z0,z1,z2⟩:=as_ ZF.out;have f0:=af_ ZF.out 0;have f1:=af_ ZF.out 1;have f2:=af_ ZF.out 2;have qC:=a3_ SU.out (aw_ BC.out hzb (.bool (zneg es.num)) (.slice a51 n51 c51) (.slice b51 m51 d51));have M1:=True.intro))))))
  all_goals (
   go_wp2
   go_meet
   (first
     | exact⟨_,a51,n51,c51,b51,m51,d51,rfl,rfl,hd_ (bm_ ZF.out (.bool (zneg es.num)) (.slice a51 n51 c51) (.slice b51 m51 d51)),hd_ (A51.out.stored3 ZF.out (zneg es.num) a51 n51 c51 (.slice b51 m51 d51)),hd_ (E51.out.stored3 ZF.out (zneg es.num) a51 n51 c51 (.slice b51 m51 d51)),hd_ (aw_ BC.out hzb (.bool (zneg es.num)) (.slice a51 n51 c51) (.slice b51 m51 d51))⟩
     | exact⟨wq1.heap.size,a51,n51,c51,b51,m51,d51,rfl,rfl,hd_ (aj_ wq1 _ 44),hd_ (A51.out.later (aa_ wq1 _)),hd_ (E51.out.later (aa_ wq1 _)),hd_ (ab_ BC.out (aa_ wq1 _))⟩))
 case rest=>
  obtain⟨gs,a51,n51,c51,b51,m51,d51,rfl,rfl,B51,A51,E51,HBc⟩:=hcut
  replace HB:=hd_ (ab_ HB.out HBc.out)
  replace BX:=hd_ (ae_ BX.out HBc.out)
  replace BY:=hd_ (ae_ BY.out HBc.out)
  replace BZ:=hd_ (ae_ BZ.out HBc.out)
  replace B61:=hd_ (ae_ B61.out HBc.out)
  replace B62:=hd_ (ae_ B62.out HBc.out)
  replace X:=hd_ (X.out.later HBc.out)
  replace Y:=hd_ (Y.out.later HBc.out)
  replace A2:=hd_ (A2.out.later HBc.out)
  replace D2:=hd_ (D2.out.later HBc.out)
  replace A61:=hd_ (A61.out.later HBc.out)
  replace E61:=hd_ (E61.out.later HBc.out)
  replace A62:=hd_ (A62.out.later HBc.out)
  replace E62:=hd_ (E62.out.later HBc.out)
  clear HBc SU HA1 HES
  go_upto_region 11 with fail
  generalize wc=wr at *
  have SU:=hd_ (a2_ BX.out BY.out BZ.out)
  go_upto_region 11 with fail
  go_cut [16,17] from 68 to 75 (fun cv ov wx=>∃(g:Nat) (a52:OA_) (n52 c52:Nat) (b52:OA_) (m52 d52:Nat),cv=.pointer (some ⟨g,0,none⟩)∧ov=.bool true∧Hid (wx.heap[g]? = some (.cells #[.bool (zneg ed.num),.slice a52 n52 c52,.slice b52 m52 d52] 44 (0,0)))∧Hid (Wd wx a52 n52 c52 (dg ed.num.natAbs))∧Hid (Wd wx b52 m52 d52 (dg ed.den))∧Hid (Below wr.heap.size wr wx))
  case first=>
   obtain⟨s0,s1,s2,s3,s4,s5,s6⟩:=a3_ SU.out (Below.refl wr.heap.size wr)
   go_wp2
   clear s0 s1 s2 s3 s4 s5 s6
   have G1:Below wr.heap.size wr wr.drew:=(Below.refl _ _).drew
   have G2:∀o,Below wr.heap.size wr (wr.alloc o).drew:=fun o=>(aa_ wr o).drew
   have qS:=a3_ SU.out (G1)
   have qA:=fun (o:Obj)=>a3_ SU.out (G2 o)
   go_region_held3 (fun w'=>w'.cell? ⟨gx,0,none⟩=some (.slice a3 n3 c3)∧w'.cell? ⟨gx,1,none⟩=some (.slice b3 m3 d3)∧w'.cell? ⟨gy,0,none⟩=some (.slice a4 n4 c4)∧w'.cell? ⟨gy,1,none⟩=some (.slice b4 m4 d4)∧w'.cell? ⟨gz,0,none⟩=some (.bool s2)∧w'.cell? ⟨gz,1,none⟩=some (.slice a2 n2 c2)∧w'.cell? ⟨gz,2,none⟩=some (.slice b2 m2 d2)) (first | with_reducible exact qS | with_reducible exact qA _ | with_reducible exact qC)
    (first
    | (go_at_call 37;(first
      | ((first
        | ((with_reducible refine (HD1 wr.drew _ _ _ _ _ _ _ _ _ _ _ _ (X.out.later G1) (Y.out.later G1)).mono ?_);rintro ed wq0 ⟨a41,n41,c41,b41,m41,d41,rfl,h41,bw⟩;have bb:=ab_ G1 bw;have BC:=hd_ bb;replace X:=X.l_ bb;replace Y:=Y.l_ bb;replace A2:=A2.l_ bb;replace D2:=D2.l_ bb;have SM:=hd_ (h41);clear bb bw qS qA;clear h41;(try unfold frV);have qS:=a3_ SU.out (BC.out);have qA:=fun (o:Obj)=>a3_ SU.out (ab_ BC.out (aa_ wq0 o));have M0:=True.intro)
        | ((with_reducible refine (HD1 (wr.alloc (.cells #[.bool false,.slice none 0 0,.slice none 0 0] 44)).drew _ _ _ _ _ _ _ _ _ _ _ _ (X.out.later (G2 (.cells #[.bool false,.slice none 0 0,.slice none 0 0] 44))) (Y.out.later (G2 (.cells #[.bool false,.slice none 0 0,.slice none 0 0] 44)))).mono ?_);have hzb:wr.heap.size≤wr.heap.size:=Nat.le_refl _;rintro ed wq0 ⟨a41,n41,c41,b41,m41,d41,rfl,h41,bw⟩;have bb:=ab_ (G2 (.cells #[.bool false,.slice none 0 0,.slice none 0 0] 44)) bw;have BC:=hd_ bb;replace X:=X.l_ bb;replace Y:=Y.l_ bb;replace A2:=A2.l_ bb;replace D2:=D2.l_ bb;have SM:=hd_ (h41);have ZF:=hd_ (ae_ (w:=(wr.alloc (.cells #[.bool false,.slice none 0 0,.slice none 0 0] 44)).drew) (aj_ wr #[.bool false,.slice none 0 0,.slice none 0 0] 44) bw);clear bb bw qS qA;clear h41;(try unfold frV);have qS:=a3_ SU.out (BC.out);have qA:=fun (o:Obj)=>a3_ SU.out (ab_ BC.out (aa_ wq0 o));have M0:=True.intro)))))
    | (go_at_call 16;(first
      | (have mm:=M0;(first
        | (have yy9:=ZF;(with_reducible refine (HED wq0 _ _ _ _ _ _ SM.out A2.out D2.out).mono ?_);rintro ed wq1 ⟨a52,n52,c52,b52,m52,d52,rfl,h52,g52,bw⟩;have bb:=bw;replace BC:=bt_ BC bb;replace X:=X.l_ bb;replace Y:=Y.l_ bb;replace A2:=A2.l_ bb;replace D2:=D2.l_ bb;replace SM:=SM.l_ bb;have A52:=hd_ (h52);have E52:=hd_ (g52);replace ZF:=bl_ ZF bw;clear yy9;clear bb bw qS qA;clear h52 g52;(try unfold frV);have qS:=a3_ SU.out (BC.out);have qA:=fun (o:Obj)=>a3_ SU.out (ab_ BC.out (aa_ wq1 o));obtain⟨z0,z1,z2⟩:=as_ ZF.out;have f0:=af_ ZF.out 0;have f1:=af_ ZF.out 1;have f2:=af_ ZF.out 2;have qC:=a3_ SU.out (aw_ BC.out hzb (.bool (zneg ed.num)) (.slice a52 n52 c52) (.slice b52 m52 d52));have M1:=True.intro)
        | ((with_reducible refine (HED wq0 _ _ _ _ _ _ SM.out A2.out D2.out).mono ?_);rintro ed wq1 ⟨a52,n52,c52,b52,m52,d52,rfl,h52,g52,bw⟩;have bb:=bw;replace BC:=bt_ BC bb;replace X:=X.l_ bb;replace Y:=Y.l_ bb;replace A2:=A2.l_ bb;replace D2:=D2.l_ bb;replace SM:=SM.l_ bb;have A52:=hd_ (h52);have E52:=hd_ (g52);clear bb bw qS qA;clear h52 g52;(try unfold frV);have qS:=a3_ SU.out (BC.out);have qA:=fun (o:Obj)=>a3_ SU.out (ab_ BC.out (aa_ wq1 o));have M1:=True.intro)
        | (have ba:=aa_ wq0 (.cells #[.bool false,.slice none 0 0,.slice none 0 0] 44);(with_reducible refine (HED (wq0.alloc (.cells #[.bool false,.slice none 0 0,.slice none 0 0] 44)) _ _ _ _ _ _ (SM.out.later ba) (A2.out.later ba) (D2.out.later ba)).mono ?_);have hzb:wr.heap.size≤wq0.heap.size:=BC.out.size;rintro ed wq1 ⟨a52,n52,c52,b52,m52,d52,rfl,h52,g52,bw⟩;have bb:=ab_ ba bw;replace BC:=bt_ BC bb;replace X:=X.l_ bb;replace Y:=Y.l_ bb;replace A2:=A2.l_ bb;replace D2:=D2.l_ bb;replace SM:=SM.l_ bb;have A52:=hd_ (h52);have E52:=hd_ (g52);have ZF:=hd_ (ae_ (aj_ wq0 #[.bool false,.slice none 0 0,.slice none 0 0] 44) bw);clear ba;clear bb bw qS qA;clear h52 g52;(try unfold frV);have qS:=a3_ SU.out (BC.out);have qA:=fun (o:Obj)=>a3_ SU.out (ab_ BC.out (aa_ wq1 o));obtain⟨z0,z1,z2⟩:=as_ ZF.out;have f0:=af_ ZF.out 0;have f1:=af_ ZF.out 1;have f2:=af_ ZF.out 2;have qC:=a3_ SU.out (aw_ BC.out hzb (.bool (zneg ed.num)) (.slice a52 n52 c52) (.slice b52 m52 d52));have M1:=True.intro))))))
   all_goals (
    go_wp2
    go_meet
    (first
      | exact⟨_,a52,n52,c52,b52,m52,d52,rfl,rfl,hd_ (bm_ ZF.out (.bool (zneg ed.num)) (.slice a52 n52 c52) (.slice b52 m52 d52)),hd_ (A52.out.stored3 ZF.out (zneg ed.num) a52 n52 c52 (.slice b52 m52 d52)),hd_ (E52.out.stored3 ZF.out (zneg ed.num) a52 n52 c52 (.slice b52 m52 d52)),hd_ (aw_ BC.out hzb (.bool (zneg ed.num)) (.slice a52 n52 c52) (.slice b52 m52 d52))⟩
      | exact⟨wq1.heap.size,a52,n52,c52,b52,m52,d52,rfl,rfl,hd_ (aj_ wq1 _ 44),hd_ (A52.out.later (aa_ wq1 _)),hd_ (E52.out.later (aa_ wq1 _)),hd_ (ab_ BC.out (aa_ wq1 _))⟩))
  case rest=>
   obtain⟨gt,a52,n52,c52,b52,m52,d52,rfl,rfl,B52,A52,E52,HBc⟩:=hcut
   replace HB:=hd_ (ab_ HB.out HBc.out)
   replace BX:=hd_ (ae_ BX.out HBc.out)
   replace BY:=hd_ (ae_ BY.out HBc.out)
   replace BZ:=hd_ (ae_ BZ.out HBc.out)
   replace B61:=hd_ (ae_ B61.out HBc.out)
   replace B62:=hd_ (ae_ B62.out HBc.out)
   replace X:=hd_ (X.out.later HBc.out)
   replace Y:=hd_ (Y.out.later HBc.out)
   replace A2:=hd_ (A2.out.later HBc.out)
   replace D2:=hd_ (D2.out.later HBc.out)
   replace A61:=hd_ (A61.out.later HBc.out)
   replace E61:=hd_ (E61.out.later HBc.out)
   replace A62:=hd_ (A62.out.later HBc.out)
   replace E62:=hd_ (E62.out.later HBc.out)
   replace B51:=hd_ (ae_ B51.out HBc.out)
   replace A51:=hd_ (A51.out.later HBc.out)
   replace E51:=hd_ (E51.out.later HBc.out)
   clear HBc SU HD1 HED
   go_upto_region 12 with fail
   generalize wc=wr at *
   have SU:=hd_ (a2_ BX.out BY.out BZ.out)
   go_upto_region 12 with fail
   go_cut [18,19] from 76 to 83 (fun cv ov wx=>∃(g:Nat) (a53:OA_) (n53 c53:Nat) (b53:OA_) (m53 d53:Nat),cv=.pointer (some ⟨g,0,none⟩)∧ov=.bool true∧Hid (wx.heap[g]? = some (.cells #[.bool (zneg ep.num),.slice a53 n53 c53,.slice b53 m53 d53] 44 (0,0)))∧Hid (Wd wx a53 n53 c53 (dg ep.num.natAbs))∧Hid (Wd wx b53 m53 d53 (dg ep.den))∧Hid (Below wr.heap.size wr wx))
   case first=>
    obtain⟨s0,s1,s2,s3,s4,s5,s6⟩:=a3_ SU.out (Below.refl wr.heap.size wr)
    go_wp2
    clear s0 s1 s2 s3 s4 s5 s6
    have G1:Below wr.heap.size wr wr.drew:=(Below.refl _ _).drew
    have G2:∀o,Below wr.heap.size wr (wr.alloc o).drew:=fun o=>(aa_ wr o).drew
    have qS:=a3_ SU.out (G1)
    have qA:=fun (o:Obj)=>a3_ SU.out (G2 o)
    go_region_held3 (fun w'=>w'.cell? ⟨gx,0,none⟩=some (.slice a3 n3 c3)∧w'.cell? ⟨gx,1,none⟩=some (.slice b3 m3 d3)∧w'.cell? ⟨gy,0,none⟩=some (.slice a4 n4 c4)∧w'.cell? ⟨gy,1,none⟩=some (.slice b4 m4 d4)∧w'.cell? ⟨gz,0,none⟩=some (.bool s2)∧w'.cell? ⟨gz,1,none⟩=some (.slice a2 n2 c2)∧w'.cell? ⟨gz,2,none⟩=some (.slice b2 m2 d2)) (first | with_reducible exact qS | with_reducible exact qA _ | with_reducible exact qC)
     (first
     | (go_at_call 38;(first
       | ((first
         | ((with_reducible refine (HM1 wr.drew _ _ _ _ _ _ _ _ _ _ _ _ (X.out.later G1) (Y.out.later G1)).mono ?_);rintro ed wq0 ⟨a41,n41,c41,b41,m41,d41,rfl,h41,bw⟩;have bb:=ab_ G1 bw;have BC:=hd_ bb;replace X:=X.l_ bb;replace Y:=Y.l_ bb;replace A2:=A2.l_ bb;replace D2:=D2.l_ bb;have SM:=hd_ (h41);clear bb bw qS qA;clear h41;(try unfold frV);have qS:=a3_ SU.out (BC.out);have qA:=fun (o:Obj)=>a3_ SU.out (ab_ BC.out (aa_ wq0 o));have M0:=True.intro)
         | ((with_reducible refine (HM1 (wr.alloc (.cells #[.bool false,.slice none 0 0,.slice none 0 0] 44)).drew _ _ _ _ _ _ _ _ _ _ _ _ (X.out.later (G2 (.cells #[.bool false,.slice none 0 0,.slice none 0 0] 44))) (Y.out.later (G2 (.cells #[.bool false,.slice none 0 0,.slice none 0 0] 44)))).mono ?_);have hzb:wr.heap.size≤wr.heap.size:=Nat.le_refl _;rintro ed wq0 ⟨a41,n41,c41,b41,m41,d41,rfl,h41,bw⟩;have bb:=ab_ (G2 (.cells #[.bool false,.slice none 0 0,.slice none 0 0] 44)) bw;have BC:=hd_ bb;replace X:=X.l_ bb;replace Y:=Y.l_ bb;replace A2:=A2.l_ bb;replace D2:=D2.l_ bb;have SM:=hd_ (h41);have ZF:=hd_ (ae_ (w:=(wr.alloc (.cells #[.bool false,.slice none 0 0,.slice none 0 0] 44)).drew) (aj_ wr #[.bool false,.slice none 0 0,.slice none 0 0] 44) bw);clear bb bw qS qA;clear h41;(try unfold frV);have qS:=a3_ SU.out (BC.out);have qA:=fun (o:Obj)=>a3_ SU.out (ab_ BC.out (aa_ wq0 o));have M0:=True.intro)))))
     | (go_at_call 16;(first
       | (have mm:=M0;(first
         | (have yy9:=ZF;(with_reducible refine (HEP wq0 _ _ _ _ _ _ SM.out A2.out D2.out).mono ?_);rintro ed wq1 ⟨a53,n53,c53,b53,m53,d53,rfl,h53,g53,bw⟩;have bb:=bw;replace BC:=bt_ BC bb;replace X:=X.l_ bb;replace Y:=Y.l_ bb;replace A2:=A2.l_ bb;replace D2:=D2.l_ bb;replace SM:=SM.l_ bb;have A53:=hd_ (h53);have E53:=hd_ (g53);replace ZF:=bl_ ZF bw;clear yy9;clear bb bw qS qA;clear h53 g53;(try unfold frV);have qS:=a3_ SU.out (BC.out);have qA:=fun (o:Obj)=>a3_ SU.out (ab_ BC.out (aa_ wq1 o));obtain⟨z0,z1,z2⟩:=as_ ZF.out;have f0:=af_ ZF.out 0;have f1:=af_ ZF.out 1;have f2:=af_ ZF.out 2;have qC:=a3_ SU.out (aw_ BC.out hzb (.bool (zneg ep.num)) (.slice a53 n53 c53) (.slice b53 m53 d53));have M1:=True.intro)
         | ((with_reducible refine (HEP wq0 _ _ _ _ _ _ SM.out A2.out D2.out).mono ?_);rintro ed wq1 ⟨a53,n53,c53,b53,m53,d53,rfl,h53,g53,bw⟩;have bb:=bw;replace BC:=bt_ BC bb;replace X:=X.l_ bb;replace Y:=Y.l_ bb;replace A2:=A2.l_ bb;replace D2:=D2.l_ bb;replace SM:=SM.l_ bb;have A53:=hd_ (h53);have E53:=hd_ (g53);clear bb bw qS qA;clear h53 g53;(try unfold frV);have qS:=a3_ SU.out (BC.out);have qA:=fun (o:Obj)=>a3_ SU.out (ab_ BC.out (aa_ wq1 o));have M1:=True.intro)
         | (have ba:=aa_ wq0 (.cells #[.bool false,.slice none 0 0,.slice none 0 0] 44);(with_reducible refine (HEP (wq0.alloc (.cells #[.bool false,.slice none 0 0,.slice none 0 0] 44)) _ _ _ _ _ _ (SM.out.later ba) (A2.out.later ba) (D2.out.later ba)).mono ?_);have hzb:wr.heap.size≤wq0.heap.size:=BC.out.size;rintro ed wq1 ⟨a53,n53,c53,b53,m53,d53,rfl,h53,g53,bw⟩;have bb:=ab_ ba bw;replace BC:=bt_ BC bb;replace X:=X.l_ bb;replace Y:=Y.l_ bb;replace A2:=A2.l_ bb;replace D2:=D2.l_ bb;replace SM:=SM.l_ bb;have A53:=hd_ (h53);have E53:=hd_ (g53);have ZF:=hd_ (ae_ (aj_ wq0 #[.bool false,.slice none 0 0,.slice none 0 0] 44) bw);clear ba;clear bb bw qS qA;clear h53 g53;(try unfold frV);have qS:=a3_ SU.out (BC.out);have qA:=fun (o:Obj)=>a3_ SU.out (ab_ BC.out (aa_ wq1 o));obtain⟨z0,z1,z2⟩:=as_ ZF.out;have f0:=af_ ZF.out 0;have f1:=af_ ZF.out 1;have f2:=af_ ZF.out 2;have qC:=a3_ SU.out (aw_ BC.out hzb (.bool (zneg ep.num)) (.slice a53 n53 c53) (.slice b53 m53 d53));have M1:=True.intro))))))
    all_goals (
     go_wp2
     go_meet
     (first
       | exact⟨_,a53,n53,c53,b53,m53,d53,rfl,rfl,hd_ (bm_ ZF.out (.bool (zneg ep.num)) (.slice a53 n53 c53) (.slice b53 m53 d53)),hd_ (A53.out.stored3 ZF.out (zneg ep.num) a53 n53 c53 (.slice b53 m53 d53)),hd_ (E53.out.stored3 ZF.out (zneg ep.num) a53 n53 c53 (.slice b53 m53 d53)),hd_ (aw_ BC.out hzb (.bool (zneg ep.num)) (.slice a53 n53 c53) (.slice b53 m53 d53))⟩
       | exact⟨wq1.heap.size,a53,n53,c53,b53,m53,d53,rfl,rfl,hd_ (aj_ wq1 _ 44),hd_ (A53.out.later (aa_ wq1 _)),hd_ (E53.out.later (aa_ wq1 _)),hd_ (ab_ BC.out (aa_ wq1 _))⟩))
   case rest=>
    obtain⟨gp,a53,n53,c53,b53,m53,d53,rfl,rfl,B53,A53,E53,HBc⟩:=hcut
    replace HB:=hd_ (ab_ HB.out HBc.out)
    replace BX:=hd_ (ae_ BX.out HBc.out)
    replace BY:=hd_ (ae_ BY.out HBc.out)
    replace BZ:=hd_ (ae_ BZ.out HBc.out)
    replace B61:=hd_ (ae_ B61.out HBc.out)
    replace B62:=hd_ (ae_ B62.out HBc.out)
    replace X:=hd_ (X.out.later HBc.out)
    replace Y:=hd_ (Y.out.later HBc.out)
    replace A2:=hd_ (A2.out.later HBc.out)
    replace D2:=hd_ (D2.out.later HBc.out)
    replace A61:=hd_ (A61.out.later HBc.out)
    replace E61:=hd_ (E61.out.later HBc.out)
    replace A62:=hd_ (A62.out.later HBc.out)
    replace E62:=hd_ (E62.out.later HBc.out)
    replace B51:=hd_ (ae_ B51.out HBc.out)
    replace A51:=hd_ (A51.out.later HBc.out)
    replace E51:=hd_ (E51.out.later HBc.out)
    replace B52:=hd_ (ae_ B52.out HBc.out)
    replace A52:=hd_ (A52.out.later HBc.out)
    replace E52:=hd_ (E52.out.later HBc.out)
    clear HBc SU HM1 HEP
    go_upto_region 13 with fail
    generalize wc=wr at *
    obtain⟨t0,t1,t2,t3,t4,t5,t6,t7,t8,t9,t10,t11,t12,t13,t14⟩:=b6_ B61.out B62.out B51.out B52.out B53.out
    go_wp2
    clear t0 t1 t2 t3 t4 t5 t6 t7 t8 t9 t10 t11 t12 t13 t14
    replace HB:=bt_ HB (dw_ wr)
    replace B61:Hid (wr.drew.heap[gm]? = _):=hd_ B61.out
    replace B62:Hid (wr.drew.heap[gn]? = _):=hd_ B62.out
    replace B51:Hid (wr.drew.heap[gs]? = _):=hd_ B51.out
    replace B52:Hid (wr.drew.heap[gt]? = _):=hd_ B52.out
    replace B53:Hid (wr.drew.heap[gp]? = _):=hd_ B53.out
    replace BX:Hid (wr.drew.heap[gx]? = some (.cells #[.slice a3 n3 c3,.slice b3 m3 d3] 35 (0,0))):=hd_ BX.out
    replace BY:Hid (wr.drew.heap[gy]? = some (.cells #[.slice a4 n4 c4,.slice b4 m4 d4] 35 (0,0))):=hd_ BY.out
    replace BZ:Hid (wr.drew.heap[gz]? = some (.cells #[.bool s2,.slice a2 n2 c2,.slice b2 m2 d2] 44 (0,0))):=hd_ BZ.out
    replace X:=X.l_ (dw_ wr)
    replace Y:=Y.l_ (dw_ wr)
    replace A2:=A2.l_ (dw_ wr)
    replace D2:=D2.l_ (dw_ wr)
    replace A61:=A61.l_ (dw_ wr)
    replace E61:=E61.l_ (dw_ wr)
    replace A62:=A62.l_ (dw_ wr)
    replace E62:=E62.l_ (dw_ wr)
    replace A51:=A51.l_ (dw_ wr)
    replace E51:=E51.l_ (dw_ wr)
    replace A52:=A52.l_ (dw_ wr)
    replace E52:=E52.l_ (dw_ wr)
    replace A53:=A53.l_ (dw_ wr)
    replace E53:=E53.l_ (dw_ wr)
    have pSn:=b6_ B61.out B62.out B51.out B52.out B53.out
    go_region_held3 (fun w'=>w'.cell? ⟨gm,0,none⟩=some (.bool (zneg e1.num))∧w'.cell? ⟨gm,1,none⟩=some (.slice a61 n61 c61)∧w'.cell? ⟨gm,2,none⟩=some (.slice b61 m61 d61)∧w'.cell? ⟨gn,0,none⟩=some (.bool (zneg e2.num))∧w'.cell? ⟨gn,1,none⟩=some (.slice a62 n62 c62)∧w'.cell? ⟨gn,2,none⟩=some (.slice b62 m62 d62)∧w'.cell? ⟨gs,0,none⟩=some (.bool (zneg es.num))∧w'.cell? ⟨gs,1,none⟩=some (.slice a51 n51 c51)∧w'.cell? ⟨gs,2,none⟩=some (.slice b51 m51 d51)∧w'.cell? ⟨gt,0,none⟩=some (.bool (zneg ed.num))∧w'.cell? ⟨gt,1,none⟩=some (.slice a52 n52 c52)∧w'.cell? ⟨gt,2,none⟩=some (.slice b52 m52 d52)∧w'.cell? ⟨gp,0,none⟩=some (.bool (zneg ep.num))∧w'.cell? ⟨gp,1,none⟩=some (.slice a53 n53 c53)∧w'.cell? ⟨gp,2,none⟩=some (.slice b53 m53 d53)) (exact pSn)
     (first
     | (go_at_call 41;(first
       | (refine (HFA _ _ _ _ _ _ _ _ _ _ _ _ _ A61.out E61.out A62.out E62.out).mono ?_;rintro e wp1 ⟨a71,n71,c71,b71,m71,d71,rfl,h71,g71,b⟩;replace HB:=bt_ HB b;replace B61:=bl_ B61 b;replace B62:=bl_ B62 b;replace B51:=bl_ B51 b;replace B52:=bl_ B52 b;replace B53:=bl_ B53 b;replace BX:=bl_ BX b;replace BY:=bl_ BY b;replace BZ:=bl_ BZ b;replace X:=X.l_ b;replace Y:=Y.l_ b;replace A2:=A2.l_ b;replace D2:=D2.l_ b;replace A61:=A61.l_ b;replace E61:=E61.l_ b;replace A62:=A62.l_ b;replace E62:=E62.l_ b;replace A51:=A51.l_ b;replace E51:=E51.l_ b;replace A52:=A52.l_ b;replace E52:=E52.l_ b;replace A53:=A53.l_ b;replace E53:=E53.l_ b;have A71:=hd_ h71;have E71:=hd_ g71;clear h71 g71;(try unfold frV);clear b;clear pSn;have pSn:=b6_ B61.out B62.out B51.out B52.out B53.out;have pM1:=True.intro)))
     | (go_at_call 40;(first
       | (have pm5:=pM5;refine (HSP _ _ _ _ _ _ _ _ _ _ _ _ _ A53.out E53.out A73.out E73.out).mono ?_;rintro e wp6 ⟨rfl,b⟩;replace HB:=bt_ HB b;replace B61:=bl_ B61 b;replace B62:=bl_ B62 b;replace B51:=bl_ B51 b;replace B52:=bl_ B52 b;replace B53:=bl_ B53 b;replace BX:=bl_ BX b;replace BY:=bl_ BY b;replace BZ:=bl_ BZ b;replace X:=X.l_ b;replace Y:=Y.l_ b;replace A2:=A2.l_ b;replace D2:=D2.l_ b;replace A61:=A61.l_ b;replace E61:=E61.l_ b;replace A62:=A62.l_ b;replace E62:=E62.l_ b;replace A51:=A51.l_ b;replace E51:=E51.l_ b;replace A52:=A52.l_ b;replace E52:=E52.l_ b;replace A53:=A53.l_ b;replace E53:=E53.l_ b;clear A73;clear E73;clear b;clear pSn;have pSn:=b6_ B61.out B62.out B51.out B52.out B53.out;clear pM5 pm5;have pM6:=True.intro)
       | (have pm3:=pM3;refine (HSD _ _ _ _ _ _ _ _ _ _ _ _ _ A52.out E52.out A72.out E72.out).mono ?_;rintro e wp4 ⟨rfl,b⟩;replace HB:=bt_ HB b;replace B61:=bl_ B61 b;replace B62:=bl_ B62 b;replace B51:=bl_ B51 b;replace B52:=bl_ B52 b;replace B53:=bl_ B53 b;replace BX:=bl_ BX b;replace BY:=bl_ BY b;replace BZ:=bl_ BZ b;replace X:=X.l_ b;replace Y:=Y.l_ b;replace A2:=A2.l_ b;replace D2:=D2.l_ b;replace A61:=A61.l_ b;replace E61:=E61.l_ b;replace A62:=A62.l_ b;replace E62:=E62.l_ b;replace A51:=A51.l_ b;replace E51:=E51.l_ b;replace A52:=A52.l_ b;replace E52:=E52.l_ b;replace A53:=A53.l_ b;replace E53:=E53.l_ b;clear A72;clear E72;clear b;clear pSn;have pSn:=b6_ B61.out B62.out B51.out B52.out B53.out;clear pM3 pm3;have pM4:=True.intro)
       | (have pm1:=pM1;refine (HSS _ _ _ _ _ _ _ _ _ _ _ _ _ A51.out E51.out A71.out E71.out).mono ?_;rintro e wp2 ⟨rfl,b⟩;replace HB:=bt_ HB b;replace B61:=bl_ B61 b;replace B62:=bl_ B62 b;replace B51:=bl_ B51 b;replace B52:=bl_ B52 b;replace B53:=bl_ B53 b;replace BX:=bl_ BX b;replace BY:=bl_ BY b;replace BZ:=bl_ BZ b;replace X:=X.l_ b;replace Y:=Y.l_ b;replace A2:=A2.l_ b;replace D2:=D2.l_ b;replace A61:=A61.l_ b;replace E61:=E61.l_ b;replace A62:=A62.l_ b;replace E62:=E62.l_ b;replace A51:=A51.l_ b;replace E51:=E51.l_ b;replace A52:=A52.l_ b;replace E52:=E52.l_ b;replace A53:=A53.l_ b;replace E53:=E53.l_ b;clear A71;clear E71;clear b;clear pSn;have pSn:=b6_ B61.out B62.out B51.out B52.out B53.out;clear pM1 pm1;have pM2:=True.intro)))
     | (go_at_call 42;(first
       | (have pm2:=pM2;refine (HFS _ _ _ _ _ _ _ _ _ _ _ _ _ A61.out E61.out A62.out E62.out).mono ?_;rintro e wp3 ⟨a72,n72,c72,b72,m72,d72,rfl,h72,g72,b⟩;replace HB:=bt_ HB b;replace B61:=bl_ B61 b;replace B62:=bl_ B62 b;replace B51:=bl_ B51 b;replace B52:=bl_ B52 b;replace B53:=bl_ B53 b;replace BX:=bl_ BX b;replace BY:=bl_ BY b;replace BZ:=bl_ BZ b;replace X:=X.l_ b;replace Y:=Y.l_ b;replace A2:=A2.l_ b;replace D2:=D2.l_ b;replace A61:=A61.l_ b;replace E61:=E61.l_ b;replace A62:=A62.l_ b;replace E62:=E62.l_ b;replace A51:=A51.l_ b;replace E51:=E51.l_ b;replace A52:=A52.l_ b;replace E52:=E52.l_ b;replace A53:=A53.l_ b;replace E53:=E53.l_ b;have A72:=hd_ h72;have E72:=hd_ g72;clear h72 g72;(try unfold frV);clear b;clear pSn;have pSn:=b6_ B61.out B62.out B51.out B52.out B53.out;clear pM2 pm2;have pM3:=True.intro)))
     | (go_at_call 43;(first
       | (have pm4:=pM4;refine (HFM _ _ _ _ _ _ _ _ _ _ _ _ _ A61.out E61.out A62.out E62.out).mono ?_;rintro e wp5 ⟨a73,n73,c73,b73,m73,d73,rfl,h73,g73,b⟩;replace HB:=bt_ HB b;replace B61:=bl_ B61 b;replace B62:=bl_ B62 b;replace B51:=bl_ B51 b;replace B52:=bl_ B52 b;replace B53:=bl_ B53 b;replace BX:=bl_ BX b;replace BY:=bl_ BY b;replace BZ:=bl_ BZ b;replace X:=X.l_ b;replace Y:=Y.l_ b;replace A2:=A2.l_ b;replace D2:=D2.l_ b;replace A61:=A61.l_ b;replace E61:=E61.l_ b;replace A62:=A62.l_ b;replace E62:=E62.l_ b;replace A51:=A51.l_ b;replace E51:=E51.l_ b;replace A52:=A52.l_ b;replace E52:=E52.l_ b;replace A53:=A53.l_ b;replace E53:=E53.l_ b;have A73:=hd_ h73;have E73:=hd_ g73;clear h73 g73;(try unfold frV);clear b;clear pSn;have pSn:=b6_ B61.out B62.out B51.out B52.out B53.out;clear pM4 pm4;have pM5:=True.intro))))
    clear B51 B52 B53 A51 E51 A52 E52 A53 E53 HFA HFS HFM HSS HSD HSP
    obtain⟨vk0,vk1,vk2,vk3,vk4,vk5,vk6,vk7,vk8,vk9,vk10,vk11,vk12⟩:=ei_ BX.out BY.out BZ.out B61.out B62.out
    go_wp2_with fail
    refine (HSG _ _ _ _ _ _ _ A62.out E62.out).mono ?_
    rintro e wv21 ⟨rfl,b⟩
    clear vk0 vk1 vk2 vk3 vk4 vk5 vk6 vk7 vk8 vk9 vk10 vk11 vk12
    replace HB:=bt_ HB b
    replace BX:=bl_ BX b
    replace BY:=bl_ BY b
    replace BZ:=bl_ BZ b
    replace B61:=bl_ B61 b
    replace B62:=bl_ B62 b
    replace X:=X.l_ b
    replace Y:=Y.l_ b
    replace A2:=A2.l_ b
    replace D2:=D2.l_ b
    replace A61:=A61.l_ b
    replace E61:=E61.l_ b
    replace A62:=A62.l_ b
    replace E62:=E62.l_ b
    clear b
    by_cases hz:sg=0
    ·have hze:(sg == 0)=true:=by simp[hz]
     obtain⟨vk0,vk1,vk2,vk3,vk4,vk5,vk6,vk7,vk8,vk9,vk10,vk11,vk12⟩:=ei_ BX.out BY.out BZ.out B61.out B62.out
     go_wp2_with fail
     refine (HW _).mono ?_
     rintro e wv31 ⟨rfl,b⟩
     clear vk0 vk1 vk2 vk3 vk4 vk5 vk6 vk7 vk8 vk9 vk10 vk11 vk12
     replace HB:=bt_ HB b
     replace BX:=bl_ BX b
     replace BY:=bl_ BY b
     replace BZ:=bl_ BZ b
     replace B61:=bl_ B61 b
     replace B62:=bl_ B62 b
     clear b
     go_wp2
     go_ret
     exact⟨rfl,HB.out⟩
    ·have hze:(sg == 0)=false:=by simp[hz]
     obtain⟨vk0,vk1,vk2,vk3,vk4,vk5,vk6,vk7,vk8,vk9,vk10,vk11,vk12⟩:=ei_ BX.out BY.out BZ.out B61.out B62.out
     go_wp2_with fail
     refine (HQ hz _ _ _ _ _ _ _ _ _ _ _ _ _ X.out Y.out).mono ?_
     rintro e wv31 ⟨a81,n81,c81,b81,m81,d81,rfl,h81,b⟩
     clear vk0 vk1 vk2 vk3 vk4 vk5 vk6 vk7 vk8 vk9 vk10 vk11 vk12
     have QQ:=hd_ h81
     have ba:=aa_ wv31 (.cells #[.slice a81 n81 c81,.slice b81 m81 d81] 35)
     have BQ:=hd_ (aj_ wv31 #[.slice a81 n81 c81,.slice b81 m81 d81] 35)
     have bb:=ab_ b ba
     replace QQ:=QQ.l_ ba
     replace HB:=bt_ HB bb
     replace BX:=bl_ BX bb
     replace BY:=bl_ BY bb
     replace BZ:=bl_ BZ bb
     replace B61:=bl_ B61 bb
     replace B62:=bl_ B62 bb
     replace X:=X.l_ bb
     replace Y:=Y.l_ bb
     replace A2:=A2.l_ bb
     replace D2:=D2.l_ bb
     replace A61:=A61.l_ bb
     replace E61:=E61.l_ bb
     replace A62:=A62.l_ bb
     replace E62:=E62.l_ bb
     clear b ba bb
     clear h81
     go_upto_region 18 with fail
     generalize wv31.alloc (.cells #[.slice a81 n81 c81,.slice b81 m81 d81] 35)=wr at *
     obtain⟨vk0,vk1,vk2,vk3,vk4,vk5,vk6,vk7,vk8,vk9,vk10,vk11,vk12,vk13,vk14⟩:=hs_ BX.out BY.out BZ.out B61.out B62.out BQ.out
     go_wp2_with fail
     refine (HEQ hz _ _ _ _ _ _ _ QQ.out A2.out D2.out).mono ?_
     rintro e wv32 ⟨a82,n82,c82,b82,m82,d82,rfl,h82,g82,b⟩
     clear vk0 vk1 vk2 vk3 vk4 vk5 vk6 vk7 vk8 vk9 vk10 vk11 vk12 vk13 vk14
     have A82:=hd_ h82
     have E82:=hd_ g82
     have ba:=aa_ wv32 (.cells #[.bool (zneg eq.num),.slice a82 n82 c82,.slice b82 m82 d82] 44)
     have BV:=hd_ (aj_ wv32 #[.bool (zneg eq.num),.slice a82 n82 c82,.slice b82 m82 d82] 44)
     have bb:=ab_ b ba
     replace A82:=A82.l_ ba
     replace E82:=E82.l_ ba
     replace HB:=bt_ HB bb
     replace BX:=bl_ BX bb
     replace BY:=bl_ BY bb
     replace BZ:=bl_ BZ bb
     replace B61:=bl_ B61 bb
     replace B62:=bl_ B62 bb
     replace BQ:=bl_ BQ bb
     replace X:=X.l_ bb
     replace Y:=Y.l_ bb
     replace A2:=A2.l_ bb
     replace D2:=D2.l_ bb
     replace A61:=A61.l_ bb
     replace E61:=E61.l_ bb
     replace A62:=A62.l_ bb
     replace E62:=E62.l_ bb
     replace QQ:=QQ.l_ bb
     clear b ba bb
     clear h82 g82
     (try unfold frV)
     go_upto_region 19 with fail
     generalize wv32.alloc (.cells #[.bool (zneg eq.num),.slice a82 n82 c82,.slice b82 m82 d82] 44)=wr at *
     obtain⟨gv,hgv⟩:∃g,wv32.heap.size=g:=⟨_,rfl⟩
     rw[hgv] at BV ⊢
     clear hgv
     obtain⟨t0,t1,t2,t3,t4,t5,t6,t7,t8⟩:=bj_ B61.out B62.out BV.out
     go_wp2
     clear t0 t1 t2 t3 t4 t5 t6 t7 t8
     replace HB:=bt_ HB (dw_ wr)
     replace B61:Hid (wr.drew.heap[gm]? = _):=hd_ B61.out
     replace B62:Hid (wr.drew.heap[gn]? = _):=hd_ B62.out
     replace BV:Hid (wr.drew.heap[gv]? = _):=hd_ BV.out
     replace A61:=A61.l_ (dw_ wr)
     replace E61:=E61.l_ (dw_ wr)
     replace A62:=A62.l_ (dw_ wr)
     replace E62:=E62.l_ (dw_ wr)
     replace A82:=A82.l_ (dw_ wr)
     replace E82:=E82.l_ (dw_ wr)
     have qSn:=bj_ B61.out B62.out BV.out
     go_region_held3 (fun w'=>w'.cell? ⟨gm,0,none⟩=some (.bool (zneg e1.num))∧w'.cell? ⟨gm,1,none⟩=some (.slice a61 n61 c61)∧w'.cell? ⟨gm,2,none⟩=some (.slice b61 m61 d61)∧w'.cell? ⟨gn,0,none⟩=some (.bool (zneg e2.num))∧w'.cell? ⟨gn,1,none⟩=some (.slice a62 n62 c62)∧w'.cell? ⟨gn,2,none⟩=some (.slice b62 m62 d62)∧w'.cell? ⟨gv,0,none⟩=some (.bool (zneg eq.num))∧w'.cell? ⟨gv,1,none⟩=some (.slice a82 n82 c82)∧w'.cell? ⟨gv,2,none⟩=some (.slice b82 m82 d82)) (exact qSn)
      (first
      | (go_at_call 43;(first
        | (refine (HMQ hz _ _ _ _ _ _ _ _ _ _ _ _ _ A82.out E82.out A62.out E62.out).mono ?_;rintro e wq1 ⟨a91,n91,c91,b91,m91,d91,rfl,h91,g91,b⟩;replace HB:=bt_ HB b;replace B61:=bl_ B61 b;replace B62:=bl_ B62 b;replace BV:=bl_ BV b;replace A61:=A61.l_ b;replace E61:=E61.l_ b;replace A62:=A62.l_ b;replace E62:=E62.l_ b;replace A82:=A82.l_ b;replace E82:=E82.l_ b;have A91:=hd_ h91;have E91:=hd_ g91;clear h91 g91;(try unfold frV);clear b;clear qSn;have qSn:=bj_ B61.out B62.out BV.out;have qM1:=True.intro)))
      | (go_at_call 40;(first
        | (have qm1:=qM1;refine (HS1 _ _ _ _ _ _ _ _ _ _ _ _ _ A91.out E91.out A61.out E61.out).mono ?_;rintro e wq2 ⟨rfl,b⟩;replace HB:=bt_ HB b;replace B61:=bl_ B61 b;replace B62:=bl_ B62 b;replace BV:=bl_ BV b;replace A61:=A61.l_ b;replace E61:=E61.l_ b;replace A62:=A62.l_ b;replace E62:=E62.l_ b;replace A82:=A82.l_ b;replace E82:=E82.l_ b;clear A91;clear E91;clear b;clear qSn;have qSn:=bj_ B61.out B62.out BV.out;clear qM1 qm1;have qM2:=True.intro)))
      | (go_at_call 9;(first
        | (have qm2:=qM2;refine (HW _).mono ?_;rintro e wq3 ⟨rfl,b⟩;replace HB:=bt_ HB b;replace B61:=bl_ B61 b;replace B62:=bl_ B62 b;replace BV:=bl_ BV b;replace A61:=A61.l_ b;replace E61:=E61.l_ b;replace A62:=A62.l_ b;replace E62:=E62.l_ b;replace A82:=A82.l_ b;replace E82:=E82.l_ b;clear b;clear qSn;have qSn:=bj_ B61.out B62.out BV.out;clear qM2 qm2;have qM3:=True.intro))))
     all_goals (
      go_wp2
      go_ret
      exact⟨rfl,HB.out⟩)
end Go.Proofs.YtocebjbjnfammaaGreat
