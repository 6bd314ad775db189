import Derived.Test.YtocebjbjnfammaaGreatSG15
import Derived.Deep.RegionHeld3
import Derived.Deep.CutRange
import Derived.Deep.RegionWith
import Derived.Test.YtocebjbjnfammaaGreatSG1
set_option maxRecDepth 4096
set_option maxHeartbeats 16000000
namespace Go.Proofs.YtocebjbjnfammaaGreat
open Go.RowKit
theorem km_{w:World}{A0 A1 A2:Nat}{c0_0 c0_1 c1_0 c1_1 c2_0 c2_1:Value}{t0 t1 t2:TypeId}(h0:w.heap[A0]? = some (.cells #[c0_0,c0_1] t0 (0,0)))(h1:w.heap[A1]? = some (.cells #[c1_0,c1_1] t1 (0,0)))(h2:w.heap[A2]? = some (.cells #[c2_0,c2_1] t2 (0,0))):w.cell? ⟨A0,0,none⟩=some c0_0∧w.cell? ⟨A0,1,none⟩=some c0_1∧w.cell? ⟨A1,0,none⟩=some c1_0∧w.cell? ⟨A1,1,none⟩=some c1_1∧w.cell? ⟨A2,0,none⟩=some c2_0∧w.cell? ⟨A2,1,none⟩=some c2_1:=⟨af_ h0 0,af_ h0 1,af_ h1 0,af_ h1 1,af_ h2 0,af_ h2 1⟩
theorem a3_{w:World}{A0 A1 A2 A3:Nat}{c0_0 c0_1 c1_0 c1_1 c2_0 c2_1 c3_0 c3_1:Value}{t0 t1 t2 t3:TypeId}(h0:w.heap[A0]? = some (.cells #[c0_0,c0_1] t0 (0,0)))(h1:w.heap[A1]? = some (.cells #[c1_0,c1_1] t1 (0,0)))(h2:w.heap[A2]? = some (.cells #[c2_0,c2_1] t2 (0,0)))(h3:w.heap[A3]? = some (.cells #[c3_0,c3_1] t3 (0,0))):w.cell? ⟨A0,0,none⟩=some c0_0∧w.cell? ⟨A0,1,none⟩=some c0_1∧w.cell? ⟨A1,0,none⟩=some c1_0∧w.cell? ⟨A1,1,none⟩=some c1_1∧w.cell? ⟨A2,0,none⟩=some c2_0∧w.cell? ⟨A2,1,none⟩=some c2_1∧w.cell? ⟨A3,0,none⟩=some c3_0∧w.cell? ⟨A3,1,none⟩=some c3_1:=⟨af_ h0 0,af_ h0 1,af_ h1 0,af_ h1 1,af_ h2 0,af_ h2 1,af_ h3 0,af_ h3 1⟩
theorem da_{w:World}{A0 A1 A2 A3 A4:Nat}{c0_0 c0_1 c1_0 c1_1 c2_0 c2_1 c3_0 c3_1 c4_0 c4_1:Value}{t0 t1 t2 t3 t4:TypeId}(h0:w.heap[A0]? = some (.cells #[c0_0,c0_1] t0 (0,0)))(h1:w.heap[A1]? = some (.cells #[c1_0,c1_1] t1 (0,0)))(h2:w.heap[A2]? = some (.cells #[c2_0,c2_1] t2 (0,0)))(h3:w.heap[A3]? = some (.cells #[c3_0,c3_1] t3 (0,0)))(h4:w.heap[A4]? = some (.cells #[c4_0,c4_1] t4 (0,0))):w.cell? ⟨A0,0,none⟩=some c0_0∧w.cell? ⟨A0,1,none⟩=some c0_1∧w.cell? ⟨A1,0,none⟩=some c1_0∧w.cell? ⟨A1,1,none⟩=some c1_1∧w.cell? ⟨A2,0,none⟩=some c2_0∧w.cell? ⟨A2,1,none⟩=some c2_1∧w.cell? ⟨A3,0,none⟩=some c3_0∧w.cell? ⟨A3,1,none⟩=some c3_1∧w.cell? ⟨A4,0,none⟩=some c4_0∧w.cell? ⟨A4,1,none⟩=some c4_1:=⟨af_ h0 0,af_ h0 1,af_ h1 0,af_ h1 1,af_ h2 0,af_ h2 1,af_ h3 0,af_ h3 1,af_ h4 0,af_ h4 1⟩
theorem dd_{w:World}{A0 A1 A2 A3 A4 A5:Nat}{c0_0 c0_1 c1_0 c1_1 c2_0 c2_1 c3_0 c3_1 c4_0 c4_1 c5_0 c5_1:Value}{t0 t1 t2 t3 t4 t5:TypeId}(h0:w.heap[A0]? = some (.cells #[c0_0,c0_1] t0 (0,0)))(h1:w.heap[A1]? = some (.cells #[c1_0,c1_1] t1 (0,0)))(h2:w.heap[A2]? = some (.cells #[c2_0,c2_1] t2 (0,0)))(h3:w.heap[A3]? = some (.cells #[c3_0,c3_1] t3 (0,0)))(h4:w.heap[A4]? = some (.cells #[c4_0,c4_1] t4 (0,0)))(h5:w.heap[A5]? = some (.cells #[c5_0,c5_1] t5 (0,0))):w.cell? ⟨A0,0,none⟩=some c0_0∧w.cell? ⟨A0,1,none⟩=some c0_1∧w.cell? ⟨A1,0,none⟩=some c1_0∧w.cell? ⟨A1,1,none⟩=some c1_1∧w.cell? ⟨A2,0,none⟩=some c2_0∧w.cell? ⟨A2,1,none⟩=some c2_1∧w.cell? ⟨A3,0,none⟩=some c3_0∧w.cell? ⟨A3,1,none⟩=some c3_1∧w.cell? ⟨A4,0,none⟩=some c4_0∧w.cell? ⟨A4,1,none⟩=some c4_1∧w.cell? ⟨A5,0,none⟩=some c5_0∧w.cell? ⟨A5,1,none⟩=some c5_1:=⟨af_ h0 0,af_ h0 1,af_ h1 0,af_ h1 1,af_ h2 0,af_ h2 1,af_ h3 0,af_ h3 1,af_ h4 0,af_ h4 1,af_ h5 0,af_ h5 1⟩
theorem a5_{w:World}{A0 A1 A2 A3 A4 A5 A6:Nat}{c0_0 c0_1 c1_0 c1_1 c2_0 c2_1 c3_0 c3_1 c4_0 c4_1 c5_0 c5_1 c6_0 c6_1:Value}{t0 t1 t2 t3 t4 t5 t6:TypeId}(h0:w.heap[A0]? = some (.cells #[c0_0,c0_1] t0 (0,0)))(h1:w.heap[A1]? = some (.cells #[c1_0,c1_1] t1 (0,0)))(h2:w.heap[A2]? = some (.cells #[c2_0,c2_1] t2 (0,0)))(h3:w.heap[A3]? = some (.cells #[c3_0,c3_1] t3 (0,0)))(h4:w.heap[A4]? = some (.cells #[c4_0,c4_1] t4 (0,0)))(h5:w.heap[A5]? = some (.cells #[c5_0,c5_1] t5 (0,0)))(h6:w.heap[A6]? = some (.cells #[c6_0,c6_1] t6 (0,0))):w.cell? ⟨A0,0,none⟩=some c0_0∧w.cell? ⟨A0,1,none⟩=some c0_1∧w.cell? ⟨A1,0,none⟩=some c1_0∧w.cell? ⟨A1,1,none⟩=some c1_1∧w.cell? ⟨A2,0,none⟩=some c2_0∧w.cell? ⟨A2,1,none⟩=some c2_1∧w.cell? ⟨A3,0,none⟩=some c3_0∧w.cell? ⟨A3,1,none⟩=some c3_1∧w.cell? ⟨A4,0,none⟩=some c4_0∧w.cell? ⟨A4,1,none⟩=some c4_1∧w.cell? ⟨A5,0,none⟩=some c5_0∧w.cell? ⟨A5,1,none⟩=some c5_1∧w.cell? ⟨A6,0,none⟩=some c6_0∧w.cell? ⟨A6,1,none⟩=some c6_1:=⟨af_ h0 0,af_ h0 1,af_ h1 0,af_ h1 1,af_ h2 0,af_ h2 1,af_ h3 0,af_ h3 1,af_ h4 0,af_ h4 1,af_ h5 0,af_ h5 1,af_ h6 0,af_ h6 1⟩
theorem Pvs.stored{w:World}{a:Option Addr}{n c:Nat}{b:Option Addr}{m d:Nat}{U V:List Rat}(h:Pvs w a n c b m d U V){g:Nat}{x y:Option Addr}{n1 c1 n2 c2:Nat}{t:TypeId}(hg:w.heap[g]? = some (.cells #[.slice x n1 c1,.slice y n2 c2] t (0,0)))(p q:Value):Pvs ((w.setCell ⟨g,0,none⟩ p).setCell ⟨g,1,none⟩ q) a n c b m d U V:=by
 obtain⟨⟨L,h1,h2⟩,⟨M,h3,h4⟩⟩:=h
 exact⟨⟨L,h1.aside (v:=.slice (some ⟨g,0,none⟩) 0 0) (co_ hg fs_) (cb_ (bv_ w g 0 p) (bv_ _ g 1 q)),h2⟩,⟨M,h3.aside (v:=.slice (some ⟨g,0,none⟩) 0 0) (co_ hg fs_) (cb_ (bv_ w g 0 p) (bv_ _ g 1 q)),h4⟩⟩
theorem qb_(HW:∀w:World,Calls Tryz.prog 9 #[] w (bi_ (.bool true) w))(U V U2 V2 u1 v1 u2 v2 uq vq up vp ug vg us vs ud vd un vn um vm:LR_)(q0:Rat)(py:Bool)(a0:OA_)(n0 c0:Nat)(K0:List Fx)(b0:OA_)(m0 d0:Nat)(M0:List Fx)(a1:OA_)(n1 c1:Nat)(K1:List Fx)(b1:OA_)(m1 d1:Nat)(M1:List Fx)(e:Int)(w:World)(h0:Fxs w a0 n0 c0 K0)(j0:Fxs w b0 m0 d0 M0)(h1:Fxs w a1 n1 c1 K1)(j1:Fxs w b1 m1 d1 M1)(hb0:(((n0:Int)≤3∧thinI 1 K0)∧((m0:Int)≤3∧thinI 1 M0)))(hb1:(((n1:Int)≤3∧thinI 1 K1)∧((m1:Int)≤3∧thinI 1 M1)))(he:e < -8∨(-3≤e∧e≤3)∨8 < e)(HNM:∀w':World,Fxs w' a0 n0 c0 K0→Fxs w' b0 m0 d0 M0→Calls Tryz.prog 10 #[.agg #[.slice a0 n0 c0,.slice b0 m0 d0]] w' (LstX u1 v1 w'))(HNN:∀w':World,Fxs w' a1 n1 c1 K1→Fxs w' b1 m1 d1 M1→Calls Tryz.prog 10 #[.agg #[.slice a1 n1 c1,.slice b1 m1 d1]] w' (LstX u2 v2 w'))(HTX:∀w':World,Fxs w' a0 n0 c0 K0→Fxs w' b0 m0 d0 M0→Calls Tryz.prog 12 #[.agg #[.slice a0 n0 c0,.slice b0 m0 d0]] w' (LstP U V w'))(HTY:∀w':World,Fxs w' a1 n1 c1 K1→Fxs w' b1 m1 d1 M1→Calls Tryz.prog 12 #[.agg #[.slice a1 n1 c1,.slice b1 m1 d1]] w' (LstP U2 V2 w'))(HQX:∀(w':World) (a:OA_) (n c:Nat) (b:OA_) (m d:Nat) (a':OA_) (n' c':Nat) (b':OA_) (m' d':Nat),Pvs w' a n c b m d U V→Pvs w' a' n' c' b' m' d' U2 V2→Calls Tryz.prog 29 #[.agg #[.slice a n c,.slice b m d],.agg #[.slice a' n' c',.slice b' m' d']] w' (lr_ uq vq (.bool false) w'))(HI0:∀(w':World),Calls Tryz.prog 15 #[.int .i64 0] w' (LstQ q0 w'))(HO0:∀(w':World) (a1:OA_) (n1 c1:Nat) (b1:OA_) (m1 d1:Nat),Wd w' a1 n1 c1 (dg q0.num.natAbs)→Wd w' b1 m1 d1 (dg q0.den)→Calls Tryz.prog 14 #[.agg #[.bool (zneg q0.num),.slice a1 n1 c1,.slice b1 m1 d1]] w' (LstX uq vq w'))(HZN:∀(w':World) (a:OA_) (n c:Nat) (b:OA_) (m d:Nat),Rw w' a n c u2→Rw w' b m d v2→Calls Tryz.prog 21 #[.agg #[.slice a n c,.slice b m d]] w' (bi_ (.bool true) w'))(HPX:∀(w':World) (a:OA_) (n c:Nat) (b:OA_) (m d:Nat),Pvs w' a n c b m d U V→Calls Tryz.prog 31 #[.agg #[.slice a n c,.slice b m d],.int .i64 e] w' (lr_ up vp (.bool py) w'))(HPM:∀(w':World) (a:OA_) (n c:Nat) (b:OA_) (m d:Nat),Rw w' a n c u1→Rw w' b m d v1→Calls Tryz.prog 32 #[.agg #[.slice a n c,.slice b m d],.int .i64 e] w' (lr_ up vp (.bool py) w'))(HIQ:∀(w':World) (a:OA_) (n c:Nat) (b:OA_) (m d:Nat) (a':OA_) (n' c':Nat) (b':OA_) (m' d':Nat),Rw w' a n c uq→Rw w' b m d vq→Rw w' a' n' c' uq→Rw w' b' m' d' vq→Calls Tryz.prog 19 #[.agg #[.slice a n c,.slice b m d],.agg #[.slice a' n' c',.slice b' m' d']] w' (bi_ (.bool true) w'))(HIP:∀(w':World) (a:OA_) (n c:Nat) (b:OA_) (m d:Nat) (a':OA_) (n' c':Nat) (b':OA_) (m' d':Nat),Rw w' a n c up→Rw w' b m d vp→Rw w' a' n' c' up→Rw w' b' m' d' vp→Calls Tryz.prog 19 #[.agg #[.slice a n c,.slice b m d],.agg #[.slice a' n' c',.slice b' m' d']] w' (bi_ (.bool true) w'))(HNX:∀(w':World) (a:OA_) (n c:Nat) (b:OA_) (m d:Nat),Pvs w' a n c b m d U V→Calls Tryz.prog 33 #[.agg #[.slice a n c,.slice b m d]] w' (LstX ug vg w'))(HNG:∀(w':World) (a:OA_) (n c:Nat) (b:OA_) (m d:Nat),Rw w' a n c u1→Rw w' b m d v1→Calls Tryz.prog 34 #[.agg #[.slice a n c,.slice b m d]] w' (LstX ug vg w'))(HIG:∀(w':World) (a:OA_) (n c:Nat) (b:OA_) (m d:Nat) (a':OA_) (n' c':Nat) (b':OA_) (m' d':Nat),Rw w' a n c ug→Rw w' b m d vg→Rw w' a' n' c' ug→Rw w' b' m' d' vg→Calls Tryz.prog 19 #[.agg #[.slice a n c,.slice b m d],.agg #[.slice a' n' c',.slice b' m' d']] w' (bi_ (.bool true) w'))(HAX:∀(w':World) (a:OA_) (n c:Nat) (b:OA_) (m d:Nat) (a':OA_) (n' c':Nat) (b':OA_) (m' d':Nat),Pvs w' a n c b m d U V→Pvs w' a' n' c' b' m' d' U2 V2→Calls Tryz.prog 35 #[.agg #[.slice a n c,.slice b m d],.agg #[.slice a' n' c',.slice b' m' d']] w' (LstX us vs w'))(HAM:∀(w':World) (a:OA_) (n c:Nat) (b:OA_) (m d:Nat) (a':OA_) (n' c':Nat) (b':OA_) (m' d':Nat),Rw w' a n c u1→Rw w' b m d v1→Rw w' a' n' c' u2→Rw w' b' m' d' v2→Calls Tryz.prog 36 #[.agg #[.slice a n c,.slice b m d],.agg #[.slice a' n' c',.slice b' m' d']] w' (LstX us vs w'))(HIA:∀(w':World) (a:OA_) (n c:Nat) (b:OA_) (m d:Nat) (a':OA_) (n' c':Nat) (b':OA_) (m' d':Nat),Rw w' a n c us→Rw w' b m d vs→Rw w' a' n' c' us→Rw w' b' m' d' vs→Calls Tryz.prog 19 #[.agg #[.slice a n c,.slice b m d],.agg #[.slice a' n' c',.slice b' m' d']] w' (bi_ (.bool true) w'))(HSX:∀(w':World) (a:OA_) (n c:Nat) (b:OA_) (m d:Nat) (a':OA_) (n' c':Nat) (b':OA_) (m' d':Nat),Pvs w' a n c b m d U V→Pvs w' a' n' c' b' m' d' U2 V2→Calls Tryz.prog 37 #[.agg #[.slice a n c,.slice b m d],.agg #[.slice a' n' c',.slice b' m' d']] w' (LstX ud vd w'))(HN2:∀(w':World) (a:OA_) (n c:Nat) (b:OA_) (m d:Nat),Rw w' a n c u2→Rw w' b m d v2→Calls Tryz.prog 34 #[.agg #[.slice a n c,.slice b m d]] w' (LstX un vn w'))(HSM:∀(w':World) (a:OA_) (n c:Nat) (b:OA_) (m d:Nat) (a':OA_) (n' c':Nat) (b':OA_) (m' d':Nat),Rw w' a n c u1→Rw w' b m d v1→Rw w' a' n' c' un→Rw w' b' m' d' vn→Calls Tryz.prog 36 #[.agg #[.slice a n c,.slice b m d],.agg #[.slice a' n' c',.slice b' m' d']] w' (LstX ud vd w'))(HID:∀(w':World) (a:OA_) (n c:Nat) (b:OA_) (m d:Nat) (a':OA_) (n' c':Nat) (b':OA_) (m' d':Nat),Rw w' a n c ud→Rw w' b m d vd→Rw w' a' n' c' ud→Rw w' b' m' d' vd→Calls Tryz.prog 19 #[.agg #[.slice a n c,.slice b m d],.agg #[.slice a' n' c',.slice b' m' d']] w' (bi_ (.bool true) w'))(HMX:∀(w':World) (a:OA_) (n c:Nat) (b:OA_) (m d:Nat) (a':OA_) (n' c':Nat) (b':OA_) (m' d':Nat),Pvs w' a n c b m d U V→Pvs w' a' n' c' b' m' d' U2 V2→Calls Tryz.prog 38 #[.agg #[.slice a n c,.slice b m d],.agg #[.slice a' n' c',.slice b' m' d']] w' (LstX um vm w'))(HMM:∀(w':World) (a:OA_) (n c:Nat) (b:OA_) (m d:Nat) (a':OA_) (n' c':Nat) (b':OA_) (m' d':Nat),Rw w' a n c u1→Rw w' b m d v1→Rw w' a' n' c' u2→Rw w' b' m' d' v2→Calls Tryz.prog 39 #[.agg #[.slice a n c,.slice b m d],.agg #[.slice a' n' c',.slice b' m' d']] w' (LstX um vm w'))(HIM:∀(w':World) (a:OA_) (n c:Nat) (b:OA_) (m d:Nat) (a':OA_) (n' c':Nat) (b':OA_) (m' d':Nat),Rw w' a n c um→Rw w' b m d vm→Rw w' a' n' c' um→Rw w' b' m' d' vm→Calls Tryz.prog 19 #[.agg #[.slice a n c,.slice b m d],.agg #[.slice a' n' c',.slice b' m' d']] w' (bi_ (.bool true) w')):Calls Tryz.prog 4 #[.agg #[.slice a0 n0 c0,.slice b0 m0 d0],.agg #[.slice a1 n1 c1,.slice b1 m1 d1],.int .i64 e] w (bi_ (.bool true) w):=by
 have HNB0:=hd_ hb0
 have HNB1:=hd_ hb1
 have HB:=hd_ (ab_ (aa_ w (.cells #[.slice a0 n0 c0,.slice b0 m0 d0] 24)) (aa_ _ (.cells #[.slice a1 n1 c1,.slice b1 m1 d1] 24)))
 have X0:Hid (((w.alloc (.cells #[.slice a0 n0 c0,.slice b0 m0 d0] 24)).alloc (.cells #[.slice a1 n1 c1,.slice b1 m1 d1] 24)).heap[w.heap.size]? = some (.cells #[.slice a0 n0 c0,.slice b0 m0 d0] 24 (0,0))):=hd_ (ac_ (ai_ w _ _) (aa_ _ (.cells #[.slice a1 n1 c1,.slice b1 m1 d1] 24)))
 have X1:Hid (((w.alloc (.cells #[.slice a0 n0 c0,.slice b0 m0 d0] 24)).alloc (.cells #[.slice a1 n1 c1,.slice b1 m1 d1] 24)).heap[w.heap.size+1]? = some (.cells #[.slice a1 n1 c1,.slice b1 m1 d1] 24 (0,0))):=hd_ (by have h9:=ai_ (w.alloc (.cells #[.slice a0 n0 c0,.slice b0 m0 d0] 24)) #[.slice a1 n1 c1,.slice b1 m1 d1] 24;rwa [al_] at h9)
 have HF0:=hd_ (h0.later HB.out)
 have HG0:=hd_ (j0.later HB.out)
 have HF1:=hd_ (h1.later HB.out)
 have HG1:=hd_ (j1.later HB.out)
 clear h0 j0 h1 j1 hb0 hb1
 go_enter Tryz.func4,Tryz.ntmps4
 go_upto_region 1 with fail
 go_cut [39] from 18 to 38 (fun cv wx=>cv=.bool false∧Hid (wx.heap[w.heap.size]? = some (.cells #[.slice a0 n0 c0,.slice b0 m0 d0] 24 (0,0)))∧Hid (wx.heap[w.heap.size+1]? = some (.cells #[.slice a1 n1 c1,.slice b1 m1 d1] 24 (0,0)))∧Hid (Fxs wx a0 n0 c0 K0)∧Hid (Fxs wx b0 m0 d0 M0)∧Hid (Fxs wx a1 n1 c1 K1)∧Hid (Fxs wx b1 m1 d1 M1)∧Hid (Below w.heap.size w wx))
 case first=>
  obtain⟨vk0,vk1,vk2,vk3⟩:=am_ X0.out X1.out
  go_wp2_with fail
  refine (dn_ a0 n0 c0 K0 b0 m0 d0 M0 3 1 false _ HF0.out HG0.out (by decide) ⟨fun h=>absurd h (by decide),fun h=>absurd HNB0.out h⟩).mono ?_
  rintro e wv1 ⟨rfl,b⟩
  clear vk0 vk1 vk2 vk3
  replace HB:=bt_ HB b
  replace X0:=bl_ X0 b
  replace X1:=bl_ X1 b
  replace HF0:=HF0.l_ b
  replace HG0:=HG0.l_ b
  replace HF1:=HF1.l_ b
  replace HG1:=HG1.l_ b
  clear b
  obtain⟨vk0,vk1,vk2,vk3⟩:=am_ X0.out X1.out
  go_wp2_with fail
  refine (dn_ a1 n1 c1 K1 b1 m1 d1 M1 3 1 false _ HF1.out HG1.out (by decide) ⟨fun h=>absurd h (by decide),fun h=>absurd HNB1.out h⟩).mono ?_
  rintro e wv2 ⟨rfl,b⟩
  clear vk0 vk1 vk2 vk3
  replace HB:=bt_ HB b
  replace X0:=bl_ X0 b
  replace X1:=bl_ X1 b
  replace HF0:=HF0.l_ b
  replace HG0:=HG0.l_ b
  replace HF1:=HF1.l_ b
  replace HG1:=HG1.l_ b
  clear b
  rcases he with he | he | he
  ·have hx1:¬(-8≤e):=by omega
   have hx2:¬(3 < e):=by omega
   go_wp2
   go_meet
   exact⟨(by first | (simp;done) | (simp;omega)),X0,X1,HF0,HG0,HF1,HG1,HB⟩
  ·have hx1:¬(e < -3):=by omega
   have hx2:¬(3 < e):=by omega
   go_wp2
   go_meet
   exact⟨(by first | (simp;done) | (simp;omega)),X0,X1,HF0,HG0,HF1,HG1,HB⟩
  ·have hx1:¬(e < -3):=by omega
   have hx2:¬(e≤8):=by omega
   go_wp2
   go_meet
   exact⟨(by first | (simp;done) | (simp;omega)),X0,X1,HF0,HG0,HF1,HG1,HB⟩
 case rest=>
  obtain⟨rfl,Y0,Y1,YF0,YG0,YF1,YG1,HBc⟩:=hcut
  clear X0 X1 HF0 HG0 HF1 HG1 HB HNB0 HNB1 he
  have X0:=hd_ Y0.out
  have X1:=hd_ Y1.out
  have HF0:=hd_ YF0.out
  have HG0:=hd_ YG0.out
  have HF1:=hd_ YF1.out
  have HG1:=hd_ YG1.out
  have HB:=hd_ HBc.out
  clear Y0 Y1 YF0 YG0 YF1 YG1 HBc
  obtain⟨vk0,vk1,vk2,vk3⟩:=am_ X0.out X1.out
  go_wp2_with fail
  refine (HNM _ HF0.out HG0.out).mono ?_
  rintro e wv1 ⟨a21,n21,c21,b21,m21,d21,rfl,h21,g21,b⟩
  clear vk0 vk1 vk2 vk3
  have RU:=hd_ h21
  have RV:=hd_ g21
  have ba:=aa_ wv1 (.cells #[.slice a21 n21 c21,.slice b21 m21 d21] 24)
  have BM:=hd_ (ai_ wv1 #[.slice a21 n21 c21,.slice b21 m21 d21] 24)
  have bb:=ab_ b ba
  replace RU:=RU.l_ ba
  replace RV:=RV.l_ ba
  replace HB:=bt_ HB bb
  replace X0:=bl_ X0 bb
  replace X1:=bl_ X1 bb
  replace HF0:=HF0.l_ bb
  replace HG0:=HG0.l_ bb
  replace HF1:=HF1.l_ bb
  replace HG1:=HG1.l_ bb
  clear b ba bb
  clear h21 g21
  go_upto_region 4 with fail
  generalize wv1.alloc (.cells #[.slice a21 n21 c21,.slice b21 m21 d21] 24)=wr at *
  obtain⟨vk0,vk1,vk2,vk3,vk4,vk5⟩:=km_ X0.out X1.out BM.out
  go_wp2_with fail
  refine (HNN _ HF1.out HG1.out).mono ?_
  rintro e wv2 ⟨a22,n22,c22,b22,m22,d22,rfl,h22,g22,b⟩
  clear vk0 vk1 vk2 vk3 vk4 vk5
  have SU:=hd_ h22
  have SV:=hd_ g22
  have ba:=aa_ wv2 (.cells #[.slice a22 n22 c22,.slice b22 m22 d22] 24)
  have BN:=hd_ (ai_ wv2 #[.slice a22 n22 c22,.slice b22 m22 d22] 24)
  have bb:=ab_ b ba
  replace SU:=SU.l_ ba
  replace SV:=SV.l_ ba
  replace HB:=bt_ HB bb
  replace X0:=bl_ X0 bb
  replace X1:=bl_ X1 bb
  replace BM:=bl_ BM bb
  replace HF0:=HF0.l_ bb
  replace HG0:=HG0.l_ bb
  replace HF1:=HF1.l_ bb
  replace HG1:=HG1.l_ bb
  replace RU:=RU.l_ bb
  replace RV:=RV.l_ bb
  clear b ba bb
  clear h22 g22
  go_upto_region 5 with fail
  generalize wv2.alloc (.cells #[.slice a22 n22 c22,.slice b22 m22 d22] 24)=wr at *
  obtain⟨vk0,vk1,vk2,vk3,vk4,vk5,vk6,vk7⟩:=a3_ X0.out X1.out BM.out BN.out
  go_wp2_with fail
  refine (HTX _ HF0.out HG0.out).mono ?_
  rintro e wv3 ⟨a23,n23,c23,b23,m23,d23,rfl,h23,b⟩
  clear vk0 vk1 vk2 vk3 vk4 vk5 vk6 vk7
  clear HF0 HG0
  have PX:=hd_ h23
  have ba:=aa_ wv3 (.cells #[.slice a23 n23 c23,.slice b23 m23 d23] 35)
  have BX:=hd_ (ai_ wv3 #[.slice a23 n23 c23,.slice b23 m23 d23] 35)
  have bb:=ab_ b ba
  replace PX:=PX.l_ ba
  replace HB:=bt_ HB bb
  replace X0:=bl_ X0 bb
  replace X1:=bl_ X1 bb
  replace BM:=bl_ BM bb
  replace BN:=bl_ BN bb
  replace HF1:=HF1.l_ bb
  replace HG1:=HG1.l_ bb
  replace RU:=RU.l_ bb
  replace RV:=RV.l_ bb
  replace SU:=SU.l_ bb
  replace SV:=SV.l_ bb
  clear b ba bb
  clear h23
  go_upto_region 6 with fail
  generalize wv3.alloc (.cells #[.slice a23 n23 c23,.slice b23 m23 d23] 35)=wr at *
  obtain⟨vk0,vk1,vk2,vk3,vk4,vk5,vk6,vk7,vk8,vk9⟩:=da_ X0.out X1.out BM.out BN.out BX.out
  go_wp2_with fail
  refine (HTY _ HF1.out HG1.out).mono ?_
  rintro e wv4 ⟨a24,n24,c24,b24,m24,d24,rfl,h24,b⟩
  clear vk0 vk1 vk2 vk3 vk4 vk5 vk6 vk7 vk8 vk9
  clear HF1 HG1
  have PY:=hd_ h24
  have ba:=aa_ wv4 (.cells #[.slice a24 n24 c24,.slice b24 m24 d24] 35)
  have BY:=hd_ (ai_ wv4 #[.slice a24 n24 c24,.slice b24 m24 d24] 35)
  have bb:=ab_ b ba
  replace PY:=PY.l_ ba
  replace HB:=bt_ HB bb
  replace X0:=bl_ X0 bb
  replace X1:=bl_ X1 bb
  replace BM:=bl_ BM bb
  replace BN:=bl_ BN bb
  replace BX:=bl_ BX bb
  replace RU:=RU.l_ bb
  replace RV:=RV.l_ bb
  replace SU:=SU.l_ bb
  replace SV:=SV.l_ bb
  replace PX:=PX.l_ bb
  clear b ba bb
  clear h24
  go_upto_region 7 with fail
  generalize wv4.alloc (.cells #[.slice a24 n24 c24,.slice b24 m24 d24] 35)=wr at *
  clear X0 X1 HNM HNN HTX HTY
  obtain⟨vk0,vk1,vk2,vk3,vk4,vk5,vk6,vk7⟩:=a3_ BM.out BN.out BX.out BY.out
  go_wp2_with fail
  refine (HQX _ _ _ _ _ _ _ _ _ _ _ _ _ PX.out PY.out).mono ?_
  rintro e wv5 ⟨a25,n25,c25,b25,m25,d25,rfl,h25,g25,b⟩
  clear vk0 vk1 vk2 vk3 vk4 vk5 vk6 vk7
  have QU:=hd_ h25
  have QV:=hd_ g25
  have ba:=aa_ wv5 (.cells #[.slice a25 n25 c25,.slice b25 m25 d25] 35)
  have BQ:=hd_ (ai_ wv5 #[.slice a25 n25 c25,.slice b25 m25 d25] 35)
  have bb:=ab_ b ba
  replace QU:=QU.l_ ba
  replace QV:=QV.l_ ba
  replace HB:=bt_ HB bb
  replace BM:=bl_ BM bb
  replace BN:=bl_ BN bb
  replace BX:=bl_ BX bb
  replace BY:=bl_ BY bb
  replace RU:=RU.l_ bb
  replace RV:=RV.l_ bb
  replace SU:=SU.l_ bb
  replace SV:=SV.l_ bb
  replace PX:=PX.l_ bb
  replace PY:=PY.l_ bb
  clear b ba bb
  clear h25 g25
  go_upto_region 8 with fail
  generalize wv5.alloc (.cells #[.slice a25 n25 c25,.slice b25 m25 d25] 35)=wr at *
  obtain⟨vk0,vk1,vk2,vk3,vk4,vk5,vk6,vk7,vk8,vk9⟩:=da_ BM.out BN.out BX.out BY.out BQ.out
  go_wp2_with fail
  refine (HI0 _).mono ?_
  rintro e wv6 ⟨a26,n26,c26,b26,m26,d26,rfl,h26,g26,b⟩
  clear vk0 vk1 vk2 vk3 vk4 vk5 vk6 vk7 vk8 vk9
  have A26:=hd_ h26
  have D26:=hd_ g26
  replace HB:=bt_ HB b
  replace BM:=bl_ BM b
  replace BN:=bl_ BN b
  replace BX:=bl_ BX b
  replace BY:=bl_ BY b
  replace BQ:=bl_ BQ b
  replace RU:=RU.l_ b
  replace RV:=RV.l_ b
  replace SU:=SU.l_ b
  replace SV:=SV.l_ b
  replace PX:=PX.l_ b
  replace PY:=PY.l_ b
  replace QU:=QU.l_ b
  replace QV:=QV.l_ b
  clear b
  clear h26 g26
  (try unfold frV)
  obtain⟨vk0,vk1,vk2,vk3,vk4,vk5,vk6,vk7,vk8,vk9⟩:=da_ BM.out BN.out BX.out BY.out BQ.out
  go_wp2_with fail
  refine (HO0 _ _ _ _ _ _ _ A26.out D26.out).mono ?_
  rintro e wv7 ⟨a27,n27,c27,b27,m27,d27,rfl,h27,g27,b⟩
  clear vk0 vk1 vk2 vk3 vk4 vk5 vk6 vk7 vk8 vk9
  clear A26 D26
  have WU:=hd_ h27
  have WV:=hd_ g27
  replace HB:=bt_ HB b
  replace BM:=bl_ BM b
  replace BN:=bl_ BN b
  replace BX:=bl_ BX b
  replace BY:=bl_ BY b
  replace BQ:=bl_ BQ b
  replace RU:=RU.l_ b
  replace RV:=RV.l_ b
  replace SU:=SU.l_ b
  replace SV:=SV.l_ b
  replace PX:=PX.l_ b
  replace PY:=PY.l_ b
  replace QU:=QU.l_ b
  replace QV:=QV.l_ b
  clear b
  clear h27 g27
  obtain⟨gw,hgw⟩:∃g,wv7.heap.size=g:=⟨_,rfl⟩
  have lBM:wv1.heap.size < gw:=hgw▸h9_ BM.out
  have lBN:wv2.heap.size < gw:=hgw▸h9_ BN.out
  have lBX:wv3.heap.size < gw:=hgw▸h9_ BX.out
  have lBY:wv4.heap.size < gw:=hgw▸h9_ BY.out
  have lBQ:wv5.heap.size < gw:=hgw▸h9_ BQ.out
  have lW:w.heap.size≤gw:=hgw▸HB.out.size
  have ba:=aa_ wv7 (.cells #[.slice a27 n27 c27,.slice b27 m27 d27] 24)
  have BW:=hd_ (ai_ wv7 #[.slice a27 n27 c27,.slice b27 m27 d27] 24)
  rw[hgw] at BW
  replace HB:=bt_ HB ba
  replace BM:=bl_ BM ba
  replace BN:=bl_ BN ba
  replace BX:=bl_ BX ba
  replace BY:=bl_ BY ba
  replace BQ:=bl_ BQ ba
  replace RU:=RU.l_ ba
  replace RV:=RV.l_ ba
  replace SU:=SU.l_ ba
  replace SV:=SV.l_ ba
  replace PX:=PX.l_ ba
  replace PY:=PY.l_ ba
  replace QU:=QU.l_ ba
  replace QV:=QV.l_ ba
  replace WU:=WU.l_ ba
  replace WV:=WV.l_ ba
  clear ba
  go_upto_region 9 with fail
  generalize wv7.alloc (.cells #[.slice a27 n27 c27,.slice b27 m27 d27] 24)=wr at *
  (try rw[hgw])
  clear hgw
  obtain⟨gm,hgm⟩:∃g,wv1.heap.size=g:=⟨_,rfl⟩
  rw[hgm] at BM lBM ⊢
  clear hgm
  obtain⟨gn,hgn⟩:∃g,wv2.heap.size=g:=⟨_,rfl⟩
  rw[hgn] at BN lBN ⊢
  clear hgn
  obtain⟨gx,hgx⟩:∃g,wv3.heap.size=g:=⟨_,rfl⟩
  rw[hgx] at BX lBX ⊢
  clear hgx
  obtain⟨gy,hgy⟩:∃g,wv4.heap.size=g:=⟨_,rfl⟩
  rw[hgy] at BY lBY ⊢
  clear hgy
  obtain⟨gq,hgq⟩:∃g,wv5.heap.size=g:=⟨_,rfl⟩
  rw[hgq] at BQ lBQ ⊢
  clear hgq
  obtain⟨vk0,vk1,vk2,vk3,vk4,vk5,vk6,vk7,vk8,vk9,vk10,vk11⟩:=dd_ BM.out BN.out BX.out BY.out BQ.out BW.out
  go_wp2_with fail
  refine (HZN _ _ _ _ _ _ _ SU.out SV.out).mono ?_
  rintro e wv8 ⟨rfl,b⟩
  clear vk0 vk1 vk2 vk3 vk4 vk5 vk6 vk7 vk8 vk9 vk10 vk11
  replace HB:=bt_ HB b
  replace BM:=bl_ BM b
  replace BN:=bl_ BN b
  replace BX:=bl_ BX b
  replace BY:=bl_ BY b
  replace BQ:=bl_ BQ b
  replace BW:=bl_ BW b
  replace RU:=RU.l_ b
  replace RV:=RV.l_ b
  replace SU:=SU.l_ b
  replace SV:=SV.l_ b
  replace PX:=PX.l_ b
  replace PY:=PY.l_ b
  replace QU:=QU.l_ b
  replace QV:=QV.l_ b
  replace WU:=WU.l_ b
  replace WV:=WV.l_ b
  clear b
  obtain⟨vk0,vk1,vk2,vk3,vk4,vk5,vk6,vk7,vk8,vk9,vk10,vk11⟩:=dd_ BM.out BN.out BX.out BY.out BQ.out BW.out
  go_wp2_with fail
  refine (HPX _ _ _ _ _ _ _ PX.out).mono ?_
  rintro e wv9 ⟨a31,n31,c31,b31,m31,d31,rfl,h31,g31,b⟩
  clear vk0 vk1 vk2 vk3 vk4 vk5 vk6 vk7 vk8 vk9 vk10 vk11
  have FU9:=hd_ h31
  have FV:=hd_ g31
  have ba:=aa_ wv9 (.cells #[.slice a31 n31 c31,.slice b31 m31 d31] 35)
  have BP:=hd_ (ai_ wv9 #[.slice a31 n31 c31,.slice b31 m31 d31] 35)
  have bb:=ab_ b ba
  replace FU9:=FU9.l_ ba
  replace FV:=FV.l_ ba
  replace HB:=bt_ HB bb
  replace BM:=bl_ BM bb
  replace BN:=bl_ BN bb
  replace BX:=bl_ BX bb
  replace BY:=bl_ BY bb
  replace BQ:=bl_ BQ bb
  replace BW:=bl_ BW bb
  replace RU:=RU.l_ bb
  replace RV:=RV.l_ bb
  replace SU:=SU.l_ bb
  replace SV:=SV.l_ bb
  replace PX:=PX.l_ bb
  replace PY:=PY.l_ bb
  replace QU:=QU.l_ bb
  replace QV:=QV.l_ bb
  replace WU:=WU.l_ bb
  replace WV:=WV.l_ bb
  clear b ba bb
  clear h31 g31
  go_upto_region 12 with fail
  generalize wv9.alloc (.cells #[.slice a31 n31 c31,.slice b31 m31 d31] 35)=wr at *
  obtain⟨vk0,vk1,vk2,vk3,vk4,vk5,vk6,vk7,vk8,vk9,vk10,vk11,vk12,vk13⟩:=a5_ BM.out BN.out BX.out BY.out BQ.out BW.out BP.out
  go_wp2_with fail
  refine (HPM _ _ _ _ _ _ _ RU.out RV.out).mono ?_
  rintro e wv10 ⟨a32,n32,c32,b32,m32,d32,rfl,h32,g32,b⟩
  clear vk0 vk1 vk2 vk3 vk4 vk5 vk6 vk7 vk8 vk9 vk10 vk11 vk12 vk13
  have GU:=hd_ h32
  have GV:=hd_ g32
  have ba:=aa_ wv10 (.cells #[.slice a32 n32 c32,.slice b32 m32 d32] 24)
  have BR:=hd_ (ai_ wv10 #[.slice a32 n32 c32,.slice b32 m32 d32] 24)
  have bb:=ab_ b ba
  replace GU:=GU.l_ ba
  replace GV:=GV.l_ ba
  replace HB:=bt_ HB bb
  replace BM:=bl_ BM bb
  replace BN:=bl_ BN bb
  replace BX:=bl_ BX bb
  replace BY:=bl_ BY bb
  replace BQ:=bl_ BQ bb
  replace BW:=bl_ BW bb
  replace BP:=bl_ BP bb
  replace RU:=RU.l_ bb
  replace RV:=RV.l_ bb
  replace SU:=SU.l_ bb
  replace SV:=SV.l_ bb
  replace PX:=PX.l_ bb
  replace PY:=PY.l_ bb
  replace QU:=QU.l_ bb
  replace QV:=QV.l_ bb
  replace WU:=WU.l_ bb
  replace WV:=WV.l_ bb
  replace FU9:=FU9.l_ bb
  replace FV:=FV.l_ bb
  clear b ba bb
  clear h32 g32
  go_upto_region 13 with fail
  generalize wv10.alloc (.cells #[.slice a32 n32 c32,.slice b32 m32 d32] 24)=wr at *
  obtain⟨gp,hgp⟩:∃g,wv9.heap.size=g:=⟨_,rfl⟩
  rw[hgp] at BP ⊢
  clear hgp
  obtain⟨gr,hgr⟩:∃g,wv10.heap.size=g:=⟨_,rfl⟩
  rw[hgr] at BR ⊢
  clear hgr
  clear HQX HI0 HO0 HPX HPM
  obtain⟨t0,t1,t2,t3,t4,t5,t6,t7,t8,t9,t10,t11,t12,t13⟩:=a5_ BX.out BM.out BN.out BQ.out BW.out BP.out BR.out
  go_wp2
  clear t0 t1 t2 t3 t4 t5 t6 t7 t8 t9 t10 t11 t12 t13
  replace HB:=bt_ HB (dw_ wr)
  replace BX:Hid (wr.drew.heap[gx]? = _):=hd_ BX.out
  replace BM:Hid (wr.drew.heap[gm]? = _):=hd_ BM.out
  replace BN:Hid (wr.drew.heap[gn]? = _):=hd_ BN.out
  replace BQ:Hid (wr.drew.heap[gq]? = _):=hd_ BQ.out
  replace BW:Hid (wr.drew.heap[gw]? = _):=hd_ BW.out
  replace BP:Hid (wr.drew.heap[gp]? = _):=hd_ BP.out
  replace BR:Hid (wr.drew.heap[gr]? = _):=hd_ BR.out
  replace BY:Hid (wr.drew.heap[gy]? = some (.cells #[.slice a24 n24 c24,.slice b24 m24 d24] 35 (0,0))):=hd_ BY.out
  replace PX:=PX.l_ (dw_ wr)
  replace PY:=PY.l_ (dw_ wr)
  replace RU:=RU.l_ (dw_ wr)
  replace RV:=RV.l_ (dw_ wr)
  replace SU:=SU.l_ (dw_ wr)
  replace SV:=SV.l_ (dw_ wr)
  replace QU:=QU.l_ (dw_ wr)
  replace QV:=QV.l_ (dw_ wr)
  replace WU:=WU.l_ (dw_ wr)
  replace WV:=WV.l_ (dw_ wr)
  replace FU9:=FU9.l_ (dw_ wr)
  replace FV:=FV.l_ (dw_ wr)
  replace GU:=GU.l_ (dw_ wr)
  replace GV:=GV.l_ (dw_ wr)
  have pSn:=a5_ BX.out BM.out BN.out BQ.out BW.out BP.out BR.out
  go_region_held3 (fun w'=>w'.cell? ⟨gx,0,none⟩=some (.slice a23 n23 c23)∧w'.cell? ⟨gx,1,none⟩=some (.slice b23 m23 d23)∧w'.cell? ⟨gm,0,none⟩=some (.slice a21 n21 c21)∧w'.cell? ⟨gm,1,none⟩=some (.slice b21 m21 d21)∧w'.cell? ⟨gn,0,none⟩=some (.slice a22 n22 c22)∧w'.cell? ⟨gn,1,none⟩=some (.slice b22 m22 d22)∧w'.cell? ⟨gq,0,none⟩=some (.slice a25 n25 c25)∧w'.cell? ⟨gq,1,none⟩=some (.slice b25 m25 d25)∧w'.cell? ⟨gw,0,none⟩=some (.slice a27 n27 c27)∧w'.cell? ⟨gw,1,none⟩=some (.slice b27 m27 d27)∧w'.cell? ⟨gp,0,none⟩=some (.slice a31 n31 c31)∧w'.cell? ⟨gp,1,none⟩=some (.slice b31 m31 d31)∧w'.cell? ⟨gr,0,none⟩=some (.slice a32 n32 c32)∧w'.cell? ⟨gr,1,none⟩=some (.slice b32 m32 d32)) (exact pSn)
   (first
   | (go_at_call 19;(first
     | (have pm5:=pM5;refine (HIG _ _ _ _ _ _ _ _ _ _ _ _ _ R61.out S61.out R62.out S62.out).mono ?_;rintro e wp6 ⟨rfl,b⟩;replace HB:=bt_ HB b;replace BX:=bl_ BX b;replace BM:=bl_ BM b;replace BN:=bl_ BN b;replace BQ:=bl_ BQ b;replace BW:=bl_ BW b;replace BP:=bl_ BP b;replace BR:=bl_ BR b;replace BY:=bl_ BY b;replace PX:=PX.l_ b;replace PY:=PY.l_ b;replace RU:=RU.l_ b;replace RV:=RV.l_ b;replace SU:=SU.l_ b;replace SV:=SV.l_ b;replace QU:=QU.l_ b;replace QV:=QV.l_ b;replace WU:=WU.l_ b;replace WV:=WV.l_ b;replace FU9:=FU9.l_ b;replace FV:=FV.l_ b;replace GU:=GU.l_ b;replace GV:=GV.l_ b;clear R61;clear S61;clear R62;clear S62;clear b;clear pSn;have pSn:=a5_ BX.out BM.out BN.out BQ.out BW.out BP.out BR.out;clear pM5 pm5;have pM6:=True.intro)
     | (have pm2:=pM2;refine (HIP _ _ _ _ _ _ _ _ _ _ _ _ _ FU9.out FV.out GU.out GV.out).mono ?_;rintro e wp3 ⟨rfl,b⟩;replace HB:=bt_ HB b;replace BX:=bl_ BX b;replace BM:=bl_ BM b;replace BN:=bl_ BN b;replace BQ:=bl_ BQ b;replace BW:=bl_ BW b;replace BP:=bl_ BP b;replace BR:=bl_ BR b;replace BY:=bl_ BY b;replace PX:=PX.l_ b;replace PY:=PY.l_ b;replace RU:=RU.l_ b;replace RV:=RV.l_ b;replace SU:=SU.l_ b;replace SV:=SV.l_ b;replace QU:=QU.l_ b;replace QV:=QV.l_ b;replace WU:=WU.l_ b;replace WV:=WV.l_ b;replace FU9:=FU9.l_ b;replace FV:=FV.l_ b;replace GU:=GU.l_ b;replace GV:=GV.l_ b;clear b;clear pSn;have pSn:=a5_ BX.out BM.out BN.out BQ.out BW.out BP.out BR.out;clear pM2 pm2;have pM3:=True.intro)
     | (refine (HIQ _ _ _ _ _ _ _ _ _ _ _ _ _ QU.out QV.out WU.out WV.out).mono ?_;rintro e wp1 ⟨rfl,b⟩;replace HB:=bt_ HB b;replace BX:=bl_ BX b;replace BM:=bl_ BM b;replace BN:=bl_ BN b;replace BQ:=bl_ BQ b;replace BW:=bl_ BW b;replace BP:=bl_ BP b;replace BR:=bl_ BR b;replace BY:=bl_ BY b;replace PX:=PX.l_ b;replace PY:=PY.l_ b;replace RU:=RU.l_ b;replace RV:=RV.l_ b;replace SU:=SU.l_ b;replace SV:=SV.l_ b;replace QU:=QU.l_ b;replace QV:=QV.l_ b;replace WU:=WU.l_ b;replace WV:=WV.l_ b;replace FU9:=FU9.l_ b;replace FV:=FV.l_ b;replace GU:=GU.l_ b;replace GV:=GV.l_ b;clear b;clear pSn;have pSn:=a5_ BX.out BM.out BN.out BQ.out BW.out BP.out BR.out;have pM1:=True.intro)))
   | (go_at_call 21;(first
     | (have pm1:=pM1;refine (HZN _ _ _ _ _ _ _ SU.out SV.out).mono ?_;rintro e wp2 ⟨rfl,b⟩;replace HB:=bt_ HB b;replace BX:=bl_ BX b;replace BM:=bl_ BM b;replace BN:=bl_ BN b;replace BQ:=bl_ BQ b;replace BW:=bl_ BW b;replace BP:=bl_ BP b;replace BR:=bl_ BR b;replace BY:=bl_ BY b;replace PX:=PX.l_ b;replace PY:=PY.l_ b;replace RU:=RU.l_ b;replace RV:=RV.l_ b;replace SU:=SU.l_ b;replace SV:=SV.l_ b;replace QU:=QU.l_ b;replace QV:=QV.l_ b;replace WU:=WU.l_ b;replace WV:=WV.l_ b;replace FU9:=FU9.l_ b;replace FV:=FV.l_ b;replace GU:=GU.l_ b;replace GV:=GV.l_ b;clear b;clear pSn;have pSn:=a5_ BX.out BM.out BN.out BQ.out BW.out BP.out BR.out;clear pM1 pm1;have pM2:=True.intro)))
   | (go_at_call 33;(first
     | (have pm3:=pM3;refine (HNX _ _ _ _ _ _ _ PX.out).mono ?_;rintro e wp4 ⟨a61,n61,c61,b61,m61,d61,rfl,h61,g61,b⟩;replace HB:=bt_ HB b;replace BX:=bl_ BX b;replace BM:=bl_ BM b;replace BN:=bl_ BN b;replace BQ:=bl_ BQ b;replace BW:=bl_ BW b;replace BP:=bl_ BP b;replace BR:=bl_ BR b;replace BY:=bl_ BY b;replace PX:=PX.l_ b;replace PY:=PY.l_ b;replace RU:=RU.l_ b;replace RV:=RV.l_ b;replace SU:=SU.l_ b;replace SV:=SV.l_ b;replace QU:=QU.l_ b;replace QV:=QV.l_ b;replace WU:=WU.l_ b;replace WV:=WV.l_ b;replace FU9:=FU9.l_ b;replace FV:=FV.l_ b;replace GU:=GU.l_ b;replace GV:=GV.l_ b;have R61:=hd_ h61;have S61:=hd_ g61;clear h61 g61;clear b;clear pSn;have pSn:=a5_ BX.out BM.out BN.out BQ.out BW.out BP.out BR.out;clear pM3 pm3;have pM4:=True.intro)))
   | (go_at_call 34;(first
     | (have pm4:=pM4;refine (HNG _ _ _ _ _ _ _ RU.out RV.out).mono ?_;rintro e wp5 ⟨a62,n62,c62,b62,m62,d62,rfl,h62,g62,b⟩;replace HB:=bt_ HB b;replace BX:=bl_ BX b;replace BM:=bl_ BM b;replace BN:=bl_ BN b;replace BQ:=bl_ BQ b;replace BW:=bl_ BW b;replace BP:=bl_ BP b;replace BR:=bl_ BR b;replace BY:=bl_ BY b;replace PX:=PX.l_ b;replace PY:=PY.l_ b;replace RU:=RU.l_ b;replace RV:=RV.l_ b;replace SU:=SU.l_ b;replace SV:=SV.l_ b;replace QU:=QU.l_ b;replace QV:=QV.l_ b;replace WU:=WU.l_ b;replace WV:=WV.l_ b;replace FU9:=FU9.l_ b;replace FV:=FV.l_ b;replace GU:=GU.l_ b;replace GV:=GV.l_ b;replace R61:=R61.l_ b;replace S61:=S61.l_ b;have R62:=hd_ h62;have S62:=hd_ g62;clear h62 g62;clear b;clear pSn;have pSn:=a5_ BX.out BM.out BN.out BQ.out BW.out BP.out BR.out;clear pM4 pm4;have pM5:=True.intro))))
  clear BQ BW BP BR QU QV WU WV FU9 FV GU GV HIQ HZN HIP HNX HNG HIG
  go_upto_region 15 with fail
  obtain⟨t0,t1,t2,t3,t4,t5,t6,t7⟩:=a3_ BX.out BY.out BM.out BN.out
  go_wp2
  clear t0 t1 t2 t3 t4 t5 t6 t7
  replace HB:=bt_ HB (dw_ wp6)
  replace BX:Hid (wp6.drew.heap[gx]? = _):=hd_ BX.out
  replace BY:Hid (wp6.drew.heap[gy]? = _):=hd_ BY.out
  replace BM:Hid (wp6.drew.heap[gm]? = _):=hd_ BM.out
  replace BN:Hid (wp6.drew.heap[gn]? = _):=hd_ BN.out
  replace PX:=PX.l_ (dw_ wp6)
  replace PY:=PY.l_ (dw_ wp6)
  replace RU:=RU.l_ (dw_ wp6)
  replace RV:=RV.l_ (dw_ wp6)
  replace SU:=SU.l_ (dw_ wp6)
  replace SV:=SV.l_ (dw_ wp6)
  have qSn:=a3_ BX.out BY.out BM.out BN.out
  go_region_held3 (fun w'=>w'.cell? ⟨gx,0,none⟩=some (.slice a23 n23 c23)∧w'.cell? ⟨gx,1,none⟩=some (.slice b23 m23 d23)∧w'.cell? ⟨gy,0,none⟩=some (.slice a24 n24 c24)∧w'.cell? ⟨gy,1,none⟩=some (.slice b24 m24 d24)∧w'.cell? ⟨gm,0,none⟩=some (.slice a21 n21 c21)∧w'.cell? ⟨gm,1,none⟩=some (.slice b21 m21 d21)∧w'.cell? ⟨gn,0,none⟩=some (.slice a22 n22 c22)∧w'.cell? ⟨gn,1,none⟩=some (.slice b22 m22 d22)) (exact qSn)
   (first
   | (go_at_call 35;(first
     | (refine (HAX _ _ _ _ _ _ _ _ _ _ _ _ _ PX.out PY.out).mono ?_;rintro e wq1 ⟨a71,n71,c71,b71,m71,d71,rfl,h71,g71,b⟩;replace HB:=bt_ HB b;replace BX:=bl_ BX b;replace BY:=bl_ BY b;replace BM:=bl_ BM b;replace BN:=bl_ BN b;replace PX:=PX.l_ b;replace PY:=PY.l_ b;replace RU:=RU.l_ b;replace RV:=RV.l_ b;replace SU:=SU.l_ b;replace SV:=SV.l_ b;have R71:=hd_ h71;have S71:=hd_ g71;clear h71 g71;clear b;clear qSn;have qSn:=a3_ BX.out BY.out BM.out BN.out;have qM1:=True.intro)))
   | (go_at_call 36;(first
     | (have qm5:=qM5;refine (HSM _ _ _ _ _ _ _ _ _ _ _ _ _ RU.out RV.out R74.out S74.out).mono ?_;rintro e wq6 ⟨a75,n75,c75,b75,m75,d75,rfl,h75,g75,b⟩;replace HB:=bt_ HB b;replace BX:=bl_ BX b;replace BY:=bl_ BY b;replace BM:=bl_ BM b;replace BN:=bl_ BN b;replace PX:=PX.l_ b;replace PY:=PY.l_ b;replace RU:=RU.l_ b;replace RV:=RV.l_ b;replace SU:=SU.l_ b;replace SV:=SV.l_ b;replace R73:=R73.l_ b;replace S73:=S73.l_ b;clear R74;clear S74;have R75:=hd_ h75;have S75:=hd_ g75;clear h75 g75;clear b;clear qSn;have qSn:=a3_ BX.out BY.out BM.out BN.out;clear qM5 qm5;have qM6:=True.intro)
     | (have qm1:=qM1;refine (HAM _ _ _ _ _ _ _ _ _ _ _ _ _ RU.out RV.out SU.out SV.out).mono ?_;rintro e wq2 ⟨a72,n72,c72,b72,m72,d72,rfl,h72,g72,b⟩;replace HB:=bt_ HB b;replace BX:=bl_ BX b;replace BY:=bl_ BY b;replace BM:=bl_ BM b;replace BN:=bl_ BN b;replace PX:=PX.l_ b;replace PY:=PY.l_ b;replace RU:=RU.l_ b;replace RV:=RV.l_ b;replace SU:=SU.l_ b;replace SV:=SV.l_ b;replace R71:=R71.l_ b;replace S71:=S71.l_ b;have R72:=hd_ h72;have S72:=hd_ g72;clear h72 g72;clear b;clear qSn;have qSn:=a3_ BX.out BY.out BM.out BN.out;clear qM1 qm1;have qM2:=True.intro)))
   | (go_at_call 19;(first
     | (have qm9:=qM9;refine (HIM _ _ _ _ _ _ _ _ _ _ _ _ _ R76.out S76.out R77.out S77.out).mono ?_;rintro e wq10 ⟨rfl,b⟩;replace HB:=bt_ HB b;replace BX:=bl_ BX b;replace BY:=bl_ BY b;replace BM:=bl_ BM b;replace BN:=bl_ BN b;replace PX:=PX.l_ b;replace PY:=PY.l_ b;replace RU:=RU.l_ b;replace RV:=RV.l_ b;replace SU:=SU.l_ b;replace SV:=SV.l_ b;clear R76;clear S76;clear R77;clear S77;clear b;clear qSn;have qSn:=a3_ BX.out BY.out BM.out BN.out;clear qM9 qm9;have qM10:=True.intro)
     | (have qm6:=qM6;refine (HID _ _ _ _ _ _ _ _ _ _ _ _ _ R73.out S73.out R75.out S75.out).mono ?_;rintro e wq7 ⟨rfl,b⟩;replace HB:=bt_ HB b;replace BX:=bl_ BX b;replace BY:=bl_ BY b;replace BM:=bl_ BM b;replace BN:=bl_ BN b;replace PX:=PX.l_ b;replace PY:=PY.l_ b;replace RU:=RU.l_ b;replace RV:=RV.l_ b;replace SU:=SU.l_ b;replace SV:=SV.l_ b;clear R73;clear S73;clear R75;clear S75;clear b;clear qSn;have qSn:=a3_ BX.out BY.out BM.out BN.out;clear qM6 qm6;have qM7:=True.intro)
     | (have qm2:=qM2;refine (HIA _ _ _ _ _ _ _ _ _ _ _ _ _ R71.out S71.out R72.out S72.out).mono ?_;rintro e wq3 ⟨rfl,b⟩;replace HB:=bt_ HB b;replace BX:=bl_ BX b;replace BY:=bl_ BY b;replace BM:=bl_ BM b;replace BN:=bl_ BN b;replace PX:=PX.l_ b;replace PY:=PY.l_ b;replace RU:=RU.l_ b;replace RV:=RV.l_ b;replace SU:=SU.l_ b;replace SV:=SV.l_ b;clear R71;clear S71;clear R72;clear S72;clear b;clear qSn;have qSn:=a3_ BX.out BY.out BM.out BN.out;clear qM2 qm2;have qM3:=True.intro)))
   | (go_at_call 37;(first
     | (have qm3:=qM3;refine (HSX _ _ _ _ _ _ _ _ _ _ _ _ _ PX.out PY.out).mono ?_;rintro e wq4 ⟨a73,n73,c73,b73,m73,d73,rfl,h73,g73,b⟩;replace HB:=bt_ HB b;replace BX:=bl_ BX b;replace BY:=bl_ BY b;replace BM:=bl_ BM b;replace BN:=bl_ BN b;replace PX:=PX.l_ b;replace PY:=PY.l_ b;replace RU:=RU.l_ b;replace RV:=RV.l_ b;replace SU:=SU.l_ b;replace SV:=SV.l_ b;have R73:=hd_ h73;have S73:=hd_ g73;clear h73 g73;clear b;clear qSn;have qSn:=a3_ BX.out BY.out BM.out BN.out;clear qM3 qm3;have qM4:=True.intro)))
   | (go_at_call 34;(first
     | (have qm4:=qM4;refine (HN2 _ _ _ _ _ _ _ SU.out SV.out).mono ?_;rintro e wq5 ⟨a74,n74,c74,b74,m74,d74,rfl,h74,g74,b⟩;replace HB:=bt_ HB b;replace BX:=bl_ BX b;replace BY:=bl_ BY b;replace BM:=bl_ BM b;replace BN:=bl_ BN b;replace PX:=PX.l_ b;replace PY:=PY.l_ b;replace RU:=RU.l_ b;replace RV:=RV.l_ b;replace SU:=SU.l_ b;replace SV:=SV.l_ b;replace R73:=R73.l_ b;replace S73:=S73.l_ b;have R74:=hd_ h74;have S74:=hd_ g74;clear h74 g74;clear b;clear qSn;have qSn:=a3_ BX.out BY.out BM.out BN.out;clear qM4 qm4;have qM5:=True.intro)))
   | (go_at_call 38;(first
     | (have qm7:=qM7;refine (HMX _ _ _ _ _ _ _ _ _ _ _ _ _ PX.out PY.out).mono ?_;rintro e wq8 ⟨a76,n76,c76,b76,m76,d76,rfl,h76,g76,b⟩;replace HB:=bt_ HB b;replace BX:=bl_ BX b;replace BY:=bl_ BY b;replace BM:=bl_ BM b;replace BN:=bl_ BN b;replace PX:=PX.l_ b;replace PY:=PY.l_ b;replace RU:=RU.l_ b;replace RV:=RV.l_ b;replace SU:=SU.l_ b;replace SV:=SV.l_ b;have R76:=hd_ h76;have S76:=hd_ g76;clear h76 g76;clear b;clear qSn;have qSn:=a3_ BX.out BY.out BM.out BN.out;clear qM7 qm7;have qM8:=True.intro)))
   | (go_at_call 39;(first
     | (have qm8:=qM8;refine (HMM _ _ _ _ _ _ _ _ _ _ _ _ _ RU.out RV.out SU.out SV.out).mono ?_;rintro e wq9 ⟨a77,n77,c77,b77,m77,d77,rfl,h77,g77,b⟩;replace HB:=bt_ HB b;replace BX:=bl_ BX b;replace BY:=bl_ BY b;replace BM:=bl_ BM b;replace BN:=bl_ BN b;replace PX:=PX.l_ b;replace PY:=PY.l_ b;replace RU:=RU.l_ b;replace RV:=RV.l_ b;replace SU:=SU.l_ b;replace SV:=SV.l_ b;replace R76:=R76.l_ b;replace S76:=S76.l_ b;have R77:=hd_ h77;have S77:=hd_ g77;clear h77 g77;clear b;clear qSn;have qSn:=a3_ BX.out BY.out BM.out BN.out;clear qM8 qm8;have qM9:=True.intro)))
   | (go_at_call 9;(first
     | (have qm10:=qM10;refine (HW _).mono ?_;rintro e wq11 ⟨rfl,b⟩;replace HB:=bt_ HB b;replace BX:=bl_ BX b;replace BY:=bl_ BY b;replace BM:=bl_ BM b;replace BN:=bl_ BN b;replace PX:=PX.l_ b;replace PY:=PY.l_ b;replace RU:=RU.l_ b;replace RV:=RV.l_ b;replace SU:=SU.l_ b;replace SV:=SV.l_ b;clear b;clear qSn;have qSn:=a3_ BX.out BY.out BM.out BN.out;clear qM10 qm10;have qM11:=True.intro))))
  all_goals (
   go_wp2
   go_ret
   exact⟨rfl,HB.out⟩)
theorem qf_(HW:∀w:World,Calls Tryz.prog 9 #[] w (bi_ (.bool true) w))(U V U2 V2 u1 v1 u2 v2 uq vq up vp ug vg us vs ud vd un vn um vm:LR_)(q0:Rat)(py:Bool)(a0:OA_)(n0 c0:Nat)(K0:List Fx)(b0:OA_)(m0 d0:Nat)(M0:List Fx)(a1:OA_)(n1 c1:Nat)(K1:List Fx)(b1:OA_)(m1 d1:Nat)(M1:List Fx)(e:Int)(w:World)(h0:Fxs w a0 n0 c0 K0)(j0:Fxs w b0 m0 d0 M0)(h1:Fxs w a1 n1 c1 K1)(j1:Fxs w b1 m1 d1 M1)(hb0:(((n0:Int)≤3∧thinI 1 K0)∧((m0:Int)≤3∧thinI 1 M0)))(hb1:(((n1:Int)≤3∧thinI 1 K1)∧((m1:Int)≤3∧thinI 1 M1)))(he:e < -8∨(-3≤e∧e≤3)∨8 < e)(HNM:∀w':World,Fxs w' a0 n0 c0 K0→Fxs w' b0 m0 d0 M0→Calls Tryz.prog 10 #[.agg #[.slice a0 n0 c0,.slice b0 m0 d0]] w' (LstX u1 v1 w'))(HNN:∀w':World,Fxs w' a1 n1 c1 K1→Fxs w' b1 m1 d1 M1→Calls Tryz.prog 10 #[.agg #[.slice a1 n1 c1,.slice b1 m1 d1]] w' (LstX u2 v2 w'))(HTX:∀w':World,Fxs w' a0 n0 c0 K0→Fxs w' b0 m0 d0 M0→Calls Tryz.prog 12 #[.agg #[.slice a0 n0 c0,.slice b0 m0 d0]] w' (LstP U V w'))(HTY:∀w':World,Fxs w' a1 n1 c1 K1→Fxs w' b1 m1 d1 M1→Calls Tryz.prog 12 #[.agg #[.slice a1 n1 c1,.slice b1 m1 d1]] w' (LstP U2 V2 w'))(HQX:∀(w':World) (a:OA_) (n c:Nat) (b:OA_) (m d:Nat) (a':OA_) (n' c':Nat) (b':OA_) (m' d':Nat),Pvs w' a n c b m d U V→Pvs w' a' n' c' b' m' d' U2 V2→Calls Tryz.prog 29 #[.agg #[.slice a n c,.slice b m d],.agg #[.slice a' n' c',.slice b' m' d']] w' (lr_ uq vq (.bool true) w'))(HI0:∀(w':World),Calls Tryz.prog 15 #[.int .i64 0] w' (LstQ q0 w'))(HO0:∀(w':World) (a1:OA_) (n1 c1:Nat) (b1:OA_) (m1 d1:Nat),Wd w' a1 n1 c1 (dg q0.num.natAbs)→Wd w' b1 m1 d1 (dg q0.den)→Calls Tryz.prog 14 #[.agg #[.bool (zneg q0.num),.slice a1 n1 c1,.slice b1 m1 d1]] w' (LstX [] [1] w'))(HZN:∀(w':World) (a:OA_) (n c:Nat) (b:OA_) (m d:Nat),Rw w' a n c u2→Rw w' b m d v2→Calls Tryz.prog 21 #[.agg #[.slice a n c,.slice b m d]] w' (bi_ (.bool false) w'))(HQM:∀(w':World) (a:OA_) (n c:Nat) (b:OA_) (m d:Nat) (a':OA_) (n' c':Nat) (b':OA_) (m' d':Nat),Rw w' a n c u1→Rw w' b m d v1→Rw w' a' n' c' u2→Rw w' b' m' d' v2→Calls Tryz.prog 30 #[.agg #[.slice a n c,.slice b m d],.agg #[.slice a' n' c',.slice b' m' d']] w' (LstX uq vq w'))(HPX:∀(w':World) (a:OA_) (n c:Nat) (b:OA_) (m d:Nat),Pvs w' a n c b m d U V→Calls Tryz.prog 31 #[.agg #[.slice a n c,.slice b m d],.int .i64 e] w' (lr_ up vp (.bool py) w'))(HPM:∀(w':World) (a:OA_) (n c:Nat) (b:OA_) (m d:Nat),Rw w' a n c u1→Rw w' b m d v1→Calls Tryz.prog 32 #[.agg #[.slice a n c,.slice b m d],.int .i64 e] w' (lr_ up vp (.bool py) w'))(HIQ:∀(w':World) (a:OA_) (n c:Nat) (b:OA_) (m d:Nat) (a':OA_) (n' c':Nat) (b':OA_) (m' d':Nat),Rw w' a n c uq→Rw w' b m d vq→Rw w' a' n' c' uq→Rw w' b' m' d' vq→Calls Tryz.prog 19 #[.agg #[.slice a n c,.slice b m d],.agg #[.slice a' n' c',.slice b' m' d']] w' (bi_ (.bool true) w'))(HIP:∀(w':World) (a:OA_) (n c:Nat) (b:OA_) (m d:Nat) (a':OA_) (n' c':Nat) (b':OA_) (m' d':Nat),Rw w' a n c up→Rw w' b m d vp→Rw w' a' n' c' up→Rw w' b' m' d' vp→Calls Tryz.prog 19 #[.agg #[.slice a n c,.slice b m d],.agg #[.slice a' n' c',.slice b' m' d']] w' (bi_ (.bool true) w'))(HNX:∀(w':World) (a:OA_) (n c:Nat) (b:OA_) (m d:Nat),Pvs w' a n c b m d U V→Calls Tryz.prog 33 #[.agg #[.slice a n c,.slice b m d]] w' (LstX ug vg w'))(HNG:∀(w':World) (a:OA_) (n c:Nat) (b:OA_) (m d:Nat),Rw w' a n c u1→Rw w' b m d v1→Calls Tryz.prog 34 #[.agg #[.slice a n c,.slice b m d]] w' (LstX ug vg w'))(HIG:∀(w':World) (a:OA_) (n c:Nat) (b:OA_) (m d:Nat) (a':OA_) (n' c':Nat) (b':OA_) (m' d':Nat),Rw w' a n c ug→Rw w' b m d vg→Rw w' a' n' c' ug→Rw w' b' m' d' vg→Calls Tryz.prog 19 #[.agg #[.slice a n c,.slice b m d],.agg #[.slice a' n' c',.slice b' m' d']] w' (bi_ (.bool true) w'))(HAX:∀(w':World) (a:OA_) (n c:Nat) (b:OA_) (m d:Nat) (a':OA_) (n' c':Nat) (b':OA_) (m' d':Nat),Pvs w' a n c b m d U V→Pvs w' a' n' c' b' m' d' U2 V2→Calls Tryz.prog 35 #[.agg #[.slice a n c,.slice b m d],.agg #[.slice a' n' c',.slice b' m' d']] w' (LstX us vs w'))(HAM:∀(w':World) (a:OA_) (n c:Nat) (b:OA_) (m d:Nat) (a':OA_) (n' c':Nat) (b':OA_) (m' d':Nat),Rw w' a n c u1→Rw w' b m d v1→Rw w' a' n' c' u2→Rw w' b' m' d' v2→Calls Tryz.prog 36 #[.agg #[.slice a n c,.slice b m d],.agg #[.slice a' n' c',.slice b' m' d']] w' (LstX us vs w'))(HIA:∀(w':World) (a:OA_) (n c:Nat) (b:OA_) (m d:Nat) (a':OA_) (n' c':Nat) (b':OA_) (m' d':Nat),Rw w' a n c us→Rw w' b m d vs→Rw w' a' n' c' us→Rw w' b' m' d' vs→Calls Tryz.prog 19 #[.agg #[.slice a n c,.slice b m d],.agg #[.slice a' n' c',.slice b' m' d']] w' (bi_ (.bool true) w'))(HSX:∀(w':World) (a:OA_) (n c:Nat) (b:OA_) (m d:Nat) (a':OA_) (n' c':Nat) (b':OA_) (m' d':Nat),Pvs w' a n c b m d U V→Pvs w' a' n' c' b' m' d' U2 V2→Calls Tryz.prog 37 #[.agg #[.slice a n c,.slice b m d],.agg #[.slice a' n' c',.slice b' m' d']] w' (LstX ud vd w'))(HN2:∀(w':World) (a:OA_) (n c:Nat) (b:OA_) (m d:Nat),Rw w' a n c u2→Rw w' b m d v2→Calls Tryz.prog 34 #[.agg #[.slice a n c,.slice b m d]] w' (LstX un vn w'))(HSM:∀(w':World) (a:OA_) (n c:Nat) (b:OA_) (m d:Nat) (a':OA_) (n' c':Nat) (b':OA_) (m' d':Nat),Rw w' a n c u1→Rw w' b m d v1→Rw w' a' n' c' un→Rw w' b' m' d' vn→Calls Tryz.prog 36 #[.agg #[.slice a n c,.slice b m d],.agg #[.slice a' n' c',.slice b' m' d']] w' (LstX ud vd w'))(HID:∀(w':World) (a:OA_) (n c:Nat) (b:OA_) (m d:Nat) (a':OA_) (n' c':Nat) (b':OA_) (m' d':Nat),Rw w' a n c ud→Rw w' b m d vd→Rw w' a' n' c' ud→Rw w' b' m' d' vd→Calls Tryz.prog 19 #[.agg #[.slice a n c,.slice b m d],.agg #[.slice a' n' c',.slice b' m' d']] w' (bi_ (.bool true) w'))(HMX:∀(w':World) (a:OA_) (n c:Nat) (b:OA_) (m d:Nat) (a':OA_) (n' c':Nat) (b':OA_) (m' d':Nat),Pvs w' a n c b m d U V→Pvs w' a' n' c' b' m' d' U2 V2→Calls Tryz.prog 38 #[.agg #[.slice a n c,.slice b m d],.agg #[.slice a' n' c',.slice b' m' d']] w' (LstX um vm w'))(HMM:∀(w':World) (a:OA_) (n c:Nat) (b:OA_) (m d:Nat) (a':OA_) (n' c':Nat) (b':OA_) (m' d':Nat),Rw w' a n c u1→Rw w' b m d v1→Rw w' a' n' c' u2→Rw w' b' m' d' v2→Calls Tryz.prog 39 #[.agg #[.slice a n c,.slice b m d],.agg #[.slice a' n' c',.slice b' m' d']] w' (LstX um vm w'))(HIM:∀(w':World) (a:OA_) (n c:Nat) (b:OA_) (m d:Nat) (a':OA_) (n' c':Nat) (b':OA_) (m' d':Nat),Rw w' a n c um→Rw w' b m d vm→Rw w' a' n' c' um→Rw w' b' m' d' vm→Calls Tryz.prog 19 #[.agg #[.slice a n c,.slice b m d],.agg #[.slice a' n' c',.slice b' m' d']] w' (bi_ (.bool true) w')):Calls Tryz.prog 4 #[.agg #[.slice a0 n0 c0,.slice b0 m0 d0],.agg #[.slice a1 n1 c1,.slice b1 m1 d1],.int .i64 e] w (bi_ (.bool true) w):=by
 have HNB0:=hd_ hb0
 have HNB1:=hd_ hb1
 have HB:=hd_ (ab_ (aa_ w (.cells #[.slice a0 n0 c0,.slice b0 m0 d0] 24)) (aa_ _ (.cells #[.slice a1 n1 c1,.slice b1 m1 d1] 24)))
 have X0:Hid (((w.alloc (.cells #[.slice a0 n0 c0,.slice b0 m0 d0] 24)).alloc (.cells #[.slice a1 n1 c1,.slice b1 m1 d1] 24)).heap[w.heap.size]? = some (.cells #[.slice a0 n0 c0,.slice b0 m0 d0] 24 (0,0))):=hd_ (ac_ (ai_ w _ _) (aa_ _ (.cells #[.slice a1 n1 c1,.slice b1 m1 d1] 24)))
 have X1:Hid (((w.alloc (.cells #[.slice a0 n0 c0,.slice b0 m0 d0] 24)).alloc (.cells #[.slice a1 n1 c1,.slice b1 m1 d1] 24)).heap[w.heap.size+1]? = some (.cells #[.slice a1 n1 c1,.slice b1 m1 d1] 24 (0,0))):=hd_ (by have h9:=ai_ (w.alloc (.cells #[.slice a0 n0 c0,.slice b0 m0 d0] 24)) #[.slice a1 n1 c1,.slice b1 m1 d1] 24;rwa [al_] at h9)
 have HF0:=hd_ (h0.later HB.out)
 have HG0:=hd_ (j0.later HB.out)
 have HF1:=hd_ (h1.later HB.out)
 have HG1:=hd_ (j1.later HB.out)
 clear h0 j0 h1 j1 hb0 hb1
 go_enter Tryz.func4,Tryz.ntmps4
 go_upto_region 1 with fail
 go_cut [39] from 18 to 38 (fun cv wx=>cv=.bool false∧Hid (wx.heap[w.heap.size]? = some (.cells #[.slice a0 n0 c0,.slice b0 m0 d0] 24 (0,0)))∧Hid (wx.heap[w.heap.size+1]? = some (.cells #[.slice a1 n1 c1,.slice b1 m1 d1] 24 (0,0)))∧Hid (Fxs wx a0 n0 c0 K0)∧Hid (Fxs wx b0 m0 d0 M0)∧Hid (Fxs wx a1 n1 c1 K1)∧Hid (Fxs wx b1 m1 d1 M1)∧Hid (Below w.heap.size w wx))
 case first=>
  obtain⟨vk0,vk1,vk2,vk3⟩:=am_ X0.out X1.out
  go_wp2_with fail
  refine (dn_ a0 n0 c0 K0 b0 m0 d0 M0 3 1 false _ HF0.out HG0.out (by decide) ⟨fun h=>absurd h (by decide),fun h=>absurd HNB0.out h⟩).mono ?_
  rintro e wv1 ⟨rfl,b⟩
  clear vk0 vk1 vk2 vk3
  replace HB:=bt_ HB b
  replace X0:=bl_ X0 b
  replace X1:=bl_ X1 b
  replace HF0:=HF0.l_ b
  replace HG0:=HG0.l_ b
  replace HF1:=HF1.l_ b
  replace HG1:=HG1.l_ b
  clear b
  obtain⟨vk0,vk1,vk2,vk3⟩:=am_ X0.out X1.out
  go_wp2_with fail
  refine (dn_ a1 n1 c1 K1 b1 m1 d1 M1 3 1 false _ HF1.out HG1.out (by decide) ⟨fun h=>absurd h (by decide),fun h=>absurd HNB1.out h⟩).mono ?_
  rintro e wv2 ⟨rfl,b⟩
  clear vk0 vk1 vk2 vk3
  replace HB:=bt_ HB b
  replace X0:=bl_ X0 b
  replace X1:=bl_ X1 b
  replace HF0:=HF0.l_ b
  replace HG0:=HG0.l_ b
  replace HF1:=HF1.l_ b
  replace HG1:=HG1.l_ b
  clear b
  rcases he with he | he | he
  ·have hx1:¬(-8≤e):=by omega
   have hx2:¬(3 < e):=by omega
   go_wp2
   go_meet
   exact⟨(by first | (simp;done) | (simp;omega)),X0,X1,HF0,HG0,HF1,HG1,HB⟩
  ·have hx1:¬(e < -3):=by omega
   have hx2:¬(3 < e):=by omega
   go_wp2
   go_meet
   exact⟨(by first | (simp;done) | (simp;omega)),X0,X1,HF0,HG0,HF1,HG1,HB⟩
  ·have hx1:¬(e < -3):=by omega
   have hx2:¬(e≤8):=by omega
   go_wp2
   go_meet
   exact⟨(by first | (simp;done) | (simp;omega)),X0,X1,HF0,HG0,HF1,HG1,HB⟩
 case rest=>
  obtain⟨rfl,Y0,Y1,YF0,YG0,YF1,YG1,HBc⟩:=hcut
  clear X0 X1 HF0 HG0 HF1 HG1 HB HNB0 HNB1 he
  have X0:=hd_ Y0.out
  have X1:=hd_ Y1.out
  have HF0:=hd_ YF0.out
  have HG0:=hd_ YG0.out
  have HF1:=hd_ YF1.out
  have HG1:=hd_ YG1.out
  have HB:=hd_ HBc.out
  clear Y0 Y1 YF0 YG0 YF1 YG1 HBc
  obtain⟨vk0,vk1,vk2,vk3⟩:=am_ X0.out X1.out
  go_wp2_with fail
  refine (HNM _ HF0.out HG0.out).mono ?_
  rintro e wv1 ⟨a21,n21,c21,b21,m21,d21,rfl,h21,g21,b⟩
  clear vk0 vk1 vk2 vk3
  have RU:=hd_ h21
  have RV:=hd_ g21
  have ba:=aa_ wv1 (.cells #[.slice a21 n21 c21,.slice b21 m21 d21] 24)
  have BM:=hd_ (ai_ wv1 #[.slice a21 n21 c21,.slice b21 m21 d21] 24)
  have bb:=ab_ b ba
  replace RU:=RU.l_ ba
  replace RV:=RV.l_ ba
  replace HB:=bt_ HB bb
  replace X0:=bl_ X0 bb
  replace X1:=bl_ X1 bb
  replace HF0:=HF0.l_ bb
  replace HG0:=HG0.l_ bb
  replace HF1:=HF1.l_ bb
  replace HG1:=HG1.l_ bb
  clear b ba bb
  clear h21 g21
  go_upto_region 4 with fail
  generalize wv1.alloc (.cells #[.slice a21 n21 c21,.slice b21 m21 d21] 24)=wr at *
  obtain⟨vk0,vk1,vk2,vk3,vk4,vk5⟩:=km_ X0.out X1.out BM.out
  go_wp2_with fail
  refine (HNN _ HF1.out HG1.out).mono ?_
  rintro e wv2 ⟨a22,n22,c22,b22,m22,d22,rfl,h22,g22,b⟩
  clear vk0 vk1 vk2 vk3 vk4 vk5
  have SU:=hd_ h22
  have SV:=hd_ g22
  have ba:=aa_ wv2 (.cells #[.slice a22 n22 c22,.slice b22 m22 d22] 24)
  have BN:=hd_ (ai_ wv2 #[.slice a22 n22 c22,.slice b22 m22 d22] 24)
  have bb:=ab_ b ba
  replace SU:=SU.l_ ba
  replace SV:=SV.l_ ba
  replace HB:=bt_ HB bb
  replace X0:=bl_ X0 bb
  replace X1:=bl_ X1 bb
  replace BM:=bl_ BM bb
  replace HF0:=HF0.l_ bb
  replace HG0:=HG0.l_ bb
  replace HF1:=HF1.l_ bb
  replace HG1:=HG1.l_ bb
  replace RU:=RU.l_ bb
  replace RV:=RV.l_ bb
  clear b ba bb
  clear h22 g22
  go_upto_region 5 with fail
  generalize wv2.alloc (.cells #[.slice a22 n22 c22,.slice b22 m22 d22] 24)=wr at *
  obtain⟨vk0,vk1,vk2,vk3,vk4,vk5,vk6,vk7⟩:=a3_ X0.out X1.out BM.out BN.out
  go_wp2_with fail
  refine (HTX _ HF0.out HG0.out).mono ?_
  rintro e wv3 ⟨a23,n23,c23,b23,m23,d23,rfl,h23,b⟩
  clear vk0 vk1 vk2 vk3 vk4 vk5 vk6 vk7
  clear HF0 HG0
  have PX:=hd_ h23
  have ba:=aa_ wv3 (.cells #[.slice a23 n23 c23,.slice b23 m23 d23] 35)
  have BX:=hd_ (ai_ wv3 #[.slice a23 n23 c23,.slice b23 m23 d23] 35)
  have bb:=ab_ b ba
  replace PX:=PX.l_ ba
  replace HB:=bt_ HB bb
  replace X0:=bl_ X0 bb
  replace X1:=bl_ X1 bb
  replace BM:=bl_ BM bb
  replace BN:=bl_ BN bb
  replace HF1:=HF1.l_ bb
  replace HG1:=HG1.l_ bb
  replace RU:=RU.l_ bb
  replace RV:=RV.l_ bb
  replace SU:=SU.l_ bb
  replace SV:=SV.l_ bb
  clear b ba bb
  clear h23
  go_upto_region 6 with fail
  generalize wv3.alloc (.cells #[.slice a23 n23 c23,.slice b23 m23 d23] 35)=wr at *
  obtain⟨vk0,vk1,vk2,vk3,vk4,vk5,vk6,vk7,vk8,vk9⟩:=da_ X0.out X1.out BM.out BN.out BX.out
  go_wp2_with fail
  refine (HTY _ HF1.out HG1.out).mono ?_
  rintro e wv4 ⟨a24,n24,c24,b24,m24,d24,rfl,h24,b⟩
  clear vk0 vk1 vk2 vk3 vk4 vk5 vk6 vk7 vk8 vk9
  clear HF1 HG1
  have PY:=hd_ h24
  have ba:=aa_ wv4 (.cells #[.slice a24 n24 c24,.slice b24 m24 d24] 35)
  have BY:=hd_ (ai_ wv4 #[.slice a24 n24 c24,.slice b24 m24 d24] 35)
  have bb:=ab_ b ba
  replace PY:=PY.l_ ba
  replace HB:=bt_ HB bb
  replace X0:=bl_ X0 bb
  replace X1:=bl_ X1 bb
  replace BM:=bl_ BM bb
  replace BN:=bl_ BN bb
  replace BX:=bl_ BX bb
  replace RU:=RU.l_ bb
  replace RV:=RV.l_ bb
  replace SU:=SU.l_ bb
  replace SV:=SV.l_ bb
  replace PX:=PX.l_ bb
  clear b ba bb
  clear h24
  go_upto_region 7 with fail
  generalize wv4.alloc (.cells #[.slice a24 n24 c24,.slice b24 m24 d24] 35)=wr at *
  clear X0 X1 HNM HNN HTX HTY
  obtain⟨vk0,vk1,vk2,vk3,vk4,vk5,vk6,vk7⟩:=a3_ BM.out BN.out BX.out BY.out
  go_wp2_with fail
  refine (HQX _ _ _ _ _ _ _ _ _ _ _ _ _ PX.out PY.out).mono ?_
  rintro e wv5 ⟨a25,n25,c25,b25,m25,d25,rfl,h25,g25,b⟩
  clear vk0 vk1 vk2 vk3 vk4 vk5 vk6 vk7
  have QU:=hd_ h25
  have QV:=hd_ g25
  have ba:=aa_ wv5 (.cells #[.slice a25 n25 c25,.slice b25 m25 d25] 35)
  have BQ:=hd_ (ai_ wv5 #[.slice a25 n25 c25,.slice b25 m25 d25] 35)
  have bb:=ab_ b ba
  replace QU:=QU.l_ ba
  replace QV:=QV.l_ ba
  replace HB:=bt_ HB bb
  replace BM:=bl_ BM bb
  replace BN:=bl_ BN bb
  replace BX:=bl_ BX bb
  replace BY:=bl_ BY bb
  replace RU:=RU.l_ bb
  replace RV:=RV.l_ bb
  replace SU:=SU.l_ bb
  replace SV:=SV.l_ bb
  replace PX:=PX.l_ bb
  replace PY:=PY.l_ bb
  clear b ba bb
  clear h25 g25
  go_upto_region 8 with fail
  generalize wv5.alloc (.cells #[.slice a25 n25 c25,.slice b25 m25 d25] 35)=wr at *
  obtain⟨vk0,vk1,vk2,vk3,vk4,vk5,vk6,vk7,vk8,vk9⟩:=da_ BM.out BN.out BX.out BY.out BQ.out
  go_wp2_with fail
  refine (HI0 _).mono ?_
  rintro e wv6 ⟨a26,n26,c26,b26,m26,d26,rfl,h26,g26,b⟩
  clear vk0 vk1 vk2 vk3 vk4 vk5 vk6 vk7 vk8 vk9
  have A26:=hd_ h26
  have D26:=hd_ g26
  replace HB:=bt_ HB b
  replace BM:=bl_ BM b
  replace BN:=bl_ BN b
  replace BX:=bl_ BX b
  replace BY:=bl_ BY b
  replace BQ:=bl_ BQ b
  replace RU:=RU.l_ b
  replace RV:=RV.l_ b
  replace SU:=SU.l_ b
  replace SV:=SV.l_ b
  replace PX:=PX.l_ b
  replace PY:=PY.l_ b
  replace QU:=QU.l_ b
  replace QV:=QV.l_ b
  clear b
  clear h26 g26
  (try unfold frV)
  obtain⟨vk0,vk1,vk2,vk3,vk4,vk5,vk6,vk7,vk8,vk9⟩:=da_ BM.out BN.out BX.out BY.out BQ.out
  go_wp2_with fail
  refine (HO0 _ _ _ _ _ _ _ A26.out D26.out).mono ?_
  rintro e wv7 ⟨a27,n27,c27,b27,m27,d27,rfl,h27,g27,b⟩
  clear vk0 vk1 vk2 vk3 vk4 vk5 vk6 vk7 vk8 vk9
  clear A26 D26
  have WU:=hd_ h27
  have WV:=hd_ g27
  replace HB:=bt_ HB b
  replace BM:=bl_ BM b
  replace BN:=bl_ BN b
  replace BX:=bl_ BX b
  replace BY:=bl_ BY b
  replace BQ:=bl_ BQ b
  replace RU:=RU.l_ b
  replace RV:=RV.l_ b
  replace SU:=SU.l_ b
  replace SV:=SV.l_ b
  replace PX:=PX.l_ b
  replace PY:=PY.l_ b
  replace QU:=QU.l_ b
  replace QV:=QV.l_ b
  clear b
  clear h27 g27
  obtain⟨gw,hgw⟩:∃g,wv7.heap.size=g:=⟨_,rfl⟩
  have lBM:wv1.heap.size < gw:=hgw▸h9_ BM.out
  have lBN:wv2.heap.size < gw:=hgw▸h9_ BN.out
  have lBX:wv3.heap.size < gw:=hgw▸h9_ BX.out
  have lBY:wv4.heap.size < gw:=hgw▸h9_ BY.out
  have lBQ:wv5.heap.size < gw:=hgw▸h9_ BQ.out
  have lW:w.heap.size≤gw:=hgw▸HB.out.size
  have ba:=aa_ wv7 (.cells #[.slice a27 n27 c27,.slice b27 m27 d27] 24)
  have BW:=hd_ (ai_ wv7 #[.slice a27 n27 c27,.slice b27 m27 d27] 24)
  rw[hgw] at BW
  replace HB:=bt_ HB ba
  replace BM:=bl_ BM ba
  replace BN:=bl_ BN ba
  replace BX:=bl_ BX ba
  replace BY:=bl_ BY ba
  replace BQ:=bl_ BQ ba
  replace RU:=RU.l_ ba
  replace RV:=RV.l_ ba
  replace SU:=SU.l_ ba
  replace SV:=SV.l_ ba
  replace PX:=PX.l_ ba
  replace PY:=PY.l_ ba
  replace QU:=QU.l_ ba
  replace QV:=QV.l_ ba
  replace WU:=WU.l_ ba
  replace WV:=WV.l_ ba
  clear ba
  go_upto_region 9 with fail
  generalize wv7.alloc (.cells #[.slice a27 n27 c27,.slice b27 m27 d27] 24)=wr at *
  (try rw[hgw])
  clear hgw
  obtain⟨gm,hgm⟩:∃g,wv1.heap.size=g:=⟨_,rfl⟩
  rw[hgm] at BM lBM ⊢
  clear hgm
  obtain⟨gn,hgn⟩:∃g,wv2.heap.size=g:=⟨_,rfl⟩
  rw[hgn] at BN lBN ⊢
  clear hgn
  obtain⟨gx,hgx⟩:∃g,wv3.heap.size=g:=⟨_,rfl⟩
  rw[hgx] at BX lBX ⊢
  clear hgx
  obtain⟨gy,hgy⟩:∃g,wv4.heap.size=g:=⟨_,rfl⟩
  rw[hgy] at BY lBY ⊢
  clear hgy
  obtain⟨gq,hgq⟩:∃g,wv5.heap.size=g:=⟨_,rfl⟩
  rw[hgq] at BQ lBQ ⊢
  clear hgq
  obtain⟨vk0,vk1,vk2,vk3,vk4,vk5,vk6,vk7,vk8,vk9,vk10,vk11⟩:=dd_ BM.out BN.out BX.out BY.out BQ.out BW.out
  go_wp2_with fail
  refine (HZN _ _ _ _ _ _ _ SU.out SV.out).mono ?_
  rintro e wv8 ⟨rfl,b⟩
  clear vk0 vk1 vk2 vk3 vk4 vk5 vk6 vk7 vk8 vk9 vk10 vk11
  replace HB:=bt_ HB b
  replace BM:=bl_ BM b
  replace BN:=bl_ BN b
  replace BX:=bl_ BX b
  replace BY:=bl_ BY b
  replace BQ:=bl_ BQ b
  replace BW:=bl_ BW b
  replace RU:=RU.l_ b
  replace RV:=RV.l_ b
  replace SU:=SU.l_ b
  replace SV:=SV.l_ b
  replace PX:=PX.l_ b
  replace PY:=PY.l_ b
  replace QU:=QU.l_ b
  replace QV:=QV.l_ b
  replace WU:=WU.l_ b
  replace WV:=WV.l_ b
  clear b
  obtain⟨vk0,vk1,vk2,vk3,vk4,vk5,vk6,vk7,vk8,vk9,vk10,vk11⟩:=dd_ BM.out BN.out BX.out BY.out BQ.out BW.out
  go_wp2_with fail
  refine (HQM _ _ _ _ _ _ _ _ _ _ _ _ _ RU.out RV.out SU.out SV.out).mono ?_
  rintro e wv9 ⟨a28,n28,c28,b28,m28,d28,rfl,h28,g28,b⟩
  clear vk0 vk1 vk2 vk3 vk4 vk5 vk6 vk7 vk8 vk9 vk10 vk11
  clear WU WV
  have EU:=hd_ h28
  have EV:=hd_ g28
  replace HB:=bt_ HB b
  replace BM:=bl_ BM b
  replace BN:=bl_ BN b
  replace BX:=bl_ BX b
  replace BY:=bl_ BY b
  replace BQ:=bl_ BQ b
  replace BW:=bl_ BW b
  replace RU:=RU.l_ b
  replace RV:=RV.l_ b
  replace SU:=SU.l_ b
  replace SV:=SV.l_ b
  replace PX:=PX.l_ b
  replace PY:=PY.l_ b
  replace QU:=QU.l_ b
  replace QV:=QV.l_ b
  clear b
  clear h28 g28
  obtain⟨q0_,q1_⟩:=a0_ BW.out
  have e0_:=ad_ BW.out 0
  have e1_:=ad_ BW.out 1
  replace BM:=hd_ (bh_ (g:=gw) BM.out (by omega) (.slice a28 n28 c28) (.slice b28 m28 d28))
  replace BN:=hd_ (bh_ (g:=gw) BN.out (by omega) (.slice a28 n28 c28) (.slice b28 m28 d28))
  replace BX:=hd_ (bh_ (g:=gw) BX.out (by omega) (.slice a28 n28 c28) (.slice b28 m28 d28))
  replace BY:=hd_ (bh_ (g:=gw) BY.out (by omega) (.slice a28 n28 c28) (.slice b28 m28 d28))
  replace BQ:=hd_ (bh_ (g:=gw) BQ.out (by omega) (.slice a28 n28 c28) (.slice b28 m28 d28))
  replace RU:=hd_ (RU.out.boxed BW.out (.slice a28 n28 c28) (.slice b28 m28 d28))
  replace RV:=hd_ (RV.out.boxed BW.out (.slice a28 n28 c28) (.slice b28 m28 d28))
  replace SU:=hd_ (SU.out.boxed BW.out (.slice a28 n28 c28) (.slice b28 m28 d28))
  replace SV:=hd_ (SV.out.boxed BW.out (.slice a28 n28 c28) (.slice b28 m28 d28))
  replace QU:=hd_ (QU.out.boxed BW.out (.slice a28 n28 c28) (.slice b28 m28 d28))
  replace QV:=hd_ (QV.out.boxed BW.out (.slice a28 n28 c28) (.slice b28 m28 d28))
  replace EU:=hd_ (EU.out.boxed BW.out (.slice a28 n28 c28) (.slice b28 m28 d28))
  replace EV:=hd_ (EV.out.boxed BW.out (.slice a28 n28 c28) (.slice b28 m28 d28))
  replace PX:=hd_ (PX.out.stored BW.out (.slice a28 n28 c28) (.slice b28 m28 d28))
  replace PY:=hd_ (PY.out.stored BW.out (.slice a28 n28 c28) (.slice b28 m28 d28))
  replace HB:=hd_ (an_ HB.out (show w.heap.size≤gw by omega) (.slice a28 n28 c28) (.slice b28 m28 d28))
  replace BW:=hd_ (a4_ BW.out (.slice a28 n28 c28) (.slice b28 m28 d28))
  go_upto_region 11 with fail
  generalize ((wv9.setCell ⟨gw,0,none⟩ (.slice a28 n28 c28)).setCell ⟨gw,1,none⟩ (.slice b28 m28 d28))=wr at *
  clear q0_ q1_ e0_ e1_
  obtain⟨vk0,vk1,vk2,vk3,vk4,vk5,vk6,vk7,vk8,vk9,vk10,vk11⟩:=dd_ BM.out BN.out BX.out BY.out BQ.out BW.out
  go_wp2_with fail
  refine (HPX _ _ _ _ _ _ _ PX.out).mono ?_
  rintro e wv10 ⟨a31,n31,c31,b31,m31,d31,rfl,h31,g31,b⟩
  clear vk0 vk1 vk2 vk3 vk4 vk5 vk6 vk7 vk8 vk9 vk10 vk11
  have FU9:=hd_ h31
  have FV:=hd_ g31
  have ba:=aa_ wv10 (.cells #[.slice a31 n31 c31,.slice b31 m31 d31] 35)
  have BP:=hd_ (ai_ wv10 #[.slice a31 n31 c31,.slice b31 m31 d31] 35)
  have bb:=ab_ b ba
  replace FU9:=FU9.l_ ba
  replace FV:=FV.l_ ba
  replace HB:=bt_ HB bb
  replace BM:=bl_ BM bb
  replace BN:=bl_ BN bb
  replace BX:=bl_ BX bb
  replace BY:=bl_ BY bb
  replace BQ:=bl_ BQ bb
  replace BW:=bl_ BW bb
  replace RU:=RU.l_ bb
  replace RV:=RV.l_ bb
  replace SU:=SU.l_ bb
  replace SV:=SV.l_ bb
  replace PX:=PX.l_ bb
  replace PY:=PY.l_ bb
  replace QU:=QU.l_ bb
  replace QV:=QV.l_ bb
  replace EU:=EU.l_ bb
  replace EV:=EV.l_ bb
  clear b ba bb
  clear h31 g31
  go_upto_region 12 with fail
  generalize wv10.alloc (.cells #[.slice a31 n31 c31,.slice b31 m31 d31] 35)=wr at *
  obtain⟨vk0,vk1,vk2,vk3,vk4,vk5,vk6,vk7,vk8,vk9,vk10,vk11,vk12,vk13⟩:=a5_ BM.out BN.out BX.out BY.out BQ.out BW.out BP.out
  go_wp2_with fail
  refine (HPM _ _ _ _ _ _ _ RU.out RV.out).mono ?_
  rintro e wv11 ⟨a32,n32,c32,b32,m32,d32,rfl,h32,g32,b⟩
  clear vk0 vk1 vk2 vk3 vk4 vk5 vk6 vk7 vk8 vk9 vk10 vk11 vk12 vk13
  have GU:=hd_ h32
  have GV:=hd_ g32
  have ba:=aa_ wv11 (.cells #[.slice a32 n32 c32,.slice b32 m32 d32] 24)
  have BR:=hd_ (ai_ wv11 #[.slice a32 n32 c32,.slice b32 m32 d32] 24)
  have bb:=ab_ b ba
  replace GU:=GU.l_ ba
  replace GV:=GV.l_ ba
  replace HB:=bt_ HB bb
  replace BM:=bl_ BM bb
  replace BN:=bl_ BN bb
  replace BX:=bl_ BX bb
  replace BY:=bl_ BY bb
  replace BQ:=bl_ BQ bb
  replace BW:=bl_ BW bb
  replace BP:=bl_ BP bb
  replace RU:=RU.l_ bb
  replace RV:=RV.l_ bb
  replace SU:=SU.l_ bb
  replace SV:=SV.l_ bb
  replace PX:=PX.l_ bb
  replace PY:=PY.l_ bb
  replace QU:=QU.l_ bb
  replace QV:=QV.l_ bb
  replace EU:=EU.l_ bb
  replace EV:=EV.l_ bb
  replace FU9:=FU9.l_ bb
  replace FV:=FV.l_ bb
  clear b ba bb
  clear h32 g32
  go_upto_region 13 with fail
  generalize wv11.alloc (.cells #[.slice a32 n32 c32,.slice b32 m32 d32] 24)=wr at *
  obtain⟨gp,hgp⟩:∃g,wv10.heap.size=g:=⟨_,rfl⟩
  rw[hgp] at BP ⊢
  clear hgp
  obtain⟨gr,hgr⟩:∃g,wv11.heap.size=g:=⟨_,rfl⟩
  rw[hgr] at BR ⊢
  clear hgr
  clear HQX HI0 HO0 HPX HPM HQM
  obtain⟨t0,t1,t2,t3,t4,t5,t6,t7,t8,t9,t10,t11,t12,t13⟩:=a5_ BX.out BM.out BN.out BQ.out BW.out BP.out BR.out
  go_wp2
  clear t0 t1 t2 t3 t4 t5 t6 t7 t8 t9 t10 t11 t12 t13
  replace HB:=bt_ HB (dw_ wr)
  replace BX:Hid (wr.drew.heap[gx]? = _):=hd_ BX.out
  replace BM:Hid (wr.drew.heap[gm]? = _):=hd_ BM.out
  replace BN:Hid (wr.drew.heap[gn]? = _):=hd_ BN.out
  replace BQ:Hid (wr.drew.heap[gq]? = _):=hd_ BQ.out
  replace BW:Hid (wr.drew.heap[gw]? = _):=hd_ BW.out
  replace BP:Hid (wr.drew.heap[gp]? = _):=hd_ BP.out
  replace BR:Hid (wr.drew.heap[gr]? = _):=hd_ BR.out
  replace BY:Hid (wr.drew.heap[gy]? = some (.cells #[.slice a24 n24 c24,.slice b24 m24 d24] 35 (0,0))):=hd_ BY.out
  replace PX:=PX.l_ (dw_ wr)
  replace PY:=PY.l_ (dw_ wr)
  replace RU:=RU.l_ (dw_ wr)
  replace RV:=RV.l_ (dw_ wr)
  replace SU:=SU.l_ (dw_ wr)
  replace SV:=SV.l_ (dw_ wr)
  replace QU:=QU.l_ (dw_ wr)
  replace QV:=QV.l_ (dw_ wr)
  replace EU:=EU.l_ (dw_ wr)
  replace EV:=EV.l_ (dw_ wr)
  replace FU9:=FU9.l_ (dw_ wr)
  replace FV:=FV.l_ (dw_ wr)
  replace GU:=GU.l_ (dw_ wr)
  replace GV:=GV.l_ (dw_ wr)
  have pSn:=a5_ BX.out BM.out BN.out BQ.out BW.out BP.out BR.out
  go_region_held3 (fun w'=>w'.cell? ⟨gx,0,none⟩=some (.slice a23 n23 c23)∧w'.cell? ⟨gx,1,none⟩=some (.slice b23 m23 d23)∧w'.cell? ⟨gm,0,none⟩=some (.slice a21 n21 c21)∧w'.cell? ⟨gm,1,none⟩=some (.slice b21 m21 d21)∧w'.cell? ⟨gn,0,none⟩=some (.slice a22 n22 c22)∧w'.cell? ⟨gn,1,none⟩=some (.slice b22 m22 d22)∧w'.cell? ⟨gq,0,none⟩=some (.slice a25 n25 c25)∧w'.cell? ⟨gq,1,none⟩=some (.slice b25 m25 d25)∧w'.cell? ⟨gw,0,none⟩=some (.slice a28 n28 c28)∧w'.cell? ⟨gw,1,none⟩=some (.slice b28 m28 d28)∧w'.cell? ⟨gp,0,none⟩=some (.slice a31 n31 c31)∧w'.cell? ⟨gp,1,none⟩=some (.slice b31 m31 d31)∧w'.cell? ⟨gr,0,none⟩=some (.slice a32 n32 c32)∧w'.cell? ⟨gr,1,none⟩=some (.slice b32 m32 d32)) (exact pSn)
   (first
   | (go_at_call 19;(first
     | (have pm5:=pM5;refine (HIG _ _ _ _ _ _ _ _ _ _ _ _ _ R61.out S61.out R62.out S62.out).mono ?_;rintro e wp6 ⟨rfl,b⟩;replace HB:=bt_ HB b;replace BX:=bl_ BX b;replace BM:=bl_ BM b;replace BN:=bl_ BN b;replace BQ:=bl_ BQ b;replace BW:=bl_ BW b;replace BP:=bl_ BP b;replace BR:=bl_ BR b;replace BY:=bl_ BY b;replace PX:=PX.l_ b;replace PY:=PY.l_ b;replace RU:=RU.l_ b;replace RV:=RV.l_ b;replace SU:=SU.l_ b;replace SV:=SV.l_ b;replace QU:=QU.l_ b;replace QV:=QV.l_ b;replace EU:=EU.l_ b;replace EV:=EV.l_ b;replace FU9:=FU9.l_ b;replace FV:=FV.l_ b;replace GU:=GU.l_ b;replace GV:=GV.l_ b;clear R61;clear S61;clear R62;clear S62;clear b;clear pSn;have pSn:=a5_ BX.out BM.out BN.out BQ.out BW.out BP.out BR.out;clear pM5 pm5;have pM6:=True.intro)
     | (have pm2:=pM2;refine (HIP _ _ _ _ _ _ _ _ _ _ _ _ _ FU9.out FV.out GU.out GV.out).mono ?_;rintro e wp3 ⟨rfl,b⟩;replace HB:=bt_ HB b;replace BX:=bl_ BX b;replace BM:=bl_ BM b;replace BN:=bl_ BN b;replace BQ:=bl_ BQ b;replace BW:=bl_ BW b;replace BP:=bl_ BP b;replace BR:=bl_ BR b;replace BY:=bl_ BY b;replace PX:=PX.l_ b;replace PY:=PY.l_ b;replace RU:=RU.l_ b;replace RV:=RV.l_ b;replace SU:=SU.l_ b;replace SV:=SV.l_ b;replace QU:=QU.l_ b;replace QV:=QV.l_ b;replace EU:=EU.l_ b;replace EV:=EV.l_ b;replace FU9:=FU9.l_ b;replace FV:=FV.l_ b;replace GU:=GU.l_ b;replace GV:=GV.l_ b;clear b;clear pSn;have pSn:=a5_ BX.out BM.out BN.out BQ.out BW.out BP.out BR.out;clear pM2 pm2;have pM3:=True.intro)
     | (refine (HIQ _ _ _ _ _ _ _ _ _ _ _ _ _ QU.out QV.out EU.out EV.out).mono ?_;rintro e wp1 ⟨rfl,b⟩;replace HB:=bt_ HB b;replace BX:=bl_ BX b;replace BM:=bl_ BM b;replace BN:=bl_ BN b;replace BQ:=bl_ BQ b;replace BW:=bl_ BW b;replace BP:=bl_ BP b;replace BR:=bl_ BR b;replace BY:=bl_ BY b;replace PX:=PX.l_ b;replace PY:=PY.l_ b;replace RU:=RU.l_ b;replace RV:=RV.l_ b;replace SU:=SU.l_ b;replace SV:=SV.l_ b;replace QU:=QU.l_ b;replace QV:=QV.l_ b;replace EU:=EU.l_ b;replace EV:=EV.l_ b;replace FU9:=FU9.l_ b;replace FV:=FV.l_ b;replace GU:=GU.l_ b;replace GV:=GV.l_ b;clear b;clear pSn;have pSn:=a5_ BX.out BM.out BN.out BQ.out BW.out BP.out BR.out;have pM1:=True.intro)))
   | (go_at_call 21;(first
     | (have pm1:=pM1;refine (HZN _ _ _ _ _ _ _ SU.out SV.out).mono ?_;rintro e wp2 ⟨rfl,b⟩;replace HB:=bt_ HB b;replace BX:=bl_ BX b;replace BM:=bl_ BM b;replace BN:=bl_ BN b;replace BQ:=bl_ BQ b;replace BW:=bl_ BW b;replace BP:=bl_ BP b;replace BR:=bl_ BR b;replace BY:=bl_ BY b;replace PX:=PX.l_ b;replace PY:=PY.l_ b;replace RU:=RU.l_ b;replace RV:=RV.l_ b;replace SU:=SU.l_ b;replace SV:=SV.l_ b;replace QU:=QU.l_ b;replace QV:=QV.l_ b;replace EU:=EU.l_ b;replace EV:=EV.l_ b;replace FU9:=FU9.l_ b;replace FV:=FV.l_ b;replace GU:=GU.l_ b;replace GV:=GV.l_ b;clear b;clear pSn;have pSn:=a5_ BX.out BM.out BN.out BQ.out BW.out BP.out BR.out;clear pM1 pm1;have pM2:=True.intro)))
   | (go_at_call 33;(first
     | (have pm3:=pM3;refine (HNX _ _ _ _ _ _ _ PX.out).mono ?_;rintro e wp4 ⟨a61,n61,c61,b61,m61,d61,rfl,h61,g61,b⟩;replace HB:=bt_ HB b;replace BX:=bl_ BX b;replace BM:=bl_ BM b;replace BN:=bl_ BN b;replace BQ:=bl_ BQ b;replace BW:=bl_ BW b;replace BP:=bl_ BP b;replace BR:=bl_ BR b;replace BY:=bl_ BY b;replace PX:=PX.l_ b;replace PY:=PY.l_ b;replace RU:=RU.l_ b;replace RV:=RV.l_ b;replace SU:=SU.l_ b;replace SV:=SV.l_ b;replace QU:=QU.l_ b;replace QV:=QV.l_ b;replace EU:=EU.l_ b;replace EV:=EV.l_ b;replace FU9:=FU9.l_ b;replace FV:=FV.l_ b;replace GU:=GU.l_ b;replace GV:=GV.l_ b;have R61:=hd_ h61;have S61:=hd_ g61;clear h61 g61;clear b;clear pSn;have pSn:=a5_ BX.out BM.out BN.out BQ.out BW.out BP.out BR.out;clear pM3 pm3;have pM4:=True.intro)))
   | (go_at_call 34;(first
     | (have pm4:=pM4;refine (HNG _ _ _ _ _ _ _ RU.out RV.out).mono ?_;rintro e wp5 ⟨a62,n62,c62,b62,m62,d62,rfl,h62,g62,b⟩;replace HB:=bt_ HB b;replace BX:=bl_ BX b;replace BM:=bl_ BM b;replace BN:=bl_ BN b;replace BQ:=bl_ BQ b;replace BW:=bl_ BW b;replace BP:=bl_ BP b;replace BR:=bl_ BR b;replace BY:=bl_ BY b;replace PX:=PX.l_ b;replace PY:=PY.l_ b;replace RU:=RU.l_ b;replace RV:=RV.l_ b;replace SU:=SU.l_ b;replace SV:=SV.l_ b;replace QU:=QU.l_ b;replace QV:=QV.l_ b;replace EU:=EU.l_ b;replace EV:=EV.l_ b;replace FU9:=FU9.l_ b;replace FV:=FV.l_ b;replace GU:=GU.l_ b;replace GV:=GV.l_ b;replace R61:=R61.l_ b;replace S61:=S61.l_ b;have R62:=hd_ h62;have S62:=hd_ g62;clear h62 g62;clear b;clear pSn;have pSn:=a5_ BX.out BM.out BN.out BQ.out BW.out BP.out BR.out;clear pM4 pm4;have pM5:=True.intro))))
  clear BQ BW BP BR QU QV EU EV FU9 FV GU GV HIQ HZN HIP HNX HNG HIG
  go_upto_region 15 with fail
  obtain⟨t0,t1,t2,t3,t4,t5,t6,t7⟩:=a3_ BX.out BY.out BM.out BN.out
  go_wp2
  clear t0 t1 t2 t3 t4 t5 t6 t7
  replace HB:=bt_ HB (dw_ wp6)
  replace BX:Hid (wp6.drew.heap[gx]? = _):=hd_ BX.out
  replace BY:Hid (wp6.drew.heap[gy]? = _):=hd_ BY.out
  replace BM:Hid (wp6.drew.heap[gm]? = _):=hd_ BM.out
  replace BN:Hid (wp6.drew.heap[gn]? = _):=hd_ BN.out
  replace PX:=PX.l_ (dw_ wp6)
  replace PY:=PY.l_ (dw_ wp6)
  replace RU:=RU.l_ (dw_ wp6)
  replace RV:=RV.l_ (dw_ wp6)
  replace SU:=SU.l_ (dw_ wp6)
  replace SV:=SV.l_ (dw_ wp6)
  have qSn:=a3_ BX.out BY.out BM.out BN.out
  go_region_held3 (fun w'=>w'.cell? ⟨gx,0,none⟩=some (.slice a23 n23 c23)∧w'.cell? ⟨gx,1,none⟩=some (.slice b23 m23 d23)∧w'.cell? ⟨gy,0,none⟩=some (.slice a24 n24 c24)∧w'.cell? ⟨gy,1,none⟩=some (.slice b24 m24 d24)∧w'.cell? ⟨gm,0,none⟩=some (.slice a21 n21 c21)∧w'.cell? ⟨gm,1,none⟩=some (.slice b21 m21 d21)∧w'.cell? ⟨gn,0,none⟩=some (.slice a22 n22 c22)∧w'.cell? ⟨gn,1,none⟩=some (.slice b22 m22 d22)) (exact qSn)
   (first
   | (go_at_call 35;(first
     | (refine (HAX _ _ _ _ _ _ _ _ _ _ _ _ _ PX.out PY.out).mono ?_;rintro e wq1 ⟨a71,n71,c71,b71,m71,d71,rfl,h71,g71,b⟩;replace HB:=bt_ HB b;replace BX:=bl_ BX b;replace BY:=bl_ BY b;replace BM:=bl_ BM b;replace BN:=bl_ BN b;replace PX:=PX.l_ b;replace PY:=PY.l_ b;replace RU:=RU.l_ b;replace RV:=RV.l_ b;replace SU:=SU.l_ b;replace SV:=SV.l_ b;have R71:=hd_ h71;have S71:=hd_ g71;clear h71 g71;clear b;clear qSn;have qSn:=a3_ BX.out BY.out BM.out BN.out;have qM1:=True.intro)))
   | (go_at_call 36;(first
     | (have qm5:=qM5;refine (HSM _ _ _ _ _ _ _ _ _ _ _ _ _ RU.out RV.out R74.out S74.out).mono ?_;rintro e wq6 ⟨a75,n75,c75,b75,m75,d75,rfl,h75,g75,b⟩;replace HB:=bt_ HB b;replace BX:=bl_ BX b;replace BY:=bl_ BY b;replace BM:=bl_ BM b;replace BN:=bl_ BN b;replace PX:=PX.l_ b;replace PY:=PY.l_ b;replace RU:=RU.l_ b;replace RV:=RV.l_ b;replace SU:=SU.l_ b;replace SV:=SV.l_ b;replace R73:=R73.l_ b;replace S73:=S73.l_ b;clear R74;clear S74;have R75:=hd_ h75;have S75:=hd_ g75;clear h75 g75;clear b;clear qSn;have qSn:=a3_ BX.out BY.out BM.out BN.out;clear qM5 qm5;have qM6:=True.intro)
     | (have qm1:=qM1;refine (HAM _ _ _ _ _ _ _ _ _ _ _ _ _ RU.out RV.out SU.out SV.out).mono ?_;rintro e wq2 ⟨a72,n72,c72,b72,m72,d72,rfl,h72,g72,b⟩;replace HB:=bt_ HB b;replace BX:=bl_ BX b;replace BY:=bl_ BY b;replace BM:=bl_ BM b;replace BN:=bl_ BN b;replace PX:=PX.l_ b;replace PY:=PY.l_ b;replace RU:=RU.l_ b;replace RV:=RV.l_ b;replace SU:=SU.l_ b;replace SV:=SV.l_ b;replace R71:=R71.l_ b;replace S71:=S71.l_ b;have R72:=hd_ h72;have S72:=hd_ g72;clear h72 g72;clear b;clear qSn;have qSn:=a3_ BX.out BY.out BM.out BN.out;clear qM1 qm1;have qM2:=True.intro)))
   | (go_at_call 19;(first
     | (have qm9:=qM9;refine (HIM _ _ _ _ _ _ _ _ _ _ _ _ _ R76.out S76.out R77.out S77.out).mono ?_;rintro e wq10 ⟨rfl,b⟩;replace HB:=bt_ HB b;replace BX:=bl_ BX b;replace BY:=bl_ BY b;replace BM:=bl_ BM b;replace BN:=bl_ BN b;replace PX:=PX.l_ b;replace PY:=PY.l_ b;replace RU:=RU.l_ b;replace RV:=RV.l_ b;replace SU:=SU.l_ b;replace SV:=SV.l_ b;clear R76;clear S76;clear R77;clear S77;clear b;clear qSn;have qSn:=a3_ BX.out BY.out BM.out BN.out;clear qM9 qm9;have qM10:=True.intro)
     | (have qm6:=qM6;refine (HID _ _ _ _ _ _ _ _ _ _ _ _ _ R73.out S73.out R75.out S75.out).mono ?_;rintro e wq7 ⟨rfl,b⟩;replace HB:=bt_ HB b;replace BX:=bl_ BX b;replace BY:=bl_ BY b;replace BM:=bl_ BM b;replace BN:=bl_ BN b;replace PX:=PX.l_ b;replace PY:=PY.l_ b;replace RU:=RU.l_ b;replace RV:=RV.l_ b;replace SU:=SU.l_ b;replace SV:=SV.l_ b;clear R73;clear S73;clear R75;clear S75;clear b;clear qSn;have qSn:=a3_ BX.out BY.out BM.out BN.out;clear qM6 qm6;have qM7:=True.intro)
     | (have qm2:=qM2;refine (HIA _ _ _ _ _ _ _ _ _ _ _ _ _ R71.out S71.out R72.out S72.out).mono ?_;rintro e wq3 ⟨rfl,b⟩;replace HB:=bt_ HB b;replace BX:=bl_ BX b;replace BY:=bl_ BY b;replace BM:=bl_ BM b;replace BN:=bl_ BN b;replace PX:=PX.l_ b;replace PY:=PY.l_ b;replace RU:=RU.l_ b;replace RV:=RV.l_ b;replace SU:=SU.l_ b;replace SV:=SV.l_ b;clear R71;clear S71;clear R72;clear S72;clear b;clear qSn;have qSn:=a3_ BX.out BY.out BM.out BN.out;clear qM2 qm2;have qM3:=True.intro)))
   | (go_at_call 37;(first
     | (have qm3:=qM3;refine (HSX _ _ _ _ _ _ _ _ _ _ _ _ _ PX.out PY.out).mono ?_;rintro e wq4 ⟨a73,n73,c73,b73,m73,d73,rfl,h73,g73,b⟩;replace HB:=bt_ HB b;replace BX:=bl_ BX b;replace BY:=bl_ BY b;replace BM:=bl_ BM b;replace BN:=bl_ BN b;replace PX:=PX.l_ b;replace PY:=PY.l_ b;replace RU:=RU.l_ b;replace RV:=RV.l_ b;replace SU:=SU.l_ b;replace SV:=SV.l_ b;have R73:=hd_ h73;have S73:=hd_ g73;clear h73 g73;clear b;clear qSn;have qSn:=a3_ BX.out BY.out BM.out BN.out;clear qM3 qm3;have qM4:=True.intro)))
   | (go_at_call 34;(first
     | (have qm4:=qM4;refine (HN2 _ _ _ _ _ _ _ SU.out SV.out).mono ?_;rintro e wq5 ⟨a74,n74,c74,b74,m74,d74,rfl,h74,g74,b⟩;replace HB:=bt_ HB b;replace BX:=bl_ BX b;replace BY:=bl_ BY b;replace BM:=bl_ BM b;replace BN:=bl_ BN b;replace PX:=PX.l_ b;replace PY:=PY.l_ b;replace RU:=RU.l_ b;replace RV:=RV.l_ b;replace SU:=SU.l_ b;replace SV:=SV.l_ b;replace R73:=R73.l_ b;replace S73:=S73.l_ b;have R74:=hd_ h74;have S74:=hd_ g74;clear h74 g74;clear b;clear qSn;have qSn:=a3_ BX.out BY.out BM.out BN.out;clear qM4 qm4;have qM5:=True.intro)))
   | (go_at_call 38;(first
     | (have qm7:=qM7;refine (HMX _ _ _ _ _ _ _ _ _ _ _ _ _ PX.out PY.out).mono ?_;rintro e wq8 ⟨a76,n76,c76,b76,m76,d76,rfl,h76,g76,b⟩;replace HB:=bt_ HB b;replace BX:=bl_ BX b;replace BY:=bl_ BY b;replace BM:=bl_ BM b;replace BN:=bl_ BN b;replace PX:=PX.l_ b;replace PY:=PY.l_ b;replace RU:=RU.l_ b;replace RV:=RV.l_ b;replace SU:=SU.l_ b;replace SV:=SV.l_ b;have R76:=hd_ h76;have S76:=hd_ g76;clear h76 g76;clear b;clear qSn;have qSn:=a3_ BX.out BY.out BM.out BN.out;clear qM7 qm7;have qM8:=True.intro)))
   | (go_at_call 39;(first
     | (have qm8:=qM8;refine (HMM _ _ _ _ _ _ _ _ _ _ _ _ _ RU.out RV.out SU.out SV.out).mono ?_;rintro e wq9 ⟨a77,n77,c77,b77,m77,d77,rfl,h77,g77,b⟩;replace HB:=bt_ HB b;replace BX:=bl_ BX b;replace BY:=bl_ BY b;replace BM:=bl_ BM b;replace BN:=bl_ BN b;replace PX:=PX.l_ b;replace PY:=PY.l_ b;replace RU:=RU.l_ b;replace RV:=RV.l_ b;replace SU:=SU.l_ b;replace SV:=SV.l_ b;replace R76:=R76.l_ b;replace S76:=S76.l_ b;have R77:=hd_ h77;have S77:=hd_ g77;clear h77 g77;clear b;clear qSn;have qSn:=a3_ BX.out BY.out BM.out BN.out;clear qM8 qm8;have qM9:=True.intro)))
   | (go_at_call 9;(first
     | (have qm10:=qM10;refine (HW _).mono ?_;rintro e wq11 ⟨rfl,b⟩;replace HB:=bt_ HB b;replace BX:=bl_ BX b;replace BY:=bl_ BY b;replace BM:=bl_ BM b;replace BN:=bl_ BN b;replace PX:=PX.l_ b;replace PY:=PY.l_ b;replace RU:=RU.l_ b;replace RV:=RV.l_ b;replace SU:=SU.l_ b;replace SV:=SV.l_ b;clear b;clear qSn;have qSn:=a3_ BX.out BY.out BM.out BN.out;clear qM10 qm10;have qM11:=True.intro))))
  all_goals (
   go_wp2
   go_ret
   exact⟨rfl,HB.out⟩)
end Go.Proofs.YtocebjbjnfammaaGreat
