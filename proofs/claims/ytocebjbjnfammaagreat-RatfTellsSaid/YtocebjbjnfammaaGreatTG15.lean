import Derived.Test.YtocebjbjnfammaaGreatTG13
import Derived.Test.YtocebjbjnfammaaGreatTG14
import Derived.Test.YtocebjbjnfammaaGreatTG6
import Derived.Test.YtocebjbjnfammaaGreatTG8
import Derived.Deep.RegionHeld3
import Derived.Deep.CutRange
import Derived.Deep.RegionWith
import Derived.Test.YtocebjbjnfammaaGreatTG1
set_option maxRecDepth 4096
set_option maxHeartbeats 16000000
namespace Go.Proofs.YtocebjbjnfammaaGreat
open Go.RowKit
theorem hm_{w:World}{A0 A1 A2 A3 A4:Nat}{c0_0 c0_1 c1_0 c1_1 c2_0 c2_1 c2_2 c3_0 c3_1 c4_0 c4_1 c4_2:Value}{t0 t1 t2 t3 t4:TypeId}(h0:w.heap[A0]? = some (.cells #[c0_0,c0_1] t0 (0,0)))(h1:w.heap[A1]? = some (.cells #[c1_0,c1_1] t1 (0,0)))(h2:w.heap[A2]? = some (.cells #[c2_0,c2_1,c2_2] t2 (0,0)))(h3:w.heap[A3]? = some (.cells #[c3_0,c3_1] t3 (0,0)))(h4:w.heap[A4]? = some (.cells #[c4_0,c4_1,c4_2] t4 (0,0))):w.cell? ⟨A0,0,none⟩=some c0_0∧w.cell? ⟨A0,1,none⟩=some c0_1∧w.cell? ⟨A1,0,none⟩=some c1_0∧w.cell? ⟨A1,1,none⟩=some c1_1∧w.cell? ⟨A2,0,none⟩=some c2_0∧w.cell? ⟨A2,1,none⟩=some c2_1∧w.cell? ⟨A2,2,none⟩=some c2_2∧w.cell? ⟨A3,0,none⟩=some c3_0∧w.cell? ⟨A3,1,none⟩=some c3_1∧w.cell? ⟨A4,0,none⟩=some c4_0∧w.cell? ⟨A4,1,none⟩=some c4_1∧w.cell? ⟨A4,2,none⟩=some c4_2:=⟨ad_ h0 0,ad_ h0 1,ad_ h1 0,ad_ h1 1,ad_ h2 0,ad_ h2 1,ad_ h2 2,ad_ h3 0,ad_ h3 1,ad_ h4 0,ad_ h4 1,ad_ h4 2⟩
theorem gi_{w:World}{A0 A1 A2 A3 A4 A5:Nat}{c0_0 c0_1 c1_0 c1_1 c2_0 c2_1 c2_2 c3_0 c3_1 c4_0 c4_1 c4_2 c5_0 c5_1:Value}{t0 t1 t2 t3 t4 t5:TypeId}(h0:w.heap[A0]? = some (.cells #[c0_0,c0_1] t0 (0,0)))(h1:w.heap[A1]? = some (.cells #[c1_0,c1_1] t1 (0,0)))(h2:w.heap[A2]? = some (.cells #[c2_0,c2_1,c2_2] t2 (0,0)))(h3:w.heap[A3]? = some (.cells #[c3_0,c3_1] t3 (0,0)))(h4:w.heap[A4]? = some (.cells #[c4_0,c4_1,c4_2] t4 (0,0)))(h5:w.heap[A5]? = some (.cells #[c5_0,c5_1] t5 (0,0))):w.cell? ⟨A0,0,none⟩=some c0_0∧w.cell? ⟨A0,1,none⟩=some c0_1∧w.cell? ⟨A1,0,none⟩=some c1_0∧w.cell? ⟨A1,1,none⟩=some c1_1∧w.cell? ⟨A2,0,none⟩=some c2_0∧w.cell? ⟨A2,1,none⟩=some c2_1∧w.cell? ⟨A2,2,none⟩=some c2_2∧w.cell? ⟨A3,0,none⟩=some c3_0∧w.cell? ⟨A3,1,none⟩=some c3_1∧w.cell? ⟨A4,0,none⟩=some c4_0∧w.cell? ⟨A4,1,none⟩=some c4_1∧w.cell? ⟨A4,2,none⟩=some c4_2∧w.cell? ⟨A5,0,none⟩=some c5_0∧w.cell? ⟨A5,1,none⟩=some c5_1:=⟨ad_ h0 0,ad_ h0 1,ad_ h1 0,ad_ h1 1,ad_ h2 0,ad_ h2 1,ad_ h2 2,ad_ h3 0,ad_ h3 1,ad_ h4 0,ad_ h4 1,ad_ h4 2,ad_ h5 0,ad_ h5 1⟩
theorem e1_{w:World}{A0 A1 A2 A3 A4 A5 A6 A7:Nat}{c0_0 c0_1 c1_0 c1_1 c1_2 c2_0 c2_1 c3_0 c3_1 c3_2 c4_0 c4_1 c5_0 c5_1 c6_0 c6_1 c7_0 c7_1 c7_2:Value}{t0 t1 t2 t3 t4 t5 t6 t7:TypeId}(h0:w.heap[A0]? = some (.cells #[c0_0,c0_1] t0 (0,0)))(h1:w.heap[A1]? = some (.cells #[c1_0,c1_1,c1_2] t1 (0,0)))(h2:w.heap[A2]? = some (.cells #[c2_0,c2_1] t2 (0,0)))(h3:w.heap[A3]? = some (.cells #[c3_0,c3_1,c3_2] t3 (0,0)))(h4:w.heap[A4]? = some (.cells #[c4_0,c4_1] t4 (0,0)))(h5:w.heap[A5]? = some (.cells #[c5_0,c5_1] t5 (0,0)))(h6:w.heap[A6]? = some (.cells #[c6_0,c6_1] t6 (0,0)))(h7:w.heap[A7]? = some (.cells #[c7_0,c7_1,c7_2] t7 (0,0))):w.cell? ⟨A0,0,none⟩=some c0_0∧w.cell? ⟨A0,1,none⟩=some c0_1∧w.cell? ⟨A1,0,none⟩=some c1_0∧w.cell? ⟨A1,1,none⟩=some c1_1∧w.cell? ⟨A1,2,none⟩=some c1_2∧w.cell? ⟨A2,0,none⟩=some c2_0∧w.cell? ⟨A2,1,none⟩=some c2_1∧w.cell? ⟨A3,0,none⟩=some c3_0∧w.cell? ⟨A3,1,none⟩=some c3_1∧w.cell? ⟨A3,2,none⟩=some c3_2∧w.cell? ⟨A4,0,none⟩=some c4_0∧w.cell? ⟨A4,1,none⟩=some c4_1∧w.cell? ⟨A5,0,none⟩=some c5_0∧w.cell? ⟨A5,1,none⟩=some c5_1∧w.cell? ⟨A6,0,none⟩=some c6_0∧w.cell? ⟨A6,1,none⟩=some c6_1∧w.cell? ⟨A7,0,none⟩=some c7_0∧w.cell? ⟨A7,1,none⟩=some c7_1∧w.cell? ⟨A7,2,none⟩=some c7_2:=⟨ad_ h0 0,ad_ h0 1,ad_ h1 0,ad_ h1 1,ad_ h1 2,ad_ h2 0,ad_ h2 1,ad_ h3 0,ad_ h3 1,ad_ h3 2,ad_ h4 0,ad_ h4 1,ad_ h5 0,ad_ h5 1,ad_ h6 0,ad_ h6 1,ad_ h7 0,ad_ h7 1,ad_ h7 2⟩
theorem bg_{w:World}{A0 A1 A2 A3 A4 A5:Nat}{c0_0 c0_1 c1_0 c1_1 c2_0 c2_1 c3_0 c3_1 c4_0 c4_1 c4_2 c5_0 c5_1 c5_2:Value}{t0 t1 t2 t3 t4 t5:TypeId}(h0:w.heap[A0]? = some (.cells #[c0_0,c0_1] t0 (0,0)))(h1:w.heap[A1]? = some (.cells #[c1_0,c1_1] t1 (0,0)))(h2:w.heap[A2]? = some (.cells #[c2_0,c2_1] t2 (0,0)))(h3:w.heap[A3]? = some (.cells #[c3_0,c3_1] t3 (0,0)))(h4:w.heap[A4]? = some (.cells #[c4_0,c4_1,c4_2] t4 (0,0)))(h5:w.heap[A5]? = some (.cells #[c5_0,c5_1,c5_2] t5 (0,0))):w.cell? ⟨A0,0,none⟩=some c0_0∧w.cell? ⟨A0,1,none⟩=some c0_1∧w.cell? ⟨A1,0,none⟩=some c1_0∧w.cell? ⟨A1,1,none⟩=some c1_1∧w.cell? ⟨A2,0,none⟩=some c2_0∧w.cell? ⟨A2,1,none⟩=some c2_1∧w.cell? ⟨A3,0,none⟩=some c3_0∧w.cell? ⟨A3,1,none⟩=some c3_1∧w.cell? ⟨A4,0,none⟩=some c4_0∧w.cell? ⟨A4,1,none⟩=some c4_1∧w.cell? ⟨A4,2,none⟩=some c4_2∧w.cell? ⟨A5,0,none⟩=some c5_0∧w.cell? ⟨A5,1,none⟩=some c5_1∧w.cell? ⟨A5,2,none⟩=some c5_2:=⟨ad_ h0 0,ad_ h0 1,ad_ h1 0,ad_ h1 1,ad_ h2 0,ad_ h2 1,ad_ h3 0,ad_ h3 1,ad_ h4 0,ad_ h4 1,ad_ h4 2,ad_ h5 0,ad_ h5 1,ad_ h5 2⟩
theorem av_{w:World}{A0 A1 A2 A3 A4:Nat}{c0_0 c0_1 c1_0 c1_1 c2_0 c2_1 c3_0 c3_1 c3_2 c4_0 c4_1 c4_2:Value}{t0 t1 t2 t3 t4:TypeId}(h0:w.heap[A0]? = some (.cells #[c0_0,c0_1] t0 (0,0)))(h1:w.heap[A1]? = some (.cells #[c1_0,c1_1] t1 (0,0)))(h2:w.heap[A2]? = some (.cells #[c2_0,c2_1] t2 (0,0)))(h3:w.heap[A3]? = some (.cells #[c3_0,c3_1,c3_2] t3 (0,0)))(h4:w.heap[A4]? = some (.cells #[c4_0,c4_1,c4_2] t4 (0,0))):w.cell? ⟨A0,0,none⟩=some c0_0∧w.cell? ⟨A0,1,none⟩=some c0_1∧w.cell? ⟨A1,0,none⟩=some c1_0∧w.cell? ⟨A1,1,none⟩=some c1_1∧w.cell? ⟨A2,0,none⟩=some c2_0∧w.cell? ⟨A2,1,none⟩=some c2_1∧w.cell? ⟨A3,0,none⟩=some c3_0∧w.cell? ⟨A3,1,none⟩=some c3_1∧w.cell? ⟨A3,2,none⟩=some c3_2∧w.cell? ⟨A4,0,none⟩=some c4_0∧w.cell? ⟨A4,1,none⟩=some c4_1∧w.cell? ⟨A4,2,none⟩=some c4_2:=⟨ad_ h0 0,ad_ h0 1,ad_ h1 0,ad_ h1 1,ad_ h2 0,ad_ h2 1,ad_ h3 0,ad_ h3 1,ad_ h3 2,ad_ h4 0,ad_ h4 1,ad_ h4 2⟩
def Pvs (w:World) (a:OA_) (n c:Nat) (b:OA_) (m d:Nat) (U V:LR_):Prop:=Pv w a n c U 1∧Pv w b m d V 1
theorem Pvs.later{w w':World}{a:Option Addr}{n c:Nat}{b:Option Addr}{m d:Nat}{U V:List Rat}(h:Pvs w a n c b m d U V)(hb:Below w.heap.size w w'):Pvs w' a n c b m d U V:=⟨h.1.later hb,h.2.later hb⟩
theorem Pvs.l_ {w w':World}{x0 x1 x2 x3 x4 x5 x6 x7}(h:Pvs w x0 x1 x2 x3 x4 x5 x6 x7)(b:Below w.heap.size w w'):Hid (Pvs w' x0 x1 x2 x3 x4 x5 x6 x7):=Lib.hid (h.later b)
def LstP (U V:LR_) (w:World) (e:Ending) (w':World):Prop:=∃(a:OA_) (n c:Nat) (b:OA_) (m d:Nat),e=.returned (.agg #[.slice a n c,.slice b m d])∧Pvs w' a n c b m d U V∧Below w.heap.size w w'
theorem o4_(HW:∀w:World,Calls Tryz.prog 9 #[] w (bf_ (.bool true) w))(U V U2 V2 u v u2 v2 uz vz du dv uo vo ON:LR_)(k q1 qv:Rat)(okv rz rs:Bool)(a0:OA_)(n0 c0:Nat)(K0:List Fx)(b0:OA_)(m0 d0:Nat)(M0:List Fx)(a1:OA_)(n1 c1:Nat)(K1:List Fx)(b1:OA_)(m1 d1:Nat)(M1:List Fx)(s2:Bool)(a2:OA_)(n2 c2:Nat)(l2:List Nat)(b2:OA_)(m2 d2:Nat)(k2:List Nat)(w:World)(h0:Fxs w a0 n0 c0 K0)(j0:Fxs w b0 m0 d0 M0)(h1:Fxs w a1 n1 c1 K1)(j1:Fxs w b1 m1 d1 M1)(h2:Wd w a2 n2 c2 l2)(j2:Wd w b2 m2 d2 k2)(hb0:(((n0:Int)≤4∧thinI 1 K0)∧((m0:Int)≤4∧thinI 1 M0)))(hb1:(((n1:Int)≤4∧thinI 1 K1)∧((m1:Int)≤4∧thinI 1 M1)))(hn2:n2≤1)(hm2:m2≤1)(HNM:∀w':World,Fxs w' a0 n0 c0 K0→Fxs w' b0 m0 d0 M0→Calls Tryz.prog 10 #[.agg #[.slice a0 n0 c0,.slice b0 m0 d0]] w' (LstX u v w'))(HNK:∀(w':World),Wd w' a2 n2 c2 l2→Wd w' b2 m2 d2 k2→Calls Tryz.prog 11 #[.agg #[.bool s2,.slice a2 n2 c2,.slice b2 m2 d2]] w' (LstQ k w'))(HTX:∀w':World,Fxs w' a0 n0 c0 K0→Fxs w' b0 m0 d0 M0→Calls Tryz.prog 12 #[.agg #[.slice a0 n0 c0,.slice b0 m0 d0]] w' (LstP U V w'))(HNW:∀(w':World) (a:OA_) (n c:Nat) (b:OA_) (m d:Nat),Pvs w' a n c b m d U V→Calls Tryz.prog 13 #[.slice a n c,.slice b m d] w' (LstXV u v (.bool true) w'))(HI1:∀(w':World),Calls Tryz.prog 15 #[.int .i64 1] w' (LstQ q1 w'))(HO1:∀(w':World) (a1:OA_) (n1 c1:Nat) (b1:OA_) (m1 d1:Nat),Wd w' a1 n1 c1 (dg q1.num.natAbs)→Wd w' b1 m1 d1 (dg q1.den)→Calls Tryz.prog 14 #[.agg #[.bool (zneg q1.num),.slice a1 n1 c1,.slice b1 m1 d1]] w' (LstX ON ON w'))(HNZ:∀(w':World) (a:OA_) (n c:Nat),Fxs w' b0 m0 d0 M0→Rw w' a n c ON→Calls Tryz.prog 10 #[.agg #[.slice b0 m0 d0,.slice a n c]] w' (LstX uz vz w'))(HT9:∀(w':World),Calls Tryz.prog 17 #[.agg #[.bool s2,.slice a2 n2 c2,.slice b2 m2 d2]] w' (bf_ (.agg #[.bool s2,.slice a2 n2 c2,.slice b2 m2 d2]) w'))(HEV:∀(w':World) (a:OA_) (n c:Nat) (b:OA_) (m d:Nat),Pvs w' a n c b m d U V→Wd w' a2 n2 c2 l2→Wd w' b2 m2 d2 k2→Calls Tryz.prog 16 #[.agg #[.slice a n c,.slice b m d],.agg #[.bool s2,.slice a2 n2 c2,.slice b2 m2 d2]] w' (en_ qv (.bool okv) w'))(HEW:∀(w':World) (a:OA_) (n c:Nat) (b:OA_) (m d:Nat) (a3:OA_) (n3 c3:Nat) (b3:OA_) (m3 d3:Nat),Rw w' a n c u→Rw w' b m d v→Wd w' a3 n3 c3 (dg k.num.natAbs)→Wd w' b3 m3 d3 (dg k.den)→Calls Tryz.prog 18 #[.agg #[.slice a n c,.slice b m d],.agg #[.bool (zneg k.num),.slice a3 n3 c3,.slice b3 m3 d3]] w' (en_ qv (.bool okv) w'))(HNX:∀(w':World) (a:OA_) (n c:Nat) (b:OA_) (m d:Nat),Pvs w' a n c b m d U V→Calls Tryz.prog 20 #[.agg #[.slice a n c,.slice b m d]] w' (LstX u v w'))(HIS:∀(w':World) (a:OA_) (n c:Nat) (b:OA_) (m d:Nat) (a':OA_) (n' c':Nat) (b':OA_) (m' d':Nat),Rw w' a n c u→Rw w' b m d v→Rw w' a' n' c' u→Rw w' b' m' d' v→Calls Tryz.prog 19 #[.agg #[.slice a n c,.slice b m d],.agg #[.slice a' n' c',.slice b' m' d']] w' (bf_ (.bool true) w'))(HRZ:∀(w':World) (a:OA_) (n c:Nat) (b:OA_) (m d:Nat),Rw w' a n c uz→Rw w' b m d vz→Calls Tryz.prog 21 #[.agg #[.slice a n c,.slice b m d]] w' (bf_ (.bool false) w'))(HI9:∀(w':World) (a1:OA_) (n1 c1:Nat) (b1:OA_) (m1 d1:Nat) (a3:OA_) (n3 c3:Nat) (b3:OA_) (m3 d3:Nat),Wd w' a1 n1 c1 (dg qv.num.natAbs)→Wd w' b1 m1 d1 (dg qv.den)→Wd w' a3 n3 c3 (dg qv.num.natAbs)→Wd w' b3 m3 d3 (dg qv.den)→Calls Tryz.prog 22 #[.agg #[.bool (zneg qv.num),.slice a1 n1 c1,.slice b1 m1 d1],.agg #[.bool (zneg qv.num),.slice a3 n3 c3,.slice b3 m3 d3]] w' (bf_ (.bool true) w'))(HZX:∀(w':World) (a:OA_) (n c:Nat) (b:OA_) (m d:Nat),Pvs w' a n c b m d U V→Calls Tryz.prog 23 #[.agg #[.slice a n c,.slice b m d]] w' (bf_ (.bool rz) w'))(HZM:∀(w':World) (a:OA_) (n c:Nat) (b:OA_) (m d:Nat),Rw w' a n c u→Rw w' b m d v→Calls Tryz.prog 21 #[.agg #[.slice a n c,.slice b m d]] w' (bf_ (.bool rz) w'))(HTY:∀w':World,Fxs w' a1 n1 c1 K1→Fxs w' b1 m1 d1 M1→Calls Tryz.prog 12 #[.agg #[.slice a1 n1 c1,.slice b1 m1 d1]] w' (LstP U2 V2 w'))(HSX:∀(w':World) (a:OA_) (n c:Nat) (b:OA_) (m d:Nat) (a':OA_) (n' c':Nat) (b':OA_) (m' d':Nat),Pvs w' a n c b m d U V→Pvs w' a' n' c' b' m' d' U2 V2→Calls Tryz.prog 24 #[.agg #[.slice a n c,.slice b m d],.agg #[.slice a' n' c',.slice b' m' d']] w' (bf_ (.bool rs) w'))(HNY:∀w':World,Fxs w' a1 n1 c1 K1→Fxs w' b1 m1 d1 M1→Calls Tryz.prog 10 #[.agg #[.slice a1 n1 c1,.slice b1 m1 d1]] w' (LstX u2 v2 w'))(HSM:∀(w':World) (a:OA_) (n c:Nat) (b:OA_) (m d:Nat) (a':OA_) (n' c':Nat) (b':OA_) (m' d':Nat),Rw w' a n c u→Rw w' b m d v→Rw w' a' n' c' u2→Rw w' b' m' d' v2→Calls Tryz.prog 25 #[.agg #[.slice a n c,.slice b m d],.agg #[.slice a' n' c',.slice b' m' d']] w' (bf_ (.bool rs) w'))(HDX:∀(w':World) (a:OA_) (n c:Nat) (b:OA_) (m d:Nat),Pvs w' a n c b m d U V→Calls Tryz.prog 26 #[.agg #[.slice a n c,.slice b m d]] w' (LstX du dv w'))(HDM:∀(w':World) (a:OA_) (n c:Nat) (b:OA_) (m d:Nat),Rw w' a n c u→Rw w' b m d v→Calls Tryz.prog 27 #[.agg #[.slice a n c,.slice b m d]] w' (LstX du dv w'))(HID:∀(w':World) (a:OA_) (n c:Nat) (b:OA_) (m d:Nat) (a':OA_) (n' c':Nat) (b':OA_) (m' d':Nat),Rw w' a n c du→Rw w' b m d dv→Rw w' a' n' c' du→Rw w' b' m' d' dv→Calls Tryz.prog 19 #[.agg #[.slice a n c,.slice b m d],.agg #[.slice a' n' c',.slice b' m' d']] w' (bf_ (.bool true) w'))(HOC:∀(w':World),Wd w' a2 n2 c2 l2→Wd w' b2 m2 d2 k2→Calls Tryz.prog 28 #[.agg #[.bool s2,.slice a2 n2 c2,.slice b2 m2 d2]] w' (LstX uo vo w'))(HOK:∀(w':World) (a1:OA_) (n1 c1:Nat) (b1:OA_) (m1 d1:Nat),Wd w' a1 n1 c1 (dg k.num.natAbs)→Wd w' b1 m1 d1 (dg k.den)→Calls Tryz.prog 14 #[.agg #[.bool (zneg k.num),.slice a1 n1 c1,.slice b1 m1 d1]] w' (LstX uo vo w'))(HIO:∀(w':World) (a:OA_) (n c:Nat) (b:OA_) (m d:Nat) (a':OA_) (n' c':Nat) (b':OA_) (m' d':Nat),Rw w' a n c uo→Rw w' b m d vo→Rw w' a' n' c' uo→Rw w' b' m' d' vo→Calls Tryz.prog 19 #[.agg #[.slice a n c,.slice b m d],.agg #[.slice a' n' c',.slice b' m' d']] w' (bf_ (.bool true) w')):Calls Tryz.prog 3 #[.agg #[.slice a0 n0 c0,.slice b0 m0 d0],.agg #[.slice a1 n1 c1,.slice b1 m1 d1],frV s2 a2 n2 c2 b2 m2 d2] w (bf_ (.bool true) w):=by
 have hl2:(decide ((1:Int) < (n2:Int)) || decide ((1:Int) < (m2:Int)))=false:=by rw[decide_eq_false (by omega),decide_eq_false (by omega)];rfl
 have HNB0:=hd_ hb0
 have HNB1:=hd_ hb1
 have HB:=hd_ (ab_ (ab_ (aa_ w (.cells #[.slice a0 n0 c0,.slice b0 m0 d0] 24)) (aa_ _ (.cells #[.slice a1 n1 c1,.slice b1 m1 d1] 24))) (aa_ _ (.cells #[.bool s2,.slice a2 n2 c2,.slice b2 m2 d2] 27)))
 have X0:Hid ((((w.alloc (.cells #[.slice a0 n0 c0,.slice b0 m0 d0] 24)).alloc (.cells #[.slice a1 n1 c1,.slice b1 m1 d1] 24)).alloc (.cells #[.bool s2,.slice a2 n2 c2,.slice b2 m2 d2] 27)).heap[w.heap.size]? = some (.cells #[.slice a0 n0 c0,.slice b0 m0 d0] 24 (0,0))):=hd_ (ac_ (ac_ (ai_ w _ _) (aa_ _ (.cells #[.slice a1 n1 c1,.slice b1 m1 d1] 24))) (aa_ _ (.cells #[.bool s2,.slice a2 n2 c2,.slice b2 m2 d2] 27)))
 have X1:Hid ((((w.alloc (.cells #[.slice a0 n0 c0,.slice b0 m0 d0] 24)).alloc (.cells #[.slice a1 n1 c1,.slice b1 m1 d1] 24)).alloc (.cells #[.bool s2,.slice a2 n2 c2,.slice b2 m2 d2] 27)).heap[w.heap.size+1]? = some (.cells #[.slice a1 n1 c1,.slice b1 m1 d1] 24 (0,0))):=hd_ (ac_ (by have h9:=ai_ (w.alloc (.cells #[.slice a0 n0 c0,.slice b0 m0 d0] 24)) #[.slice a1 n1 c1,.slice b1 m1 d1] 24;rwa [al_] at h9) (aa_ _ (.cells #[.bool s2,.slice a2 n2 c2,.slice b2 m2 d2] 27)))
 have X2:Hid ((((w.alloc (.cells #[.slice a0 n0 c0,.slice b0 m0 d0] 24)).alloc (.cells #[.slice a1 n1 c1,.slice b1 m1 d1] 24)).alloc (.cells #[.bool s2,.slice a2 n2 c2,.slice b2 m2 d2] 27)).heap[w.heap.size+1+1]? = some (.cells #[.bool s2,.slice a2 n2 c2,.slice b2 m2 d2] 27 (0,0))):=hd_ (by have h9:=ai_ ((w.alloc (.cells #[.slice a0 n0 c0,.slice b0 m0 d0] 24)).alloc (.cells #[.slice a1 n1 c1,.slice b1 m1 d1] 24)) #[.bool s2,.slice a2 n2 c2,.slice b2 m2 d2] 27;rwa [al_,al_] at h9)
 have HF0:=hd_ (h0.later HB.out)
 have HG0:=hd_ (j0.later HB.out)
 have HF1:=hd_ (h1.later HB.out)
 have HG1:=hd_ (j1.later HB.out)
 have A2:=hd_ (h2.later HB.out)
 have D2:=hd_ (j2.later HB.out)
 clear h0 j0 h1 j1 h2 j2 hb0 hb1
 go_enter Tryz.func3,Tryz.ntmps3
 unfold frV
 obtain⟨vk0,vk1,vk2,vk3,vk4,vk5,vk6⟩:=bx_ X0.out X1.out X2.out
 go_wp2_with fail
 refine (eg_ a0 n0 c0 K0 b0 m0 d0 M0 4 1 false _ HF0.out HG0.out (by decide) ⟨fun h=>absurd h (by decide),fun h=>absurd HNB0.out h⟩).mono ?_
 rintro e wv1 ⟨rfl,b⟩
 clear vk0 vk1 vk2 vk3 vk4 vk5 vk6
 replace HB:=bt_ HB b
 replace X0:=bl_ X0 b
 replace X1:=bl_ X1 b
 replace X2:=bl_ X2 b
 replace HF0:=HF0.l_ b
 replace HG0:=HG0.l_ b
 replace HF1:=HF1.l_ b
 replace HG1:=HG1.l_ b
 replace A2:=A2.l_ b
 replace D2:=D2.l_ b
 clear b
 obtain⟨vk0,vk1,vk2,vk3,vk4,vk5,vk6⟩:=bx_ X0.out X1.out X2.out
 go_wp2_with fail
 refine (eg_ a1 n1 c1 K1 b1 m1 d1 M1 4 1 false _ HF1.out HG1.out (by decide) ⟨fun h=>absurd h (by decide),fun h=>absurd HNB1.out h⟩).mono ?_
 rintro e wv2 ⟨rfl,b⟩
 clear vk0 vk1 vk2 vk3 vk4 vk5 vk6
 replace HB:=bt_ HB b
 replace X0:=bl_ X0 b
 replace X1:=bl_ X1 b
 replace X2:=bl_ X2 b
 replace HF0:=HF0.l_ b
 replace HG0:=HG0.l_ b
 replace HF1:=HF1.l_ b
 replace HG1:=HG1.l_ b
 replace A2:=A2.l_ b
 replace D2:=D2.l_ b
 clear b
 obtain⟨vk0,vk1,vk2,vk3,vk4,vk5,vk6⟩:=bx_ X0.out X1.out X2.out
 go_wp2_with fail
 refine (ig_ s2 a2 n2 c2 b2 m2 d2 1 _).mono ?_
 rintro e wv3 ⟨rfl,b⟩
 clear vk0 vk1 vk2 vk3 vk4 vk5 vk6
 replace HB:=bt_ HB b
 replace X0:=bl_ X0 b
 replace X1:=bl_ X1 b
 replace X2:=bl_ X2 b
 replace HF0:=HF0.l_ b
 replace HG0:=HG0.l_ b
 replace HF1:=HF1.l_ b
 replace HG1:=HG1.l_ b
 replace A2:=A2.l_ b
 replace D2:=D2.l_ b
 clear b
 rw[hl2]
 obtain⟨vk0,vk1,vk2,vk3,vk4,vk5,vk6⟩:=bx_ X0.out X1.out X2.out
 go_wp2_with fail
 refine (HNM _ HF0.out HG0.out).mono ?_
 rintro e wv4 ⟨a21,n21,c21,b21,m21,d21,rfl,h21,g21,b⟩
 clear vk0 vk1 vk2 vk3 vk4 vk5 vk6
 have RU:=hd_ h21
 have RV:=hd_ g21
 have ba:=aa_ wv4 (.cells #[.slice a21 n21 c21,.slice b21 m21 d21] 24)
 have BM:=hd_ (ai_ wv4 #[.slice a21 n21 c21,.slice b21 m21 d21] 24)
 have bb:=ab_ b ba
 replace RU:=RU.l_ ba
 replace RV:=RV.l_ ba
 replace HB:=bt_ HB bb
 replace X0:=bl_ X0 bb
 replace X1:=bl_ X1 bb
 replace X2:=bl_ X2 bb
 replace HF0:=HF0.l_ bb
 replace HG0:=HG0.l_ bb
 replace HF1:=HF1.l_ bb
 replace HG1:=HG1.l_ bb
 replace A2:=A2.l_ bb
 replace D2:=D2.l_ bb
 clear b ba bb
 clear h21 g21
 go_upto_region 4 with fail
 generalize wv4.alloc (.cells #[.slice a21 n21 c21,.slice b21 m21 d21] 24)=wr at *
 obtain⟨vk0,vk1,vk2,vk3,vk4,vk5,vk6,vk7,vk8⟩:=is_ X0.out X1.out X2.out BM.out
 go_wp2_with fail
 refine (HNK _ A2.out D2.out).mono ?_
 rintro e wv5 ⟨a22,n22,c22,b22,m22,d22,rfl,h22,g22,b⟩
 clear vk0 vk1 vk2 vk3 vk4 vk5 vk6 vk7 vk8
 have AK:=hd_ h22
 have DK:=hd_ g22
 have ba:=aa_ wv5 (.cells #[.bool (zneg k.num),.slice a22 n22 c22,.slice b22 m22 d22] 27)
 have BK:=hd_ (ai_ wv5 #[.bool (zneg k.num),.slice a22 n22 c22,.slice b22 m22 d22] 27)
 have bb:=ab_ b ba
 replace AK:=AK.l_ ba
 replace DK:=DK.l_ ba
 replace HB:=bt_ HB bb
 replace X0:=bl_ X0 bb
 replace X1:=bl_ X1 bb
 replace X2:=bl_ X2 bb
 replace BM:=bl_ BM bb
 replace HF0:=HF0.l_ bb
 replace HG0:=HG0.l_ bb
 replace HF1:=HF1.l_ bb
 replace HG1:=HG1.l_ bb
 replace A2:=A2.l_ bb
 replace D2:=D2.l_ bb
 replace RU:=RU.l_ bb
 replace RV:=RV.l_ bb
 clear b ba bb
 clear h22 g22
 (try unfold frV)
 go_upto_region 5 with fail
 generalize wv5.alloc (.cells #[.bool (zneg k.num),.slice a22 n22 c22,.slice b22 m22 d22] 27)=wr at *
 obtain⟨vk0,vk1,vk2,vk3,vk4,vk5,vk6,vk7,vk8,vk9,vk10,vk11⟩:=hm_ X0.out X1.out X2.out BM.out BK.out
 go_wp2_with fail
 refine (HTX _ HF0.out HG0.out).mono ?_
 rintro e wv6 ⟨a23,n23,c23,b23,m23,d23,rfl,h23,b⟩
 clear vk0 vk1 vk2 vk3 vk4 vk5 vk6 vk7 vk8 vk9 vk10 vk11
 have PX:=hd_ h23
 have ba:=aa_ wv6 (.cells #[.slice a23 n23 c23,.slice b23 m23 d23] 35)
 have BX:=hd_ (ai_ wv6 #[.slice a23 n23 c23,.slice b23 m23 d23] 35)
 have bb:=ab_ b ba
 replace PX:=PX.l_ ba
 replace HB:=bt_ HB bb
 replace X0:=bl_ X0 bb
 replace X1:=bl_ X1 bb
 replace X2:=bl_ X2 bb
 replace BM:=bl_ BM bb
 replace BK:=bl_ BK bb
 replace HF0:=HF0.l_ bb
 replace HG0:=HG0.l_ bb
 replace HF1:=HF1.l_ bb
 replace HG1:=HG1.l_ bb
 replace A2:=A2.l_ bb
 replace D2:=D2.l_ bb
 replace RU:=RU.l_ bb
 replace RV:=RV.l_ bb
 replace AK:=AK.l_ bb
 replace DK:=DK.l_ bb
 clear b ba bb
 clear h23
 go_upto_region 6 with fail
 generalize wv6.alloc (.cells #[.slice a23 n23 c23,.slice b23 m23 d23] 35)=wr at *
 obtain⟨vk0,vk1,vk2,vk3,vk4,vk5,vk6,vk7,vk8,vk9,vk10,vk11,vk12,vk13⟩:=gi_ X0.out X1.out X2.out BM.out BK.out BX.out
 go_wp2_with fail
 refine (HNW _ _ _ _ _ _ _ PX.out).mono ?_
 rintro e wv7 ⟨a24,n24,c24,b24,m24,d24,rfl,h24,g24,b⟩
 clear vk0 vk1 vk2 vk3 vk4 vk5 vk6 vk7 vk8 vk9 vk10 vk11 vk12 vk13
 have RN:=hd_ h24
 have SN:=hd_ g24
 have ba:=aa_ wv7 (.cells #[.slice a24 n24 c24,.slice b24 m24 d24] 35)
 have BN:=hd_ (ai_ wv7 #[.slice a24 n24 c24,.slice b24 m24 d24] 35)
 have bb:=ab_ b ba
 replace RN:=RN.l_ ba
 replace SN:=SN.l_ ba
 replace HB:=bt_ HB bb
 replace X0:=bl_ X0 bb
 replace X1:=bl_ X1 bb
 replace X2:=bl_ X2 bb
 replace BM:=bl_ BM bb
 replace BK:=bl_ BK bb
 replace BX:=bl_ BX bb
 replace HF0:=HF0.l_ bb
 replace HG0:=HG0.l_ bb
 replace HF1:=HF1.l_ bb
 replace HG1:=HG1.l_ bb
 replace A2:=A2.l_ bb
 replace D2:=D2.l_ bb
 replace RU:=RU.l_ bb
 replace RV:=RV.l_ bb
 replace AK:=AK.l_ bb
 replace DK:=DK.l_ bb
 replace PX:=PX.l_ bb
 clear b ba bb
 clear h24 g24
 go_upto_region 7 with fail
 generalize wv7.alloc (.cells #[.slice a24 n24 c24,.slice b24 m24 d24] 35)=wr at *
 obtain⟨gm,hgm⟩:∃g,wv4.heap.size=g:=⟨_,rfl⟩
 rw[hgm] at BM ⊢
 clear hgm
 obtain⟨gk,hgk⟩:∃g,wv5.heap.size=g:=⟨_,rfl⟩
 rw[hgk] at BK ⊢
 clear hgk
 obtain⟨gx,hgx⟩:∃g,wv6.heap.size=g:=⟨_,rfl⟩
 rw[hgx] at BX ⊢
 clear hgx
 obtain⟨gn,hgn⟩:∃g,wv7.heap.size=g:=⟨_,rfl⟩
 rw[hgn] at BN ⊢
 clear hgn
 have hfd:∀(w9:World) (a:OA_) (n c:Nat) (b:OA_) (m d:Nat),(Instr.field 24 (.agg #[.slice a n c,.slice b m d]) 1).run Tryz.prog w9=.ok (.slice b m d) w9:=fun _ _ _ _ _ _ _=>by kernel_rfl
 have SU:=hd_ (bd_ X0.out)
 go_upto_region 7 with fail
 go_cut [12] from 42 to 48 (fun cv wx=>∃(g:Nat) (a33:OA_) (n33 c33:Nat) (b33:OA_) (m33 d33:Nat),cv=.pointer (some ⟨g,0,none⟩)∧Hid (wx.heap[g]? = some (.cells #[.slice a33 n33 c33,.slice b33 m33 d33] 24 (0,0)))∧Hid (Rw wx a33 n33 c33 uz)∧Hid (Rw wx b33 m33 d33 vz)∧Hid (Below wr.heap.size wr wx))
 case first=>
  obtain⟨s0,s1⟩:=a6_ SU.out (Below.refl wr.heap.size wr)
  go_wp2
  clear s0 s1
  have G1:Below wr.heap.size wr wr.drew:=(Below.refl _ _).drew
  have G2:∀o,Below wr.heap.size wr (wr.alloc o).drew:=fun o=>(aa_ wr o).drew
  have qS:=a6_ SU.out (G1)
  have qA:=fun (o:Obj)=>a6_ SU.out (G2 o)
  go_region_held3 (fun w'=>w'.cell? ⟨w.heap.size,0,none⟩=some (.slice a0 n0 c0)∧w'.cell? ⟨w.heap.size,1,none⟩=some (.slice b0 m0 d0)) (first | with_reducible exact qS | with_reducible exact qA _ | with_reducible exact qC)
   (first
   | (go_at_call 15;(first
     | ((first
       | ((with_reducible refine (HI1 wr.drew).mono ?_);rintro ed wq0 ⟨a31,n31,c31,b31,m31,d31,rfl,h31,g31,bw⟩;have bb:=ab_ G1 bw;have BC:=hd_ bb;replace HG0:=HG0.l_ bb;have A31:=hd_ (h31);have D31:=hd_ (g31);clear bb bw qS qA;clear h31 g31;(try unfold frV);have qS:=a6_ SU.out (BC.out);have qA:=fun (o:Obj)=>a6_ SU.out (ab_ BC.out (aa_ wq0 o));have M0:=True.intro)
       | ((with_reducible refine (HI1 (wr.alloc (.cells #[.slice none 0 0,.slice none 0 0] 24)).drew).mono ?_);have hzb:wr.heap.size≤wr.heap.size:=Nat.le_refl _;rintro ed wq0 ⟨a31,n31,c31,b31,m31,d31,rfl,h31,g31,bw⟩;have bb:=ab_ (G2 (.cells #[.slice none 0 0,.slice none 0 0] 24)) bw;have BC:=hd_ bb;replace HG0:=HG0.l_ bb;have A31:=hd_ (h31);have D31:=hd_ (g31);have ZF:=hd_ (ac_ (w:=(wr.alloc (.cells #[.slice none 0 0,.slice none 0 0] 24)).drew) (ai_ wr #[.slice none 0 0,.slice none 0 0] 24) bw);clear bb bw qS qA;clear h31 g31;(try unfold frV);have qS:=a6_ SU.out (BC.out);have qA:=fun (o:Obj)=>a6_ SU.out (ab_ BC.out (aa_ wq0 o));have M0:=True.intro)))))
   | (go_at_call 14;(first
     | (have mm:=M0;(first
       | (have yy9:=ZF;(with_reducible refine (HO1 wq0 _ _ _ _ _ _ A31.out D31.out).mono ?_);rintro ed wq1 ⟨a32,n32,c32,b32,m32,d32,rfl,h32,g32,bw⟩;have bb:=bw;replace BC:=bt_ BC bb;replace HG0:=HG0.l_ bb;replace A31:=A31.l_ bb;replace D31:=D31.l_ bb;have R32:=hd_ (h32);have S32:=hd_ (g32);replace ZF:=bl_ ZF bw;clear yy9;clear bb bw qS qA;clear h32 g32;(try unfold frV);have qS:=a6_ SU.out (BC.out);have qA:=fun (o:Obj)=>a6_ SU.out (ab_ BC.out (aa_ wq1 o));have M1:=True.intro)
       | ((with_reducible refine (HO1 wq0 _ _ _ _ _ _ A31.out D31.out).mono ?_);rintro ed wq1 ⟨a32,n32,c32,b32,m32,d32,rfl,h32,g32,bw⟩;have bb:=bw;replace BC:=bt_ BC bb;replace HG0:=HG0.l_ bb;replace A31:=A31.l_ bb;replace D31:=D31.l_ bb;have R32:=hd_ (h32);have S32:=hd_ (g32);clear bb bw qS qA;clear h32 g32;(try unfold frV);have qS:=a6_ SU.out (BC.out);have qA:=fun (o:Obj)=>a6_ SU.out (ab_ BC.out (aa_ wq1 o));have M1:=True.intro)
       | (have ba:=aa_ wq0 (.cells #[.slice none 0 0,.slice none 0 0] 24);(with_reducible refine (HO1 (wq0.alloc (.cells #[.slice none 0 0,.slice none 0 0] 24)) _ _ _ _ _ _ (A31.out.later ba) (D31.out.later ba)).mono ?_);have hzb:wr.heap.size≤wq0.heap.size:=BC.out.size;rintro ed wq1 ⟨a32,n32,c32,b32,m32,d32,rfl,h32,g32,bw⟩;have bb:=ab_ ba bw;replace BC:=bt_ BC bb;replace HG0:=HG0.l_ bb;replace A31:=A31.l_ bb;replace D31:=D31.l_ bb;have R32:=hd_ (h32);have S32:=hd_ (g32);have ZF:=hd_ (ac_ (ai_ wq0 #[.slice none 0 0,.slice none 0 0] 24) bw);clear ba;clear bb bw qS qA;clear h32 g32;(try unfold frV);have qS:=a6_ SU.out (BC.out);have qA:=fun (o:Obj)=>a6_ SU.out (ab_ BC.out (aa_ wq1 o));have M1:=True.intro)))))
   | (go_at_call 10;(first
     | (have mm:=M1;(first
       | (have yy9:=ZF;(with_reducible refine (HNZ wq1 _ _ _ HG0.out S32.out).mono ?_);rintro ed wq2 ⟨a33,n33,c33,b33,m33,d33,rfl,h33,g33,bw⟩;have bb:=bw;replace BC:=bt_ BC bb;replace HG0:=HG0.l_ bb;replace A31:=A31.l_ bb;replace D31:=D31.l_ bb;replace R32:=R32.l_ bb;replace S32:=S32.l_ bb;have RZ:=hd_ (h33);have SZ:=hd_ (g33);replace ZF:=bl_ ZF bw;clear yy9;clear bb bw qS qA;clear h33 g33;(try unfold frV);have qS:=a6_ SU.out (BC.out);have qA:=fun (o:Obj)=>a6_ SU.out (ab_ BC.out (aa_ wq2 o));obtain⟨z0,z1⟩:=bd_ ZF.out;have f0:=ae_ ZF.out 0;have f1:=ae_ ZF.out 1;have qC:=a6_ SU.out (ay_ BC.out hzb (.slice a33 n33 c33) (.slice b33 m33 d33));have M2:=True.intro)
       | ((with_reducible refine (HNZ wq1 _ _ _ HG0.out S32.out).mono ?_);rintro ed wq2 ⟨a33,n33,c33,b33,m33,d33,rfl,h33,g33,bw⟩;have bb:=bw;replace BC:=bt_ BC bb;replace HG0:=HG0.l_ bb;replace A31:=A31.l_ bb;replace D31:=D31.l_ bb;replace R32:=R32.l_ bb;replace S32:=S32.l_ bb;have RZ:=hd_ (h33);have SZ:=hd_ (g33);clear bb bw qS qA;clear h33 g33;(try unfold frV);have qS:=a6_ SU.out (BC.out);have qA:=fun (o:Obj)=>a6_ SU.out (ab_ BC.out (aa_ wq2 o));have M2:=True.intro)
       | (have ba:=aa_ wq1 (.cells #[.slice none 0 0,.slice none 0 0] 24);(with_reducible refine (HNZ (wq1.alloc (.cells #[.slice none 0 0,.slice none 0 0] 24)) _ _ _ (HG0.out.later ba) (S32.out.later ba)).mono ?_);have hzb:wr.heap.size≤wq1.heap.size:=BC.out.size;rintro ed wq2 ⟨a33,n33,c33,b33,m33,d33,rfl,h33,g33,bw⟩;have bb:=ab_ ba bw;replace BC:=bt_ BC bb;replace HG0:=HG0.l_ bb;replace A31:=A31.l_ bb;replace D31:=D31.l_ bb;replace R32:=R32.l_ bb;replace S32:=S32.l_ bb;have RZ:=hd_ (h33);have SZ:=hd_ (g33);have ZF:=hd_ (ac_ (ai_ wq1 #[.slice none 0 0,.slice none 0 0] 24) bw);clear ba;clear bb bw qS qA;clear h33 g33;(try unfold frV);have qS:=a6_ SU.out (BC.out);have qA:=fun (o:Obj)=>a6_ SU.out (ab_ BC.out (aa_ wq2 o));obtain⟨z0,z1⟩:=bd_ ZF.out;have f0:=ae_ ZF.out 0;have f1:=ae_ ZF.out 1;have qC:=a6_ SU.out (ay_ BC.out hzb (.slice a33 n33 c33) (.slice b33 m33 d33));have M2:=True.intro))))))
  all_goals (
   go_wp2
   go_meet
   (first
     | exact⟨_,a33,n33,c33,b33,m33,d33,rfl,hd_ (bj_ ZF.out (.slice a33 n33 c33) (.slice b33 m33 d33)),hd_ (RZ.out.boxed ZF.out (.slice a33 n33 c33) (.slice b33 m33 d33)),hd_ (SZ.out.boxed ZF.out (.slice a33 n33 c33) (.slice b33 m33 d33)),hd_ (ay_ BC.out hzb (.slice a33 n33 c33) (.slice b33 m33 d33))⟩
     | exact⟨wq2.heap.size,a33,n33,c33,b33,m33,d33,rfl,hd_ (ai_ wq2 _ 24),hd_ (RZ.out.later (aa_ wq2 _)),hd_ (SZ.out.later (aa_ wq2 _)),hd_ (ab_ BC.out (aa_ wq2 _))⟩))
 case rest=>
  obtain⟨gz,a33,n33,c33,b33,m33,d33,rfl,BZ,RZ,SZ,HBc⟩:=hcut
  replace HB:=hd_ (ab_ HB.out HBc.out)
  replace X1:=hd_ (ac_ X1.out HBc.out)
  replace X2:=hd_ (ac_ X2.out HBc.out)
  replace BM:=hd_ (ac_ BM.out HBc.out)
  replace BK:=hd_ (ac_ BK.out HBc.out)
  replace BX:=hd_ (ac_ BX.out HBc.out)
  replace BN:=hd_ (ac_ BN.out HBc.out)
  replace HF1:=hd_ (HF1.out.later HBc.out)
  replace HG1:=hd_ (HG1.out.later HBc.out)
  replace A2:=hd_ (A2.out.later HBc.out)
  replace D2:=hd_ (D2.out.later HBc.out)
  replace RU:=hd_ (RU.out.later HBc.out)
  replace RV:=hd_ (RV.out.later HBc.out)
  replace AK:=hd_ (AK.out.later HBc.out)
  replace DK:=hd_ (DK.out.later HBc.out)
  replace PX:=hd_ (PX.out.later HBc.out)
  replace RN:=hd_ (RN.out.later HBc.out)
  replace SN:=hd_ (SN.out.later HBc.out)
  clear HBc SU hfd HI1 HO1 HNZ HF0 HG0 X0 HNM HTX HNK HNW
  go_upto_region 8 with fail
  generalize wc=wr at *
  have SU:=hd_ (cb_ BX.out X2.out)
  go_upto_region 8 with fail
  go_cut [13,14] from 49 to 55 (fun cv ov wx=>∃(g:Nat) (a41:OA_) (n41 c41:Nat) (b41:OA_) (m41 d41:Nat),cv=.pointer (some ⟨g,0,none⟩)∧ov=.bool okv∧Hid (wx.heap[g]? = some (.cells #[.bool (zneg qv.num),.slice a41 n41 c41,.slice b41 m41 d41] 44 (0,0)))∧Hid (Wd wx a41 n41 c41 (dg qv.num.natAbs))∧Hid (Wd wx b41 m41 d41 (dg qv.den))∧Hid (Below wr.heap.size wr wx))
  case first=>
   obtain⟨s0,s1,s2,s3,s4⟩:=cm_ SU.out (Below.refl wr.heap.size wr)
   go_wp2
   clear s0 s1 s2 s3 s4
   have G1:Below wr.heap.size wr wr.drew:=(Below.refl _ _).drew
   have G2:∀o,Below wr.heap.size wr (wr.alloc o).drew:=fun o=>(aa_ wr o).drew
   have qS:=cm_ SU.out (G1)
   have qA:=fun (o:Obj)=>cm_ SU.out (G2 o)
   go_region_held3 (fun w'=>w'.cell? ⟨gx,0,none⟩=some (.slice a23 n23 c23)∧w'.cell? ⟨gx,1,none⟩=some (.slice b23 m23 d23)∧w'.cell? ⟨w.heap.size+1+1,0,none⟩=some (.bool s2)∧w'.cell? ⟨w.heap.size+1+1,1,none⟩=some (.slice a2 n2 c2)∧w'.cell? ⟨w.heap.size+1+1,2,none⟩=some (.slice b2 m2 d2)) (first | with_reducible exact qS | with_reducible exact qA _ | with_reducible exact qC)
    (first
    | (go_at_call 17;(first
      | ((first
        | ((with_reducible refine (HT9 wr.drew).mono ?_);rintro ed wq0 ⟨rfl,bw⟩;have bb:=ab_ G1 bw;have BC:=hd_ bb;replace PX:=PX.l_ bb;replace A2:=A2.l_ bb;replace D2:=D2.l_ bb;clear bb bw qS qA;(try unfold frV);have qS:=cm_ SU.out (BC.out);have qA:=fun (o:Obj)=>cm_ SU.out (ab_ BC.out (aa_ wq0 o));have M0:=True.intro)
        | ((with_reducible refine (HT9 (wr.alloc (.cells #[.bool false,.slice none 0 0,.slice none 0 0] 44)).drew).mono ?_);have hzb:wr.heap.size≤wr.heap.size:=Nat.le_refl _;rintro ed wq0 ⟨rfl,bw⟩;have bb:=ab_ (G2 (.cells #[.bool false,.slice none 0 0,.slice none 0 0] 44)) bw;have BC:=hd_ bb;replace PX:=PX.l_ bb;replace A2:=A2.l_ bb;replace D2:=D2.l_ bb;have ZF:=hd_ (ac_ (w:=(wr.alloc (.cells #[.bool false,.slice none 0 0,.slice none 0 0] 44)).drew) (ai_ wr #[.bool false,.slice none 0 0,.slice none 0 0] 44) bw);clear bb bw qS qA;(try unfold frV);have qS:=cm_ SU.out (BC.out);have qA:=fun (o:Obj)=>cm_ SU.out (ab_ BC.out (aa_ wq0 o));have M0:=True.intro)))))
    | (go_at_call 16;(first
      | (have mm:=M0;(first
        | (have yy9:=ZF;(with_reducible refine (HEV wq0 _ _ _ _ _ _ PX.out A2.out D2.out).mono ?_);rintro ed wq1 ⟨a41,n41,c41,b41,m41,d41,rfl,h41,g41,bw⟩;have bb:=bw;replace BC:=bt_ BC bb;replace PX:=PX.l_ bb;replace A2:=A2.l_ bb;replace D2:=D2.l_ bb;have A41:=hd_ (h41);have E41:=hd_ (g41);replace ZF:=bl_ ZF bw;clear yy9;clear bb bw qS qA;clear h41 g41;(try unfold frV);have qS:=cm_ SU.out (BC.out);have qA:=fun (o:Obj)=>cm_ SU.out (ab_ BC.out (aa_ wq1 o));obtain⟨z0,z1,z2⟩:=ao_ ZF.out;have f0:=ae_ ZF.out 0;have f1:=ae_ ZF.out 1;have f2:=ae_ ZF.out 2;have qC:=cm_ SU.out (as_ BC.out hzb (.bool (zneg qv.num)) (.slice a41 n41 c41) (.slice b41 m41 d41));have M1:=True.intro)
        | ((with_reducible refine (HEV wq0 _ _ _ _ _ _ PX.out A2.out D2.out).mono ?_);rintro ed wq1 ⟨a41,n41,c41,b41,m41,d41,rfl,h41,g41,bw⟩;have bb:=bw;replace BC:=bt_ BC bb;replace PX:=PX.l_ bb;replace A2:=A2.l_ bb;replace D2:=D2.l_ bb;have A41:=hd_ (h41);have E41:=hd_ (g41);clear bb bw qS qA;clear h41 g41;(try unfold frV);have qS:=cm_ SU.out (BC.out);have qA:=fun (o:Obj)=>cm_ SU.out (ab_ BC.out (aa_ wq1 o));have M1:=True.intro)
        | (have ba:=aa_ wq0 (.cells #[.bool false,.slice none 0 0,.slice none 0 0] 44);(with_reducible refine (HEV (wq0.alloc (.cells #[.bool false,.slice none 0 0,.slice none 0 0] 44)) _ _ _ _ _ _ (PX.out.later ba) (A2.out.later ba) (D2.out.later ba)).mono ?_);have hzb:wr.heap.size≤wq0.heap.size:=BC.out.size;rintro ed wq1 ⟨a41,n41,c41,b41,m41,d41,rfl,h41,g41,bw⟩;have bb:=ab_ ba bw;replace BC:=bt_ BC bb;replace PX:=PX.l_ bb;replace A2:=A2.l_ bb;replace D2:=D2.l_ bb;have A41:=hd_ (h41);have E41:=hd_ (g41);have ZF:=hd_ (ac_ (ai_ wq0 #[.bool false,.slice none 0 0,.slice none 0 0] 44) bw);clear ba;clear bb bw qS qA;clear h41 g41;(try unfold frV);have qS:=cm_ SU.out (BC.out);have qA:=fun (o:Obj)=>cm_ SU.out (ab_ BC.out (aa_ wq1 o));obtain⟨z0,z1,z2⟩:=ao_ ZF.out;have f0:=ae_ ZF.out 0;have f1:=ae_ ZF.out 1;have f2:=ae_ ZF.out 2;have qC:=cm_ SU.out (as_ BC.out hzb (.bool (zneg qv.num)) (.slice a41 n41 c41) (.slice b41 m41 d41));have M1:=True.intro))))))
   all_goals (
    go_wp2
    go_meet
    (first
      | exact⟨_,a41,n41,c41,b41,m41,d41,rfl,rfl,hd_ (be_ ZF.out (.bool (zneg qv.num)) (.slice a41 n41 c41) (.slice b41 m41 d41)),hd_ (A41.out.stored3 ZF.out (zneg qv.num) a41 n41 c41 (.slice b41 m41 d41)),hd_ (E41.out.stored3 ZF.out (zneg qv.num) a41 n41 c41 (.slice b41 m41 d41)),hd_ (as_ BC.out hzb (.bool (zneg qv.num)) (.slice a41 n41 c41) (.slice b41 m41 d41))⟩
      | exact⟨wq1.heap.size,a41,n41,c41,b41,m41,d41,rfl,rfl,hd_ (ai_ wq1 _ 44),hd_ (A41.out.later (aa_ wq1 _)),hd_ (E41.out.later (aa_ wq1 _)),hd_ (ab_ BC.out (aa_ wq1 _))⟩))
  case rest=>
   obtain⟨gv,a41,n41,c41,b41,m41,d41,rfl,rfl,BV,A41,E41,HBc⟩:=hcut
   replace HB:=hd_ (ab_ HB.out HBc.out)
   replace X1:=hd_ (ac_ X1.out HBc.out)
   replace X2:=hd_ (ac_ X2.out HBc.out)
   replace BM:=hd_ (ac_ BM.out HBc.out)
   replace BK:=hd_ (ac_ BK.out HBc.out)
   replace BX:=hd_ (ac_ BX.out HBc.out)
   replace BN:=hd_ (ac_ BN.out HBc.out)
   replace HF1:=hd_ (HF1.out.later HBc.out)
   replace HG1:=hd_ (HG1.out.later HBc.out)
   replace A2:=hd_ (A2.out.later HBc.out)
   replace D2:=hd_ (D2.out.later HBc.out)
   replace RU:=hd_ (RU.out.later HBc.out)
   replace RV:=hd_ (RV.out.later HBc.out)
   replace AK:=hd_ (AK.out.later HBc.out)
   replace DK:=hd_ (DK.out.later HBc.out)
   replace PX:=hd_ (PX.out.later HBc.out)
   replace RN:=hd_ (RN.out.later HBc.out)
   replace SN:=hd_ (SN.out.later HBc.out)
   replace BZ:=hd_ (ac_ BZ.out HBc.out)
   replace RZ:=hd_ (RZ.out.later HBc.out)
   replace SZ:=hd_ (SZ.out.later HBc.out)
   clear HBc SU HEV
   go_upto_region 9 with fail
   generalize wc=wr at *
   obtain⟨vk0,vk1,vk2,vk3,vk4,vk5,vk6,vk7,vk8,vk9,vk10,vk11,vk12,vk13,vk14,vk15,vk16,vk17,vk18⟩:=e1_ X1.out X2.out BM.out BK.out BX.out BN.out BZ.out BV.out
   go_wp2_with fail
   refine (HEW _ _ _ _ _ _ _ _ _ _ _ _ _ RU.out RV.out AK.out DK.out).mono ?_
   rintro e wv51 ⟨a42,n42,c42,b42,m42,d42,rfl,h42,g42,b⟩
   clear vk0 vk1 vk2 vk3 vk4 vk5 vk6 vk7 vk8 vk9 vk10 vk11 vk12 vk13 vk14 vk15 vk16 vk17 vk18
   have A42:=hd_ h42
   have E42:=hd_ g42
   have ba:=aa_ wv51 (.cells #[.bool (zneg qv.num),.slice a42 n42 c42,.slice b42 m42 d42] 27)
   have BW:=hd_ (ai_ wv51 #[.bool (zneg qv.num),.slice a42 n42 c42,.slice b42 m42 d42] 27)
   have bb:=ab_ b ba
   replace A42:=A42.l_ ba
   replace E42:=E42.l_ ba
   replace HB:=bt_ HB bb
   replace X1:=bl_ X1 bb
   replace X2:=bl_ X2 bb
   replace BM:=bl_ BM bb
   replace BK:=bl_ BK bb
   replace BX:=bl_ BX bb
   replace BN:=bl_ BN bb
   replace BZ:=bl_ BZ bb
   replace BV:=bl_ BV bb
   replace HF1:=HF1.l_ bb
   replace HG1:=HG1.l_ bb
   replace A2:=A2.l_ bb
   replace D2:=D2.l_ bb
   replace RU:=RU.l_ bb
   replace RV:=RV.l_ bb
   replace AK:=AK.l_ bb
   replace DK:=DK.l_ bb
   replace PX:=PX.l_ bb
   replace RN:=RN.l_ bb
   replace SN:=SN.l_ bb
   replace RZ:=RZ.l_ bb
   replace SZ:=SZ.l_ bb
   replace A41:=A41.l_ bb
   replace E41:=E41.l_ bb
   clear b ba bb
   clear h42 g42
   (try unfold frV)
   go_upto_region 10 with fail
   generalize wv51.alloc (.cells #[.bool (zneg qv.num),.slice a42 n42 c42,.slice b42 m42 d42] 27)=wr at *
   obtain⟨gw,hgw⟩:∃g,wv51.heap.size=g:=⟨_,rfl⟩
   rw[hgw] at BW ⊢
   clear hgw
   obtain⟨t0,t1,t2,t3,t4,t5,t6,t7,t8,t9,t10,t11,t12,t13⟩:=bg_ BX.out BM.out BN.out BZ.out BV.out BW.out
   go_wp2
   clear t0 t1 t2 t3 t4 t5 t6 t7 t8 t9 t10 t11 t12 t13
   replace HB:=bt_ HB (dw_ wr)
   replace BX:Hid (wr.drew.heap[gx]? = _):=hd_ BX.out
   replace BM:Hid (wr.drew.heap[gm]? = _):=hd_ BM.out
   replace BN:Hid (wr.drew.heap[gn]? = _):=hd_ BN.out
   replace BZ:Hid (wr.drew.heap[gz]? = _):=hd_ BZ.out
   replace BV:Hid (wr.drew.heap[gv]? = _):=hd_ BV.out
   replace BW:Hid (wr.drew.heap[gw]? = _):=hd_ BW.out
   replace X1:Hid (wr.drew.heap[w.heap.size+1]? = some (.cells #[.slice a1 n1 c1,.slice b1 m1 d1] 24 (0,0))):=hd_ X1.out
   replace X2:Hid (wr.drew.heap[w.heap.size+1+1]? = some (.cells #[.bool s2,.slice a2 n2 c2,.slice b2 m2 d2] 27 (0,0))):=hd_ X2.out
   replace BK:Hid (wr.drew.heap[gk]? = some (.cells #[.bool (zneg k.num),.slice a22 n22 c22,.slice b22 m22 d22] 27 (0,0))):=hd_ BK.out
   replace PX:=PX.l_ (dw_ wr)
   replace RU:=RU.l_ (dw_ wr)
   replace RV:=RV.l_ (dw_ wr)
   replace RN:=RN.l_ (dw_ wr)
   replace SN:=SN.l_ (dw_ wr)
   replace RZ:=RZ.l_ (dw_ wr)
   replace SZ:=SZ.l_ (dw_ wr)
   replace A41:=A41.l_ (dw_ wr)
   replace E41:=E41.l_ (dw_ wr)
   replace A42:=A42.l_ (dw_ wr)
   replace E42:=E42.l_ (dw_ wr)
   replace HF1:=HF1.l_ (dw_ wr)
   replace HG1:=HG1.l_ (dw_ wr)
   replace A2:=A2.l_ (dw_ wr)
   replace D2:=D2.l_ (dw_ wr)
   replace AK:=AK.l_ (dw_ wr)
   replace DK:=DK.l_ (dw_ wr)
   have pSn:=bg_ BX.out BM.out BN.out BZ.out BV.out BW.out
   go_region_held3 (fun w'=>w'.cell? ⟨gx,0,none⟩=some (.slice a23 n23 c23)∧w'.cell? ⟨gx,1,none⟩=some (.slice b23 m23 d23)∧w'.cell? ⟨gm,0,none⟩=some (.slice a21 n21 c21)∧w'.cell? ⟨gm,1,none⟩=some (.slice b21 m21 d21)∧w'.cell? ⟨gn,0,none⟩=some (.slice a24 n24 c24)∧w'.cell? ⟨gn,1,none⟩=some (.slice b24 m24 d24)∧w'.cell? ⟨gz,0,none⟩=some (.slice a33 n33 c33)∧w'.cell? ⟨gz,1,none⟩=some (.slice b33 m33 d33)∧w'.cell? ⟨gv,0,none⟩=some (.bool (zneg qv.num))∧w'.cell? ⟨gv,1,none⟩=some (.slice a41 n41 c41)∧w'.cell? ⟨gv,2,none⟩=some (.slice b41 m41 d41)∧w'.cell? ⟨gw,0,none⟩=some (.bool (zneg qv.num))∧w'.cell? ⟨gw,1,none⟩=some (.slice a42 n42 c42)∧w'.cell? ⟨gw,2,none⟩=some (.slice b42 m42 d42)) (exact pSn)
    (first
    | (go_at_call 20;(first
      | (refine (HNX _ _ _ _ _ _ _ PX.out).mono ?_;rintro e wp1 ⟨a61,n61,c61,b61,m61,d61,rfl,h61,g61,b⟩;replace HB:=bt_ HB b;replace BX:=bl_ BX b;replace BM:=bl_ BM b;replace BN:=bl_ BN b;replace BZ:=bl_ BZ b;replace BV:=bl_ BV b;replace BW:=bl_ BW b;replace X1:=bl_ X1 b;replace X2:=bl_ X2 b;replace BK:=bl_ BK b;replace PX:=PX.l_ b;replace RU:=RU.l_ b;replace RV:=RV.l_ b;replace RN:=RN.l_ b;replace SN:=SN.l_ b;replace RZ:=RZ.l_ b;replace SZ:=SZ.l_ b;replace A41:=A41.l_ b;replace E41:=E41.l_ b;replace A42:=A42.l_ b;replace E42:=E42.l_ b;replace HF1:=HF1.l_ b;replace HG1:=HG1.l_ b;replace A2:=A2.l_ b;replace D2:=D2.l_ b;replace AK:=AK.l_ b;replace DK:=DK.l_ b;have R61:=hd_ h61;have S61:=hd_ g61;clear h61 g61;clear b;clear pSn;have pSn:=bg_ BX.out BM.out BN.out BZ.out BV.out BW.out;have pM1:=True.intro)))
    | (go_at_call 19;(first
      | (have pm2:=pM2;refine (HIS _ _ _ _ _ _ _ _ _ _ _ _ _ RN.out SN.out RU.out RV.out).mono ?_;rintro e wp3 ⟨rfl,b⟩;replace HB:=bt_ HB b;replace BX:=bl_ BX b;replace BM:=bl_ BM b;replace BN:=bl_ BN b;replace BZ:=bl_ BZ b;replace BV:=bl_ BV b;replace BW:=bl_ BW b;replace X1:=bl_ X1 b;replace X2:=bl_ X2 b;replace BK:=bl_ BK b;replace PX:=PX.l_ b;replace RU:=RU.l_ b;replace RV:=RV.l_ b;replace RN:=RN.l_ b;replace SN:=SN.l_ b;replace RZ:=RZ.l_ b;replace SZ:=SZ.l_ b;replace A41:=A41.l_ b;replace E41:=E41.l_ b;replace A42:=A42.l_ b;replace E42:=E42.l_ b;replace HF1:=HF1.l_ b;replace HG1:=HG1.l_ b;replace A2:=A2.l_ b;replace D2:=D2.l_ b;replace AK:=AK.l_ b;replace DK:=DK.l_ b;clear b;clear pSn;have pSn:=bg_ BX.out BM.out BN.out BZ.out BV.out BW.out;clear pM2 pm2;have pM3:=True.intro)
      | (have pm1:=pM1;refine (HIS _ _ _ _ _ _ _ _ _ _ _ _ _ R61.out S61.out RU.out RV.out).mono ?_;rintro e wp2 ⟨rfl,b⟩;replace HB:=bt_ HB b;replace BX:=bl_ BX b;replace BM:=bl_ BM b;replace BN:=bl_ BN b;replace BZ:=bl_ BZ b;replace BV:=bl_ BV b;replace BW:=bl_ BW b;replace X1:=bl_ X1 b;replace X2:=bl_ X2 b;replace BK:=bl_ BK b;replace PX:=PX.l_ b;replace RU:=RU.l_ b;replace RV:=RV.l_ b;replace RN:=RN.l_ b;replace SN:=SN.l_ b;replace RZ:=RZ.l_ b;replace SZ:=SZ.l_ b;replace A41:=A41.l_ b;replace E41:=E41.l_ b;replace A42:=A42.l_ b;replace E42:=E42.l_ b;replace HF1:=HF1.l_ b;replace HG1:=HG1.l_ b;replace A2:=A2.l_ b;replace D2:=D2.l_ b;replace AK:=AK.l_ b;replace DK:=DK.l_ b;clear R61;clear S61;clear b;clear pSn;have pSn:=bg_ BX.out BM.out BN.out BZ.out BV.out BW.out;clear pM1 pm1;have pM2:=True.intro)))
    | (go_at_call 21;(first
      | (have pm3:=pM3;refine (HRZ _ _ _ _ _ _ _ RZ.out SZ.out).mono ?_;rintro e wp4 ⟨rfl,b⟩;replace HB:=bt_ HB b;replace BX:=bl_ BX b;replace BM:=bl_ BM b;replace BN:=bl_ BN b;replace BZ:=bl_ BZ b;replace BV:=bl_ BV b;replace BW:=bl_ BW b;replace X1:=bl_ X1 b;replace X2:=bl_ X2 b;replace BK:=bl_ BK b;replace PX:=PX.l_ b;replace RU:=RU.l_ b;replace RV:=RV.l_ b;replace RN:=RN.l_ b;replace SN:=SN.l_ b;replace RZ:=RZ.l_ b;replace SZ:=SZ.l_ b;replace A41:=A41.l_ b;replace E41:=E41.l_ b;replace A42:=A42.l_ b;replace E42:=E42.l_ b;replace HF1:=HF1.l_ b;replace HG1:=HG1.l_ b;replace A2:=A2.l_ b;replace D2:=D2.l_ b;replace AK:=AK.l_ b;replace DK:=DK.l_ b;clear b;clear pSn;have pSn:=bg_ BX.out BM.out BN.out BZ.out BV.out BW.out;clear pM3 pm3;have pM4:=True.intro)))
    | (go_at_call 22;(first
      | (have pm4:=pM4;refine (HI9 _ _ _ _ _ _ _ _ _ _ _ _ _ A41.out E41.out A42.out E42.out).mono ?_;rintro e wp5 ⟨rfl,b⟩;replace HB:=bt_ HB b;replace BX:=bl_ BX b;replace BM:=bl_ BM b;replace BN:=bl_ BN b;replace BZ:=bl_ BZ b;replace BV:=bl_ BV b;replace BW:=bl_ BW b;replace X1:=bl_ X1 b;replace X2:=bl_ X2 b;replace BK:=bl_ BK b;replace PX:=PX.l_ b;replace RU:=RU.l_ b;replace RV:=RV.l_ b;replace RN:=RN.l_ b;replace SN:=SN.l_ b;replace RZ:=RZ.l_ b;replace SZ:=SZ.l_ b;replace A41:=A41.l_ b;replace E41:=E41.l_ b;replace A42:=A42.l_ b;replace E42:=E42.l_ b;replace HF1:=HF1.l_ b;replace HG1:=HG1.l_ b;replace A2:=A2.l_ b;replace D2:=D2.l_ b;replace AK:=AK.l_ b;replace DK:=DK.l_ b;clear b;clear pSn;have pSn:=bg_ BX.out BM.out BN.out BZ.out BV.out BW.out;clear pM4 pm4;have pM5:=True.intro))))
   clear BN BZ BV BW RN SN RZ SZ A41 E41 A42 E42 HNX HIS HRZ HI9
   go_upto_region 12 with fail
   obtain⟨wr9,hwr9⟩:∃x,wp5=x:=⟨_,rfl⟩
   subst hwr9
   obtain⟨t0,t1,t2,t3,t4,t5,t6,t7,t8,t9,t10,t11⟩:=av_ BX.out BM.out X1.out X2.out BK.out
   go_wp2
   clear t0 t1 t2 t3 t4 t5 t6 t7 t8 t9 t10 t11
   replace HB:=bt_ HB (dw_ wp5)
   replace BX:Hid (wp5.drew.heap[gx]? = _):=hd_ BX.out
   replace BM:Hid (wp5.drew.heap[gm]? = _):=hd_ BM.out
   replace X1:Hid (wp5.drew.heap[w.heap.size+1]? = _):=hd_ X1.out
   replace X2:Hid (wp5.drew.heap[w.heap.size+1+1]? = _):=hd_ X2.out
   replace BK:Hid (wp5.drew.heap[gk]? = _):=hd_ BK.out
   replace PX:=PX.l_ (dw_ wp5)
   replace RU:=RU.l_ (dw_ wp5)
   replace RV:=RV.l_ (dw_ wp5)
   replace HF1:=HF1.l_ (dw_ wp5)
   replace HG1:=HG1.l_ (dw_ wp5)
   replace A2:=A2.l_ (dw_ wp5)
   replace D2:=D2.l_ (dw_ wp5)
   replace AK:=AK.l_ (dw_ wp5)
   replace DK:=DK.l_ (dw_ wp5)
   have qSn:=av_ BX.out BM.out X1.out X2.out BK.out
   go_region_held3 (fun w'=>w'.cell? ⟨gx,0,none⟩=some (.slice a23 n23 c23)∧w'.cell? ⟨gx,1,none⟩=some (.slice b23 m23 d23)∧w'.cell? ⟨gm,0,none⟩=some (.slice a21 n21 c21)∧w'.cell? ⟨gm,1,none⟩=some (.slice b21 m21 d21)∧w'.cell? ⟨w.heap.size+1,0,none⟩=some (.slice a1 n1 c1)∧w'.cell? ⟨w.heap.size+1,1,none⟩=some (.slice b1 m1 d1)∧w'.cell? ⟨w.heap.size+1+1,0,none⟩=some (.bool s2)∧w'.cell? ⟨w.heap.size+1+1,1,none⟩=some (.slice a2 n2 c2)∧w'.cell? ⟨w.heap.size+1+1,2,none⟩=some (.slice b2 m2 d2)∧w'.cell? ⟨gk,0,none⟩=some (.bool (zneg k.num))∧w'.cell? ⟨gk,1,none⟩=some (.slice a22 n22 c22)∧w'.cell? ⟨gk,2,none⟩=some (.slice b22 m22 d22)) (exact qSn)
    (first
    | (go_at_call 23;(first
      | (refine (HZX _ _ _ _ _ _ _ PX.out).mono ?_;rintro e wq1 ⟨rfl,b⟩;replace HB:=bt_ HB b;replace BX:=bl_ BX b;replace BM:=bl_ BM b;replace X1:=bl_ X1 b;replace X2:=bl_ X2 b;replace BK:=bl_ BK b;replace PX:=PX.l_ b;replace RU:=RU.l_ b;replace RV:=RV.l_ b;replace HF1:=HF1.l_ b;replace HG1:=HG1.l_ b;replace A2:=A2.l_ b;replace D2:=D2.l_ b;replace AK:=AK.l_ b;replace DK:=DK.l_ b;clear b;clear qSn;have qSn:=av_ BX.out BM.out X1.out X2.out BK.out;have qM1:=True.intro)))
    | (go_at_call 21;(first
      | (have qm1:=qM1;refine (HZM _ _ _ _ _ _ _ RU.out RV.out).mono ?_;rintro e wq2 ⟨rfl,b⟩;replace HB:=bt_ HB b;replace BX:=bl_ BX b;replace BM:=bl_ BM b;replace X1:=bl_ X1 b;replace X2:=bl_ X2 b;replace BK:=bl_ BK b;replace PX:=PX.l_ b;replace RU:=RU.l_ b;replace RV:=RV.l_ b;replace HF1:=HF1.l_ b;replace HG1:=HG1.l_ b;replace A2:=A2.l_ b;replace D2:=D2.l_ b;replace AK:=AK.l_ b;replace DK:=DK.l_ b;clear b;clear qSn;have qSn:=av_ BX.out BM.out X1.out X2.out BK.out;clear qM1 qm1;have qM2:=True.intro)))
    | (go_at_call 12;(first
      | (have qm2:=qM2;refine (HTY _ HF1.out HG1.out).mono ?_;rintro e wq3 ⟨a71,n71,c71,b71,m71,d71,rfl,h71,b⟩;replace HB:=bt_ HB b;replace BX:=bl_ BX b;replace BM:=bl_ BM b;replace X1:=bl_ X1 b;replace X2:=bl_ X2 b;replace BK:=bl_ BK b;replace PX:=PX.l_ b;replace RU:=RU.l_ b;replace RV:=RV.l_ b;replace HF1:=HF1.l_ b;replace HG1:=HG1.l_ b;replace A2:=A2.l_ b;replace D2:=D2.l_ b;replace AK:=AK.l_ b;replace DK:=DK.l_ b;have PY:=hd_ h71;clear h71;clear b;clear qSn;have qSn:=av_ BX.out BM.out X1.out X2.out BK.out;clear qM2 qm2;have qM3:=True.intro)))
    | (go_at_call 24;(first
      | (have qm3:=qM3;refine (HSX _ _ _ _ _ _ _ _ _ _ _ _ _ PX.out PY.out).mono ?_;rintro e wq4 ⟨rfl,b⟩;replace HB:=bt_ HB b;replace BX:=bl_ BX b;replace BM:=bl_ BM b;replace X1:=bl_ X1 b;replace X2:=bl_ X2 b;replace BK:=bl_ BK b;replace PX:=PX.l_ b;replace RU:=RU.l_ b;replace RV:=RV.l_ b;replace HF1:=HF1.l_ b;replace HG1:=HG1.l_ b;replace A2:=A2.l_ b;replace D2:=D2.l_ b;replace AK:=AK.l_ b;replace DK:=DK.l_ b;clear PY;clear b;clear qSn;have qSn:=av_ BX.out BM.out X1.out X2.out BK.out;clear qM3 qm3;have qM4:=True.intro)))
    | (go_at_call 10;(first
      | (have qm4:=qM4;refine (HNY _ HF1.out HG1.out).mono ?_;rintro e wq5 ⟨a72,n72,c72,b72,m72,d72,rfl,h72,g72,b⟩;replace HB:=bt_ HB b;replace BX:=bl_ BX b;replace BM:=bl_ BM b;replace X1:=bl_ X1 b;replace X2:=bl_ X2 b;replace BK:=bl_ BK b;replace PX:=PX.l_ b;replace RU:=RU.l_ b;replace RV:=RV.l_ b;replace HF1:=HF1.l_ b;replace HG1:=HG1.l_ b;replace A2:=A2.l_ b;replace D2:=D2.l_ b;replace AK:=AK.l_ b;replace DK:=DK.l_ b;have R72:=hd_ h72;have S72:=hd_ g72;clear h72 g72;clear b;clear qSn;have qSn:=av_ BX.out BM.out X1.out X2.out BK.out;clear qM4 qm4;have qM5:=True.intro)))
    | (go_at_call 25;(first
      | (have qm5:=qM5;refine (HSM _ _ _ _ _ _ _ _ _ _ _ _ _ RU.out RV.out R72.out S72.out).mono ?_;rintro e wq6 ⟨rfl,b⟩;replace HB:=bt_ HB b;replace BX:=bl_ BX b;replace BM:=bl_ BM b;replace X1:=bl_ X1 b;replace X2:=bl_ X2 b;replace BK:=bl_ BK b;replace PX:=PX.l_ b;replace RU:=RU.l_ b;replace RV:=RV.l_ b;replace HF1:=HF1.l_ b;replace HG1:=HG1.l_ b;replace A2:=A2.l_ b;replace D2:=D2.l_ b;replace AK:=AK.l_ b;replace DK:=DK.l_ b;clear R72;clear S72;clear b;clear qSn;have qSn:=av_ BX.out BM.out X1.out X2.out BK.out;clear qM5 qm5;have qM6:=True.intro)))
    | (go_at_call 26;(first
      | (have qm6:=qM6;refine (HDX _ _ _ _ _ _ _ PX.out).mono ?_;rintro e wq7 ⟨a73,n73,c73,b73,m73,d73,rfl,h73,g73,b⟩;replace HB:=bt_ HB b;replace BX:=bl_ BX b;replace BM:=bl_ BM b;replace X1:=bl_ X1 b;replace X2:=bl_ X2 b;replace BK:=bl_ BK b;replace PX:=PX.l_ b;replace RU:=RU.l_ b;replace RV:=RV.l_ b;replace HF1:=HF1.l_ b;replace HG1:=HG1.l_ b;replace A2:=A2.l_ b;replace D2:=D2.l_ b;replace AK:=AK.l_ b;replace DK:=DK.l_ b;have R73:=hd_ h73;have S73:=hd_ g73;clear h73 g73;clear b;clear qSn;have qSn:=av_ BX.out BM.out X1.out X2.out BK.out;clear qM6 qm6;have qM7:=True.intro)))
    | (go_at_call 27;(first
      | (have qm7:=qM7;refine (HDM _ _ _ _ _ _ _ RU.out RV.out).mono ?_;rintro e wq8 ⟨a74,n74,c74,b74,m74,d74,rfl,h74,g74,b⟩;replace HB:=bt_ HB b;replace BX:=bl_ BX b;replace BM:=bl_ BM b;replace X1:=bl_ X1 b;replace X2:=bl_ X2 b;replace BK:=bl_ BK b;replace PX:=PX.l_ b;replace RU:=RU.l_ b;replace RV:=RV.l_ b;replace HF1:=HF1.l_ b;replace HG1:=HG1.l_ b;replace A2:=A2.l_ b;replace D2:=D2.l_ b;replace AK:=AK.l_ b;replace DK:=DK.l_ b;replace R73:=R73.l_ b;replace S73:=S73.l_ b;have R74:=hd_ h74;have S74:=hd_ g74;clear h74 g74;clear b;clear qSn;have qSn:=av_ BX.out BM.out X1.out X2.out BK.out;clear qM7 qm7;have qM8:=True.intro)))
    | (go_at_call 19;(first
      | (have qm12:=qM12;refine (HIO _ _ _ _ _ _ _ _ _ _ _ _ _ R75.out S75.out R76.out S76.out).mono ?_;rintro e wq13 ⟨rfl,b⟩;replace HB:=bt_ HB b;replace BX:=bl_ BX b;replace BM:=bl_ BM b;replace X1:=bl_ X1 b;replace X2:=bl_ X2 b;replace BK:=bl_ BK b;replace PX:=PX.l_ b;replace RU:=RU.l_ b;replace RV:=RV.l_ b;replace HF1:=HF1.l_ b;replace HG1:=HG1.l_ b;replace A2:=A2.l_ b;replace D2:=D2.l_ b;replace AK:=AK.l_ b;replace DK:=DK.l_ b;clear R75;clear S75;clear R76;clear S76;clear b;clear qSn;have qSn:=av_ BX.out BM.out X1.out X2.out BK.out;clear qM12 qm12;have qM13:=True.intro)
      | (have qm8:=qM8;refine (HID _ _ _ _ _ _ _ _ _ _ _ _ _ R73.out S73.out R74.out S74.out).mono ?_;rintro e wq9 ⟨rfl,b⟩;replace HB:=bt_ HB b;replace BX:=bl_ BX b;replace BM:=bl_ BM b;replace X1:=bl_ X1 b;replace X2:=bl_ X2 b;replace BK:=bl_ BK b;replace PX:=PX.l_ b;replace RU:=RU.l_ b;replace RV:=RV.l_ b;replace HF1:=HF1.l_ b;replace HG1:=HG1.l_ b;replace A2:=A2.l_ b;replace D2:=D2.l_ b;replace AK:=AK.l_ b;replace DK:=DK.l_ b;clear R73;clear S73;clear R74;clear S74;clear b;clear qSn;have qSn:=av_ BX.out BM.out X1.out X2.out BK.out;clear qM8 qm8;have qM9:=True.intro)))
    | (go_at_call 17;(first
      | (have qm9:=qM9;refine (HT9 _).mono ?_;rintro e wq10 ⟨rfl,b⟩;replace HB:=bt_ HB b;replace BX:=bl_ BX b;replace BM:=bl_ BM b;replace X1:=bl_ X1 b;replace X2:=bl_ X2 b;replace BK:=bl_ BK b;replace PX:=PX.l_ b;replace RU:=RU.l_ b;replace RV:=RV.l_ b;replace HF1:=HF1.l_ b;replace HG1:=HG1.l_ b;replace A2:=A2.l_ b;replace D2:=D2.l_ b;replace AK:=AK.l_ b;replace DK:=DK.l_ b;clear b;clear qSn;have qSn:=av_ BX.out BM.out X1.out X2.out BK.out;clear qM9 qm9;have qM10:=True.intro)))
    | (go_at_call 28;(first
      | (have qm10:=qM10;refine (HOC _ A2.out D2.out).mono ?_;rintro e wq11 ⟨a75,n75,c75,b75,m75,d75,rfl,h75,g75,b⟩;replace HB:=bt_ HB b;replace BX:=bl_ BX b;replace BM:=bl_ BM b;replace X1:=bl_ X1 b;replace X2:=bl_ X2 b;replace BK:=bl_ BK b;replace PX:=PX.l_ b;replace RU:=RU.l_ b;replace RV:=RV.l_ b;replace HF1:=HF1.l_ b;replace HG1:=HG1.l_ b;replace A2:=A2.l_ b;replace D2:=D2.l_ b;replace AK:=AK.l_ b;replace DK:=DK.l_ b;have R75:=hd_ h75;have S75:=hd_ g75;clear h75 g75;clear b;clear qSn;have qSn:=av_ BX.out BM.out X1.out X2.out BK.out;clear qM10 qm10;have qM11:=True.intro)))
    | (go_at_call 14;(first
      | (have qm11:=qM11;refine (HOK _ _ _ _ _ _ _ AK.out DK.out).mono ?_;rintro e wq12 ⟨a76,n76,c76,b76,m76,d76,rfl,h76,g76,b⟩;replace HB:=bt_ HB b;replace BX:=bl_ BX b;replace BM:=bl_ BM b;replace X1:=bl_ X1 b;replace X2:=bl_ X2 b;replace BK:=bl_ BK b;replace PX:=PX.l_ b;replace RU:=RU.l_ b;replace RV:=RV.l_ b;replace HF1:=HF1.l_ b;replace HG1:=HG1.l_ b;replace A2:=A2.l_ b;replace D2:=D2.l_ b;replace AK:=AK.l_ b;replace DK:=DK.l_ b;replace R75:=R75.l_ b;replace S75:=S75.l_ b;have R76:=hd_ h76;have S76:=hd_ g76;clear h76 g76;clear b;clear qSn;have qSn:=av_ BX.out BM.out X1.out X2.out BK.out;clear qM11 qm11;have qM12:=True.intro)))
    | (go_at_call 9;(first
      | (have qm13:=qM13;refine (HW _).mono ?_;rintro e wq14 ⟨rfl,b⟩;replace HB:=bt_ HB b;replace BX:=bl_ BX b;replace BM:=bl_ BM b;replace X1:=bl_ X1 b;replace X2:=bl_ X2 b;replace BK:=bl_ BK b;replace PX:=PX.l_ b;replace RU:=RU.l_ b;replace RV:=RV.l_ b;replace HF1:=HF1.l_ b;replace HG1:=HG1.l_ b;replace A2:=A2.l_ b;replace D2:=D2.l_ b;replace AK:=AK.l_ b;replace DK:=DK.l_ b;clear b;clear qSn;have qSn:=av_ BX.out BM.out X1.out X2.out BK.out;clear qM13 qm13;have qM14:=True.intro))))
   all_goals (
    go_wp2
    go_ret
    exact⟨rfl,HB.out⟩)
theorem pw_(HW:∀w:World,Calls Tryz.prog 9 #[] w (bf_ (.bool true) w))(U V U2 V2 u v u2 v2 uz vz du dv uo vo ON:LR_)(k q1 qv:Rat)(okv rz rs:Bool)(a0:OA_)(n0 c0:Nat)(K0:List Fx)(b0:OA_)(m0 d0:Nat)(M0:List Fx)(a1:OA_)(n1 c1:Nat)(K1:List Fx)(b1:OA_)(m1 d1:Nat)(M1:List Fx)(s2:Bool)(a2:OA_)(n2 c2:Nat)(l2:List Nat)(b2:OA_)(m2 d2:Nat)(k2:List Nat)(w:World)(h0:Fxs w a0 n0 c0 K0)(j0:Fxs w b0 m0 d0 M0)(h1:Fxs w a1 n1 c1 K1)(j1:Fxs w b1 m1 d1 M1)(h2:Wd w a2 n2 c2 l2)(j2:Wd w b2 m2 d2 k2)(hb0:(((n0:Int)≤4∧thinI 1 K0)∧((m0:Int)≤4∧thinI 1 M0)))(hb1:(((n1:Int)≤4∧thinI 1 K1)∧((m1:Int)≤4∧thinI 1 M1)))(hn2:n2≤1)(hm2:m2≤1)(HNM:∀w':World,Fxs w' a0 n0 c0 K0→Fxs w' b0 m0 d0 M0→Calls Tryz.prog 10 #[.agg #[.slice a0 n0 c0,.slice b0 m0 d0]] w' (LstX u v w'))(HNK:∀(w':World),Wd w' a2 n2 c2 l2→Wd w' b2 m2 d2 k2→Calls Tryz.prog 11 #[.agg #[.bool s2,.slice a2 n2 c2,.slice b2 m2 d2]] w' (LstQ k w'))(HTX:∀w':World,Fxs w' a0 n0 c0 K0→Fxs w' b0 m0 d0 M0→Calls Tryz.prog 12 #[.agg #[.slice a0 n0 c0,.slice b0 m0 d0]] w' (LstP U V w'))(HNW:∀(w':World) (a:OA_) (n c:Nat) (b:OA_) (m d:Nat),Pvs w' a n c b m d U V→Calls Tryz.prog 13 #[.slice a n c,.slice b m d] w' (LstXV u v (.bool false) w'))(HI1:∀(w':World),Calls Tryz.prog 15 #[.int .i64 1] w' (LstQ q1 w'))(HO1:∀(w':World) (a1:OA_) (n1 c1:Nat) (b1:OA_) (m1 d1:Nat),Wd w' a1 n1 c1 (dg q1.num.natAbs)→Wd w' b1 m1 d1 (dg q1.den)→Calls Tryz.prog 14 #[.agg #[.bool (zneg q1.num),.slice a1 n1 c1,.slice b1 m1 d1]] w' (LstX ON ON w'))(HNZ:∀(w':World) (a:OA_) (n c:Nat),Fxs w' b0 m0 d0 M0→Rw w' a n c ON→Calls Tryz.prog 10 #[.agg #[.slice b0 m0 d0,.slice a n c]] w' (LstX uz vz w'))(HT9:∀(w':World),Calls Tryz.prog 17 #[.agg #[.bool s2,.slice a2 n2 c2,.slice b2 m2 d2]] w' (bf_ (.agg #[.bool s2,.slice a2 n2 c2,.slice b2 m2 d2]) w'))(HEV:∀(w':World) (a:OA_) (n c:Nat) (b:OA_) (m d:Nat),Pvs w' a n c b m d U V→Wd w' a2 n2 c2 l2→Wd w' b2 m2 d2 k2→Calls Tryz.prog 16 #[.agg #[.slice a n c,.slice b m d],.agg #[.bool s2,.slice a2 n2 c2,.slice b2 m2 d2]] w' (en_ qv (.bool okv) w'))(HEW:∀(w':World) (a:OA_) (n c:Nat) (b:OA_) (m d:Nat) (a3:OA_) (n3 c3:Nat) (b3:OA_) (m3 d3:Nat),Rw w' a n c u→Rw w' b m d v→Wd w' a3 n3 c3 (dg k.num.natAbs)→Wd w' b3 m3 d3 (dg k.den)→Calls Tryz.prog 18 #[.agg #[.slice a n c,.slice b m d],.agg #[.bool (zneg k.num),.slice a3 n3 c3,.slice b3 m3 d3]] w' (en_ qv (.bool okv) w'))(HNX:∀(w':World) (a:OA_) (n c:Nat) (b:OA_) (m d:Nat),Pvs w' a n c b m d U V→Calls Tryz.prog 20 #[.agg #[.slice a n c,.slice b m d]] w' (LstX u v w'))(HIS:∀(w':World) (a:OA_) (n c:Nat) (b:OA_) (m d:Nat) (a':OA_) (n' c':Nat) (b':OA_) (m' d':Nat),Rw w' a n c u→Rw w' b m d v→Rw w' a' n' c' u→Rw w' b' m' d' v→Calls Tryz.prog 19 #[.agg #[.slice a n c,.slice b m d],.agg #[.slice a' n' c',.slice b' m' d']] w' (bf_ (.bool true) w'))(HRZ:∀(w':World) (a:OA_) (n c:Nat) (b:OA_) (m d:Nat),Rw w' a n c uz→Rw w' b m d vz→Calls Tryz.prog 21 #[.agg #[.slice a n c,.slice b m d]] w' (bf_ (.bool true) w'))(HI9:∀(w':World) (a1:OA_) (n1 c1:Nat) (b1:OA_) (m1 d1:Nat) (a3:OA_) (n3 c3:Nat) (b3:OA_) (m3 d3:Nat),Wd w' a1 n1 c1 (dg qv.num.natAbs)→Wd w' b1 m1 d1 (dg qv.den)→Wd w' a3 n3 c3 (dg qv.num.natAbs)→Wd w' b3 m3 d3 (dg qv.den)→Calls Tryz.prog 22 #[.agg #[.bool (zneg qv.num),.slice a1 n1 c1,.slice b1 m1 d1],.agg #[.bool (zneg qv.num),.slice a3 n3 c3,.slice b3 m3 d3]] w' (bf_ (.bool true) w'))(HZX:∀(w':World) (a:OA_) (n c:Nat) (b:OA_) (m d:Nat),Pvs w' a n c b m d U V→Calls Tryz.prog 23 #[.agg #[.slice a n c,.slice b m d]] w' (bf_ (.bool rz) w'))(HZM:∀(w':World) (a:OA_) (n c:Nat) (b:OA_) (m d:Nat),Rw w' a n c u→Rw w' b m d v→Calls Tryz.prog 21 #[.agg #[.slice a n c,.slice b m d]] w' (bf_ (.bool rz) w'))(HTY:∀w':World,Fxs w' a1 n1 c1 K1→Fxs w' b1 m1 d1 M1→Calls Tryz.prog 12 #[.agg #[.slice a1 n1 c1,.slice b1 m1 d1]] w' (LstP U2 V2 w'))(HSX:∀(w':World) (a:OA_) (n c:Nat) (b:OA_) (m d:Nat) (a':OA_) (n' c':Nat) (b':OA_) (m' d':Nat),Pvs w' a n c b m d U V→Pvs w' a' n' c' b' m' d' U2 V2→Calls Tryz.prog 24 #[.agg #[.slice a n c,.slice b m d],.agg #[.slice a' n' c',.slice b' m' d']] w' (bf_ (.bool rs) w'))(HNY:∀w':World,Fxs w' a1 n1 c1 K1→Fxs w' b1 m1 d1 M1→Calls Tryz.prog 10 #[.agg #[.slice a1 n1 c1,.slice b1 m1 d1]] w' (LstX u2 v2 w'))(HSM:∀(w':World) (a:OA_) (n c:Nat) (b:OA_) (m d:Nat) (a':OA_) (n' c':Nat) (b':OA_) (m' d':Nat),Rw w' a n c u→Rw w' b m d v→Rw w' a' n' c' u2→Rw w' b' m' d' v2→Calls Tryz.prog 25 #[.agg #[.slice a n c,.slice b m d],.agg #[.slice a' n' c',.slice b' m' d']] w' (bf_ (.bool rs) w'))(HDX:∀(w':World) (a:OA_) (n c:Nat) (b:OA_) (m d:Nat),Pvs w' a n c b m d U V→Calls Tryz.prog 26 #[.agg #[.slice a n c,.slice b m d]] w' (LstX du dv w'))(HDM:∀(w':World) (a:OA_) (n c:Nat) (b:OA_) (m d:Nat),Rw w' a n c u→Rw w' b m d v→Calls Tryz.prog 27 #[.agg #[.slice a n c,.slice b m d]] w' (LstX du dv w'))(HID:∀(w':World) (a:OA_) (n c:Nat) (b:OA_) (m d:Nat) (a':OA_) (n' c':Nat) (b':OA_) (m' d':Nat),Rw w' a n c du→Rw w' b m d dv→Rw w' a' n' c' du→Rw w' b' m' d' dv→Calls Tryz.prog 19 #[.agg #[.slice a n c,.slice b m d],.agg #[.slice a' n' c',.slice b' m' d']] w' (bf_ (.bool true) w'))(HOC:∀(w':World),Wd w' a2 n2 c2 l2→Wd w' b2 m2 d2 k2→Calls Tryz.prog 28 #[.agg #[.bool s2,.slice a2 n2 c2,.slice b2 m2 d2]] w' (LstX uo vo w'))(HOK:∀(w':World) (a1:OA_) (n1 c1:Nat) (b1:OA_) (m1 d1:Nat),Wd w' a1 n1 c1 (dg k.num.natAbs)→Wd w' b1 m1 d1 (dg k.den)→Calls Tryz.prog 14 #[.agg #[.bool (zneg k.num),.slice a1 n1 c1,.slice b1 m1 d1]] w' (LstX uo vo w'))(HIO:∀(w':World) (a:OA_) (n c:Nat) (b:OA_) (m d:Nat) (a':OA_) (n' c':Nat) (b':OA_) (m' d':Nat),Rw w' a n c uo→Rw w' b m d vo→Rw w' a' n' c' uo→Rw w' b' m' d' vo→Calls Tryz.prog 19 #[.agg #[.slice a n c,.slice b m d],.agg #[.slice a' n' c',.slice b' m' d']] w' (bf_ (.bool true) w')):Calls Tryz.prog 3 #[.agg #[.slice a0 n0 c0,.slice b0 m0 d0],.agg #[.slice a1 n1 c1,.slice b1 m1 d1],frV s2 a2 n2 c2 b2 m2 d2] w (bf_ (.bool true) w):=by
 have hl2:(decide ((1:Int) < (n2:Int)) || decide ((1:Int) < (m2:Int)))=false:=by rw[decide_eq_false (by omega),decide_eq_false (by omega)];rfl
 have HNB0:=hd_ hb0
 have HNB1:=hd_ hb1
 have HB:=hd_ (ab_ (ab_ (aa_ w (.cells #[.slice a0 n0 c0,.slice b0 m0 d0] 24)) (aa_ _ (.cells #[.slice a1 n1 c1,.slice b1 m1 d1] 24))) (aa_ _ (.cells #[.bool s2,.slice a2 n2 c2,.slice b2 m2 d2] 27)))
 have X0:Hid ((((w.alloc (.cells #[.slice a0 n0 c0,.slice b0 m0 d0] 24)).alloc (.cells #[.slice a1 n1 c1,.slice b1 m1 d1] 24)).alloc (.cells #[.bool s2,.slice a2 n2 c2,.slice b2 m2 d2] 27)).heap[w.heap.size]? = some (.cells #[.slice a0 n0 c0,.slice b0 m0 d0] 24 (0,0))):=hd_ (ac_ (ac_ (ai_ w _ _) (aa_ _ (.cells #[.slice a1 n1 c1,.slice b1 m1 d1] 24))) (aa_ _ (.cells #[.bool s2,.slice a2 n2 c2,.slice b2 m2 d2] 27)))
 have X1:Hid ((((w.alloc (.cells #[.slice a0 n0 c0,.slice b0 m0 d0] 24)).alloc (.cells #[.slice a1 n1 c1,.slice b1 m1 d1] 24)).alloc (.cells #[.bool s2,.slice a2 n2 c2,.slice b2 m2 d2] 27)).heap[w.heap.size+1]? = some (.cells #[.slice a1 n1 c1,.slice b1 m1 d1] 24 (0,0))):=hd_ (ac_ (by have h9:=ai_ (w.alloc (.cells #[.slice a0 n0 c0,.slice b0 m0 d0] 24)) #[.slice a1 n1 c1,.slice b1 m1 d1] 24;rwa [al_] at h9) (aa_ _ (.cells #[.bool s2,.slice a2 n2 c2,.slice b2 m2 d2] 27)))
 have X2:Hid ((((w.alloc (.cells #[.slice a0 n0 c0,.slice b0 m0 d0] 24)).alloc (.cells #[.slice a1 n1 c1,.slice b1 m1 d1] 24)).alloc (.cells #[.bool s2,.slice a2 n2 c2,.slice b2 m2 d2] 27)).heap[w.heap.size+1+1]? = some (.cells #[.bool s2,.slice a2 n2 c2,.slice b2 m2 d2] 27 (0,0))):=hd_ (by have h9:=ai_ ((w.alloc (.cells #[.slice a0 n0 c0,.slice b0 m0 d0] 24)).alloc (.cells #[.slice a1 n1 c1,.slice b1 m1 d1] 24)) #[.bool s2,.slice a2 n2 c2,.slice b2 m2 d2] 27;rwa [al_,al_] at h9)
 have HF0:=hd_ (h0.later HB.out)
 have HG0:=hd_ (j0.later HB.out)
 have HF1:=hd_ (h1.later HB.out)
 have HG1:=hd_ (j1.later HB.out)
 have A2:=hd_ (h2.later HB.out)
 have D2:=hd_ (j2.later HB.out)
 clear h0 j0 h1 j1 h2 j2 hb0 hb1
 go_enter Tryz.func3,Tryz.ntmps3
 unfold frV
 obtain⟨vk0,vk1,vk2,vk3,vk4,vk5,vk6⟩:=bx_ X0.out X1.out X2.out
 go_wp2_with fail
 refine (eg_ a0 n0 c0 K0 b0 m0 d0 M0 4 1 false _ HF0.out HG0.out (by decide) ⟨fun h=>absurd h (by decide),fun h=>absurd HNB0.out h⟩).mono ?_
 rintro e wv1 ⟨rfl,b⟩
 clear vk0 vk1 vk2 vk3 vk4 vk5 vk6
 replace HB:=bt_ HB b
 replace X0:=bl_ X0 b
 replace X1:=bl_ X1 b
 replace X2:=bl_ X2 b
 replace HF0:=HF0.l_ b
 replace HG0:=HG0.l_ b
 replace HF1:=HF1.l_ b
 replace HG1:=HG1.l_ b
 replace A2:=A2.l_ b
 replace D2:=D2.l_ b
 clear b
 obtain⟨vk0,vk1,vk2,vk3,vk4,vk5,vk6⟩:=bx_ X0.out X1.out X2.out
 go_wp2_with fail
 refine (eg_ a1 n1 c1 K1 b1 m1 d1 M1 4 1 false _ HF1.out HG1.out (by decide) ⟨fun h=>absurd h (by decide),fun h=>absurd HNB1.out h⟩).mono ?_
 rintro e wv2 ⟨rfl,b⟩
 clear vk0 vk1 vk2 vk3 vk4 vk5 vk6
 replace HB:=bt_ HB b
 replace X0:=bl_ X0 b
 replace X1:=bl_ X1 b
 replace X2:=bl_ X2 b
 replace HF0:=HF0.l_ b
 replace HG0:=HG0.l_ b
 replace HF1:=HF1.l_ b
 replace HG1:=HG1.l_ b
 replace A2:=A2.l_ b
 replace D2:=D2.l_ b
 clear b
 obtain⟨vk0,vk1,vk2,vk3,vk4,vk5,vk6⟩:=bx_ X0.out X1.out X2.out
 go_wp2_with fail
 refine (ig_ s2 a2 n2 c2 b2 m2 d2 1 _).mono ?_
 rintro e wv3 ⟨rfl,b⟩
 clear vk0 vk1 vk2 vk3 vk4 vk5 vk6
 replace HB:=bt_ HB b
 replace X0:=bl_ X0 b
 replace X1:=bl_ X1 b
 replace X2:=bl_ X2 b
 replace HF0:=HF0.l_ b
 replace HG0:=HG0.l_ b
 replace HF1:=HF1.l_ b
 replace HG1:=HG1.l_ b
 replace A2:=A2.l_ b
 replace D2:=D2.l_ b
 clear b
 rw[hl2]
 obtain⟨vk0,vk1,vk2,vk3,vk4,vk5,vk6⟩:=bx_ X0.out X1.out X2.out
 go_wp2_with fail
 refine (HNM _ HF0.out HG0.out).mono ?_
 rintro e wv4 ⟨a21,n21,c21,b21,m21,d21,rfl,h21,g21,b⟩
 clear vk0 vk1 vk2 vk3 vk4 vk5 vk6
 have RU:=hd_ h21
 have RV:=hd_ g21
 have ba:=aa_ wv4 (.cells #[.slice a21 n21 c21,.slice b21 m21 d21] 24)
 have BM:=hd_ (ai_ wv4 #[.slice a21 n21 c21,.slice b21 m21 d21] 24)
 have bb:=ab_ b ba
 replace RU:=RU.l_ ba
 replace RV:=RV.l_ ba
 replace HB:=bt_ HB bb
 replace X0:=bl_ X0 bb
 replace X1:=bl_ X1 bb
 replace X2:=bl_ X2 bb
 replace HF0:=HF0.l_ bb
 replace HG0:=HG0.l_ bb
 replace HF1:=HF1.l_ bb
 replace HG1:=HG1.l_ bb
 replace A2:=A2.l_ bb
 replace D2:=D2.l_ bb
 clear b ba bb
 clear h21 g21
 go_upto_region 4 with fail
 generalize wv4.alloc (.cells #[.slice a21 n21 c21,.slice b21 m21 d21] 24)=wr at *
 obtain⟨vk0,vk1,vk2,vk3,vk4,vk5,vk6,vk7,vk8⟩:=is_ X0.out X1.out X2.out BM.out
 go_wp2_with fail
 refine (HNK _ A2.out D2.out).mono ?_
 rintro e wv5 ⟨a22,n22,c22,b22,m22,d22,rfl,h22,g22,b⟩
 clear vk0 vk1 vk2 vk3 vk4 vk5 vk6 vk7 vk8
 have AK:=hd_ h22
 have DK:=hd_ g22
 have ba:=aa_ wv5 (.cells #[.bool (zneg k.num),.slice a22 n22 c22,.slice b22 m22 d22] 27)
 have BK:=hd_ (ai_ wv5 #[.bool (zneg k.num),.slice a22 n22 c22,.slice b22 m22 d22] 27)
 have bb:=ab_ b ba
 replace AK:=AK.l_ ba
 replace DK:=DK.l_ ba
 replace HB:=bt_ HB bb
 replace X0:=bl_ X0 bb
 replace X1:=bl_ X1 bb
 replace X2:=bl_ X2 bb
 replace BM:=bl_ BM bb
 replace HF0:=HF0.l_ bb
 replace HG0:=HG0.l_ bb
 replace HF1:=HF1.l_ bb
 replace HG1:=HG1.l_ bb
 replace A2:=A2.l_ bb
 replace D2:=D2.l_ bb
 replace RU:=RU.l_ bb
 replace RV:=RV.l_ bb
 clear b ba bb
 clear h22 g22
 (try unfold frV)
 go_upto_region 5 with fail
 generalize wv5.alloc (.cells #[.bool (zneg k.num),.slice a22 n22 c22,.slice b22 m22 d22] 27)=wr at *
 obtain⟨vk0,vk1,vk2,vk3,vk4,vk5,vk6,vk7,vk8,vk9,vk10,vk11⟩:=hm_ X0.out X1.out X2.out BM.out BK.out
 go_wp2_with fail
 refine (HTX _ HF0.out HG0.out).mono ?_
 rintro e wv6 ⟨a23,n23,c23,b23,m23,d23,rfl,h23,b⟩
 clear vk0 vk1 vk2 vk3 vk4 vk5 vk6 vk7 vk8 vk9 vk10 vk11
 have PX:=hd_ h23
 have ba:=aa_ wv6 (.cells #[.slice a23 n23 c23,.slice b23 m23 d23] 35)
 have BX:=hd_ (ai_ wv6 #[.slice a23 n23 c23,.slice b23 m23 d23] 35)
 have bb:=ab_ b ba
 replace PX:=PX.l_ ba
 replace HB:=bt_ HB bb
 replace X0:=bl_ X0 bb
 replace X1:=bl_ X1 bb
 replace X2:=bl_ X2 bb
 replace BM:=bl_ BM bb
 replace BK:=bl_ BK bb
 replace HF0:=HF0.l_ bb
 replace HG0:=HG0.l_ bb
 replace HF1:=HF1.l_ bb
 replace HG1:=HG1.l_ bb
 replace A2:=A2.l_ bb
 replace D2:=D2.l_ bb
 replace RU:=RU.l_ bb
 replace RV:=RV.l_ bb
 replace AK:=AK.l_ bb
 replace DK:=DK.l_ bb
 clear b ba bb
 clear h23
 go_upto_region 6 with fail
 generalize wv6.alloc (.cells #[.slice a23 n23 c23,.slice b23 m23 d23] 35)=wr at *
 obtain⟨vk0,vk1,vk2,vk3,vk4,vk5,vk6,vk7,vk8,vk9,vk10,vk11,vk12,vk13⟩:=gi_ X0.out X1.out X2.out BM.out BK.out BX.out
 go_wp2_with fail
 refine (HNW _ _ _ _ _ _ _ PX.out).mono ?_
 rintro e wv7 ⟨a24,n24,c24,b24,m24,d24,rfl,h24,g24,b⟩
 clear vk0 vk1 vk2 vk3 vk4 vk5 vk6 vk7 vk8 vk9 vk10 vk11 vk12 vk13
 have RN:=hd_ h24
 have SN:=hd_ g24
 have ba:=aa_ wv7 (.cells #[.slice a24 n24 c24,.slice b24 m24 d24] 35)
 have BN:=hd_ (ai_ wv7 #[.slice a24 n24 c24,.slice b24 m24 d24] 35)
 have bb:=ab_ b ba
 replace RN:=RN.l_ ba
 replace SN:=SN.l_ ba
 replace HB:=bt_ HB bb
 replace X0:=bl_ X0 bb
 replace X1:=bl_ X1 bb
 replace X2:=bl_ X2 bb
 replace BM:=bl_ BM bb
 replace BK:=bl_ BK bb
 replace BX:=bl_ BX bb
 replace HF0:=HF0.l_ bb
 replace HG0:=HG0.l_ bb
 replace HF1:=HF1.l_ bb
 replace HG1:=HG1.l_ bb
 replace A2:=A2.l_ bb
 replace D2:=D2.l_ bb
 replace RU:=RU.l_ bb
 replace RV:=RV.l_ bb
 replace AK:=AK.l_ bb
 replace DK:=DK.l_ bb
 replace PX:=PX.l_ bb
 clear b ba bb
 clear h24 g24
 go_upto_region 7 with fail
 generalize wv7.alloc (.cells #[.slice a24 n24 c24,.slice b24 m24 d24] 35)=wr at *
 obtain⟨gm,hgm⟩:∃g,wv4.heap.size=g:=⟨_,rfl⟩
 rw[hgm] at BM ⊢
 clear hgm
 obtain⟨gk,hgk⟩:∃g,wv5.heap.size=g:=⟨_,rfl⟩
 rw[hgk] at BK ⊢
 clear hgk
 obtain⟨gx,hgx⟩:∃g,wv6.heap.size=g:=⟨_,rfl⟩
 rw[hgx] at BX ⊢
 clear hgx
 obtain⟨gn,hgn⟩:∃g,wv7.heap.size=g:=⟨_,rfl⟩
 rw[hgn] at BN ⊢
 clear hgn
 have hfd:∀(w9:World) (a:OA_) (n c:Nat) (b:OA_) (m d:Nat),(Instr.field 24 (.agg #[.slice a n c,.slice b m d]) 1).run Tryz.prog w9=.ok (.slice b m d) w9:=fun _ _ _ _ _ _ _=>by kernel_rfl
 have SU:=hd_ (bd_ X0.out)
 go_upto_region 7 with fail
 go_cut [12] from 42 to 48 (fun cv wx=>∃(g:Nat) (a33:OA_) (n33 c33:Nat) (b33:OA_) (m33 d33:Nat),cv=.pointer (some ⟨g,0,none⟩)∧Hid (wx.heap[g]? = some (.cells #[.slice a33 n33 c33,.slice b33 m33 d33] 24 (0,0)))∧Hid (Rw wx a33 n33 c33 uz)∧Hid (Rw wx b33 m33 d33 vz)∧Hid (Below wr.heap.size wr wx))
 case first=>
  obtain⟨s0,s1⟩:=a6_ SU.out (Below.refl wr.heap.size wr)
  go_wp2
  clear s0 s1
  have G1:Below wr.heap.size wr wr.drew:=(Below.refl _ _).drew
  have G2:∀o,Below wr.heap.size wr (wr.alloc o).drew:=fun o=>(aa_ wr o).drew
  have qS:=a6_ SU.out (G1)
  have qA:=fun (o:Obj)=>a6_ SU.out (G2 o)
  go_region_held3 (fun w'=>w'.cell? ⟨w.heap.size,0,none⟩=some (.slice a0 n0 c0)∧w'.cell? ⟨w.heap.size,1,none⟩=some (.slice b0 m0 d0)) (first | with_reducible exact qS | with_reducible exact qA _ | with_reducible exact qC)
   (first
   | (go_at_call 15;(first
     | ((first
       | ((with_reducible refine (HI1 wr.drew).mono ?_);rintro ed wq0 ⟨a31,n31,c31,b31,m31,d31,rfl,h31,g31,bw⟩;have bb:=ab_ G1 bw;have BC:=hd_ bb;replace HG0:=HG0.l_ bb;have A31:=hd_ (h31);have D31:=hd_ (g31);clear bb bw qS qA;clear h31 g31;(try unfold frV);have qS:=a6_ SU.out (BC.out);have qA:=fun (o:Obj)=>a6_ SU.out (ab_ BC.out (aa_ wq0 o));have M0:=True.intro)
       | ((with_reducible refine (HI1 (wr.alloc (.cells #[.slice none 0 0,.slice none 0 0] 24)).drew).mono ?_);have hzb:wr.heap.size≤wr.heap.size:=Nat.le_refl _;rintro ed wq0 ⟨a31,n31,c31,b31,m31,d31,rfl,h31,g31,bw⟩;have bb:=ab_ (G2 (.cells #[.slice none 0 0,.slice none 0 0] 24)) bw;have BC:=hd_ bb;replace HG0:=HG0.l_ bb;have A31:=hd_ (h31);have D31:=hd_ (g31);have ZF:=hd_ (ac_ (w:=(wr.alloc (.cells #[.slice none 0 0,.slice none 0 0] 24)).drew) (ai_ wr #[.slice none 0 0,.slice none 0 0] 24) bw);clear bb bw qS qA;clear h31 g31;(try unfold frV);have qS:=a6_ SU.out (BC.out);have qA:=fun (o:Obj)=>a6_ SU.out (ab_ BC.out (aa_ wq0 o));have M0:=True.intro)))))
   | (go_at_call 14;(first
     | (have mm:=M0;(first
       | (have yy9:=ZF;(with_reducible refine (HO1 wq0 _ _ _ _ _ _ A31.out D31.out).mono ?_);rintro ed wq1 ⟨a32,n32,c32,b32,m32,d32,rfl,h32,g32,bw⟩;have bb:=bw;replace BC:=bt_ BC bb;replace HG0:=HG0.l_ bb;replace A31:=A31.l_ bb;replace D31:=D31.l_ bb;have R32:=hd_ (h32);have S32:=hd_ (g32);replace ZF:=bl_ ZF bw;clear yy9;clear bb bw qS qA;clear h32 g32;(try unfold frV);have qS:=a6_ SU.out (BC.out);have qA:=fun (o:Obj)=>a6_ SU.out (ab_ BC.out (aa_ wq1 o));have M1:=True.intro)
       | ((with_reducible refine (HO1 wq0 _ _ _ _ _ _ A31.out D31.out).mono ?_);rintro ed wq1 ⟨a32,n32,c32,b32,m32,d32,rfl,h32,g32,bw⟩;have bb:=bw;replace BC:=bt_ BC bb;replace HG0:=HG0.l_ bb;replace A31:=A31.l_ bb;replace D31:=D31.l_ bb;have R32:=hd_ (h32);have S32:=hd_ (g32);clear bb bw qS qA;clear h32 g32;(try unfold frV);have qS:=a6_ SU.out (BC.out);have qA:=fun (o:Obj)=>a6_ SU.out (ab_ BC.out (aa_ wq1 o));have M1:=True.intro)
       | (have ba:=aa_ wq0 (.cells #[.slice none 0 0,.slice none 0 0] 24);(with_reducible refine (HO1 (wq0.alloc (.cells #[.slice none 0 0,.slice none 0 0] 24)) _ _ _ _ _ _ (A31.out.later ba) (D31.out.later ba)).mono ?_);have hzb:wr.heap.size≤wq0.heap.size:=BC.out.size;rintro ed wq1 ⟨a32,n32,c32,b32,m32,d32,rfl,h32,g32,bw⟩;have bb:=ab_ ba bw;replace BC:=bt_ BC bb;replace HG0:=HG0.l_ bb;replace A31:=A31.l_ bb;replace D31:=D31.l_ bb;have R32:=hd_ (h32);have S32:=hd_ (g32);have ZF:=hd_ (ac_ (ai_ wq0 #[.slice none 0 0,.slice none 0 0] 24) bw);clear ba;clear bb bw qS qA;clear h32 g32;(try unfold frV);have qS:=a6_ SU.out (BC.out);have qA:=fun (o:Obj)=>a6_ SU.out (ab_ BC.out (aa_ wq1 o));have M1:=True.intro)))))
   | (go_at_call 10;(first
     | (have mm:=M1;(first
       | (have yy9:=ZF;(with_reducible refine (HNZ wq1 _ _ _ HG0.out S32.out).mono ?_);rintro ed wq2 ⟨a33,n33,c33,b33,m33,d33,rfl,h33,g33,bw⟩;have bb:=bw;replace BC:=bt_ BC bb;replace HG0:=HG0.l_ bb;replace A31:=A31.l_ bb;replace D31:=D31.l_ bb;replace R32:=R32.l_ bb;replace S32:=S32.l_ bb;have RZ:=hd_ (h33);have SZ:=hd_ (g33);replace ZF:=bl_ ZF bw;clear yy9;clear bb bw qS qA;clear h33 g33;(try unfold frV);have qS:=a6_ SU.out (BC.out);have qA:=fun (o:Obj)=>a6_ SU.out (ab_ BC.out (aa_ wq2 o));obtain⟨z0,z1⟩:=bd_ ZF.out;have f0:=ae_ ZF.out 0;have f1:=ae_ ZF.out 1;have qC:=a6_ SU.out (ay_ BC.out hzb (.slice a33 n33 c33) (.slice b33 m33 d33));have M2:=True.intro)
       | ((with_reducible refine (HNZ wq1 _ _ _ HG0.out S32.out).mono ?_);rintro ed wq2 ⟨a33,n33,c33,b33,m33,d33,rfl,h33,g33,bw⟩;have bb:=bw;replace BC:=bt_ BC bb;replace HG0:=HG0.l_ bb;replace A31:=A31.l_ bb;replace D31:=D31.l_ bb;replace R32:=R32.l_ bb;replace S32:=S32.l_ bb;have RZ:=hd_ (h33);have SZ:=hd_ (g33);clear bb bw qS qA;clear h33 g33;(try unfold frV);have qS:=a6_ SU.out (BC.out);have qA:=fun (o:Obj)=>a6_ SU.out (ab_ BC.out (aa_ wq2 o));have M2:=True.intro)
       | (have ba:=aa_ wq1 (.cells #[.slice none 0 0,.slice none 0 0] 24);(with_reducible refine (HNZ (wq1.alloc (.cells #[.slice none 0 0,.slice none 0 0] 24)) _ _ _ (HG0.out.later ba) (S32.out.later ba)).mono ?_);have hzb:wr.heap.size≤wq1.heap.size:=BC.out.size;rintro ed wq2 ⟨a33,n33,c33,b33,m33,d33,rfl,h33,g33,bw⟩;have bb:=ab_ ba bw;replace BC:=bt_ BC bb;replace HG0:=HG0.l_ bb;replace A31:=A31.l_ bb;replace D31:=D31.l_ bb;replace R32:=R32.l_ bb;replace S32:=S32.l_ bb;have RZ:=hd_ (h33);have SZ:=hd_ (g33);have ZF:=hd_ (ac_ (ai_ wq1 #[.slice none 0 0,.slice none 0 0] 24) bw);clear ba;clear bb bw qS qA;clear h33 g33;(try unfold frV);have qS:=a6_ SU.out (BC.out);have qA:=fun (o:Obj)=>a6_ SU.out (ab_ BC.out (aa_ wq2 o));obtain⟨z0,z1⟩:=bd_ ZF.out;have f0:=ae_ ZF.out 0;have f1:=ae_ ZF.out 1;have qC:=a6_ SU.out (ay_ BC.out hzb (.slice a33 n33 c33) (.slice b33 m33 d33));have M2:=True.intro))))))
  all_goals (
   go_wp2
   go_meet
   (first
     | exact⟨_,a33,n33,c33,b33,m33,d33,rfl,hd_ (bj_ ZF.out (.slice a33 n33 c33) (.slice b33 m33 d33)),hd_ (RZ.out.boxed ZF.out (.slice a33 n33 c33) (.slice b33 m33 d33)),hd_ (SZ.out.boxed ZF.out (.slice a33 n33 c33) (.slice b33 m33 d33)),hd_ (ay_ BC.out hzb (.slice a33 n33 c33) (.slice b33 m33 d33))⟩
     | exact⟨wq2.heap.size,a33,n33,c33,b33,m33,d33,rfl,hd_ (ai_ wq2 _ 24),hd_ (RZ.out.later (aa_ wq2 _)),hd_ (SZ.out.later (aa_ wq2 _)),hd_ (ab_ BC.out (aa_ wq2 _))⟩))
 case rest=>
  obtain⟨gz,a33,n33,c33,b33,m33,d33,rfl,BZ,RZ,SZ,HBc⟩:=hcut
  replace HB:=hd_ (ab_ HB.out HBc.out)
  replace X1:=hd_ (ac_ X1.out HBc.out)
  replace X2:=hd_ (ac_ X2.out HBc.out)
  replace BM:=hd_ (ac_ BM.out HBc.out)
  replace BK:=hd_ (ac_ BK.out HBc.out)
  replace BX:=hd_ (ac_ BX.out HBc.out)
  replace BN:=hd_ (ac_ BN.out HBc.out)
  replace HF1:=hd_ (HF1.out.later HBc.out)
  replace HG1:=hd_ (HG1.out.later HBc.out)
  replace A2:=hd_ (A2.out.later HBc.out)
  replace D2:=hd_ (D2.out.later HBc.out)
  replace RU:=hd_ (RU.out.later HBc.out)
  replace RV:=hd_ (RV.out.later HBc.out)
  replace AK:=hd_ (AK.out.later HBc.out)
  replace DK:=hd_ (DK.out.later HBc.out)
  replace PX:=hd_ (PX.out.later HBc.out)
  replace RN:=hd_ (RN.out.later HBc.out)
  replace SN:=hd_ (SN.out.later HBc.out)
  clear HBc SU hfd HI1 HO1 HNZ HF0 HG0 X0 HNM HTX HNK HNW
  go_upto_region 8 with fail
  generalize wc=wr at *
  have SU:=hd_ (cb_ BX.out X2.out)
  go_upto_region 8 with fail
  go_cut [13,14] from 49 to 55 (fun cv ov wx=>∃(g:Nat) (a41:OA_) (n41 c41:Nat) (b41:OA_) (m41 d41:Nat),cv=.pointer (some ⟨g,0,none⟩)∧ov=.bool okv∧Hid (wx.heap[g]? = some (.cells #[.bool (zneg qv.num),.slice a41 n41 c41,.slice b41 m41 d41] 44 (0,0)))∧Hid (Wd wx a41 n41 c41 (dg qv.num.natAbs))∧Hid (Wd wx b41 m41 d41 (dg qv.den))∧Hid (Below wr.heap.size wr wx))
  case first=>
   obtain⟨s0,s1,s2,s3,s4⟩:=cm_ SU.out (Below.refl wr.heap.size wr)
   go_wp2
   clear s0 s1 s2 s3 s4
   have G1:Below wr.heap.size wr wr.drew:=(Below.refl _ _).drew
   have G2:∀o,Below wr.heap.size wr (wr.alloc o).drew:=fun o=>(aa_ wr o).drew
   have qS:=cm_ SU.out (G1)
   have qA:=fun (o:Obj)=>cm_ SU.out (G2 o)
   go_region_held3 (fun w'=>w'.cell? ⟨gx,0,none⟩=some (.slice a23 n23 c23)∧w'.cell? ⟨gx,1,none⟩=some (.slice b23 m23 d23)∧w'.cell? ⟨w.heap.size+1+1,0,none⟩=some (.bool s2)∧w'.cell? ⟨w.heap.size+1+1,1,none⟩=some (.slice a2 n2 c2)∧w'.cell? ⟨w.heap.size+1+1,2,none⟩=some (.slice b2 m2 d2)) (first | with_reducible exact qS | with_reducible exact qA _ | with_reducible exact qC)
    (first
    | (go_at_call 17;(first
      | ((first
        | ((with_reducible refine (HT9 wr.drew).mono ?_);rintro ed wq0 ⟨rfl,bw⟩;have bb:=ab_ G1 bw;have BC:=hd_ bb;replace PX:=PX.l_ bb;replace A2:=A2.l_ bb;replace D2:=D2.l_ bb;clear bb bw qS qA;(try unfold frV);have qS:=cm_ SU.out (BC.out);have qA:=fun (o:Obj)=>cm_ SU.out (ab_ BC.out (aa_ wq0 o));have M0:=True.intro)
        | ((with_reducible refine (HT9 (wr.alloc (.cells #[.bool false,.slice none 0 0,.slice none 0 0] 44)).drew).mono ?_);have hzb:wr.heap.size≤wr.heap.size:=Nat.le_refl _;rintro ed wq0 ⟨rfl,bw⟩;have bb:=ab_ (G2 (.cells #[.bool false,.slice none 0 0,.slice none 0 0] 44)) bw;have BC:=hd_ bb;replace PX:=PX.l_ bb;replace A2:=A2.l_ bb;replace D2:=D2.l_ bb;have ZF:=hd_ (ac_ (w:=(wr.alloc (.cells #[.bool false,.slice none 0 0,.slice none 0 0] 44)).drew) (ai_ wr #[.bool false,.slice none 0 0,.slice none 0 0] 44) bw);clear bb bw qS qA;(try unfold frV);have qS:=cm_ SU.out (BC.out);have qA:=fun (o:Obj)=>cm_ SU.out (ab_ BC.out (aa_ wq0 o));have M0:=True.intro)))))
    | (go_at_call 16;(first
      | (have mm:=M0;(first
        | (have yy9:=ZF;(with_reducible refine (HEV wq0 _ _ _ _ _ _ PX.out A2.out D2.out).mono ?_);rintro ed wq1 ⟨a41,n41,c41,b41,m41,d41,rfl,h41,g41,bw⟩;have bb:=bw;replace BC:=bt_ BC bb;replace PX:=PX.l_ bb;replace A2:=A2.l_ bb;replace D2:=D2.l_ bb;have A41:=hd_ (h41);have E41:=hd_ (g41);replace ZF:=bl_ ZF bw;clear yy9;clear bb bw qS qA;clear h41 g41;(try unfold frV);have qS:=cm_ SU.out (BC.out);have qA:=fun (o:Obj)=>cm_ SU.out (ab_ BC.out (aa_ wq1 o));obtain⟨z0,z1,z2⟩:=ao_ ZF.out;have f0:=ae_ ZF.out 0;have f1:=ae_ ZF.out 1;have f2:=ae_ ZF.out 2;have qC:=cm_ SU.out (as_ BC.out hzb (.bool (zneg qv.num)) (.slice a41 n41 c41) (.slice b41 m41 d41));have M1:=True.intro)
        | ((with_reducible refine (HEV wq0 _ _ _ _ _ _ PX.out A2.out D2.out).mono ?_);rintro ed wq1 ⟨a41,n41,c41,b41,m41,d41,rfl,h41,g41,bw⟩;have bb:=bw;replace BC:=bt_ BC bb;replace PX:=PX.l_ bb;replace A2:=A2.l_ bb;replace D2:=D2.l_ bb;have A41:=hd_ (h41);have E41:=hd_ (g41);clear bb bw qS qA;clear h41 g41;(try unfold frV);have qS:=cm_ SU.out (BC.out);have qA:=fun (o:Obj)=>cm_ SU.out (ab_ BC.out (aa_ wq1 o));have M1:=True.intro)
        | (have ba:=aa_ wq0 (.cells #[.bool false,.slice none 0 0,.slice none 0 0] 44);(with_reducible refine (HEV (wq0.alloc (.cells #[.bool false,.slice none 0 0,.slice none 0 0] 44)) _ _ _ _ _ _ (PX.out.later ba) (A2.out.later ba) (D2.out.later ba)).mono ?_);have hzb:wr.heap.size≤wq0.heap.size:=BC.out.size;rintro ed wq1 ⟨a41,n41,c41,b41,m41,d41,rfl,h41,g41,bw⟩;have bb:=ab_ ba bw;replace BC:=bt_ BC bb;replace PX:=PX.l_ bb;replace A2:=A2.l_ bb;replace D2:=D2.l_ bb;have A41:=hd_ (h41);have E41:=hd_ (g41);have ZF:=hd_ (ac_ (ai_ wq0 #[.bool false,.slice none 0 0,.slice none 0 0] 44) bw);clear ba;clear bb bw qS qA;clear h41 g41;(try unfold frV);have qS:=cm_ SU.out (BC.out);have qA:=fun (o:Obj)=>cm_ SU.out (ab_ BC.out (aa_ wq1 o));obtain⟨z0,z1,z2⟩:=ao_ ZF.out;have f0:=ae_ ZF.out 0;have f1:=ae_ ZF.out 1;have f2:=ae_ ZF.out 2;have qC:=cm_ SU.out (as_ BC.out hzb (.bool (zneg qv.num)) (.slice a41 n41 c41) (.slice b41 m41 d41));have M1:=True.intro))))))
   all_goals (
    go_wp2
    go_meet
    (first
      | exact⟨_,a41,n41,c41,b41,m41,d41,rfl,rfl,hd_ (be_ ZF.out (.bool (zneg qv.num)) (.slice a41 n41 c41) (.slice b41 m41 d41)),hd_ (A41.out.stored3 ZF.out (zneg qv.num) a41 n41 c41 (.slice b41 m41 d41)),hd_ (E41.out.stored3 ZF.out (zneg qv.num) a41 n41 c41 (.slice b41 m41 d41)),hd_ (as_ BC.out hzb (.bool (zneg qv.num)) (.slice a41 n41 c41) (.slice b41 m41 d41))⟩
      | exact⟨wq1.heap.size,a41,n41,c41,b41,m41,d41,rfl,rfl,hd_ (ai_ wq1 _ 44),hd_ (A41.out.later (aa_ wq1 _)),hd_ (E41.out.later (aa_ wq1 _)),hd_ (ab_ BC.out (aa_ wq1 _))⟩))
  case rest=>
   obtain⟨gv,a41,n41,c41,b41,m41,d41,rfl,rfl,BV,A41,E41,HBc⟩:=hcut
   replace HB:=hd_ (ab_ HB.out HBc.out)
   replace X1:=hd_ (ac_ X1.out HBc.out)
   replace X2:=hd_ (ac_ X2.out HBc.out)
   replace BM:=hd_ (ac_ BM.out HBc.out)
   replace BK:=hd_ (ac_ BK.out HBc.out)
   replace BX:=hd_ (ac_ BX.out HBc.out)
   replace BN:=hd_ (ac_ BN.out HBc.out)
   replace HF1:=hd_ (HF1.out.later HBc.out)
   replace HG1:=hd_ (HG1.out.later HBc.out)
   replace A2:=hd_ (A2.out.later HBc.out)
   replace D2:=hd_ (D2.out.later HBc.out)
   replace RU:=hd_ (RU.out.later HBc.out)
   replace RV:=hd_ (RV.out.later HBc.out)
   replace AK:=hd_ (AK.out.later HBc.out)
   replace DK:=hd_ (DK.out.later HBc.out)
   replace PX:=hd_ (PX.out.later HBc.out)
   replace RN:=hd_ (RN.out.later HBc.out)
   replace SN:=hd_ (SN.out.later HBc.out)
   replace BZ:=hd_ (ac_ BZ.out HBc.out)
   replace RZ:=hd_ (RZ.out.later HBc.out)
   replace SZ:=hd_ (SZ.out.later HBc.out)
   clear HBc SU HEV
   go_upto_region 9 with fail
   generalize wc=wr at *
   obtain⟨vk0,vk1,vk2,vk3,vk4,vk5,vk6,vk7,vk8,vk9,vk10,vk11,vk12,vk13,vk14,vk15,vk16,vk17,vk18⟩:=e1_ X1.out X2.out BM.out BK.out BX.out BN.out BZ.out BV.out
   go_wp2_with fail
   refine (HEW _ _ _ _ _ _ _ _ _ _ _ _ _ RU.out RV.out AK.out DK.out).mono ?_
   rintro e wv51 ⟨a42,n42,c42,b42,m42,d42,rfl,h42,g42,b⟩
   clear vk0 vk1 vk2 vk3 vk4 vk5 vk6 vk7 vk8 vk9 vk10 vk11 vk12 vk13 vk14 vk15 vk16 vk17 vk18
   have A42:=hd_ h42
   have E42:=hd_ g42
   have ba:=aa_ wv51 (.cells #[.bool (zneg qv.num),.slice a42 n42 c42,.slice b42 m42 d42] 27)
   have BW:=hd_ (ai_ wv51 #[.bool (zneg qv.num),.slice a42 n42 c42,.slice b42 m42 d42] 27)
   have bb:=ab_ b ba
   replace A42:=A42.l_ ba
   replace E42:=E42.l_ ba
   replace HB:=bt_ HB bb
   replace X1:=bl_ X1 bb
   replace X2:=bl_ X2 bb
   replace BM:=bl_ BM bb
   replace BK:=bl_ BK bb
   replace BX:=bl_ BX bb
   replace BN:=bl_ BN bb
   replace BZ:=bl_ BZ bb
   replace BV:=bl_ BV bb
   replace HF1:=HF1.l_ bb
   replace HG1:=HG1.l_ bb
   replace A2:=A2.l_ bb
   replace D2:=D2.l_ bb
   replace RU:=RU.l_ bb
   replace RV:=RV.l_ bb
   replace AK:=AK.l_ bb
   replace DK:=DK.l_ bb
   replace PX:=PX.l_ bb
   replace RN:=RN.l_ bb
   replace SN:=SN.l_ bb
   replace RZ:=RZ.l_ bb
   replace SZ:=SZ.l_ bb
   replace A41:=A41.l_ bb
   replace E41:=E41.l_ bb
   clear b ba bb
   clear h42 g42
   (try unfold frV)
   go_upto_region 10 with fail
   generalize wv51.alloc (.cells #[.bool (zneg qv.num),.slice a42 n42 c42,.slice b42 m42 d42] 27)=wr at *
   obtain⟨gw,hgw⟩:∃g,wv51.heap.size=g:=⟨_,rfl⟩
   rw[hgw] at BW ⊢
   clear hgw
   obtain⟨t0,t1,t2,t3,t4,t5,t6,t7,t8,t9,t10,t11,t12,t13⟩:=bg_ BX.out BM.out BN.out BZ.out BV.out BW.out
   go_wp2
   clear t0 t1 t2 t3 t4 t5 t6 t7 t8 t9 t10 t11 t12 t13
   replace HB:=bt_ HB (dw_ wr)
   replace BX:Hid (wr.drew.heap[gx]? = _):=hd_ BX.out
   replace BM:Hid (wr.drew.heap[gm]? = _):=hd_ BM.out
   replace BN:Hid (wr.drew.heap[gn]? = _):=hd_ BN.out
   replace BZ:Hid (wr.drew.heap[gz]? = _):=hd_ BZ.out
   replace BV:Hid (wr.drew.heap[gv]? = _):=hd_ BV.out
   replace BW:Hid (wr.drew.heap[gw]? = _):=hd_ BW.out
   replace X1:Hid (wr.drew.heap[w.heap.size+1]? = some (.cells #[.slice a1 n1 c1,.slice b1 m1 d1] 24 (0,0))):=hd_ X1.out
   replace X2:Hid (wr.drew.heap[w.heap.size+1+1]? = some (.cells #[.bool s2,.slice a2 n2 c2,.slice b2 m2 d2] 27 (0,0))):=hd_ X2.out
   replace BK:Hid (wr.drew.heap[gk]? = some (.cells #[.bool (zneg k.num),.slice a22 n22 c22,.slice b22 m22 d22] 27 (0,0))):=hd_ BK.out
   replace PX:=PX.l_ (dw_ wr)
   replace RU:=RU.l_ (dw_ wr)
   replace RV:=RV.l_ (dw_ wr)
   replace RN:=RN.l_ (dw_ wr)
   replace SN:=SN.l_ (dw_ wr)
   replace RZ:=RZ.l_ (dw_ wr)
   replace SZ:=SZ.l_ (dw_ wr)
   replace A41:=A41.l_ (dw_ wr)
   replace E41:=E41.l_ (dw_ wr)
   replace A42:=A42.l_ (dw_ wr)
   replace E42:=E42.l_ (dw_ wr)
   replace HF1:=HF1.l_ (dw_ wr)
   replace HG1:=HG1.l_ (dw_ wr)
   replace A2:=A2.l_ (dw_ wr)
   replace D2:=D2.l_ (dw_ wr)
   replace AK:=AK.l_ (dw_ wr)
   replace DK:=DK.l_ (dw_ wr)
   have pSn:=bg_ BX.out BM.out BN.out BZ.out BV.out BW.out
   go_region_held3 (fun w'=>w'.cell? ⟨gx,0,none⟩=some (.slice a23 n23 c23)∧w'.cell? ⟨gx,1,none⟩=some (.slice b23 m23 d23)∧w'.cell? ⟨gm,0,none⟩=some (.slice a21 n21 c21)∧w'.cell? ⟨gm,1,none⟩=some (.slice b21 m21 d21)∧w'.cell? ⟨gn,0,none⟩=some (.slice a24 n24 c24)∧w'.cell? ⟨gn,1,none⟩=some (.slice b24 m24 d24)∧w'.cell? ⟨gz,0,none⟩=some (.slice a33 n33 c33)∧w'.cell? ⟨gz,1,none⟩=some (.slice b33 m33 d33)∧w'.cell? ⟨gv,0,none⟩=some (.bool (zneg qv.num))∧w'.cell? ⟨gv,1,none⟩=some (.slice a41 n41 c41)∧w'.cell? ⟨gv,2,none⟩=some (.slice b41 m41 d41)∧w'.cell? ⟨gw,0,none⟩=some (.bool (zneg qv.num))∧w'.cell? ⟨gw,1,none⟩=some (.slice a42 n42 c42)∧w'.cell? ⟨gw,2,none⟩=some (.slice b42 m42 d42)) (exact pSn)
    (first
    | (go_at_call 20;(first
      | (refine (HNX _ _ _ _ _ _ _ PX.out).mono ?_;rintro e wp1 ⟨a61,n61,c61,b61,m61,d61,rfl,h61,g61,b⟩;replace HB:=bt_ HB b;replace BX:=bl_ BX b;replace BM:=bl_ BM b;replace BN:=bl_ BN b;replace BZ:=bl_ BZ b;replace BV:=bl_ BV b;replace BW:=bl_ BW b;replace X1:=bl_ X1 b;replace X2:=bl_ X2 b;replace BK:=bl_ BK b;replace PX:=PX.l_ b;replace RU:=RU.l_ b;replace RV:=RV.l_ b;replace RN:=RN.l_ b;replace SN:=SN.l_ b;replace RZ:=RZ.l_ b;replace SZ:=SZ.l_ b;replace A41:=A41.l_ b;replace E41:=E41.l_ b;replace A42:=A42.l_ b;replace E42:=E42.l_ b;replace HF1:=HF1.l_ b;replace HG1:=HG1.l_ b;replace A2:=A2.l_ b;replace D2:=D2.l_ b;replace AK:=AK.l_ b;replace DK:=DK.l_ b;have R61:=hd_ h61;have S61:=hd_ g61;clear h61 g61;clear b;clear pSn;have pSn:=bg_ BX.out BM.out BN.out BZ.out BV.out BW.out;have pM1:=True.intro)))
    | (go_at_call 19;(first
      | (have pm2:=pM2;refine (HIS _ _ _ _ _ _ _ _ _ _ _ _ _ RN.out SN.out RU.out RV.out).mono ?_;rintro e wp3 ⟨rfl,b⟩;replace HB:=bt_ HB b;replace BX:=bl_ BX b;replace BM:=bl_ BM b;replace BN:=bl_ BN b;replace BZ:=bl_ BZ b;replace BV:=bl_ BV b;replace BW:=bl_ BW b;replace X1:=bl_ X1 b;replace X2:=bl_ X2 b;replace BK:=bl_ BK b;replace PX:=PX.l_ b;replace RU:=RU.l_ b;replace RV:=RV.l_ b;replace RN:=RN.l_ b;replace SN:=SN.l_ b;replace RZ:=RZ.l_ b;replace SZ:=SZ.l_ b;replace A41:=A41.l_ b;replace E41:=E41.l_ b;replace A42:=A42.l_ b;replace E42:=E42.l_ b;replace HF1:=HF1.l_ b;replace HG1:=HG1.l_ b;replace A2:=A2.l_ b;replace D2:=D2.l_ b;replace AK:=AK.l_ b;replace DK:=DK.l_ b;clear b;clear pSn;have pSn:=bg_ BX.out BM.out BN.out BZ.out BV.out BW.out;clear pM2 pm2;have pM3:=True.intro)
      | (have pm1:=pM1;refine (HIS _ _ _ _ _ _ _ _ _ _ _ _ _ R61.out S61.out RU.out RV.out).mono ?_;rintro e wp2 ⟨rfl,b⟩;replace HB:=bt_ HB b;replace BX:=bl_ BX b;replace BM:=bl_ BM b;replace BN:=bl_ BN b;replace BZ:=bl_ BZ b;replace BV:=bl_ BV b;replace BW:=bl_ BW b;replace X1:=bl_ X1 b;replace X2:=bl_ X2 b;replace BK:=bl_ BK b;replace PX:=PX.l_ b;replace RU:=RU.l_ b;replace RV:=RV.l_ b;replace RN:=RN.l_ b;replace SN:=SN.l_ b;replace RZ:=RZ.l_ b;replace SZ:=SZ.l_ b;replace A41:=A41.l_ b;replace E41:=E41.l_ b;replace A42:=A42.l_ b;replace E42:=E42.l_ b;replace HF1:=HF1.l_ b;replace HG1:=HG1.l_ b;replace A2:=A2.l_ b;replace D2:=D2.l_ b;replace AK:=AK.l_ b;replace DK:=DK.l_ b;clear R61;clear S61;clear b;clear pSn;have pSn:=bg_ BX.out BM.out BN.out BZ.out BV.out BW.out;clear pM1 pm1;have pM2:=True.intro)))
    | (go_at_call 21;(first
      | (have pm3:=pM3;refine (HRZ _ _ _ _ _ _ _ RZ.out SZ.out).mono ?_;rintro e wp4 ⟨rfl,b⟩;replace HB:=bt_ HB b;replace BX:=bl_ BX b;replace BM:=bl_ BM b;replace BN:=bl_ BN b;replace BZ:=bl_ BZ b;replace BV:=bl_ BV b;replace BW:=bl_ BW b;replace X1:=bl_ X1 b;replace X2:=bl_ X2 b;replace BK:=bl_ BK b;replace PX:=PX.l_ b;replace RU:=RU.l_ b;replace RV:=RV.l_ b;replace RN:=RN.l_ b;replace SN:=SN.l_ b;replace RZ:=RZ.l_ b;replace SZ:=SZ.l_ b;replace A41:=A41.l_ b;replace E41:=E41.l_ b;replace A42:=A42.l_ b;replace E42:=E42.l_ b;replace HF1:=HF1.l_ b;replace HG1:=HG1.l_ b;replace A2:=A2.l_ b;replace D2:=D2.l_ b;replace AK:=AK.l_ b;replace DK:=DK.l_ b;clear b;clear pSn;have pSn:=bg_ BX.out BM.out BN.out BZ.out BV.out BW.out;clear pM3 pm3;have pM4:=True.intro)))
    | (go_at_call 22;(first
      | (have pm4:=pM4;refine (HI9 _ _ _ _ _ _ _ _ _ _ _ _ _ A41.out E41.out A42.out E42.out).mono ?_;rintro e wp5 ⟨rfl,b⟩;replace HB:=bt_ HB b;replace BX:=bl_ BX b;replace BM:=bl_ BM b;replace BN:=bl_ BN b;replace BZ:=bl_ BZ b;replace BV:=bl_ BV b;replace BW:=bl_ BW b;replace X1:=bl_ X1 b;replace X2:=bl_ X2 b;replace BK:=bl_ BK b;replace PX:=PX.l_ b;replace RU:=RU.l_ b;replace RV:=RV.l_ b;replace RN:=RN.l_ b;replace SN:=SN.l_ b;replace RZ:=RZ.l_ b;replace SZ:=SZ.l_ b;replace A41:=A41.l_ b;replace E41:=E41.l_ b;replace A42:=A42.l_ b;replace E42:=E42.l_ b;replace HF1:=HF1.l_ b;replace HG1:=HG1.l_ b;replace A2:=A2.l_ b;replace D2:=D2.l_ b;replace AK:=AK.l_ b;replace DK:=DK.l_ b;clear b;clear pSn;have pSn:=bg_ BX.out BM.out BN.out BZ.out BV.out BW.out;clear pM4 pm4;have pM5:=True.intro))))
   clear BN BZ BV BW RN SN RZ SZ A41 E41 A42 E42 HNX HIS HRZ HI9
   go_upto_region 12 with fail
   obtain⟨wr9,hwr9⟩:∃x,wp5=x:=⟨_,rfl⟩
   subst hwr9
   obtain⟨t0,t1,t2,t3,t4,t5,t6,t7,t8,t9,t10,t11⟩:=av_ BX.out BM.out X1.out X2.out BK.out
   go_wp2
   clear t0 t1 t2 t3 t4 t5 t6 t7 t8 t9 t10 t11
   replace HB:=bt_ HB (dw_ wp5)
   replace BX:Hid (wp5.drew.heap[gx]? = _):=hd_ BX.out
   replace BM:Hid (wp5.drew.heap[gm]? = _):=hd_ BM.out
   replace X1:Hid (wp5.drew.heap[w.heap.size+1]? = _):=hd_ X1.out
   replace X2:Hid (wp5.drew.heap[w.heap.size+1+1]? = _):=hd_ X2.out
   replace BK:Hid (wp5.drew.heap[gk]? = _):=hd_ BK.out
   replace PX:=PX.l_ (dw_ wp5)
   replace RU:=RU.l_ (dw_ wp5)
   replace RV:=RV.l_ (dw_ wp5)
   replace HF1:=HF1.l_ (dw_ wp5)
   replace HG1:=HG1.l_ (dw_ wp5)
   replace A2:=A2.l_ (dw_ wp5)
   replace D2:=D2.l_ (dw_ wp5)
   replace AK:=AK.l_ (dw_ wp5)
   replace DK:=DK.l_ (dw_ wp5)
   have qSn:=av_ BX.out BM.out X1.out X2.out BK.out
   go_region_held3 (fun w'=>w'.cell? ⟨gx,0,none⟩=some (.slice a23 n23 c23)∧w'.cell? ⟨gx,1,none⟩=some (.slice b23 m23 d23)∧w'.cell? ⟨gm,0,none⟩=some (.slice a21 n21 c21)∧w'.cell? ⟨gm,1,none⟩=some (.slice b21 m21 d21)∧w'.cell? ⟨w.heap.size+1,0,none⟩=some (.slice a1 n1 c1)∧w'.cell? ⟨w.heap.size+1,1,none⟩=some (.slice b1 m1 d1)∧w'.cell? ⟨w.heap.size+1+1,0,none⟩=some (.bool s2)∧w'.cell? ⟨w.heap.size+1+1,1,none⟩=some (.slice a2 n2 c2)∧w'.cell? ⟨w.heap.size+1+1,2,none⟩=some (.slice b2 m2 d2)∧w'.cell? ⟨gk,0,none⟩=some (.bool (zneg k.num))∧w'.cell? ⟨gk,1,none⟩=some (.slice a22 n22 c22)∧w'.cell? ⟨gk,2,none⟩=some (.slice b22 m22 d22)) (exact qSn)
    (first
    | (go_at_call 23;(first
      | (refine (HZX _ _ _ _ _ _ _ PX.out).mono ?_;rintro e wq1 ⟨rfl,b⟩;replace HB:=bt_ HB b;replace BX:=bl_ BX b;replace BM:=bl_ BM b;replace X1:=bl_ X1 b;replace X2:=bl_ X2 b;replace BK:=bl_ BK b;replace PX:=PX.l_ b;replace RU:=RU.l_ b;replace RV:=RV.l_ b;replace HF1:=HF1.l_ b;replace HG1:=HG1.l_ b;replace A2:=A2.l_ b;replace D2:=D2.l_ b;replace AK:=AK.l_ b;replace DK:=DK.l_ b;clear b;clear qSn;have qSn:=av_ BX.out BM.out X1.out X2.out BK.out;have qM1:=True.intro)))
    | (go_at_call 21;(first
      | (have qm1:=qM1;refine (HZM _ _ _ _ _ _ _ RU.out RV.out).mono ?_;rintro e wq2 ⟨rfl,b⟩;replace HB:=bt_ HB b;replace BX:=bl_ BX b;replace BM:=bl_ BM b;replace X1:=bl_ X1 b;replace X2:=bl_ X2 b;replace BK:=bl_ BK b;replace PX:=PX.l_ b;replace RU:=RU.l_ b;replace RV:=RV.l_ b;replace HF1:=HF1.l_ b;replace HG1:=HG1.l_ b;replace A2:=A2.l_ b;replace D2:=D2.l_ b;replace AK:=AK.l_ b;replace DK:=DK.l_ b;clear b;clear qSn;have qSn:=av_ BX.out BM.out X1.out X2.out BK.out;clear qM1 qm1;have qM2:=True.intro)))
    | (go_at_call 12;(first
      | (have qm2:=qM2;refine (HTY _ HF1.out HG1.out).mono ?_;rintro e wq3 ⟨a71,n71,c71,b71,m71,d71,rfl,h71,b⟩;replace HB:=bt_ HB b;replace BX:=bl_ BX b;replace BM:=bl_ BM b;replace X1:=bl_ X1 b;replace X2:=bl_ X2 b;replace BK:=bl_ BK b;replace PX:=PX.l_ b;replace RU:=RU.l_ b;replace RV:=RV.l_ b;replace HF1:=HF1.l_ b;replace HG1:=HG1.l_ b;replace A2:=A2.l_ b;replace D2:=D2.l_ b;replace AK:=AK.l_ b;replace DK:=DK.l_ b;have PY:=hd_ h71;clear h71;clear b;clear qSn;have qSn:=av_ BX.out BM.out X1.out X2.out BK.out;clear qM2 qm2;have qM3:=True.intro)))
    | (go_at_call 24;(first
      | (have qm3:=qM3;refine (HSX _ _ _ _ _ _ _ _ _ _ _ _ _ PX.out PY.out).mono ?_;rintro e wq4 ⟨rfl,b⟩;replace HB:=bt_ HB b;replace BX:=bl_ BX b;replace BM:=bl_ BM b;replace X1:=bl_ X1 b;replace X2:=bl_ X2 b;replace BK:=bl_ BK b;replace PX:=PX.l_ b;replace RU:=RU.l_ b;replace RV:=RV.l_ b;replace HF1:=HF1.l_ b;replace HG1:=HG1.l_ b;replace A2:=A2.l_ b;replace D2:=D2.l_ b;replace AK:=AK.l_ b;replace DK:=DK.l_ b;clear PY;clear b;clear qSn;have qSn:=av_ BX.out BM.out X1.out X2.out BK.out;clear qM3 qm3;have qM4:=True.intro)))
    | (go_at_call 10;(first
      | (have qm4:=qM4;refine (HNY _ HF1.out HG1.out).mono ?_;rintro e wq5 ⟨a72,n72,c72,b72,m72,d72,rfl,h72,g72,b⟩;replace HB:=bt_ HB b;replace BX:=bl_ BX b;replace BM:=bl_ BM b;replace X1:=bl_ X1 b;replace X2:=bl_ X2 b;replace BK:=bl_ BK b;replace PX:=PX.l_ b;replace RU:=RU.l_ b;replace RV:=RV.l_ b;replace HF1:=HF1.l_ b;replace HG1:=HG1.l_ b;replace A2:=A2.l_ b;replace D2:=D2.l_ b;replace AK:=AK.l_ b;replace DK:=DK.l_ b;have R72:=hd_ h72;have S72:=hd_ g72;clear h72 g72;clear b;clear qSn;have qSn:=av_ BX.out BM.out X1.out X2.out BK.out;clear qM4 qm4;have qM5:=True.intro)))
    | (go_at_call 25;(first
      | (have qm5:=qM5;refine (HSM _ _ _ _ _ _ _ _ _ _ _ _ _ RU.out RV.out R72.out S72.out).mono ?_;rintro e wq6 ⟨rfl,b⟩;replace HB:=bt_ HB b;replace BX:=bl_ BX b;replace BM:=bl_ BM b;replace X1:=bl_ X1 b;replace X2:=bl_ X2 b;replace BK:=bl_ BK b;replace PX:=PX.l_ b;replace RU:=RU.l_ b;replace RV:=RV.l_ b;replace HF1:=HF1.l_ b;replace HG1:=HG1.l_ b;replace A2:=A2.l_ b;replace D2:=D2.l_ b;replace AK:=AK.l_ b;replace DK:=DK.l_ b;clear R72;clear S72;clear b;clear qSn;have qSn:=av_ BX.out BM.out X1.out X2.out BK.out;clear qM5 qm5;have qM6:=True.intro)))
    | (go_at_call 26;(first
      | (have qm6:=qM6;refine (HDX _ _ _ _ _ _ _ PX.out).mono ?_;rintro e wq7 ⟨a73,n73,c73,b73,m73,d73,rfl,h73,g73,b⟩;replace HB:=bt_ HB b;replace BX:=bl_ BX b;replace BM:=bl_ BM b;replace X1:=bl_ X1 b;replace X2:=bl_ X2 b;replace BK:=bl_ BK b;replace PX:=PX.l_ b;replace RU:=RU.l_ b;replace RV:=RV.l_ b;replace HF1:=HF1.l_ b;replace HG1:=HG1.l_ b;replace A2:=A2.l_ b;replace D2:=D2.l_ b;replace AK:=AK.l_ b;replace DK:=DK.l_ b;have R73:=hd_ h73;have S73:=hd_ g73;clear h73 g73;clear b;clear qSn;have qSn:=av_ BX.out BM.out X1.out X2.out BK.out;clear qM6 qm6;have qM7:=True.intro)))
    | (go_at_call 27;(first
      | (have qm7:=qM7;refine (HDM _ _ _ _ _ _ _ RU.out RV.out).mono ?_;rintro e wq8 ⟨a74,n74,c74,b74,m74,d74,rfl,h74,g74,b⟩;replace HB:=bt_ HB b;replace BX:=bl_ BX b;replace BM:=bl_ BM b;replace X1:=bl_ X1 b;replace X2:=bl_ X2 b;replace BK:=bl_ BK b;replace PX:=PX.l_ b;replace RU:=RU.l_ b;replace RV:=RV.l_ b;replace HF1:=HF1.l_ b;replace HG1:=HG1.l_ b;replace A2:=A2.l_ b;replace D2:=D2.l_ b;replace AK:=AK.l_ b;replace DK:=DK.l_ b;replace R73:=R73.l_ b;replace S73:=S73.l_ b;have R74:=hd_ h74;have S74:=hd_ g74;clear h74 g74;clear b;clear qSn;have qSn:=av_ BX.out BM.out X1.out X2.out BK.out;clear qM7 qm7;have qM8:=True.intro)))
    | (go_at_call 19;(first
      | (have qm12:=qM12;refine (HIO _ _ _ _ _ _ _ _ _ _ _ _ _ R75.out S75.out R76.out S76.out).mono ?_;rintro e wq13 ⟨rfl,b⟩;replace HB:=bt_ HB b;replace BX:=bl_ BX b;replace BM:=bl_ BM b;replace X1:=bl_ X1 b;replace X2:=bl_ X2 b;replace BK:=bl_ BK b;replace PX:=PX.l_ b;replace RU:=RU.l_ b;replace RV:=RV.l_ b;replace HF1:=HF1.l_ b;replace HG1:=HG1.l_ b;replace A2:=A2.l_ b;replace D2:=D2.l_ b;replace AK:=AK.l_ b;replace DK:=DK.l_ b;clear R75;clear S75;clear R76;clear S76;clear b;clear qSn;have qSn:=av_ BX.out BM.out X1.out X2.out BK.out;clear qM12 qm12;have qM13:=True.intro)
      | (have qm8:=qM8;refine (HID _ _ _ _ _ _ _ _ _ _ _ _ _ R73.out S73.out R74.out S74.out).mono ?_;rintro e wq9 ⟨rfl,b⟩;replace HB:=bt_ HB b;replace BX:=bl_ BX b;replace BM:=bl_ BM b;replace X1:=bl_ X1 b;replace X2:=bl_ X2 b;replace BK:=bl_ BK b;replace PX:=PX.l_ b;replace RU:=RU.l_ b;replace RV:=RV.l_ b;replace HF1:=HF1.l_ b;replace HG1:=HG1.l_ b;replace A2:=A2.l_ b;replace D2:=D2.l_ b;replace AK:=AK.l_ b;replace DK:=DK.l_ b;clear R73;clear S73;clear R74;clear S74;clear b;clear qSn;have qSn:=av_ BX.out BM.out X1.out X2.out BK.out;clear qM8 qm8;have qM9:=True.intro)))
    | (go_at_call 17;(first
      | (have qm9:=qM9;refine (HT9 _).mono ?_;rintro e wq10 ⟨rfl,b⟩;replace HB:=bt_ HB b;replace BX:=bl_ BX b;replace BM:=bl_ BM b;replace X1:=bl_ X1 b;replace X2:=bl_ X2 b;replace BK:=bl_ BK b;replace PX:=PX.l_ b;replace RU:=RU.l_ b;replace RV:=RV.l_ b;replace HF1:=HF1.l_ b;replace HG1:=HG1.l_ b;replace A2:=A2.l_ b;replace D2:=D2.l_ b;replace AK:=AK.l_ b;replace DK:=DK.l_ b;clear b;clear qSn;have qSn:=av_ BX.out BM.out X1.out X2.out BK.out;clear qM9 qm9;have qM10:=True.intro)))
    | (go_at_call 28;(first
      | (have qm10:=qM10;refine (HOC _ A2.out D2.out).mono ?_;rintro e wq11 ⟨a75,n75,c75,b75,m75,d75,rfl,h75,g75,b⟩;replace HB:=bt_ HB b;replace BX:=bl_ BX b;replace BM:=bl_ BM b;replace X1:=bl_ X1 b;replace X2:=bl_ X2 b;replace BK:=bl_ BK b;replace PX:=PX.l_ b;replace RU:=RU.l_ b;replace RV:=RV.l_ b;replace HF1:=HF1.l_ b;replace HG1:=HG1.l_ b;replace A2:=A2.l_ b;replace D2:=D2.l_ b;replace AK:=AK.l_ b;replace DK:=DK.l_ b;have R75:=hd_ h75;have S75:=hd_ g75;clear h75 g75;clear b;clear qSn;have qSn:=av_ BX.out BM.out X1.out X2.out BK.out;clear qM10 qm10;have qM11:=True.intro)))
    | (go_at_call 14;(first
      | (have qm11:=qM11;refine (HOK _ _ _ _ _ _ _ AK.out DK.out).mono ?_;rintro e wq12 ⟨a76,n76,c76,b76,m76,d76,rfl,h76,g76,b⟩;replace HB:=bt_ HB b;replace BX:=bl_ BX b;replace BM:=bl_ BM b;replace X1:=bl_ X1 b;replace X2:=bl_ X2 b;replace BK:=bl_ BK b;replace PX:=PX.l_ b;replace RU:=RU.l_ b;replace RV:=RV.l_ b;replace HF1:=HF1.l_ b;replace HG1:=HG1.l_ b;replace A2:=A2.l_ b;replace D2:=D2.l_ b;replace AK:=AK.l_ b;replace DK:=DK.l_ b;replace R75:=R75.l_ b;replace S75:=S75.l_ b;have R76:=hd_ h76;have S76:=hd_ g76;clear h76 g76;clear b;clear qSn;have qSn:=av_ BX.out BM.out X1.out X2.out BK.out;clear qM11 qm11;have qM12:=True.intro)))
    | (go_at_call 9;(first
      | (have qm13:=qM13;refine (HW _).mono ?_;rintro e wq14 ⟨rfl,b⟩;replace HB:=bt_ HB b;replace BX:=bl_ BX b;replace BM:=bl_ BM b;replace X1:=bl_ X1 b;replace X2:=bl_ X2 b;replace BK:=bl_ BK b;replace PX:=PX.l_ b;replace RU:=RU.l_ b;replace RV:=RV.l_ b;replace HF1:=HF1.l_ b;replace HG1:=HG1.l_ b;replace A2:=A2.l_ b;replace D2:=D2.l_ b;replace AK:=AK.l_ b;replace DK:=DK.l_ b;clear b;clear qSn;have qSn:=av_ BX.out BM.out X1.out X2.out BK.out;clear qM13 qm13;have qM14:=True.intro))))
   all_goals (
    go_wp2
    go_ret
    exact⟨rfl,HB.out⟩)
end Go.Proofs.YtocebjbjnfammaaGreat
