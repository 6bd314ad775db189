/-
  The walks of the laws of layer 10: FigureNear.
-/
import Derived.Test.YteoeicfbaffjcaaGreatDoorLaw10Walks4M
import Derived.Test.YteoeicfbaffjcaaGreatDoorG16
import Derived.Deep.RegionHeld3
namespace Go.Proofs.YteoeicfbaffjcaaGreatDoor
open Go.RowKit

theorem fcells_4_3 {w : World} {A0 A1 : Nat} {c0_0 c0_1 c0_2 c0_3 c1_0 c1_1 c1_2 : Value} {t0 t1 : TypeId} (h0 : w.heap[A0]? = some (.cells #[c0_0, c0_1, c0_2, c0_3] t0 (0, 0))) (h1 : w.heap[A1]? = some (.cells #[c1_0, c1_1, c1_2] t1 (0, 0))) : w.cell? ⟨A0, 0, none⟩ = some c0_0 ∧ w.cell? ⟨A0, 1, none⟩ = some c0_1 ∧ w.cell? ⟨A0, 2, none⟩ = some c0_2 ∧ w.cell? ⟨A0, 3, none⟩ = some c0_3 ∧ w.cell? ⟨A1, 0, none⟩ = some c1_0 ∧ w.cell? ⟨A1, 1, none⟩ = some c1_1 ∧ w.cell? ⟨A1, 2, none⟩ = some c1_2 := ⟨blk_cell h0 0, blk_cell h0 1, blk_cell h0 2, blk_cell h0 3, blk_cell h1 0, blk_cell h1 1, blk_cell h1 2⟩
theorem rtxt_length {q : Rat} {k : Nat} (hk : k ≤ 60) (h : (txt (rnum q k)).length ≤ 200) : (rtxt q k).length ≤ 1000 := by
  have h1 := pad0_length k (txt (rnum q k))
  have h2 : (pointed k (pad0 k (txt (rnum q k)))).length ≤ 500 := by
    unfold pointed
    split
    · omega
    · rw [List.length_append, List.length_cons, List.length_take, List.length_drop]; omega
  unfold rtxt
  rw [List.length_append]
  split <;> simp only [List.length_cons, List.length_nil] <;> omega
theorem clampP_nat {k : Nat} (h : k ≤ 60) : clampP (k : Int) = k := by unfold clampP; omega
theorem near_len {q : Rat} {k : Nat} (hq : qlen q ≤ 4) (hk : k ≤ 60) : qlen (mkRat (zval (decide (q.num < 0)) (rnum q k)) (10 ^ k)) ≤ 20 := by
  have hu := val_lt (okw_dg q.num.natAbs)
  have hw := val_lt (okw_dg q.den)
  rw [val_dg] at hu hw
  have h1 : rnum q k ≤ q.num.natAbs * (10 ^ k * 2) + q.den := by
    unfold rnum
    refine Nat.le_trans (Nat.div_le_self _ _) ?_
    have e : q.num.natAbs * (10 ^ k * 2) = 2 * (q.num.natAbs * 10 ^ k) := by grind
    omega
  have lU := fig_room_len (N := 4) hu hw (Nat.le_trans (qlen_num q) hq) (Nat.le_trans (qlen_den q) hq) hk
  have l8 := Nat.le_trans (dg_length_mono h1) lU
  have l6 : (dg (10 ^ k)).length ≤ 8 := dg_length_le (Nat.lt_of_le_of_lt (Nat.pow_le_pow_right (by decide) hk) (show 10 ^ 60 < 4294967296 ^ 8 by decide))
  have h3 := qlen_parts (zval (decide (q.num < 0)) (rnum q k)) (10 ^ k)
  rw [zval_abs] at h3
  omega
theorem ten_len {i : Nat} (h : i ≤ 20) : qlen (((10 : Int) : Rat) ^ i) ≤ 21 := by
  have h10 : (dg ((10 : Int) : Rat).num.natAbs).length ≤ 1 := by rw [Rat.num_intCast]; exact dg_length_le (by decide)
  have h11 : (dg ((10 : Int) : Rat).den).length ≤ 1 := by rw [Rat.den_intCast]; exact dg_length_le (by decide)
  obtain ⟨h1, h2⟩ := qpow_len ((10 : Int) : Rat) i 1 h10 h11
  exact qlen_le (by omega) (by omega)
set_option maxRecDepth 4096 in
set_option maxHeartbeats 16000000 in
theorem law10_near_long (S : FigureSaid) (s0 : Bool) (a0 : Option Addr) (n0 c0 : Nat) (b0 : Option Addr) (m0 d0 : Nat) (p : Int) (w : World) (hT : Hid (Dec10 w)) (h0 : 3 < n0 ∨ 3 < m0) :
    Calls Tryz.prog 6 #[frV s0 a0 n0 c0 b0 m0 d0, .int .i64 p] w (Gives (.bool true) w) := by
  have HB := Lib.hid (below_alloc w (.cells #[.bool s0, .slice a0 n0 c0, .slice b0 m0 d0] 24))
  have X0 := Lib.hid (blk_new w #[.bool s0, .slice a0 n0 c0, .slice b0 m0 d0] 24)
  have hl0 : (decide ((3 : Int) < (n0 : Int)) || decide ((3 : Int) < (m0 : Int))) = true := by
    rcases h0 with h | h
    · rw [decide_eq_true (show (3 : Int) < (n0 : Int) by omega)]; rfl
    · rw [decide_eq_true (show (3 : Int) < (m0 : Int) by omega), Bool.or_true]
  clear h0
  go_enter Tryz.func6, Tryz.ntmps6
  unfold frV
  obtain ⟨vk0, vk1, vk2⟩ := fcells_3 X0.out
  go_wp2_with fail
  refine (ref09_long s0 a0 n0 c0 b0 m0 d0 3 _).mono ?_
  rintro e wv1 ⟨rfl, b⟩
  clear vk0 vk1 vk2
  replace HB := Lib.hid (below_then HB.out b)
  replace X0 := Lib.hid (blk_later X0.out b)
  clear b
  rw [hl0]
  obtain ⟨vk0, vk1, vk2⟩ := fcells_3 X0.out
  go_wp2_with fail
  refine (law10_works S _ (Lib.hid (hT.out.later HB.out))).mono ?_
  rintro e wv2 ⟨rfl, b⟩
  clear vk0 vk1 vk2
  replace HB := Lib.hid (below_then HB.out b)
  replace X0 := Lib.hid (blk_later X0.out b)
  clear b
  go_wp2
  go_ret
  exact ⟨rfl, HB.out⟩
set_option maxRecDepth 4096 in
set_option maxHeartbeats 16000000 in
theorem law10_near_low (S : FigureSaid) (s0 : Bool) (a0 : Option Addr) (n0 c0 : Nat) (b0 : Option Addr) (m0 d0 : Nat) (p : Int) (w : World) (hT : Hid (Dec10 w)) (hn0 : n0 ≤ 3) (hm0 : m0 ≤ 3) (hp : p < 0) :
    Calls Tryz.prog 6 #[frV s0 a0 n0 c0 b0 m0 d0, .int .i64 p] w (Gives (.bool true) w) := by
  have HB := Lib.hid (below_alloc w (.cells #[.bool s0, .slice a0 n0 c0, .slice b0 m0 d0] 24))
  have X0 := Lib.hid (blk_new w #[.bool s0, .slice a0 n0 c0, .slice b0 m0 d0] 24)
  have hl0 : (decide ((3 : Int) < (n0 : Int)) || decide ((3 : Int) < (m0 : Int))) = false := by rw [decide_eq_false (by omega), decide_eq_false (by omega)]; rfl
  go_enter Tryz.func6, Tryz.ntmps6
  unfold frV
  obtain ⟨vk0, vk1, vk2⟩ := fcells_3 X0.out
  go_wp2_with fail
  refine (ref09_long s0 a0 n0 c0 b0 m0 d0 3 _).mono ?_
  rintro e wv1 ⟨rfl, b⟩
  clear vk0 vk1 vk2
  replace HB := Lib.hid (below_then HB.out b)
  replace X0 := Lib.hid (blk_later X0.out b)
  clear b
  rw [hl0]
  obtain ⟨vk0, vk1, vk2⟩ := fcells_3 X0.out
  go_wp2_with fail
  refine (law10_works S _ (Lib.hid (hT.out.later HB.out))).mono ?_
  rintro e wv2 ⟨rfl, b⟩
  clear vk0 vk1 vk2
  replace HB := Lib.hid (below_then HB.out b)
  replace X0 := Lib.hid (blk_later X0.out b)
  clear b
  go_wp2
  go_ret
  exact ⟨rfl, HB.out⟩
set_option maxRecDepth 4096 in
set_option maxHeartbeats 16000000 in
theorem law10_near_high (S : FigureSaid) (s0 : Bool) (a0 : Option Addr) (n0 c0 : Nat) (b0 : Option Addr) (m0 d0 : Nat) (p : Int) (w : World) (hT : Hid (Dec10 w)) (hn0 : n0 ≤ 3) (hm0 : m0 ≤ 3) (hp : 20 < p) :
    Calls Tryz.prog 6 #[frV s0 a0 n0 c0 b0 m0 d0, .int .i64 p] w (Gives (.bool true) w) := by
  have HB := Lib.hid (below_alloc w (.cells #[.bool s0, .slice a0 n0 c0, .slice b0 m0 d0] 24))
  have X0 := Lib.hid (blk_new w #[.bool s0, .slice a0 n0 c0, .slice b0 m0 d0] 24)
  have hl0 : (decide ((3 : Int) < (n0 : Int)) || decide ((3 : Int) < (m0 : Int))) = false := by rw [decide_eq_false (by omega), decide_eq_false (by omega)]; rfl
  have hpn : ¬ p < 0 := by omega
  go_enter Tryz.func6, Tryz.ntmps6
  unfold frV
  obtain ⟨vk0, vk1, vk2⟩ := fcells_3 X0.out
  go_wp2_with fail
  refine (ref09_long s0 a0 n0 c0 b0 m0 d0 3 _).mono ?_
  rintro e wv1 ⟨rfl, b⟩
  clear vk0 vk1 vk2
  replace HB := Lib.hid (below_then HB.out b)
  replace X0 := Lib.hid (blk_later X0.out b)
  clear b
  rw [hl0]
  obtain ⟨vk0, vk1, vk2⟩ := fcells_3 X0.out
  go_wp2_with fail
  refine (law10_works S _ (Lib.hid (hT.out.later HB.out))).mono ?_
  rintro e wv2 ⟨rfl, b⟩
  clear vk0 vk1 vk2
  replace HB := Lib.hid (below_then HB.out b)
  replace X0 := Lib.hid (blk_later X0.out b)
  clear b
  go_wp2
  go_ret
  exact ⟨rfl, HB.out⟩
set_option maxRecDepth 4096 in
set_option maxHeartbeats 16000000 in
theorem law10_near_short (S : FigureSaid) (s0 : Bool) (a0 : Option Addr) (n0 c0 : Nat) (la0 : List Nat) (b0 : Option Addr) (m0 d0 : Nat) (lb0 : List Nat) (k : Nat) (w : World) (ha0 : Wd w a0 n0 c0 la0) (hb0 : Wd w b0 m0 d0 lb0) (hT : Hid (Dec10 w)) (hn0 : n0 ≤ 3) (hm0 : m0 ≤ 3) (hk : k ≤ 20) :
    Calls Tryz.prog 6 #[frV s0 a0 n0 c0 b0 m0 d0, .int .i64 (k : Int)] w (Gives (.bool true) w) := by
  have HB := Lib.hid (below_alloc w (.cells #[.bool s0, .slice a0 n0 c0, .slice b0 m0 d0] 24))
  have A0 := Lib.hid (ha0.later HB.out)
  have B0 := Lib.hid (hb0.later HB.out)
  have X0 := Lib.hid (blk_new w #[.bool s0, .slice a0 n0 c0, .slice b0 m0 d0] 24)
  obtain ⟨p0, hp0⟩ : ∃ p, qval s0 (val la0) (val lb0) = p := ⟨_, rfl⟩
  have lp0 : qlen p0 ≤ 4 := (Fr.of ha0 hb0 hn0 hm0 hp0).len
  have EQ0 := Lib.hid hp0
  have hl0 : (decide ((3 : Int) < (n0 : Int)) || decide ((3 : Int) < (m0 : Int))) = false := by rw [decide_eq_false (by omega), decide_eq_false (by omega)]; rfl
  clear ha0 hb0 hp0
  have hk0 : ¬ (k : Int) < 0 := by omega
  have hk1 : ¬ (20 : Int) < (k : Int) := by omega
  have hrd := rnum_digits (q := p0) (by omega) k
  obtain ⟨f1, f2, f3⟩ := rtxt_says p0 k (by omega) (by omega)
  have lrt := rtxt_length (q := p0) (k := k) (by omega) (by omega)
  have ly := near_len (q := p0) (k := k) (by omega) (by omega)
  have hno := near_one p0 k
  obtain ⟨y, hy⟩ : ∃ y, mkRat (zval (decide (p0.num < 0)) (rnum p0 k)) (10 ^ k) = y := ⟨_, rfl⟩
  rw [hy] at f3 ly hno
  have HRD : ∀ w' : World, Calls Tryz.prog 15 #[.string (bs (rtxt p0 k))] w' (LstQV y (faultV 0 0 0 0) w') := fun w' => by
    have h := S.read (rtxt p0 k) w' lrt
    rw [f1, f2, f3] at h
    exact h
  have HCP : Hid (clampP (k : Int) = k) := Lib.hid (clampP_nat (by omega))
  obtain ⟨df, hdf⟩ : ∃ r, y - p0 = r := ⟨_, rfl⟩
  have ldf : qlen df ≤ 40 := by rw [← hdf]; have := qlen_sub y p0; omega
  obtain ⟨aw, haw⟩ : ∃ r, qabs df = r := ⟨_, rfl⟩
  have law : qlen aw ≤ 40 := by rw [← haw, qlen_abs]; exact ldf
  obtain ⟨tw, htw⟩ : ∃ r, aw + aw = r := ⟨_, rfl⟩
  have ltw : qlen tw ≤ 82 := by rw [← htw]; have := qlen_add aw aw; omega
  rw [hdf, haw, htw] at hno
  have HL : Hid (∀ i, i ≤ 20 → qlen (tw * ((10 : Int) : Rat) ^ i) ≤ 200) := Lib.hid (fun i hi => by
    have h1 := ten_len hi
    have h2 := qlen_mul tw (((10 : Int) : Rat) ^ i)
    omega)
  have HM : Hid (∀ i, tw * ((10 : Int) : Rat) ^ i * ((10 : Int) : Rat) = tw * ((10 : Int) : Rat) ^ (i + 1)) := Lib.hid (fun i => by rw [Rat.pow_succ, Rat.mul_assoc])
  have HM0 : Hid (tw = tw * ((10 : Int) : Rat) ^ 0) := Lib.hid (by rw [Rat.pow_zero, Rat.mul_one])
  obtain ⟨ten, hten⟩ : ∃ r, ((10 : Int) : Rat) = r := ⟨_, rfl⟩
  have lten : qlen ten ≤ 2 := by rw [← hten]; exact qlen_int (isInt_ten (by omega) (by omega))
  obtain ⟨one, hone⟩ : ∃ r, ((1 : Int) : Rat) = r := ⟨_, rfl⟩
  have lone : qlen one ≤ 2 := by rw [← hone]; exact qlen_int (isInt_ten (by omega) (by omega))
  rw [hten, hone] at hno
  rw [hten] at HL HM HM0
  have HTN : ∀ w' : World, Calls Tryz.prog 26 #[.int .i64 10] w' (LstQ ten w') := fun w' => by
    have h := fracSaid.of 10 w' (isInt_ten (by omega) (by omega))
    rw [hten] at h
    exact h
  have HON : ∀ w' : World, Calls Tryz.prog 26 #[.int .i64 1] w' (LstQ one w') := fun w' => by
    have h := fracSaid.of 1 w' (isInt_ten (by omega) (by omega))
    rw [hone] at h
    exact h
  have EDF := Lib.hid hdf
  have EAW := Lib.hid haw
  have ETW := Lib.hid htw
  clear hy f1 f2 f3 hdf haw htw hten hone hrd lrt
  unfold faultV at HRD
  go_enter Tryz.func6, Tryz.ntmps6
  unfold frV
  obtain ⟨vk0, vk1, vk2⟩ := fcells_3 X0.out
  go_wp2_with fail
  refine (ref09_long s0 a0 n0 c0 b0 m0 d0 3 _).mono ?_
  rintro e wv1 ⟨rfl, b⟩
  clear vk0 vk1 vk2
  replace HB := Lib.hid (below_then HB.out b)
  replace X0 := Lib.hid (blk_later X0.out b)
  replace A0 := Lib.hid (A0.out.later b)
  replace B0 := Lib.hid (B0.out.later b)
  clear b
  rw [hl0]
  obtain ⟨vk0, vk1, vk2⟩ := fcells_3 X0.out
  go_wp2_with fail
  refine (law09_to s0 a0 n0 c0 b0 m0 d0 _).mono ?_
  rintro e wv2 ⟨rfl, b⟩
  clear vk0 vk1 vk2
  replace HB := Lib.hid (below_then HB.out b)
  replace X0 := Lib.hid (blk_later X0.out b)
  replace A0 := Lib.hid (A0.out.later b)
  replace B0 := Lib.hid (B0.out.later b)
  clear b
  unfold frV
  have P0 : Hid ((World.alloc wv2 (.cells #[.bool s0, .slice a0 n0 c0, .slice b0 m0 d0] 30)).heap[wv2.heap.size]? = some (.cells #[.bool s0, .slice a0 n0 c0, .slice b0 m0 d0] 30 (0, 0))) := Lib.hid (blk_new wv2 _ _)
  replace HB := Lib.hid (below_then HB.out (below_alloc wv2 (.cells #[.bool s0, .slice a0 n0 c0, .slice b0 m0 d0] 30)))
  replace X0 := Lib.hid (blk_later X0.out (below_alloc wv2 (.cells #[.bool s0, .slice a0 n0 c0, .slice b0 m0 d0] 30)))
  replace A0 := Lib.hid (A0.out.later (below_alloc wv2 (.cells #[.bool s0, .slice a0 n0 c0, .slice b0 m0 d0] 30)))
  replace B0 := Lib.hid (B0.out.later (below_alloc wv2 (.cells #[.bool s0, .slice a0 n0 c0, .slice b0 m0 d0] 30)))
  obtain ⟨vk0, vk1, vk2⟩ := fcells_3 P0.out
  go_wp2_with fail
  refine (S.round (frV s0 a0 n0 c0 b0 m0 d0) p0 (k : Int) _ (Fr.of A0.out B0.out (by omega) (by omega) EQ0.out) (by unfold isInt; omega) (Lib.hid (hT.out.later HB.out))).mono ?_
  rintro e wv3 ⟨rfl, b⟩
  clear vk0 vk1 vk2
  replace HB := Lib.hid (below_then HB.out b)
  replace P0 := Lib.hid (blk_later P0.out b)
  replace A0 := Lib.hid (A0.out.later b)
  replace B0 := Lib.hid (B0.out.later b)
  clear b
  rw [HCP.out]
  obtain ⟨vk0, vk1, vk2⟩ := fcells_3 P0.out
  go_wp2_with fail
  refine (HRD _).mono ?_
  rintro e wv4 ⟨a1, n1, c1, b1, m1, d1, rfl, h1, g1, b⟩
  clear vk0 vk1 vk2
  replace HB := Lib.hid (below_then HB.out b)
  replace P0 := Lib.hid (blk_later P0.out b)
  replace A0 := Lib.hid (A0.out.later b)
  replace B0 := Lib.hid (B0.out.later b)
  clear b
  have hN1 : n1 ≤ qlen y := (by rw [← h1.len]; exact qlen_num _)
  have hM1 : m1 ≤ qlen y := (by rw [← g1.len]; exact qlen_den _)
  have R1 := Lib.hid h1
  have T1 := Lib.hid g1
  clear h1 g1
  unfold frV
  have P1 : Hid ((World.alloc wv4 (.cells #[.bool (zneg y.num), .slice a1 n1 c1, .slice b1 m1 d1] 30)).heap[wv4.heap.size]? = some (.cells #[.bool (zneg y.num), .slice a1 n1 c1, .slice b1 m1 d1] 30 (0, 0))) := Lib.hid (blk_new wv4 _ _)
  replace HB := Lib.hid (below_then HB.out (below_alloc wv4 (.cells #[.bool (zneg y.num), .slice a1 n1 c1, .slice b1 m1 d1] 30)))
  replace P0 := Lib.hid (blk_later P0.out (below_alloc wv4 (.cells #[.bool (zneg y.num), .slice a1 n1 c1, .slice b1 m1 d1] 30)))
  replace A0 := Lib.hid (A0.out.later (below_alloc wv4 (.cells #[.bool (zneg y.num), .slice a1 n1 c1, .slice b1 m1 d1] 30)))
  replace B0 := Lib.hid (B0.out.later (below_alloc wv4 (.cells #[.bool (zneg y.num), .slice a1 n1 c1, .slice b1 m1 d1] 30)))
  replace R1 := Lib.hid (R1.out.later (below_alloc wv4 (.cells #[.bool (zneg y.num), .slice a1 n1 c1, .slice b1 m1 d1] 30)))
  replace T1 := Lib.hid (T1.out.later (below_alloc wv4 (.cells #[.bool (zneg y.num), .slice a1 n1 c1, .slice b1 m1 d1] 30)))
  have G1 : Hid ((World.alloc (wv4.alloc (.cells #[.bool (zneg y.num), .slice a1 n1 c1, .slice b1 m1 d1] 30)) (.cells #[.int .i64 0, .int .i64 0, .int .i64 0, .int .i64 0] 38)).heap[wv4.heap.size + 1]? = some (.cells #[.int .i64 0, .int .i64 0, .int .i64 0, .int .i64 0] 38 (0, 0))) := Lib.hid (by have h := blk_new (wv4.alloc (.cells #[.bool (zneg y.num), .slice a1 n1 c1, .slice b1 m1 d1] 30)) #[.int .i64 0, .int .i64 0, .int .i64 0, .int .i64 0] 38; rw [blk_size] at h; exact h)
  replace HB := Lib.hid (below_then HB.out (below_alloc (wv4.alloc (.cells #[.bool (zneg y.num), .slice a1 n1 c1, .slice b1 m1 d1] 30)) (.cells #[.int .i64 0, .int .i64 0, .int .i64 0, .int .i64 0] 38)))
  replace P0 := Lib.hid (blk_later P0.out (below_alloc (wv4.alloc (.cells #[.bool (zneg y.num), .slice a1 n1 c1, .slice b1 m1 d1] 30)) (.cells #[.int .i64 0, .int .i64 0, .int .i64 0, .int .i64 0] 38)))
  replace P1 := Lib.hid (blk_later P1.out (below_alloc (wv4.alloc (.cells #[.bool (zneg y.num), .slice a1 n1 c1, .slice b1 m1 d1] 30)) (.cells #[.int .i64 0, .int .i64 0, .int .i64 0, .int .i64 0] 38)))
  replace A0 := Lib.hid (A0.out.later (below_alloc (wv4.alloc (.cells #[.bool (zneg y.num), .slice a1 n1 c1, .slice b1 m1 d1] 30)) (.cells #[.int .i64 0, .int .i64 0, .int .i64 0, .int .i64 0] 38)))
  replace B0 := Lib.hid (B0.out.later (below_alloc (wv4.alloc (.cells #[.bool (zneg y.num), .slice a1 n1 c1, .slice b1 m1 d1] 30)) (.cells #[.int .i64 0, .int .i64 0, .int .i64 0, .int .i64 0] 38)))
  replace R1 := Lib.hid (R1.out.later (below_alloc (wv4.alloc (.cells #[.bool (zneg y.num), .slice a1 n1 c1, .slice b1 m1 d1] 30)) (.cells #[.int .i64 0, .int .i64 0, .int .i64 0, .int .i64 0] 38)))
  replace T1 := Lib.hid (T1.out.later (below_alloc (wv4.alloc (.cells #[.bool (zneg y.num), .slice a1 n1 c1, .slice b1 m1 d1] 30)) (.cells #[.int .i64 0, .int .i64 0, .int .i64 0, .int .i64 0] 38)))
  obtain ⟨vk0, vk1, vk2, vk3, vk4, vk5, vk6, vk7, vk8, vk9⟩ := fcells_3_3_4 P0.out P1.out G1.out
  go_wp2_with fail
  refine (fracSaid.sub (frV (zneg y.num) a1 n1 c1 b1 m1 d1) (frV s0 a0 n0 c0 b0 m0 d0) y p0 _ (Fr.right R1.out T1.out (by omega) (by omega)) (Fr.of A0.out B0.out (by omega) (by omega) EQ0.out)).mono ?_
  rintro e wv5 ⟨a2, n2, c2, b2, m2, d2, rfl, h2, g2, b⟩
  clear vk0 vk1 vk2 vk3 vk4 vk5 vk6 vk7 vk8 vk9
  replace HB := Lib.hid (below_then HB.out b)
  replace P0 := Lib.hid (blk_later P0.out b)
  replace P1 := Lib.hid (blk_later P1.out b)
  replace G1 := Lib.hid (blk_later G1.out b)
  clear R1
  clear T1
  clear A0
  clear B0
  clear b
  rw [EDF.out] at h2 g2 ⊢
  have hN2 : n2 ≤ qlen df := (by rw [← h2.len]; exact qlen_num _)
  have hM2 : m2 ≤ qlen df := (by rw [← g2.len]; exact qlen_den _)
  have R2 := Lib.hid h2
  have T2 := Lib.hid g2
  clear h2 g2
  obtain ⟨vk0, vk1, vk2, vk3⟩ := fcells_4 G1.out
  go_wp2_with fail
  refine (fracSaid.abs (frV (zneg df.num) a2 n2 c2 b2 m2 d2) df _ (Fr.right R2.out T2.out (by omega) (by omega))).mono ?_
  rintro e wv6 ⟨a3, n3, c3, b3, m3, d3, rfl, h3, g3, b⟩
  clear vk0 vk1 vk2 vk3
  replace HB := Lib.hid (below_then HB.out b)
  replace G1 := Lib.hid (blk_later G1.out b)
  clear R2
  clear T2
  clear b
  rw [EAW.out] at h3 g3 ⊢
  have hN3 : n3 ≤ qlen aw := (by rw [← h3.len]; exact qlen_num _)
  have hM3 : m3 ≤ qlen aw := (by rw [← g3.len]; exact qlen_den _)
  have R3 := Lib.hid h3
  have T3 := Lib.hid g3
  clear h3 g3
  unfold frV
  have P3 : Hid ((World.alloc wv6 (.cells #[.bool (zneg aw.num), .slice a3 n3 c3, .slice b3 m3 d3] 30)).heap[wv6.heap.size]? = some (.cells #[.bool (zneg aw.num), .slice a3 n3 c3, .slice b3 m3 d3] 30 (0, 0))) := Lib.hid (blk_new wv6 _ _)
  replace HB := Lib.hid (below_then HB.out (below_alloc wv6 (.cells #[.bool (zneg aw.num), .slice a3 n3 c3, .slice b3 m3 d3] 30)))
  replace G1 := Lib.hid (blk_later G1.out (below_alloc wv6 (.cells #[.bool (zneg aw.num), .slice a3 n3 c3, .slice b3 m3 d3] 30)))
  replace R3 := Lib.hid (R3.out.later (below_alloc wv6 (.cells #[.bool (zneg aw.num), .slice a3 n3 c3, .slice b3 m3 d3] 30)))
  replace T3 := Lib.hid (T3.out.later (below_alloc wv6 (.cells #[.bool (zneg aw.num), .slice a3 n3 c3, .slice b3 m3 d3] 30)))
  obtain ⟨vk0, vk1, vk2, vk3, vk4, vk5, vk6⟩ := fcells_4_3 G1.out P3.out
  go_wp2_with fail
  refine (fracSaid.add (frV (zneg aw.num) a3 n3 c3 b3 m3 d3) (frV (zneg aw.num) a3 n3 c3 b3 m3 d3) aw aw _ (Fr.right R3.out T3.out (by omega) (by omega)) (Fr.right R3.out T3.out (by omega) (by omega))).mono ?_
  rintro e wv7 ⟨a4, n4, c4, b4, m4, d4, rfl, h4, g4, b⟩
  clear vk0 vk1 vk2 vk3 vk4 vk5 vk6
  replace HB := Lib.hid (below_then HB.out b)
  replace G1 := Lib.hid (blk_later G1.out b)
  replace P3 := Lib.hid (blk_later P3.out b)
  clear R3
  clear T3
  clear b
  rw [ETW.out] at h4 g4 ⊢
  have R4 := Lib.hid h4
  have T4 := Lib.hid g4
  clear h4 g4
  unfold frV
  have hlt9 := blk_lt G1.out
  have hww := HB.out.size
  have P4 : Hid ((World.alloc wv7 (.cells #[.bool (zneg tw.num), .slice a4 n4 c4, .slice b4 m4 d4] 30)).heap[wv7.heap.size]? = some (.cells #[.bool (zneg tw.num), .slice a4 n4 c4, .slice b4 m4 d4] 30 (0, 0))) := Lib.hid (blk_new wv7 _ _)
  replace HB := Lib.hid (below_then HB.out (below_alloc wv7 (.cells #[.bool (zneg tw.num), .slice a4 n4 c4, .slice b4 m4 d4] 30)))
  replace G1 := Lib.hid (blk_later G1.out (below_alloc wv7 (.cells #[.bool (zneg tw.num), .slice a4 n4 c4, .slice b4 m4 d4] 30)))
  replace P3 := Lib.hid (blk_later P3.out (below_alloc wv7 (.cells #[.bool (zneg tw.num), .slice a4 n4 c4, .slice b4 m4 d4] 30)))
  replace R4 := Lib.hid (R4.out.later (below_alloc wv7 (.cells #[.bool (zneg tw.num), .slice a4 n4 c4, .slice b4 m4 d4] 30)))
  replace T4 := Lib.hid (T4.out.later (below_alloc wv7 (.cells #[.bool (zneg tw.num), .slice a4 n4 c4, .slice b4 m4 d4] 30)))
  go_wp2
  generalize (wv7.alloc (.cells #[.bool (zneg tw.num), .slice a4 n4 c4, .slice b4 m4 d4] 30)) = W at *
  go_loopw [10] (fun iv wr => ∃ (i : Nat) (a5 : Option Addr) (n5 c5 : Nat) (b5 : Option Addr) (m5 d5 : Nat), iv = .int .i64 (i : Int) ∧ i ≤ k ∧ Hid (wr.heap[wv7.heap.size]? = some (.cells #[.bool (zneg (tw * ten ^ i).num), .slice a5 n5 c5, .slice b5 m5 d5] 30 (0, 0))) ∧ Hid (Wd wr a5 n5 c5 (dg (tw * ten ^ i).num.natAbs)) ∧ Hid (Wd wr b5 m5 d5 (dg (tw * ten ^ i).den)) ∧ Hid (wr.heap[wv4.heap.size + 1]? = some (.cells #[.int .i64 0, .int .i64 0, .int .i64 0, .int .i64 0] 38 (0, 0))) ∧ Hid (Below w.heap.size w wr)) (fun iv _ => k - (intOf iv).toNat)
  case atStart => exact ⟨0, a4, n4, c4, b4, m4, d4, rfl, by omega, by rw [← HM0.out]; exact P4, by rw [← HM0.out]; exact R4, by rw [← HM0.out]; exact T4, G1, HB⟩
  case round =>
    clear R4 T4 P4 G1 HB
    obtain ⟨i, a5, n5, c5, b5, m5, d5, rfl, hi, P5, R5, T5, G1, HB⟩ := hrel
    have lv := HL.out i (by omega)
    have HMi := Lib.hid (HM.out i)
    by_cases hlt : i < k
    · have lv2 := HL.out (i + 1) (by omega)
      have hii : (i : Int) < (k : Int) := by omega
      obtain ⟨v, hv⟩ : ∃ v, tw * ten ^ i = v := ⟨_, rfl⟩
      obtain ⟨v2, hv2⟩ : ∃ v2, tw * ten ^ (i + 1) = v2 := ⟨_, rfl⟩
      rw [hv] at P5 R5 T5 lv HMi
      rw [hv2] at lv2 HMi
      have HV2 := Lib.hid hv2
      clear hv hv2
      have hN5 : n5 ≤ qlen v := (by rw [← R5.out.len]; exact qlen_num _)
      have hM5 : m5 ≤ qlen v := (by rw [← T5.out.len]; exact qlen_den _)
      go_wp2
      replace HB := Lib.hid (below_then HB.out ((Below.refl _ _).drew : Below wr.heap.size wr wr.drew))
      replace P5 : Hid (wr.drew.heap[wv7.heap.size]? = _) := Lib.hid P5.out
      replace G1 : Hid (wr.drew.heap[wv4.heap.size + 1]? = some (.cells #[.int .i64 0, .int .i64 0, .int .i64 0, .int .i64 0] 38 (0, 0))) := Lib.hid G1.out
      replace R5 := Lib.hid (R5.out.later ((Below.refl _ _).drew : Below wr.heap.size wr wr.drew))
      replace T5 := Lib.hid (T5.out.later ((Below.refl _ _).drew : Below wr.heap.size wr wr.drew))
      obtain ⟨pk0, pk1, pk2⟩ := fcells_3 P5.out
      first | go_region_with (first
        | (go_at_call 26; (first
          | (refine (HTN _).mono ?_; rintro e wp1 ⟨a6, n6, c6, b6, m6, d6, rfl, h6, g6, b⟩; replace HB := Lib.hid (below_then HB.out b); replace P5 := Lib.hid (blk_later P5.out b); replace G1 := Lib.hid (blk_later G1.out b); replace R5 := Lib.hid (R5.out.later b); replace T5 := Lib.hid (T5.out.later b); have R6 := Lib.hid h6; have T6 := Lib.hid g6; have hN6 : n6 ≤ qlen ten := (by rw [← h6.len]; exact qlen_num _); have hM6 : m6 ≤ qlen ten := (by rw [← g6.len]; exact qlen_den _); clear h6 g6; clear b; obtain ⟨pk0, pk1, pk2⟩ := fcells_3 P5.out; have pM1 := True.intro)))
        | (go_at_call 25; (first
          | (have pm1 := pM1; refine (fracSaid.mul (frV (zneg v.num) a5 n5 c5 b5 m5 d5) (frV (zneg ten.num) a6 n6 c6 b6 m6 d6) v ten _ (Fr.right R5.out T5.out (by omega) (by omega)) (Fr.right R6.out T6.out (by omega) (by omega))).mono ?_; rintro e wp2 ⟨a7, n7, c7, b7, m7, d7, rfl, h7, g7, b⟩; replace HB := Lib.hid (below_then HB.out b); replace P5 := Lib.hid (blk_later P5.out b); replace G1 := Lib.hid (blk_later G1.out b); replace R5 := Lib.hid (R5.out.later b); replace T5 := Lib.hid (T5.out.later b); clear R6; clear T6; rw [HMi.out] at h7 g7 ⊢; have R7 := Lib.hid h7; have T7 := Lib.hid g7; clear h7 g7; unfold frV; have f0 := blk_free P5.out 0; have f1 := blk_free P5.out 1; have f2 := blk_free P5.out 2; clear b; obtain ⟨pk0, pk1, pk2⟩ := fcells_3 P5.out; clear pM1 pm1; have pM2 := True.intro)))) | fail
      all_goals (
        have P9 := Lib.hid (blk_set3 P5.out (.bool (zneg v2.num)) (.slice a7 n7 c7) (.slice b7 m7 d7))
        have G9 := Lib.hid (blk_far3 G1.out (show wv4.heap.size + 1 ≠ wv7.heap.size by omega) (.bool (zneg v2.num)) (.slice a7 n7 c7) (.slice b7 m7 d7))
        have HB9 := Lib.hid (below_set3 HB.out (show w.heap.size ≤ wv7.heap.size by omega) (.bool (zneg v2.num)) (.slice a7 n7 c7) (.slice b7 m7 d7))
        have R9 := Lib.hid (R7.out.stored3 P5.out (zneg v2.num) a7 n7 c7 (.slice b7 m7 d7))
        have T9 := Lib.hid (T7.out.stored3 P5.out (zneg v2.num) a7 n7 c7 (.slice b7 m7 d7))
        go_wp2
        go_roundw
        case rel => exact ⟨i + 1, a7, n7, c7, b7, m7, d7, by go_num, by omega, by rw [HV2.out]; exact P9, by rw [HV2.out]; exact R9, by rw [HV2.out]; exact T9, G9, HB9⟩
        case measure => simp [intOf]; omega)
    · obtain rfl : i = k := by omega
      have hii : ¬ (i : Int) < (i : Int) := by omega
      obtain ⟨v, hv⟩ : ∃ v, tw * ten ^ i = v := ⟨_, rfl⟩
      rw [hv] at P5 R5 T5 lv hno
      clear hv HMi
      have hN5 : n5 ≤ qlen v := (by rw [← R5.out.len]; exact qlen_num _)
      have hM5 : m5 ≤ qlen v := (by rw [← T5.out.len]; exact qlen_den _)
      obtain ⟨sg, hsg⟩ : ∃ sg, sgn (v - one).num = sg := ⟨_, rfl⟩
      rw [hsg] at hno
      have HSG := Lib.hid hsg
      clear hsg hlt
      go_wp2
      replace HB := Lib.hid (below_then HB.out ((Below.refl _ _).drew : Below wr.heap.size wr wr.drew))
      replace P5 : Hid (wr.drew.heap[wv7.heap.size]? = _) := Lib.hid P5.out
      replace G1 : Hid (wr.drew.heap[wv4.heap.size + 1]? = _) := Lib.hid G1.out
      replace R5 := Lib.hid (R5.out.later ((Below.refl _ _).drew : Below wr.heap.size wr wr.drew))
      replace T5 := Lib.hid (T5.out.later ((Below.refl _ _).drew : Below wr.heap.size wr wr.drew))
      have rSn := fcells_3_4 P5.out G1.out
      go_region_held3 (fun w' => w'.cell? ⟨wv7.heap.size, 0, none⟩ = some (.bool (zneg v.num)) ∧ w'.cell? ⟨wv7.heap.size, 1, none⟩ = some (.slice a5 n5 c5) ∧ w'.cell? ⟨wv7.heap.size, 2, none⟩ = some (.slice b5 m5 d5) ∧ w'.cell? ⟨wv4.heap.size + 1, 0, none⟩ = some (.int .i64 0) ∧ w'.cell? ⟨wv4.heap.size + 1, 1, none⟩ = some (.int .i64 0) ∧ w'.cell? ⟨wv4.heap.size + 1, 2, none⟩ = some (.int .i64 0) ∧ w'.cell? ⟨wv4.heap.size + 1, 3, none⟩ = some (.int .i64 0)) (exact rSn)
        (first
        | (go_at_call 26; (first
          | (refine (HON _).mono ?_; rintro e wr1 ⟨a6, n6, c6, b6, m6, d6, rfl, h6, g6, b⟩; replace HB := Lib.hid (below_then HB.out b); replace P5 := Lib.hid (blk_later P5.out b); replace G1 := Lib.hid (blk_later G1.out b); replace R5 := Lib.hid (R5.out.later b); replace T5 := Lib.hid (T5.out.later b); have R6 := Lib.hid h6; have T6 := Lib.hid g6; have hN6 : n6 ≤ qlen one := (by rw [← h6.len]; exact qlen_num _); have hM6 : m6 ≤ qlen one := (by rw [← g6.len]; exact qlen_den _); clear h6 g6; clear b; clear rSn; have rSn := fcells_3_4 P5.out G1.out; have rM1 := True.intro)))
        | (go_at_call 27; (first
          | (have rm1 := rM1; refine (fracSaid.cmp (frV (zneg v.num) a5 n5 c5 b5 m5 d5) (frV (zneg one.num) a6 n6 c6 b6 m6 d6) v one _ (Fr.right R5.out T5.out (by omega) (by omega)) (Fr.right R6.out T6.out (by omega) (by omega))).mono ?_; rintro e wr2 ⟨rfl, b⟩; replace HB := Lib.hid (below_then HB.out b); replace P5 := Lib.hid (blk_later P5.out b); replace G1 := Lib.hid (blk_later G1.out b); replace R5 := Lib.hid (R5.out.later b); replace T5 := Lib.hid (T5.out.later b); clear R6; clear T6; rw [HSG.out]; clear b; clear rSn; have rSn := fcells_3_4 P5.out G1.out; clear rM1 rm1; have rM2 := True.intro)))
        | (go_at_call 8; (first
          | (have rm2 := rM2; refine (law10_works S _ (Lib.hid (hT.out.later HB.out))).mono ?_; rintro e wr3 ⟨rfl, b⟩; replace HB := Lib.hid (below_then HB.out b); replace P5 := Lib.hid (blk_later P5.out b); replace G1 := Lib.hid (blk_later G1.out b); replace R5 := Lib.hid (R5.out.later b); replace T5 := Lib.hid (T5.out.later b); clear b; clear rSn; have rSn := fcells_3_4 P5.out G1.out; clear rM2 rm2; have rM3 := True.intro))))
      go_wp2
      go_ret
      exact ⟨rfl, HB.out⟩
theorem law10_near (S : FigureSaid) (s0 : Bool) (a0 : Option Addr) (n0 c0 : Nat) (la0 : List Nat) (b0 : Option Addr) (m0 d0 : Nat) (lb0 : List Nat) (p : Int) (w : World) (ha0 : Wd w a0 n0 c0 la0) (hb0 : Wd w b0 m0 d0 lb0) (hT : Hid (Dec10 w)) :
    Calls Tryz.prog 6 #[frV s0 a0 n0 c0 b0 m0 d0, .int .i64 p] w (Gives (.bool true) w) := by
  by_cases h : 3 < n0 ∨ 3 < m0
  · exact law10_near_long S s0 a0 n0 c0 b0 m0 d0 p w hT h
  · by_cases hp : p < 0
    · exact law10_near_low S s0 a0 n0 c0 b0 m0 d0 p w hT (by omega) (by omega) hp
    · by_cases hp2 : 20 < p
      · exact law10_near_high S s0 a0 n0 c0 b0 m0 d0 p w hT (by omega) (by omega) hp2
      · obtain ⟨k, rfl⟩ := Int.eq_ofNat_of_zero_le (show 0 ≤ p by omega)
        exact law10_near_short S s0 a0 n0 c0 la0 b0 m0 d0 lb0 k w ha0 hb0 hT (by omega) (by omega) (by omega)
end Go.Proofs.YteoeicfbaffjcaaGreatDoor
