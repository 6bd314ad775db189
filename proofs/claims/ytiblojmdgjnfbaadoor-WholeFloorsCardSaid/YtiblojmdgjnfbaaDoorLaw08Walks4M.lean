/-
  The walks of the laws of layer 8: WholeFloors.
-/
import Derived.Test.YtiblojmdgjnfbaaDoorG18
import Derived.Deep.RegionHeld3
namespace Go.Proofs.YtiblojmdgjnfbaaDoor
open Go.RowKit

theorem fmod_side (x : Int) {y : Int} (h : y ≠ 0) : (0 < y ∧ 0 ≤ Int.fmod x y ∧ Int.fmod x y < y) ∨ (y < 0 ∧ y < Int.fmod x y ∧ Int.fmod x y ≤ 0) := by
  rcases Int.lt_trichotomy y 0 with g | g | g
  · right
    have b1 := Int.fmod_nonneg_of_pos (-x) (show 0 < -y by omega)
    have b2 := Int.fmod_lt_of_pos (-x) (show 0 < -y by omega)
    rw [Int.neg_fmod_neg] at b1 b2
    omega
  · exact absurd g h
  · exact .inl ⟨g, Int.fmod_nonneg_of_pos x g, Int.fmod_lt_of_pos x g⟩
theorem fmod_abs (x : Int) {y : Int} (h : y ≠ 0) : (Int.fmod x y).natAbs < y.natAbs := by
  rcases fmod_side x h with ⟨h1, h2, h3⟩ | ⟨h1, h2, h3⟩ <;> omega
theorem zlen_fmod (x : Int) {y : Int} (h : y ≠ 0) : (dg (Int.fmod x y).natAbs).length ≤ (dg y.natAbs).length := dg_length_mono (Nat.le_of_lt (fmod_abs x h))
theorem zlen_fdiv (x : Int) {y : Int} (h : y ≠ 0) : (dg (Int.fdiv x y).natAbs).length ≤ (dg x.natAbs).length + (dg y.natAbs).length + 1 := by
  refine Nat.le_trans (dg_length_mono ?_) (dg_add_length _ _)
  have e1 := Int.fmod_add_fdiv_mul x y
  have e2 := fmod_abs x h
  have e3 : (Int.fdiv x y).natAbs * y.natAbs ≤ x.natAbs + (Int.fmod x y).natAbs := by
    rw [← Int.natAbs_mul]
    have : Int.fdiv x y * y = x - Int.fmod x y := by omega
    rw [this]
    omega
  have e4 : (Int.fdiv x y).natAbs * 1 ≤ (Int.fdiv x y).natAbs * y.natAbs := Nat.mul_le_mul_left _ (by omega)
  omega
theorem fmod_sgn (x : Int) {y : Int} (h : y ≠ 0) : 0 ≤ sgn (Int.fmod x y) * sgn y ∧ sgn (Int.fmod x y) * sgn y ≤ 1 := by
  rcases fmod_side x h with ⟨h1, h2, h3⟩ | ⟨h1, h2, h3⟩
  · rw [show sgn y = 1 from by unfold sgn; rw [if_neg (by omega), if_neg (by omega)], Int.mul_one]
    unfold sgn; split <;> (try split) <;> omega
  · rw [show sgn y = -1 from by unfold sgn; rw [if_neg (by omega), if_pos (by omega)]]
    unfold sgn; split <;> (try split) <;> omega
theorem fmod_squares (x : Int) {y : Int} (h : y ≠ 0) : sgn (y * y - Int.fmod x y * Int.fmod x y) = 1 := by
  have e1 := fmod_abs x h
  have e2 : (Int.fmod x y).natAbs * (Int.fmod x y).natAbs < y.natAbs * y.natAbs := Nat.mul_self_lt_mul_self e1
  have e3 := Int.natAbs_mul_self' (Int.fmod x y)
  have e4 := Int.natAbs_mul_self' y
  have e5 : ((((Int.fmod x y).natAbs * (Int.fmod x y).natAbs : Nat)) : Int) < ((y.natAbs * y.natAbs : Nat) : Int) := by exact_mod_cast e2
  rw [Int.natCast_mul, Int.natCast_mul, e3, e4] at e5
  unfold sgn
  rw [if_neg (by omega), if_neg (by omega)]
theorem fmod_back (x y : Int) : sgn (Int.fdiv x y * y + Int.fmod x y - x) = 0 := by
  have e := Int.fmod_add_fdiv_mul x y
  unfold sgn
  rw [if_pos (by omega)]
set_option maxRecDepth 4096 in
set_option maxHeartbeats 8000000 in
theorem law08_floors_zero (S : WholeSaid) (na : Bool) (a : Option Addr) (n cap : Nat) (nb : Bool) (b : Option Addr) (m cap' : Nat) (lb : List Nat) (w : World) (hT : Hid (Dec10 w)) (hb : Wd w b m cap' lb) (hn : n ≤ 40) (hm : m ≤ 40) (h0 : zval nb (val lb) = 0) :
    Calls Tryd.prog 7 #[whV na a n cap, whV nb b m cap'] w (Gives (.bool true) w) := by
  have hB : Below w.heap.size w ((w.alloc (.cells #[.bool na, .slice a n cap] 24)).alloc (.cells #[.bool nb, .slice b m cap'] 24)) := below_then (below_alloc _ _) (below_alloc _ _)
  have Hb := Lib.hid (hb.later hB)
  have H0 := Lib.hid h0
  have hna : ¬ (40 : Int) < (n : Int) := by omega
  have hmb : ¬ (40 : Int) < (m : Int) := by omega
  clear hb h0
  unfold whV
  go_enter Tryd.func7, Tryd.ntmps7
  go_wp2_with fail
  refine (ref08_sign_z nb b m cap' lb 0 _ Hb.out (by omega) H0.out).mono ?_
  rintro e w1 ⟨rfl, b1⟩
  rw [show sgn 0 = 0 from rfl]
  go_wp2_with fail
  refine (law08_works S _ (Lib.hid (hT.out.later (below_then hB b1)))).mono ?_
  rintro e w2 ⟨rfl, b2⟩
  go_wp2
  go_ret
  exact ⟨rfl, below_then hB (below_then b1 b2)⟩
set_option maxRecDepth 4096 in
set_option maxHeartbeats 16000000 in
theorem law08_floors_pos (S : WholeSaid) (na : Bool) (a : Option Addr) (n cap : Nat) (la : List Nat) (nb : Bool) (b : Option Addr) (m cap' : Nat) (lb : List Nat) (w : World) (hT : Hid (Dec10 w)) (ha : Wd w a n cap la) (hb : Wd w b m cap' lb) (hn : n ≤ 40) (hm : m ≤ 40) (h0 : zval nb (val lb) ≠ 0) :
    Calls Tryd.prog 7 #[whV na a n cap, whV nb b m cap'] w (Gives (.bool true) w) := by
  have HB := Lib.hid (below_then (below_alloc w (.cells #[.bool na, .slice a n cap] 24)) (below_alloc _ (.cells #[.bool nb, .slice b m cap'] 24)))
  have HA := Lib.hid (ha.later HB.out)
  have HC := Lib.hid (hb.later HB.out)
  obtain ⟨hx1, hx2⟩ := boxes_at w ((w.alloc (.cells #[.bool na, .slice a n cap] 24)).alloc (.cells #[.bool nb, .slice b m cap'] 24)) #[.bool na, .slice a n cap] #[.bool nb, .slice b m cap'] 24 24 (Below.refl _ _)
  have HX := Lib.hid hx1
  have HY := Lib.hid hx2
  have hlx := ha.trim_le
  have hly := hb.trim_le
  clear ha hb hx1 hx2
  obtain ⟨x, hx⟩ : ∃ x, zval na (val la) = x := ⟨_, rfl⟩
  obtain ⟨y, hy⟩ : ∃ y, zval nb (val lb) = y := ⟨_, rfl⟩
  have hzx : (dg x.natAbs).length ≤ n := by rw [← hx, zval_abs]; exact hlx
  have hzy : (dg y.natAbs).length ≤ m := by rw [← hy, zval_abs]; exact hly
  have EX := Lib.hid hx
  have EY := Lib.hid hy
  rw [hy] at h0
  clear hx hy hlx hly
  have hs1 : (sgn y == 0) = false := by unfold sgn; rw [if_neg h0]; split <;> rfl
  have hzq := zlen_fdiv x h0
  have hzr := zlen_fmod x h0
  have hP := fmod_sgn x h0
  have HSQ := Lib.hid (fmod_squares x h0)
  have HBK := Lib.hid (fmod_back x y)
  have Hy0 := Lib.hid h0
  have hsy := sgn_range y
  have hsr := sgn_range (Int.fmod x y)
  generalize hqq : Int.fdiv x y = q at *
  generalize hrr : Int.fmod x y = r at *
  have HQQ := Lib.hid hqq
  have HRR := Lib.hid hrr
  have zl1 := zlen_mul q y
  have zl2 := zlen_add (q * y) r
  have zl3 := zlen_mul y y
  have zl4 := zlen_mul r r
  have zl5 := zlen_sub (y * y) (r * r)
  obtain ⟨sy, hsyy⟩ : ∃ sy, sy = sgn y := ⟨_, rfl⟩
  obtain ⟨sr, hsrr⟩ : ∃ sr, sr = sgn r := ⟨_, rfl⟩
  rw [← hsyy] at hP hs1 hsy
  rw [← hsrr] at hP hsr
  have HSY := Lib.hid hsyy
  have HSR := Lib.hid hsrr
  obtain ⟨p, hp⟩ : ∃ p, sr * sy = p := ⟨_, rfl⟩
  rw [hp] at hP
  have hpw : IntKind.i64.wrap p = p := by rw [IntKind.wrap_i64]; omega
  have hpd : decide (0 ≤ p) = true := decide_eq_true hP.1
  have hna : ¬ (40 : Int) < (n : Int) := by omega
  have hmb : ¬ (40 : Int) < (m : Int) := by omega
  clear hqq hrr hsyy hsrr h0
  go_enter Tryd.func7, Tryd.ntmps7
  unfold whV
  obtain ⟨k0, k1, k2, k3⟩ := cells_2_2 HX.out HY.out
  go_wp2_with fail
  refine (ref08_sign_z nb b m cap' lb y _ HC.out (by omega) EY.out).mono ?_
  rintro e w1 ⟨rfl, b⟩
  clear k0 k1 k2 k3
  replace HB := Lib.hid (below_then HB.out b)
  replace HX := Lib.hid (blk_later HX.out b)
  replace HY := Lib.hid (blk_later HY.out b)
  replace HA := Lib.hid (HA.out.later b)
  replace HC := Lib.hid (HC.out.later b)
  clear b
  rw [← HSY.out]
  obtain ⟨k0, k1, k2, k3⟩ := cells_2_2 HX.out HY.out
  go_wp2_with fail
  refine (law08_to na a n cap _).mono ?_
  rintro e w2 ⟨rfl, b⟩
  clear k0 k1 k2 k3
  replace HB := Lib.hid (below_then HB.out b)
  replace HX := Lib.hid (blk_later HX.out b)
  replace HY := Lib.hid (blk_later HY.out b)
  replace HA := Lib.hid (HA.out.later b)
  replace HC := Lib.hid (HC.out.later b)
  clear b
  unfold whV
  have HU : Hid ((World.alloc w2 (.cells #[.bool na, .slice a n cap] 30)).heap[w2.heap.size]? = some (.cells #[.bool na, .slice a n cap] 30 (0, 0))) := Lib.hid (blk_new w2 _ _)
  replace HB := Lib.hid (below_then HB.out (below_alloc w2 (.cells #[.bool na, .slice a n cap] 30)))
  replace HX := Lib.hid (blk_later HX.out (below_alloc w2 (.cells #[.bool na, .slice a n cap] 30)))
  replace HY := Lib.hid (blk_later HY.out (below_alloc w2 (.cells #[.bool na, .slice a n cap] 30)))
  replace HA := Lib.hid (HA.out.later (below_alloc w2 (.cells #[.bool na, .slice a n cap] 30)))
  replace HC := Lib.hid (HC.out.later (below_alloc w2 (.cells #[.bool na, .slice a n cap] 30)))
  obtain ⟨k0, k1, k2, k3, k4, k5⟩ := cells_2_2_2 HX.out HY.out HU.out
  go_wp2_with fail
  refine (law08_to nb b m cap' _).mono ?_
  rintro e w3 ⟨rfl, b⟩
  clear k0 k1 k2 k3 k4 k5
  replace HB := Lib.hid (below_then HB.out b)
  replace HX := Lib.hid (blk_later HX.out b)
  replace HY := Lib.hid (blk_later HY.out b)
  replace HU := Lib.hid (blk_later HU.out b)
  replace HA := Lib.hid (HA.out.later b)
  replace HC := Lib.hid (HC.out.later b)
  clear b
  unfold whV
  have HV : Hid ((World.alloc w3 (.cells #[.bool nb, .slice b m cap'] 30)).heap[w3.heap.size]? = some (.cells #[.bool nb, .slice b m cap'] 30 (0, 0))) := Lib.hid (blk_new w3 _ _)
  replace HB := Lib.hid (below_then HB.out (below_alloc w3 (.cells #[.bool nb, .slice b m cap'] 30)))
  replace HX := Lib.hid (blk_later HX.out (below_alloc w3 (.cells #[.bool nb, .slice b m cap'] 30)))
  replace HY := Lib.hid (blk_later HY.out (below_alloc w3 (.cells #[.bool nb, .slice b m cap'] 30)))
  replace HU := Lib.hid (blk_later HU.out (below_alloc w3 (.cells #[.bool nb, .slice b m cap'] 30)))
  replace HA := Lib.hid (HA.out.later (below_alloc w3 (.cells #[.bool nb, .slice b m cap'] 30)))
  replace HC := Lib.hid (HC.out.later (below_alloc w3 (.cells #[.bool nb, .slice b m cap'] 30)))
  obtain ⟨k0, k1, k2, k3, k4, k5, k6, k7⟩ := cells_2_2_2_2 HX.out HY.out HU.out HV.out
  go_wp2_with fail
  refine (S.floor na a n cap la x nb b m cap' lb y _ HA.out HC.out (by omega) (by omega) EX.out EY.out Hy0.out).mono ?_
  rintro e w4 ⟨a8, n8, c8, a9, n9, c9, rfl, h8, h9, b⟩
  clear k0 k1 k2 k3 k4 k5 k6 k7
  replace HB := Lib.hid (below_then HB.out b)
  replace HX := Lib.hid (blk_later HX.out b)
  replace HY := Lib.hid (blk_later HY.out b)
  replace HU := Lib.hid (blk_later HU.out b)
  replace HV := Lib.hid (blk_later HV.out b)
  replace HA := Lib.hid (HA.out.later b)
  replace HC := Lib.hid (HC.out.later b)
  clear b
  rw [HQQ.out] at h8
  rw [HRR.out] at h9
  rw [HQQ.out, HRR.out]
  have hn8 : n8 ≤ 200 := by have := h8.len; omega
  have hn9 : n9 ≤ 200 := by have := h9.len; omega
  have R8 := Lib.hid h8
  have R9 := Lib.hid h9
  clear h8 h9
  unfold whV
  have HQ : Hid ((World.alloc w4 (.cells #[.bool (zneg q), .slice a8 n8 c8] 30)).heap[w4.heap.size]? = some (.cells #[.bool (zneg q), .slice a8 n8 c8] 30 (0, 0))) := Lib.hid (blk_new w4 _ _)
  replace HB := Lib.hid (below_then HB.out (below_alloc w4 (.cells #[.bool (zneg q), .slice a8 n8 c8] 30)))
  replace HX := Lib.hid (blk_later HX.out (below_alloc w4 (.cells #[.bool (zneg q), .slice a8 n8 c8] 30)))
  replace HY := Lib.hid (blk_later HY.out (below_alloc w4 (.cells #[.bool (zneg q), .slice a8 n8 c8] 30)))
  replace HU := Lib.hid (blk_later HU.out (below_alloc w4 (.cells #[.bool (zneg q), .slice a8 n8 c8] 30)))
  replace HV := Lib.hid (blk_later HV.out (below_alloc w4 (.cells #[.bool (zneg q), .slice a8 n8 c8] 30)))
  replace HA := Lib.hid (HA.out.later (below_alloc w4 (.cells #[.bool (zneg q), .slice a8 n8 c8] 30)))
  replace HC := Lib.hid (HC.out.later (below_alloc w4 (.cells #[.bool (zneg q), .slice a8 n8 c8] 30)))
  replace R8 := Lib.hid (R8.out.later (below_alloc w4 (.cells #[.bool (zneg q), .slice a8 n8 c8] 30)))
  replace R9 := Lib.hid (R9.out.later (below_alloc w4 (.cells #[.bool (zneg q), .slice a8 n8 c8] 30)))
  have HR : Hid ((World.alloc (w4.alloc (.cells #[.bool (zneg q), .slice a8 n8 c8] 30)) (.cells #[.bool (zneg r), .slice a9 n9 c9] 30)).heap[w4.heap.size + 1]? = some (.cells #[.bool (zneg r), .slice a9 n9 c9] 30 (0, 0))) := Lib.hid (by have h := blk_new (w4.alloc (.cells #[.bool (zneg q), .slice a8 n8 c8] 30)) #[.bool (zneg r), .slice a9 n9 c9] 30; rw [blk_size] at h; exact h)
  replace HB := Lib.hid (below_then HB.out (below_alloc (w4.alloc (.cells #[.bool (zneg q), .slice a8 n8 c8] 30)) (.cells #[.bool (zneg r), .slice a9 n9 c9] 30)))
  replace HX := Lib.hid (blk_later HX.out (below_alloc (w4.alloc (.cells #[.bool (zneg q), .slice a8 n8 c8] 30)) (.cells #[.bool (zneg r), .slice a9 n9 c9] 30)))
  replace HY := Lib.hid (blk_later HY.out (below_alloc (w4.alloc (.cells #[.bool (zneg q), .slice a8 n8 c8] 30)) (.cells #[.bool (zneg r), .slice a9 n9 c9] 30)))
  replace HU := Lib.hid (blk_later HU.out (below_alloc (w4.alloc (.cells #[.bool (zneg q), .slice a8 n8 c8] 30)) (.cells #[.bool (zneg r), .slice a9 n9 c9] 30)))
  replace HV := Lib.hid (blk_later HV.out (below_alloc (w4.alloc (.cells #[.bool (zneg q), .slice a8 n8 c8] 30)) (.cells #[.bool (zneg r), .slice a9 n9 c9] 30)))
  replace HQ := Lib.hid (blk_later HQ.out (below_alloc (w4.alloc (.cells #[.bool (zneg q), .slice a8 n8 c8] 30)) (.cells #[.bool (zneg r), .slice a9 n9 c9] 30)))
  replace HA := Lib.hid (HA.out.later (below_alloc (w4.alloc (.cells #[.bool (zneg q), .slice a8 n8 c8] 30)) (.cells #[.bool (zneg r), .slice a9 n9 c9] 30)))
  replace HC := Lib.hid (HC.out.later (below_alloc (w4.alloc (.cells #[.bool (zneg q), .slice a8 n8 c8] 30)) (.cells #[.bool (zneg r), .slice a9 n9 c9] 30)))
  replace R8 := Lib.hid (R8.out.later (below_alloc (w4.alloc (.cells #[.bool (zneg q), .slice a8 n8 c8] 30)) (.cells #[.bool (zneg r), .slice a9 n9 c9] 30)))
  replace R9 := Lib.hid (R9.out.later (below_alloc (w4.alloc (.cells #[.bool (zneg q), .slice a8 n8 c8] 30)) (.cells #[.bool (zneg r), .slice a9 n9 c9] 30)))
  obtain ⟨k0, k1, k2, k3, k4, k5, k6, k7⟩ := cells_2_2_2_2 HU.out HV.out HQ.out HR.out
  go_wp2
  clear k0 k1 k2 k3 k4 k5 k6 k7
  generalize ((w4.alloc (.cells #[.bool (zneg q), .slice a8 n8 c8] 30)).alloc (.cells #[.bool (zneg r), .slice a9 n9 c9] 30)) = W at *
  replace HB := Lib.hid (below_then HB.out ((Below.refl _ _).drew : Below W.heap.size W W.drew))
  replace HU : Hid (W.drew.heap[w2.heap.size]? = _) := Lib.hid HU.out
  replace HV : Hid (W.drew.heap[w3.heap.size]? = _) := Lib.hid HV.out
  replace HQ : Hid (W.drew.heap[w4.heap.size]? = _) := Lib.hid HQ.out
  replace HR : Hid (W.drew.heap[w4.heap.size + 1]? = _) := Lib.hid HR.out
  replace HA := Lib.hid (HA.out.later ((Below.refl _ _).drew : Below W.heap.size W W.drew))
  replace HC := Lib.hid (HC.out.later ((Below.refl _ _).drew : Below W.heap.size W W.drew))
  replace R8 := Lib.hid (R8.out.later ((Below.refl _ _).drew : Below W.heap.size W W.drew))
  replace R9 := Lib.hid (R9.out.later ((Below.refl _ _).drew : Below W.heap.size W W.drew))
  have pSn := cells_2_2_2_2 HU.out HV.out HQ.out HR.out
  go_region_held3 (fun w' => w'.cell? ⟨w2.heap.size, 0, none⟩ = some (.bool na) ∧ w'.cell? ⟨w2.heap.size, 1, none⟩ = some (.slice a n cap) ∧ w'.cell? ⟨w3.heap.size, 0, none⟩ = some (.bool nb) ∧ w'.cell? ⟨w3.heap.size, 1, none⟩ = some (.slice b m cap') ∧ w'.cell? ⟨w4.heap.size, 0, none⟩ = some (.bool (zneg q)) ∧ w'.cell? ⟨w4.heap.size, 1, none⟩ = some (.slice a8 n8 c8) ∧ w'.cell? ⟨w4.heap.size + 1, 0, none⟩ = some (.bool (zneg r)) ∧ w'.cell? ⟨w4.heap.size + 1, 1, none⟩ = some (.slice a9 n9 c9)) (exact pSn)
    (first
    | (go_at_call 22; (first
      | (have pm6 := pM6; refine (S.mul _ a9 n9 c9 _ r _ a9 n9 c9 _ r _ R9.out R9.out (by omega) (by omega) (zval_dg _) (zval_dg _)).mono ?_; rintro e wp7 ⟨a4, n4, c4, rfl, h4, b⟩; replace HB := Lib.hid (below_then HB.out b); replace HU := Lib.hid (blk_later HU.out b); replace HV := Lib.hid (blk_later HV.out b); replace HQ := Lib.hid (blk_later HQ.out b); replace HR := Lib.hid (blk_later HR.out b); replace HA := Lib.hid (HA.out.later b); replace HC := Lib.hid (HC.out.later b); replace R8 := Lib.hid (R8.out.later b); replace R9 := Lib.hid (R9.out.later b); replace R3 := Lib.hid (R3.out.later b); have R4 := Lib.hid h4; have hn4 : n4 ≤ 600 := (by have := h4.len; omega); clear h4; clear b; clear pSn; have pSn := cells_2_2_2_2 HU.out HV.out HQ.out HR.out; clear pM6 pm6; have pM7 := True.intro)
      | (have pm5 := pM5; refine (S.mul nb b m cap' lb y nb b m cap' lb y _ HC.out HC.out (by omega) (by omega) EY.out EY.out).mono ?_; rintro e wp6 ⟨a3, n3, c3, rfl, h3, b⟩; replace HB := Lib.hid (below_then HB.out b); replace HU := Lib.hid (blk_later HU.out b); replace HV := Lib.hid (blk_later HV.out b); replace HQ := Lib.hid (blk_later HQ.out b); replace HR := Lib.hid (blk_later HR.out b); replace HA := Lib.hid (HA.out.later b); replace HC := Lib.hid (HC.out.later b); replace R8 := Lib.hid (R8.out.later b); replace R9 := Lib.hid (R9.out.later b); have R3 := Lib.hid h3; have hn3 : n3 ≤ 600 := (by have := h3.len; omega); clear h3; clear b; clear pSn; have pSn := cells_2_2_2_2 HU.out HV.out HQ.out HR.out; clear pM5 pm5; have pM6 := True.intro)
      | (refine (S.mul _ a8 n8 c8 _ q nb b m cap' lb y _ R8.out HC.out (by omega) (by omega) (zval_dg _) EY.out).mono ?_; rintro e wp1 ⟨a1, n1, c1, rfl, h1, b⟩; replace HB := Lib.hid (below_then HB.out b); replace HU := Lib.hid (blk_later HU.out b); replace HV := Lib.hid (blk_later HV.out b); replace HQ := Lib.hid (blk_later HQ.out b); replace HR := Lib.hid (blk_later HR.out b); replace HA := Lib.hid (HA.out.later b); replace HC := Lib.hid (HC.out.later b); replace R8 := Lib.hid (R8.out.later b); replace R9 := Lib.hid (R9.out.later b); have R1 := Lib.hid h1; have hn1 : n1 ≤ 600 := (by have := h1.len; omega); clear h1; clear b; clear pSn; have pSn := cells_2_2_2_2 HU.out HV.out HQ.out HR.out; have pM1 := True.intro)))
    | (go_at_call 20; (first
      | (have pm1 := pM1; refine (S.add _ a1 n1 c1 _ (q * y) _ a9 n9 c9 _ r _ R1.out R9.out (by omega) (by omega) (zval_dg _) (zval_dg _)).mono ?_; rintro e wp2 ⟨a2, n2, c2, rfl, h2, b⟩; replace HB := Lib.hid (below_then HB.out b); replace HU := Lib.hid (blk_later HU.out b); replace HV := Lib.hid (blk_later HV.out b); replace HQ := Lib.hid (blk_later HQ.out b); replace HR := Lib.hid (blk_later HR.out b); replace HA := Lib.hid (HA.out.later b); replace HC := Lib.hid (HC.out.later b); replace R8 := Lib.hid (R8.out.later b); replace R9 := Lib.hid (R9.out.later b); clear R1; have R2 := Lib.hid h2; have hn2 : n2 ≤ 1000 := (by have := h2.len; omega); clear h2; clear b; clear pSn; have pSn := cells_2_2_2_2 HU.out HV.out HQ.out HR.out; clear pM1 pm1; have pM2 := True.intro)))
    | (go_at_call 18; (first
      | (have pm2 := pM2; refine (S.cmp _ a2 n2 c2 _ (q * y + r) na a n cap la x _ R2.out HA.out (by omega) (by omega) (zval_dg _) EX.out).mono ?_; rintro e wp3 ⟨rfl, b⟩; replace HB := Lib.hid (below_then HB.out b); replace HU := Lib.hid (blk_later HU.out b); replace HV := Lib.hid (blk_later HV.out b); replace HQ := Lib.hid (blk_later HQ.out b); replace HR := Lib.hid (blk_later HR.out b); replace HA := Lib.hid (HA.out.later b); replace HC := Lib.hid (HC.out.later b); replace R8 := Lib.hid (R8.out.later b); replace R9 := Lib.hid (R9.out.later b); clear R2; rw [HBK.out]; clear b; clear pSn; have pSn := cells_2_2_2_2 HU.out HV.out HQ.out HR.out; clear pM2 pm2; have pM3 := True.intro)))
    | (go_at_call 16; (first
      | (have pm8 := pM8; refine (S.sign _ a5 n5 c5 _ (y * y - r * r) _ R5.out (by omega) (zval_dg _)).mono ?_; rintro e wp9 ⟨rfl, b⟩; replace HB := Lib.hid (below_then HB.out b); replace HU := Lib.hid (blk_later HU.out b); replace HV := Lib.hid (blk_later HV.out b); replace HQ := Lib.hid (blk_later HQ.out b); replace HR := Lib.hid (blk_later HR.out b); replace HA := Lib.hid (HA.out.later b); replace HC := Lib.hid (HC.out.later b); replace R8 := Lib.hid (R8.out.later b); replace R9 := Lib.hid (R9.out.later b); clear R5; rw [HSQ.out]; clear b; clear pSn; have pSn := cells_2_2_2_2 HU.out HV.out HQ.out HR.out; clear pM8 pm8; have pM9 := True.intro)
      | (have pm4 := pM4; refine (S.sign nb b m cap' lb y _ HC.out (by omega) EY.out).mono ?_; rintro e wp5 ⟨rfl, b⟩; replace HB := Lib.hid (below_then HB.out b); replace HU := Lib.hid (blk_later HU.out b); replace HV := Lib.hid (blk_later HV.out b); replace HQ := Lib.hid (blk_later HQ.out b); replace HR := Lib.hid (blk_later HR.out b); replace HA := Lib.hid (HA.out.later b); replace HC := Lib.hid (HC.out.later b); replace R8 := Lib.hid (R8.out.later b); replace R9 := Lib.hid (R9.out.later b); rw [← HSY.out]; clear b; clear pSn; have pSn := cells_2_2_2_2 HU.out HV.out HQ.out HR.out; clear pM4 pm4; have pM5 := True.intro)
      | (have pm3 := pM3; refine (S.sign _ a9 n9 c9 _ r _ R9.out (by omega) (zval_dg _)).mono ?_; rintro e wp4 ⟨rfl, b⟩; replace HB := Lib.hid (below_then HB.out b); replace HU := Lib.hid (blk_later HU.out b); replace HV := Lib.hid (blk_later HV.out b); replace HQ := Lib.hid (blk_later HQ.out b); replace HR := Lib.hid (blk_later HR.out b); replace HA := Lib.hid (HA.out.later b); replace HC := Lib.hid (HC.out.later b); replace R8 := Lib.hid (R8.out.later b); replace R9 := Lib.hid (R9.out.later b); rw [← HSR.out]; clear b; clear pSn; have pSn := cells_2_2_2_2 HU.out HV.out HQ.out HR.out; clear pM3 pm3; have pM4 := True.intro)))
    | (go_at_call 21; (first
      | (have pm7 := pM7; refine (S.sub _ a3 n3 c3 _ (y * y) _ a4 n4 c4 _ (r * r) _ R3.out R4.out (by omega) (by omega) (zval_dg _) (zval_dg _)).mono ?_; rintro e wp8 ⟨a5, n5, c5, rfl, h5, b⟩; replace HB := Lib.hid (below_then HB.out b); replace HU := Lib.hid (blk_later HU.out b); replace HV := Lib.hid (blk_later HV.out b); replace HQ := Lib.hid (blk_later HQ.out b); replace HR := Lib.hid (blk_later HR.out b); replace HA := Lib.hid (HA.out.later b); replace HC := Lib.hid (HC.out.later b); replace R8 := Lib.hid (R8.out.later b); replace R9 := Lib.hid (R9.out.later b); clear R3; clear R4; have R5 := Lib.hid h5; have hn5 : n5 ≤ 1000 := (by have := h5.len; omega); clear h5; clear b; clear pSn; have pSn := cells_2_2_2_2 HU.out HV.out HQ.out HR.out; clear pM7 pm7; have pM8 := True.intro)))
    | (go_at_call 8; (first
      | (have pm9 := pM9; refine (law08_works S _ (Lib.hid (hT.out.later HB.out))).mono ?_; rintro e wp10 ⟨rfl, b⟩; replace HB := Lib.hid (below_then HB.out b); replace HU := Lib.hid (blk_later HU.out b); replace HV := Lib.hid (blk_later HV.out b); replace HQ := Lib.hid (blk_later HQ.out b); replace HR := Lib.hid (blk_later HR.out b); replace HA := Lib.hid (HA.out.later b); replace HC := Lib.hid (HC.out.later b); replace R8 := Lib.hid (R8.out.later b); replace R9 := Lib.hid (R9.out.later b); clear b; clear pSn; have pSn := cells_2_2_2_2 HU.out HV.out HQ.out HR.out; clear pM9 pm9; have pM10 := True.intro))))
  go_wp2
  go_ret
  exact ⟨rfl, HB.out⟩
theorem law08_floors_in (S : WholeSaid) (na : Bool) (a : Option Addr) (n cap : Nat) (la : List Nat) (nb : Bool) (b : Option Addr) (m cap' : Nat) (lb : List Nat) (w : World) (hT : Hid (Dec10 w)) (ha : Wd w a n cap la) (hb : Wd w b m cap' lb) (hn : n ≤ 40) (hm : m ≤ 40) (_ : ∀ v : World, Dec10 v → Calls Tryd.prog 8 #[] v (Gives (.bool true) v)) :
    Calls Tryd.prog 7 #[whV na a n cap, whV nb b m cap'] w (Gives (.bool true) w) := by
  by_cases h0 : zval nb (val lb) = 0
  · exact law08_floors_zero S na a n cap nb b m cap' lb w hT hb hn hm h0
  · exact law08_floors_pos S na a n cap la nb b m cap' lb w hT ha hb hn hm h0
set_option maxRecDepth 4096 in
theorem law08_floors_out (S : WholeSaid) (na : Bool) (a : Option Addr) (n cap : Nat) (nb : Bool) (b : Option Addr) (m cap' : Nat) (w : World) (hT : Hid (Dec10 w)) (h1 : n ≤ 9223372036854775807) (h2 : m ≤ 9223372036854775807) (h : 40 < n ∨ 40 < m) :
    Calls Tryd.prog 7 #[whV na a n cap, whV nb b m cap'] w (Gives (.bool true) w) := by
  have hB : Below w.heap.size w ((w.alloc (.cells #[.bool na, .slice a n cap] 24)).alloc (.cells #[.bool nb, .slice b m cap'] 24)) := below_then (below_alloc _ _) (below_alloc _ _)
  unfold whV
  by_cases h3 : 40 < n
  · have hbi : (40 : Int) < (n : Int) := by omega
    clear h
    go_enter Tryd.func7, Tryd.ntmps7
    go_wp2_with fail
    refine (law08_works S _ (Lib.hid (hT.out.later hB))).mono ?_
    rintro e w1 ⟨rfl, b1⟩
    go_wp2
    go_ret
    exact ⟨rfl, below_then hB b1⟩
  · have hbi : ¬ (40 : Int) < (n : Int) := by omega
    have hbj : (40 : Int) < (m : Int) := by omega
    clear h
    go_enter Tryd.func7, Tryd.ntmps7
    go_wp2_with fail
    refine (law08_works S _ (Lib.hid (hT.out.later hB))).mono ?_
    rintro e w1 ⟨rfl, b1⟩
    go_wp2
    go_ret
    exact ⟨rfl, below_then hB b1⟩
theorem law08_floors (S : WholeSaid) (na : Bool) (a : Option Addr) (n cap : Nat) (la : List Nat) (nb : Bool) (b : Option Addr) (m cap' : Nat) (lb : List Nat) (w : World) (hT : Hid (Dec10 w)) (ha : Wd w a n cap la) (hb : Wd w b m cap' lb) :
    Calls Tryd.prog 7 #[whV na a n cap, whV nb b m cap'] w (Gives (.bool true) w) := by
  have p1 := ha.bound
  have p2 := hb.bound
  by_cases h : 40 < n ∨ 40 < m
  · exact law08_floors_out S na a n cap nb b m cap' w hT (by omega) (by omega) h
  · exact law08_floors_in S na a n cap la nb b m cap' lb w hT ha hb (by omega) (by omega) (fun v hv => law08_works S v (Lib.hid hv))
end Go.Proofs.YtiblojmdgjnfbaaDoor
