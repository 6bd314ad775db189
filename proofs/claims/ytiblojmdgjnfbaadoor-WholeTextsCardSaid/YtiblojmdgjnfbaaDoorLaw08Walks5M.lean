/-
  The walks of the laws of layer 8: WholeTexts.
-/
import Derived.Test.YtiblojmdgjnfbaaDoorG18
import Derived.Deep.RegionHeld3
namespace Go.Proofs.YtiblojmdgjnfbaaDoor
open Go.RowKit

theorem cells_2_2_4 {w : World} {A0 A1 A2 : Nat} {c0_0 c0_1 c1_0 c1_1 c2_0 c2_1 c2_2 c2_3 : Value} {t0 t1 t2 : TypeId} (h0 : w.heap[A0]? = some (.cells #[c0_0, c0_1] t0 (0, 0))) (h1 : w.heap[A1]? = some (.cells #[c1_0, c1_1] t1 (0, 0))) (h2 : w.heap[A2]? = some (.cells #[c2_0, c2_1, c2_2, c2_3] t2 (0, 0))) : w.cell? ⟨A0, 0, none⟩ = some c0_0 ∧ w.cell? ⟨A0, 1, none⟩ = some c0_1 ∧ w.cell? ⟨A1, 0, none⟩ = some c1_0 ∧ w.cell? ⟨A1, 1, none⟩ = some c1_1 ∧ w.cell? ⟨A2, 0, none⟩ = some c2_0 ∧ w.cell? ⟨A2, 1, none⟩ = some c2_1 ∧ w.cell? ⟨A2, 2, none⟩ = some c2_2 ∧ w.cell? ⟨A2, 3, none⟩ = some c2_3 := ⟨blk_cell h0 0, blk_cell h0 1, blk_cell h1 0, blk_cell h1 1, blk_cell h2 0, blk_cell h2 1, blk_cell h2 2, blk_cell h2 3⟩
theorem cells_2_2_4_2 {w : World} {A0 A1 A2 A3 : Nat} {c0_0 c0_1 c1_0 c1_1 c2_0 c2_1 c2_2 c2_3 c3_0 c3_1 : Value} {t0 t1 t2 t3 : TypeId} (h0 : w.heap[A0]? = some (.cells #[c0_0, c0_1] t0 (0, 0))) (h1 : w.heap[A1]? = some (.cells #[c1_0, c1_1] t1 (0, 0))) (h2 : w.heap[A2]? = some (.cells #[c2_0, c2_1, c2_2, c2_3] t2 (0, 0))) (h3 : w.heap[A3]? = some (.cells #[c3_0, c3_1] t3 (0, 0))) : w.cell? ⟨A0, 0, none⟩ = some c0_0 ∧ w.cell? ⟨A0, 1, none⟩ = some c0_1 ∧ w.cell? ⟨A1, 0, none⟩ = some c1_0 ∧ w.cell? ⟨A1, 1, none⟩ = some c1_1 ∧ w.cell? ⟨A2, 0, none⟩ = some c2_0 ∧ w.cell? ⟨A2, 1, none⟩ = some c2_1 ∧ w.cell? ⟨A2, 2, none⟩ = some c2_2 ∧ w.cell? ⟨A2, 3, none⟩ = some c2_3 ∧ w.cell? ⟨A3, 0, none⟩ = some c3_0 ∧ w.cell? ⟨A3, 1, none⟩ = some c3_1 := ⟨blk_cell h0 0, blk_cell h0 1, blk_cell h1 0, blk_cell h1 1, blk_cell h2 0, blk_cell h2 1, blk_cell h2 2, blk_cell h2 3, blk_cell h3 0, blk_cell h3 1⟩
theorem zwrong_cons (x : UInt8) (r : List UInt8) : zwrong (x :: r) = if x.toNat = 45 then (if wrongI r < 0 then -1 else 1 + wrongI r) else wrongI (x :: r) := rfl
theorem zread_cons (x : UInt8) (r : List UInt8) : zread (x :: r) = if x.toNat = 45 then zval true (readV r) else zval false (readV (x :: r)) := rfl
theorem ref08_read_ok (l : List UInt8) (w : World) (hl : l.length ≤ 500) (h : zwrong l < 0) : Calls Tryd.prog 27 #[.string (bs l)] w (ReadZ (zread l) (-1) w) := by
  match l, hl, h with
  | [], _, h => exact absurd h (by decide)
  | x :: r, hl, h =>
    simp at hl
    by_cases hx : x.toNat = 45
    · have hz : wrongI r < 0 := by
        rw [zwrong_cons] at h
        rw [if_pos hx] at h
        split at h <;> omega
      have e := ref08_read_minus_ok x r hx w (by omega) (Lib.hid hz)
      rwa [show zread (x :: r) = zval true (readV r) from by rw [zread_cons, if_pos hx]]
    · have hz : wrongI (x :: r) < 0 := by
        rw [zwrong_cons] at h
        rwa [if_neg hx] at h
      have e := ref08_read_plain_ok x r hx w (by simp; omega) (Lib.hid hz)
      rwa [show zread (x :: r) = zval false (readV (x :: r)) from by rw [zread_cons, if_neg hx]]
theorem ref08_read_no (l : List UInt8) (w : World) (hl : l.length ≤ 500) (h : 0 ≤ zwrong l) : Calls Tryd.prog 27 #[.string (bs l)] w (ReadZ 0 (zwrong l) w) := by
  match l, hl, h with
  | [], _, h => exact ref08_read_nil_bad w (by decide) (Lib.hid (by decide))
  | x :: r, hl, h =>
    simp at hl
    by_cases hx : x.toNat = 45
    · have hz : 0 ≤ wrongI r ∧ zwrong (x :: r) = 1 + wrongI r := by
        rw [zwrong_cons] at h ⊢
        rw [if_pos hx] at h ⊢
        split at h <;> rename_i h1
        · omega
        · exact ⟨by omega, by rw [if_neg h1]⟩
      rw [hz.2]
      exact ref08_read_minus_bad x r hx w (by omega) (Lib.hid hz.1)
    · have hz : zwrong (x :: r) = wrongI (x :: r) := by rw [zwrong_cons, if_neg hx]
      rw [hz] at h ⊢
      have e := ref08_read_plain_bad x r hx w (by simp; omega) (Lib.hid h)
      rwa [Int.zero_add] at e
theorem wrongI_top (l : List UInt8) : wrongI l ≤ l.length := by
  have hr := @wrongFrom_range l 0
  unfold wrongI
  split <;> omega
theorem zwrong_top (l : List UInt8) : zwrong l ≤ l.length := by
  match l with
  | [] => decide
  | x :: r =>
    have h1 := wrongI_top r
    have h2 := wrongI_top (x :: r)
    simp at h2 ⊢
    rw [zwrong_cons]
    split
    · split <;> omega
    · omega
set_option maxRecDepth 4096 in
set_option maxHeartbeats 8000000 in
theorem law08_texts_ok (S : WholeSaid) (na : Bool) (a : Option Addr) (n cap : Nat) (la : List Nat) (l : List UInt8) (w : World) (hT : Hid (Dec10 w)) (ha : Wd w a n cap la) (hn : n ≤ 40) (hl : l.length ≤ 500) (h0 : zwrong l < 0) :
    Calls Tryd.prog 5 #[whV na a n cap, .string (bs l)] w (Gives (.bool true) w) := by
  have HB := Lib.hid (below_alloc w (.cells #[.bool na, .slice a n cap] 24))
  have HA := Lib.hid (ha.later HB.out)
  have HX : Hid ((w.alloc (.cells #[.bool na, .slice a n cap] 24)).heap[w.heap.size]? = some (.cells #[.bool na, .slice a n cap] 24 (0, 0))) := Lib.hid (blk_new w _ _)
  obtain ⟨x, hx⟩ : ∃ x, zval na (val la) = x := ⟨_, rfl⟩
  have EX := Lib.hid hx
  have hs := bs_size l
  have H0 := Lib.hid h0
  have hwt := zwrong_top l
  have q1 : ((bs (ztxt x)).toList == (bs (ztxt x)).toList) = true := by simp
  have hna : ¬ (40 : Int) < (n : Int) := by omega
  have hlb : ¬ (500 : Int) < (l.length : Int) := by omega
  clear ha hx h0
  clear hwt
  go_enter Tryd.func5, Tryd.ntmps5
  unfold whV
  obtain ⟨k0, k1⟩ := cells_2 HX.out
  go_wp2_with fail
  refine (S.read_ok l _ (by omega) (Lib.hid H0.out)).mono ?_
  rintro e w1 ⟨a1, n1, c1, rfl, h1, b⟩
  clear k0 k1
  replace HB := Lib.hid (below_then HB.out b)
  replace HX := Lib.hid (blk_later HX.out b)
  replace HA := Lib.hid (HA.out.later b)
  clear b
  have R1 := Lib.hid h1
  clear h1
  unfold whV faultV
  have HQ : Hid ((World.alloc w1 (.cells #[.bool (zneg (zread l)), .slice a1 n1 c1] 30)).heap[w1.heap.size]? = some (.cells #[.bool (zneg (zread l)), .slice a1 n1 c1] 30 (0, 0))) := Lib.hid (blk_new w1 _ _)
  replace HB := Lib.hid (below_then HB.out (below_alloc w1 (.cells #[.bool (zneg (zread l)), .slice a1 n1 c1] 30)))
  replace HX := Lib.hid (blk_later HX.out (below_alloc w1 (.cells #[.bool (zneg (zread l)), .slice a1 n1 c1] 30)))
  replace HA := Lib.hid (HA.out.later (below_alloc w1 (.cells #[.bool (zneg (zread l)), .slice a1 n1 c1] 30)))
  replace R1 := Lib.hid (R1.out.later (below_alloc w1 (.cells #[.bool (zneg (zread l)), .slice a1 n1 c1] 30)))
  have HF : Hid ((World.alloc (w1.alloc (.cells #[.bool (zneg (zread l)), .slice a1 n1 c1] 30)) (.cells #[.int .i64 0, .int .i64 0, .int .i64 0, .int .i64 0] 42)).heap[w1.heap.size + 1]? = some (.cells #[.int .i64 0, .int .i64 0, .int .i64 0, .int .i64 0] 42 (0, 0))) := Lib.hid (by have h := blk_new (w1.alloc (.cells #[.bool (zneg (zread l)), .slice a1 n1 c1] 30)) #[.int .i64 0, .int .i64 0, .int .i64 0, .int .i64 0] 42; rw [blk_size] at h; exact h)
  replace HB := Lib.hid (below_then HB.out (below_alloc (w1.alloc (.cells #[.bool (zneg (zread l)), .slice a1 n1 c1] 30)) (.cells #[.int .i64 0, .int .i64 0, .int .i64 0, .int .i64 0] 42)))
  replace HX := Lib.hid (blk_later HX.out (below_alloc (w1.alloc (.cells #[.bool (zneg (zread l)), .slice a1 n1 c1] 30)) (.cells #[.int .i64 0, .int .i64 0, .int .i64 0, .int .i64 0] 42)))
  replace HQ := Lib.hid (blk_later HQ.out (below_alloc (w1.alloc (.cells #[.bool (zneg (zread l)), .slice a1 n1 c1] 30)) (.cells #[.int .i64 0, .int .i64 0, .int .i64 0, .int .i64 0] 42)))
  replace HA := Lib.hid (HA.out.later (below_alloc (w1.alloc (.cells #[.bool (zneg (zread l)), .slice a1 n1 c1] 30)) (.cells #[.int .i64 0, .int .i64 0, .int .i64 0, .int .i64 0] 42)))
  replace R1 := Lib.hid (R1.out.later (below_alloc (w1.alloc (.cells #[.bool (zneg (zread l)), .slice a1 n1 c1] 30)) (.cells #[.int .i64 0, .int .i64 0, .int .i64 0, .int .i64 0] 42)))
  obtain ⟨k0, k1, k2, k3, k4, k5, k6, k7⟩ := cells_2_2_4 HX.out HQ.out HF.out
  go_wp2_with fail
  refine (ref08_read_ok l _ (by omega) H0.out).mono ?_
  rintro e w2 ⟨a2, n2, c2, rfl, h2, b⟩
  clear k0 k1 k2 k3 k4 k5 k6 k7
  replace HB := Lib.hid (below_then HB.out b)
  replace HX := Lib.hid (blk_later HX.out b)
  replace HQ := Lib.hid (blk_later HQ.out b)
  replace HF := Lib.hid (blk_later HF.out b)
  replace HA := Lib.hid (HA.out.later b)
  replace R1 := Lib.hid (R1.out.later b)
  clear b
  have R2 := Lib.hid h2
  clear h2
  unfold whV
  have HS : Hid ((World.alloc w2 (.cells #[.bool (zneg (zread l)), .slice a2 n2 c2] 24)).heap[w2.heap.size]? = some (.cells #[.bool (zneg (zread l)), .slice a2 n2 c2] 24 (0, 0))) := Lib.hid (blk_new w2 _ _)
  replace HB := Lib.hid (below_then HB.out (below_alloc w2 (.cells #[.bool (zneg (zread l)), .slice a2 n2 c2] 24)))
  replace HX := Lib.hid (blk_later HX.out (below_alloc w2 (.cells #[.bool (zneg (zread l)), .slice a2 n2 c2] 24)))
  replace HQ := Lib.hid (blk_later HQ.out (below_alloc w2 (.cells #[.bool (zneg (zread l)), .slice a2 n2 c2] 24)))
  replace HF := Lib.hid (blk_later HF.out (below_alloc w2 (.cells #[.bool (zneg (zread l)), .slice a2 n2 c2] 24)))
  replace HA := Lib.hid (HA.out.later (below_alloc w2 (.cells #[.bool (zneg (zread l)), .slice a2 n2 c2] 24)))
  replace R1 := Lib.hid (R1.out.later (below_alloc w2 (.cells #[.bool (zneg (zread l)), .slice a2 n2 c2] 24)))
  replace R2 := Lib.hid (R2.out.later (below_alloc w2 (.cells #[.bool (zneg (zread l)), .slice a2 n2 c2] 24)))
  obtain ⟨k0, k1, k2, k3, k4, k5, k6, k7, k8, k9⟩ := cells_2_2_4_2 HX.out HQ.out HF.out HS.out
  go_wp2
  clear k0 k1 k2 k3 k4 k5 k6 k7 k8 k9
  generalize (w2.alloc (.cells #[.bool (zneg (zread l)), .slice a2 n2 c2] 24)) = W at *
  replace HB := Lib.hid (below_then HB.out ((Below.refl _ _).drew : Below W.heap.size W W.drew))
  replace HX : Hid (W.drew.heap[w.heap.size]? = _) := Lib.hid HX.out
  replace HQ : Hid (W.drew.heap[w1.heap.size]? = _) := Lib.hid HQ.out
  replace HS : Hid (W.drew.heap[w2.heap.size]? = _) := Lib.hid HS.out
  replace HA := Lib.hid (HA.out.later ((Below.refl _ _).drew : Below W.heap.size W W.drew))
  replace R1 := Lib.hid (R1.out.later ((Below.refl _ _).drew : Below W.heap.size W W.drew))
  replace R2 := Lib.hid (R2.out.later ((Below.refl _ _).drew : Below W.heap.size W W.drew))
  have pSn := cells_2_2_2 HX.out HQ.out HS.out
  go_region_held3 (fun w' => w'.cell? ⟨w.heap.size, 0, none⟩ = some (.bool na) ∧ w'.cell? ⟨w.heap.size, 1, none⟩ = some (.slice a n cap) ∧ w'.cell? ⟨w1.heap.size, 0, none⟩ = some (.bool (zneg (zread l))) ∧ w'.cell? ⟨w1.heap.size, 1, none⟩ = some (.slice a1 n1 c1) ∧ w'.cell? ⟨w2.heap.size, 0, none⟩ = some (.bool (zneg (zread l))) ∧ w'.cell? ⟨w2.heap.size, 1, none⟩ = some (.slice a2 n2 c2)) (exact pSn)
    (first
    | (go_at_call 14; (first
      | (refine (law08_to na a n cap _).mono ?_; rintro e wp1 ⟨rfl, b⟩; replace HB := Lib.hid (below_then HB.out b); replace HX := Lib.hid (blk_later HX.out b); replace HQ := Lib.hid (blk_later HQ.out b); replace HS := Lib.hid (blk_later HS.out b); replace HA := Lib.hid (HA.out.later b); replace R1 := Lib.hid (R1.out.later b); replace R2 := Lib.hid (R2.out.later b); clear b; clear pSn; have pSn := cells_2_2_2 HX.out HQ.out HS.out; have pM1 := True.intro)))
    | (go_at_call 28; (first
      | (have pm1 := pM1; refine (S.text na a n cap la x _ HA.out (by omega) EX.out (Lib.hid (hT.out.later HB.out))).mono ?_; rintro e wp2 ⟨rfl, b⟩; replace HB := Lib.hid (below_then HB.out b); replace HX := Lib.hid (blk_later HX.out b); replace HQ := Lib.hid (blk_later HQ.out b); replace HS := Lib.hid (blk_later HS.out b); replace HA := Lib.hid (HA.out.later b); replace R1 := Lib.hid (R1.out.later b); replace R2 := Lib.hid (R2.out.later b); clear b; clear pSn; have pSn := cells_2_2_2 HX.out HQ.out HS.out; clear pM1 pm1; have pM2 := True.intro)))
    | (go_at_call 29; (first
      | (have pm2 := pM2; refine (ref08_text_z na a n cap la x _ HA.out (by omega) EX.out).mono ?_; rintro e wp3 ⟨rfl, b⟩; replace HB := Lib.hid (below_then HB.out b); replace HX := Lib.hid (blk_later HX.out b); replace HQ := Lib.hid (blk_later HQ.out b); replace HS := Lib.hid (blk_later HS.out b); replace HA := Lib.hid (HA.out.later b); replace R1 := Lib.hid (R1.out.later b); replace R2 := Lib.hid (R2.out.later b); clear b; clear pSn; have pSn := cells_2_2_2 HX.out HQ.out HS.out; clear pM2 pm2; have pM3 := True.intro)))
    | (go_at_call 12; (first
      | (have pm3 := pM3; refine (law08_of _ a1 n1 c1 _).mono ?_; rintro e wp4 ⟨rfl, b⟩; replace HB := Lib.hid (below_then HB.out b); replace HX := Lib.hid (blk_later HX.out b); replace HQ := Lib.hid (blk_later HQ.out b); replace HS := Lib.hid (blk_later HS.out b); replace HA := Lib.hid (HA.out.later b); replace R1 := Lib.hid (R1.out.later b); replace R2 := Lib.hid (R2.out.later b); clear b; clear pSn; have pSn := cells_2_2_2 HX.out HQ.out HS.out; clear pM3 pm3; have pM4 := True.intro)))
    | (go_at_call 11; (first
      | (have pm4 := pM4; refine (ref08_same_yes _ a1 n1 c1 a2 n2 c2 _ _ R1.out R2.out).mono ?_; rintro e wp5 ⟨rfl, b⟩; replace HB := Lib.hid (below_then HB.out b); replace HX := Lib.hid (blk_later HX.out b); replace HQ := Lib.hid (blk_later HQ.out b); replace HS := Lib.hid (blk_later HS.out b); replace HA := Lib.hid (HA.out.later b); replace R1 := Lib.hid (R1.out.later b); replace R2 := Lib.hid (R2.out.later b); clear b; clear pSn; have pSn := cells_2_2_2 HX.out HQ.out HS.out; clear pM4 pm4; have pM5 := True.intro)))
    | (go_at_call 8; (first
      | (have pm5 := pM5; refine (law08_works S _ (Lib.hid (hT.out.later HB.out))).mono ?_; rintro e wp6 ⟨rfl, b⟩; replace HB := Lib.hid (below_then HB.out b); replace HX := Lib.hid (blk_later HX.out b); replace HQ := Lib.hid (blk_later HQ.out b); replace HS := Lib.hid (blk_later HS.out b); replace HA := Lib.hid (HA.out.later b); replace R1 := Lib.hid (R1.out.later b); replace R2 := Lib.hid (R2.out.later b); clear b; clear pSn; have pSn := cells_2_2_2 HX.out HQ.out HS.out; clear pM5 pm5; have pM6 := True.intro))))
  go_wp2
  go_ret
  exact ⟨rfl, HB.out⟩
set_option maxRecDepth 4096 in
set_option maxHeartbeats 8000000 in
theorem law08_texts_no (S : WholeSaid) (na : Bool) (a : Option Addr) (n cap : Nat) (la : List Nat) (l : List UInt8) (w : World) (hT : Hid (Dec10 w)) (ha : Wd w a n cap la) (hn : n ≤ 40) (hl : l.length ≤ 500) (h0 : 0 ≤ zwrong l) :
    Calls Tryd.prog 5 #[whV na a n cap, .string (bs l)] w (Gives (.bool true) w) := by
  have HB := Lib.hid (below_alloc w (.cells #[.bool na, .slice a n cap] 24))
  have HA := Lib.hid (ha.later HB.out)
  have HX : Hid ((w.alloc (.cells #[.bool na, .slice a n cap] 24)).heap[w.heap.size]? = some (.cells #[.bool na, .slice a n cap] 24 (0, 0))) := Lib.hid (blk_new w _ _)
  obtain ⟨x, hx⟩ : ∃ x, zval na (val la) = x := ⟨_, rfl⟩
  have EX := Lib.hid hx
  have hs := bs_size l
  have H0 := Lib.hid h0
  have hwt := zwrong_top l
  have q1 : ((bs (ztxt x)).toList == (bs (ztxt x)).toList) = true := by simp
  have hna : ¬ (40 : Int) < (n : Int) := by omega
  have hlb : ¬ (500 : Int) < (l.length : Int) := by omega
  clear ha hx h0
  obtain ⟨wi, hwi⟩ : ∃ wi, wi = zwrong l := ⟨_, rfl⟩
  have HWI := Lib.hid hwi
  rw [← hwi] at hwt
  have hwi0 : 0 ≤ wi := by have := H0.out; omega
  clear hwi
  go_enter Tryd.func5, Tryd.ntmps5
  unfold whV
  obtain ⟨k0, k1⟩ := cells_2 HX.out
  go_wp2_with fail
  refine (S.read_no l _ (by omega) (Lib.hid H0.out)).mono ?_
  rintro e w1 ⟨a1, n1, c1, rfl, h1, b⟩
  clear k0 k1
  replace HB := Lib.hid (below_then HB.out b)
  replace HX := Lib.hid (blk_later HX.out b)
  replace HA := Lib.hid (HA.out.later b)
  clear b
  have R1 := Lib.hid h1
  clear h1
  rw [← HWI.out]
  unfold whV faultV
  have HQ : Hid ((World.alloc w1 (.cells #[.bool (zneg 0), .slice a1 n1 c1] 30)).heap[w1.heap.size]? = some (.cells #[.bool (zneg 0), .slice a1 n1 c1] 30 (0, 0))) := Lib.hid (blk_new w1 _ _)
  replace HB := Lib.hid (below_then HB.out (below_alloc w1 (.cells #[.bool (zneg 0), .slice a1 n1 c1] 30)))
  replace HX := Lib.hid (blk_later HX.out (below_alloc w1 (.cells #[.bool (zneg 0), .slice a1 n1 c1] 30)))
  replace HA := Lib.hid (HA.out.later (below_alloc w1 (.cells #[.bool (zneg 0), .slice a1 n1 c1] 30)))
  replace R1 := Lib.hid (R1.out.later (below_alloc w1 (.cells #[.bool (zneg 0), .slice a1 n1 c1] 30)))
  have HF : Hid ((World.alloc (w1.alloc (.cells #[.bool (zneg 0), .slice a1 n1 c1] 30)) (.cells #[.int .i64 1, .int .i64 0, .int .i64 0, .int .i64 wi] 42)).heap[w1.heap.size + 1]? = some (.cells #[.int .i64 1, .int .i64 0, .int .i64 0, .int .i64 wi] 42 (0, 0))) := Lib.hid (by have h := blk_new (w1.alloc (.cells #[.bool (zneg 0), .slice a1 n1 c1] 30)) #[.int .i64 1, .int .i64 0, .int .i64 0, .int .i64 wi] 42; rw [blk_size] at h; exact h)
  replace HB := Lib.hid (below_then HB.out (below_alloc (w1.alloc (.cells #[.bool (zneg 0), .slice a1 n1 c1] 30)) (.cells #[.int .i64 1, .int .i64 0, .int .i64 0, .int .i64 wi] 42)))
  replace HX := Lib.hid (blk_later HX.out (below_alloc (w1.alloc (.cells #[.bool (zneg 0), .slice a1 n1 c1] 30)) (.cells #[.int .i64 1, .int .i64 0, .int .i64 0, .int .i64 wi] 42)))
  replace HQ := Lib.hid (blk_later HQ.out (below_alloc (w1.alloc (.cells #[.bool (zneg 0), .slice a1 n1 c1] 30)) (.cells #[.int .i64 1, .int .i64 0, .int .i64 0, .int .i64 wi] 42)))
  replace HA := Lib.hid (HA.out.later (below_alloc (w1.alloc (.cells #[.bool (zneg 0), .slice a1 n1 c1] 30)) (.cells #[.int .i64 1, .int .i64 0, .int .i64 0, .int .i64 wi] 42)))
  replace R1 := Lib.hid (R1.out.later (below_alloc (w1.alloc (.cells #[.bool (zneg 0), .slice a1 n1 c1] 30)) (.cells #[.int .i64 1, .int .i64 0, .int .i64 0, .int .i64 wi] 42)))
  obtain ⟨k0, k1, k2, k3, k4, k5, k6, k7⟩ := cells_2_2_4 HX.out HQ.out HF.out
  go_wp2_with fail
  refine (ref08_read_no l _ (by omega) H0.out).mono ?_
  rintro e w2 ⟨a2, n2, c2, rfl, h2, b⟩
  clear k0 k1 k2 k3 k4 k5 k6 k7
  replace HB := Lib.hid (below_then HB.out b)
  replace HX := Lib.hid (blk_later HX.out b)
  replace HQ := Lib.hid (blk_later HQ.out b)
  replace HF := Lib.hid (blk_later HF.out b)
  replace HA := Lib.hid (HA.out.later b)
  replace R1 := Lib.hid (R1.out.later b)
  clear b
  have R2 := Lib.hid h2
  clear h2
  rw [← HWI.out]
  unfold whV
  have HS : Hid ((World.alloc w2 (.cells #[.bool (zneg 0), .slice a2 n2 c2] 24)).heap[w2.heap.size]? = some (.cells #[.bool (zneg 0), .slice a2 n2 c2] 24 (0, 0))) := Lib.hid (blk_new w2 _ _)
  replace HB := Lib.hid (below_then HB.out (below_alloc w2 (.cells #[.bool (zneg 0), .slice a2 n2 c2] 24)))
  replace HX := Lib.hid (blk_later HX.out (below_alloc w2 (.cells #[.bool (zneg 0), .slice a2 n2 c2] 24)))
  replace HQ := Lib.hid (blk_later HQ.out (below_alloc w2 (.cells #[.bool (zneg 0), .slice a2 n2 c2] 24)))
  replace HF := Lib.hid (blk_later HF.out (below_alloc w2 (.cells #[.bool (zneg 0), .slice a2 n2 c2] 24)))
  replace HA := Lib.hid (HA.out.later (below_alloc w2 (.cells #[.bool (zneg 0), .slice a2 n2 c2] 24)))
  replace R1 := Lib.hid (R1.out.later (below_alloc w2 (.cells #[.bool (zneg 0), .slice a2 n2 c2] 24)))
  replace R2 := Lib.hid (R2.out.later (below_alloc w2 (.cells #[.bool (zneg 0), .slice a2 n2 c2] 24)))
  obtain ⟨k0, k1, k2, k3, k4, k5, k6, k7, k8, k9⟩ := cells_2_2_4_2 HX.out HQ.out HF.out HS.out
  go_wp2
  clear k0 k1 k2 k3 k4 k5 k6 k7 k8 k9
  generalize (w2.alloc (.cells #[.bool (zneg 0), .slice a2 n2 c2] 24)) = W at *
  replace HB := Lib.hid (below_then HB.out ((Below.refl _ _).drew : Below W.heap.size W W.drew))
  replace HX : Hid (W.drew.heap[w.heap.size]? = _) := Lib.hid HX.out
  replace HQ : Hid (W.drew.heap[w1.heap.size]? = _) := Lib.hid HQ.out
  replace HS : Hid (W.drew.heap[w2.heap.size]? = _) := Lib.hid HS.out
  replace HA := Lib.hid (HA.out.later ((Below.refl _ _).drew : Below W.heap.size W W.drew))
  replace R1 := Lib.hid (R1.out.later ((Below.refl _ _).drew : Below W.heap.size W W.drew))
  replace R2 := Lib.hid (R2.out.later ((Below.refl _ _).drew : Below W.heap.size W W.drew))
  have pSn := cells_2_2_2 HX.out HQ.out HS.out
  go_region_held3 (fun w' => w'.cell? ⟨w.heap.size, 0, none⟩ = some (.bool na) ∧ w'.cell? ⟨w.heap.size, 1, none⟩ = some (.slice a n cap) ∧ w'.cell? ⟨w1.heap.size, 0, none⟩ = some (.bool (zneg 0)) ∧ w'.cell? ⟨w1.heap.size, 1, none⟩ = some (.slice a1 n1 c1) ∧ w'.cell? ⟨w2.heap.size, 0, none⟩ = some (.bool (zneg 0)) ∧ w'.cell? ⟨w2.heap.size, 1, none⟩ = some (.slice a2 n2 c2)) (exact pSn)
    (first
    | (go_at_call 14; (first
      | (refine (law08_to na a n cap _).mono ?_; rintro e wp1 ⟨rfl, b⟩; replace HB := Lib.hid (below_then HB.out b); replace HX := Lib.hid (blk_later HX.out b); replace HQ := Lib.hid (blk_later HQ.out b); replace HS := Lib.hid (blk_later HS.out b); replace HA := Lib.hid (HA.out.later b); replace R1 := Lib.hid (R1.out.later b); replace R2 := Lib.hid (R2.out.later b); clear b; clear pSn; have pSn := cells_2_2_2 HX.out HQ.out HS.out; have pM1 := True.intro)))
    | (go_at_call 28; (first
      | (have pm1 := pM1; refine (S.text na a n cap la x _ HA.out (by omega) EX.out (Lib.hid (hT.out.later HB.out))).mono ?_; rintro e wp2 ⟨rfl, b⟩; replace HB := Lib.hid (below_then HB.out b); replace HX := Lib.hid (blk_later HX.out b); replace HQ := Lib.hid (blk_later HQ.out b); replace HS := Lib.hid (blk_later HS.out b); replace HA := Lib.hid (HA.out.later b); replace R1 := Lib.hid (R1.out.later b); replace R2 := Lib.hid (R2.out.later b); clear b; clear pSn; have pSn := cells_2_2_2 HX.out HQ.out HS.out; clear pM1 pm1; have pM2 := True.intro)))
    | (go_at_call 29; (first
      | (have pm2 := pM2; refine (ref08_text_z na a n cap la x _ HA.out (by omega) EX.out).mono ?_; rintro e wp3 ⟨rfl, b⟩; replace HB := Lib.hid (below_then HB.out b); replace HX := Lib.hid (blk_later HX.out b); replace HQ := Lib.hid (blk_later HQ.out b); replace HS := Lib.hid (blk_later HS.out b); replace HA := Lib.hid (HA.out.later b); replace R1 := Lib.hid (R1.out.later b); replace R2 := Lib.hid (R2.out.later b); clear b; clear pSn; have pSn := cells_2_2_2 HX.out HQ.out HS.out; clear pM2 pm2; have pM3 := True.intro)))
    | (go_at_call 12; (first
      | (have pm3 := pM3; refine (law08_of _ a1 n1 c1 _).mono ?_; rintro e wp4 ⟨rfl, b⟩; replace HB := Lib.hid (below_then HB.out b); replace HX := Lib.hid (blk_later HX.out b); replace HQ := Lib.hid (blk_later HQ.out b); replace HS := Lib.hid (blk_later HS.out b); replace HA := Lib.hid (HA.out.later b); replace R1 := Lib.hid (R1.out.later b); replace R2 := Lib.hid (R2.out.later b); clear b; clear pSn; have pSn := cells_2_2_2 HX.out HQ.out HS.out; clear pM3 pm3; have pM4 := True.intro)))
    | (go_at_call 11; (first
      | (have pm4 := pM4; refine (ref08_same_yes _ a1 n1 c1 a2 n2 c2 _ _ R1.out R2.out).mono ?_; rintro e wp5 ⟨rfl, b⟩; replace HB := Lib.hid (below_then HB.out b); replace HX := Lib.hid (blk_later HX.out b); replace HQ := Lib.hid (blk_later HQ.out b); replace HS := Lib.hid (blk_later HS.out b); replace HA := Lib.hid (HA.out.later b); replace R1 := Lib.hid (R1.out.later b); replace R2 := Lib.hid (R2.out.later b); clear b; clear pSn; have pSn := cells_2_2_2 HX.out HQ.out HS.out; clear pM4 pm4; have pM5 := True.intro)))
    | (go_at_call 8; (first
      | (have pm5 := pM5; refine (law08_works S _ (Lib.hid (hT.out.later HB.out))).mono ?_; rintro e wp6 ⟨rfl, b⟩; replace HB := Lib.hid (below_then HB.out b); replace HX := Lib.hid (blk_later HX.out b); replace HQ := Lib.hid (blk_later HQ.out b); replace HS := Lib.hid (blk_later HS.out b); replace HA := Lib.hid (HA.out.later b); replace R1 := Lib.hid (R1.out.later b); replace R2 := Lib.hid (R2.out.later b); clear b; clear pSn; have pSn := cells_2_2_2 HX.out HQ.out HS.out; clear pM5 pm5; have pM6 := True.intro))))
  go_wp2
  go_ret
  exact ⟨rfl, HB.out⟩
set_option maxRecDepth 4096 in
theorem law08_texts_out (S : WholeSaid) (na : Bool) (a : Option Addr) (n cap : Nat) (l : List UInt8) (w : World) (hT : Hid (Dec10 w)) (h1 : n ≤ 9223372036854775807) (h2 : l.length ≤ 9223372036854775807) (h : 40 < n ∨ 500 < l.length) :
    Calls Tryd.prog 5 #[whV na a n cap, .string (bs l)] w (Gives (.bool true) w) := by
  have hB : Below w.heap.size w (w.alloc (.cells #[.bool na, .slice a n cap] 24)) := below_alloc _ _
  have hs := bs_size l
  unfold whV
  by_cases h3 : 40 < n
  · have hbi : (40 : Int) < (n : Int) := by omega
    clear h
    go_enter Tryd.func5, Tryd.ntmps5
    go_wp2_with fail
    refine (law08_works S _ (Lib.hid (hT.out.later hB))).mono ?_
    rintro e w1 ⟨rfl, b1⟩
    go_wp2
    go_ret
    exact ⟨rfl, below_then hB b1⟩
  · have hbi : ¬ (40 : Int) < (n : Int) := by omega
    have hbj : (500 : Int) < (l.length : Int) := by omega
    clear h
    go_enter Tryd.func5, Tryd.ntmps5
    go_wp2_with fail
    refine (law08_works S _ (Lib.hid (hT.out.later hB))).mono ?_
    rintro e w1 ⟨rfl, b1⟩
    go_wp2
    go_ret
    exact ⟨rfl, below_then hB b1⟩
theorem law08_texts (S : WholeSaid) (na : Bool) (a : Option Addr) (n cap : Nat) (la : List Nat) (l : List UInt8) (w : World) (hT : Hid (Dec10 w)) (ha : Wd w a n cap la) (hl : l.length ≤ 9223372036854775807) :
    Calls Tryd.prog 5 #[whV na a n cap, .string (bs l)] w (Gives (.bool true) w) := by
  have p1 := ha.bound
  by_cases h : 40 < n ∨ 500 < l.length
  · exact law08_texts_out S na a n cap l w hT (by omega) hl h
  · by_cases h0 : zwrong l < 0
    · exact law08_texts_ok S na a n cap la l w hT ha (by omega) (by omega) h0
    · exact law08_texts_no S na a n cap la l w hT ha (by omega) (by omega) (by omega)
end Go.Proofs.YtiblojmdgjnfbaaDoor
