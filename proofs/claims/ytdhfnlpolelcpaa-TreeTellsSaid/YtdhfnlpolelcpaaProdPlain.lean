/-
  Plain mathematics: products and powers of numbers that are lists of words. Nothing of the program.
-/
import Derived.Test.YtdhfnlpolelcpaaBits2
namespace Go.Proofs.Ytdhfnlpolelcpaa

theorem atw_set_ne {l : List Nat} {k j y : Nat} (h : j ≠ k) : atw (l.set k y) j = atw l j := by
  unfold atw
  rw [List.getD_eq_getElem?_getD, List.getD_eq_getElem?_getD, List.getElem?_set_ne (Ne.symm h)]
theorem atw_zeros (n k : Nat) : atw (List.replicate n 0) k = 0 := by
  unfold atw
  rw [List.getD_eq_getElem?_getD, List.getElem?_replicate]
  split <;> rfl

/-- A product, row by row: what the first i words of a make of b stands in P; nothing stands from place i + m on. -/
def RowAt (A B P : List Nat) (m i : Nat) : Prop := val P = low A i * val B ∧ ∀ k, i + m ≤ k → atw P k = 0
/-- Within a row: j words of b are done, and c is carried. -/
def CellAt (A B P : List Nat) (m i j c : Nat) : Prop := val P + 4294967296 ^ (i + j) * c = low A i * val B + 4294967296 ^ i * (atw A i * low B j) ∧ ∀ k, i + m ≤ k → atw P k = 0
theorem row_start (A B : List Nat) (n m : Nat) : RowAt A B (List.replicate n 0) m 0 := ⟨by rw [val_zeros, low_zero, Nat.zero_mul], fun k _ => atw_zeros n k⟩
theorem cell_start {A B P : List Nat} {m i : Nat} (h : RowAt A B P m i) : CellAt A B P m i 0 0 := ⟨by rw [h.1, low_zero]; simp, h.2⟩
theorem cell_step {A B P : List Nat} {m i j c lo hi : Nat} (h : CellAt A B P m i j c) (hj : j < m) (hP : i + j < P.length) (hs : lo + 4294967296 * hi = atw A i * atw B j + (atw P (i + j) + c)) : CellAt A B (P.set (i + j) lo) m i (j + 1) hi := by
  refine ⟨?_, fun k hk => by rw [atw_set_ne (by omega)]; exact h.2 k hk⟩
  have h1 := val_set P (i + j) lo hP
  have h2 := h.1
  have h3 : 4294967296 ^ (i + j) * lo + 4294967296 ^ (i + j) * (4294967296 * hi) = 4294967296 ^ (i + j) * (atw A i * atw B j) + (4294967296 ^ (i + j) * atw P (i + j) + 4294967296 ^ (i + j) * c) := by
    rw [← Nat.mul_add, hs, Nat.mul_add, Nat.mul_add]
  have h4 : 4294967296 ^ (i + (j + 1)) * hi = 4294967296 ^ (i + j) * (4294967296 * hi) := by rw [← Nat.add_assoc, Nat.pow_succ, Nat.mul_assoc]
  have h5 : 4294967296 ^ i * (atw A i * low B (j + 1)) = 4294967296 ^ i * (atw A i * low B j) + 4294967296 ^ (i + j) * (atw A i * atw B j) := by
    rw [low_succ, Nat.mul_add, Nat.mul_add, Nat.pow_add, Nat.mul_left_comm (atw A i), ← Nat.mul_assoc (4294967296 ^ i) (4294967296 ^ j)]
  rw [h4, h5]
  generalize val (P.set (i + j) lo) = a1 at *
  generalize 4294967296 ^ (i + j) * lo = a2 at *
  generalize 4294967296 ^ (i + j) * (4294967296 * hi) = a3 at *
  generalize 4294967296 ^ (i + j) * (atw A i * atw B j) = a4 at *
  generalize 4294967296 ^ (i + j) * atw P (i + j) = a5 at *
  generalize 4294967296 ^ (i + j) * c = a6 at *
  generalize low A i * val B = a7 at *
  generalize 4294967296 ^ i * (atw A i * low B j) = a8 at *
  omega
theorem row_next {A B P : List Nat} {m i c : Nat} (h : CellAt A B P m i m c) (hB : B.length = m) (hP : i + m < P.length) : RowAt A B (P.set (i + m) c) m (i + 1) := by
  refine ⟨?_, fun k hk => by rw [atw_set_ne (by omega)]; exact h.2 k (by omega)⟩
  have h1 := val_set P (i + m) c hP
  have h2 := h.1
  rw [h.2 (i + m) (Nat.le_refl _), Nat.mul_zero, Nat.add_zero] at h1
  rw [low_ge (l := B) (i := m) (by omega)] at h2
  rw [h1, h2, low_succ, Nat.add_mul, Nat.mul_assoc]
theorem row_end {A B P : List Nat} {m i : Nat} (h : RowAt A B P m i) (hA : A.length = i) : val P = val A * val B := by rw [h.1, low_ge (by omega)]
/-- What two words make of one another, with two added, is no longer than two words. -/
theorem mul_room {x y u c : Nat} (hx : x < 4294967296) (hy : y < 4294967296) (hu : u < 4294967296) (hc : c < 4294967296) : x * y ≤ 18446744065119617025 ∧ x * y + (u + c) < 18446744073709551616 := by
  have h1 : x * y ≤ 4294967295 * 4294967295 := Nat.mul_le_mul (by omega) (by omega)
  omega

/-- A number by a word, word by word. -/
theorem word_step {l o : List Nat} {k x c hi lo : Nat} {d : Nat} (ho : o.length = k) (h : val o + 4294967296 ^ k * c = low l k * x + d) (hs : lo + 4294967296 * hi = atw l k * x + c) :
    val (o ++ [lo]) + 4294967296 ^ (k + 1) * hi = low l (k + 1) * x + d := by
  have h3 : 4294967296 ^ k * lo + 4294967296 ^ k * (4294967296 * hi) = 4294967296 ^ k * (atw l k * x) + 4294967296 ^ k * c := by rw [← Nat.mul_add, hs, Nat.mul_add]
  have h4 : 4294967296 ^ (k + 1) * hi = 4294967296 ^ k * (4294967296 * hi) := by rw [Nat.pow_succ, Nat.mul_assoc]
  rw [val_snoc, ho, h4, low_succ, Nat.add_mul, Nat.mul_assoc]
  generalize 4294967296 ^ k * lo = a2 at *
  generalize 4294967296 ^ k * (4294967296 * hi) = a3 at *
  generalize 4294967296 ^ k * (atw l k * x) = a4 at *
  generalize 4294967296 ^ k * c = a6 at *
  generalize low l k * x = a7 at *
  omega

/-- The product of the values of lists. -/
def prods : List (List Nat) → Nat
  | [] => 1
  | l :: r => val l * prods r
theorem prods_append (a b : List (List Nat)) : prods (a ++ b) = prods a * prods b := by
  induction a with
  | nil => simp [prods]
  | cons l r ih => simp [prods, ih, Nat.mul_assoc]
theorem prods_take (ls : List (List Nat)) (k : Nat) (hk : k < ls.length) : prods (ls.take (k + 1)) = prods (ls.take k) * val (ls.getD k []) := by
  rw [List.take_succ_eq_append_getElem hk, prods_append, List.getD_eq_getElem?_getD, List.getElem?_eq_getElem hk]; simp [prods]
theorem words_append (a b : List (List Nat)) : words (a ++ b) = words a + words b := by
  induction a with
  | nil => simp [words]
  | cons l r ih => simp [words, ih]; omega
theorem prods_le {ls : List (List Nat)} (h : ∀ l ∈ ls, okw l) : prods ls ≤ 4294967296 ^ words ls := by
  induction ls with
  | nil => simp [prods, words]
  | cons l r ih =>
    have h1 := val_lt (h l (by simp))
    have h3 := ih (fun x hx => h x (by simp [hx]))
    simp only [prods, words, Nat.pow_add]
    exact Nat.mul_le_mul (by omega) h3
theorem prods_length {ls : List (List Nat)} (h : ∀ l ∈ ls, okw l) : (dg (prods ls)).length ≤ words ls + 1 := by
  apply dg_length_le
  have h1 := prods_le h
  have h2 := pow_pos32 (words ls)
  rw [pow_succ32]
  omega
/-- How long a product is. -/
theorem dg_mul_length (a b : Nat) : (dg (a * b)).length ≤ (dg a).length + (dg b).length := by
  apply dg_length_le
  rw [Nat.pow_add]
  have h1 := lt_dg_length a
  have h2 := lt_dg_length b
  exact Nat.mul_lt_mul'' h1 h2
theorem dg_add_length (a b : Nat) : (dg (a + b)).length ≤ (dg a).length + (dg b).length + 1 := by
  apply dg_length_le
  rw [pow_succ32, Nat.pow_add]
  have h1 := lt_dg_length a
  have h2 := lt_dg_length b
  have h3 := pow_pos32 (dg a).length
  have h4 := pow_pos32 (dg b).length
  generalize 4294967296 ^ (dg a).length = p at *
  generalize 4294967296 ^ (dg b).length = q at *
  have h5 : p ≤ p * q := Nat.le_mul_of_pos_right _ h4
  have h6 : q ≤ p * q := Nat.le_mul_of_pos_left _ h3
  omega

/-! Powers. -/
/-- Whether there is a power; which. -/
def powB (v : Nat) (e : Int) : Bool := decide (0 ≤ e) && (decide (blen v < 2) || decide (e ≤ ((65536 / blen v : Nat) : Int)))
def powL (v : Nat) (e : Int) : List Nat := if powB v e = true then dg (v ^ e.toNat) else []
theorem powB_neg {v : Nat} {e : Int} (h : e < 0) : powB v e = false := by unfold powB; rw [decide_eq_false (by omega)]; rfl
theorem powB_long {v : Nat} {e : Int} (h1 : 2 ≤ blen v) (h : ((65536 / blen v : Nat) : Int) < e) : powB v e = false := by
  unfold powB; rw [decide_eq_false (p := blen v < 2) (by omega), decide_eq_false (p := e ≤ _) (by omega)]; simp
theorem powB_yes {v E : Nat} (h : blen v < 2 ∨ E ≤ 65536 / blen v) : powB v (E : Int) = true := by
  unfold powB
  rw [decide_eq_true (p := (0 : Int) ≤ E) (by omega)]
  rcases h with h | h
  · rw [decide_eq_true h]; rfl
  · rw [decide_eq_true (p := (E : Int) ≤ _) (by omega)]; simp
theorem powL_no {v : Nat} {e : Int} (h : powB v e = false) : powL v e = [] := by unfold powL; rw [h]; rfl
theorem powL_yes {v E : Nat} (h : powB v (E : Int) = true) : powL v (E : Int) = dg (v ^ E) := by unfold powL; rw [if_pos h, Int.toNat_natCast]
theorem small_pow {v : Nat} (h : blen v < 2) : v ≤ 1 := by
  have h1 := lt_blen v
  have h2 : 2 ^ blen v ≤ 2 ^ 1 := Nat.pow_le_pow_right (by decide) (by omega)
  omega
/-- Powers on the way to one that there is are not too long: M is 65536. -/
theorem pow_room {v E e M : Nat} (hM : M = 65536) (h : blen v < 2 ∨ E ≤ 65536 / blen v) (he : e ≤ E) : (dg (v ^ e)).length ≤ 2049 := by
  rcases h with h | h
  · have h1 := small_pow h
    have h2 : v ^ e ≤ 1 := by rw [← Nat.one_pow e]; exact Nat.pow_le_pow_left h1 e
    exact Nat.le_trans (dg_length_mono h2) (by rw [dg_word (by decide) (by decide)]; decide)
  · have h1 : v ^ e ≤ 2 ^ (blen v * e) := by rw [Nat.pow_mul]; exact Nat.pow_le_pow_left (Nat.le_of_lt (lt_blen v)) e
    have h2 : blen v * e ≤ M := by
      rw [hM]
      exact Nat.le_trans (Nat.mul_le_mul_left _ (Nat.le_trans he h)) (Nat.mul_div_le _ _)
    have h3 : v ^ e < 2 ^ (M + 1) := Nat.lt_of_le_of_lt h1 (Nat.lt_of_le_of_lt (Nat.pow_le_pow_right (by decide) h2) (Nat.pow_lt_pow_right (by decide) (by omega)))
    have h4 := blen_le.2 h3
    rw [dg_len_blen]
    omega
/-- One bit of the exponent more. -/
theorem pow_even {v E k : Nat} (h : E / 2 ^ k % 2 = 0) : v ^ (E / 2 ^ (k + 1)) * v ^ (E / 2 ^ (k + 1)) = v ^ (E / 2 ^ k) := by
  rw [← Nat.pow_add, Nat.pow_succ, ← Nat.div_div_eq_div_mul]
  congr 1
  omega
theorem pow_odd {v E k : Nat} (h : E / 2 ^ k % 2 = 1) : v ^ (E / 2 ^ (k + 1)) * v ^ (E / 2 ^ (k + 1)) * v = v ^ (E / 2 ^ k) := by
  rw [← Nat.pow_add, ← Nat.pow_succ, Nat.pow_succ 2, ← Nat.div_div_eq_div_mul]
  congr 1
  omega
theorem pow_min {v e : Nat} (h : v ≤ 1) : v ^ (min e 1) = v ^ e := by
  rcases Nat.eq_zero_or_pos e with h0 | h0
  · subst h0; rfl
  · rw [Nat.min_eq_right h0, Nat.pow_one]
    rcases Nat.eq_zero_or_pos v with h1 | h1
    · subst h1; rw [Nat.zero_pow h0]
    · rw [show v = 1 by omega, Nat.one_pow]
end Go.Proofs.Ytdhfnlpolelcpaa
