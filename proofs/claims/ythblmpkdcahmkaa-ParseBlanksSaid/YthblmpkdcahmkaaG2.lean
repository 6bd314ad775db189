/-
  Several texts of this claim as one, group 2.
-/
import Derived.Test.YthblmpkdcahmkaaG1
import Derived.Lib.AppendIntMem
import Derived.Lib.LaidTab
import Derived.Lib.ItoaNum
/-
  Plain mathematics: shifts of lists of words, word by word, and numbers built bit by bit. Nothing of the program.
-/
namespace Go.Proofs.Ythblmpkdcahmkaa

theorem dg_len_blen (n : Nat) : (dg n).length = (blen n + 31) / 32 := by
  have h1 : (dg n).length ≤ (blen n + 31) / 32 := dg_length_le (by
    rw [pow32]; exact Nat.lt_of_lt_of_le (lt_blen n) (Nat.pow_le_pow_right (by decide) (by omega)))
  have h2 : blen n ≤ 32 * (dg n).length := blen_le.2 (by rw [← pow32]; exact lt_dg_length n)
  omega
theorem top_div {l : List Nat} (h : okw l) (q : Nat) : top l q = val l / 2 ^ (32 * q) := by
  have h1 := val_split2 l q
  have h2 := low_lt2 h q
  have hp := Nat.two_pow_pos (32 * q)
  rw [h1, Nat.mul_add_div hp, Nat.div_eq_of_lt h2, Nat.add_zero]
theorem low_mod {l : List Nat} (h : okw l) (q : Nat) : low l q = val l % 2 ^ (32 * q) := by
  have h1 := val_split2 l q
  have h2 := low_lt2 h q
  rw [h1, Nat.mul_add_mod, Nat.mod_eq_of_lt h2]
theorem val_drop {l : List Nat} (q : Nat) : val (l.drop q) = top l q := rfl
theorem low_bit (l : List Nat) (h : okw l) (i : Nat) : (val l).testBit i = decide (atw l (i / 32) / 2 ^ (i % 32) % 2 = 1) := by
  rw [val_bit h, Nat.testBit_eq_decide_div_mod_eq]

/-- A shift up, word by word. -/
theorem up_step {l o : List Nat} {k q r c c' x : Nat} (ho : o.length = q + k) (h : val o + 4294967296 ^ (q + k) * c = low l k * 2 ^ (32 * q + r)) (hx : x + 4294967296 * c' = atw l k * 2 ^ r + c) :
    val (o ++ [x]) + 4294967296 ^ (q + (k + 1)) * c' = low l (k + 1) * 2 ^ (32 * q + r) := by
  have e1 : 4294967296 ^ k * atw l k * 2 ^ (32 * q + r) = 4294967296 ^ (q + k) * (atw l k * 2 ^ r) := by
    rw [Nat.pow_add 2, ← pow32, Nat.pow_add 4294967296 q k]
    generalize 4294967296 ^ k = A
    generalize 4294967296 ^ q = B
    generalize 2 ^ r = C
    rw [Nat.mul_comm A, Nat.mul_assoc, Nat.mul_comm B A, Nat.mul_assoc A, Nat.mul_left_comm, Nat.mul_left_comm B]
  rw [val_snoc, ho, low_succ, Nat.add_mul, e1, show q + (k + 1) = q + k + 1 from rfl, pow_succ32, ← h]
  generalize 4294967296 ^ (q + k) = P at *
  have e2 : P * x + 4294967296 * P * c' = P * (atw l k * 2 ^ r) + P * c := by
    rw [Nat.mul_comm 4294967296 P, Nat.mul_assoc, ← Nat.mul_add, hx, Nat.mul_add]
  omega
/-- What is carried stays a word. -/
theorem up_carry {w r c c' x : Nat} (hw : w < 4294967296) (hr : r < 32) (hc : c < 4294967296) (hx : x + 4294967296 * c' = w * 2 ^ r + c) : c' < 4294967296 := by
  have h1 : 2 ^ r ≤ 2 ^ 31 := Nat.pow_le_pow_right (by decide) (by omega)
  have h2 : w * 2 ^ r ≤ 4294967295 * 2 ^ 31 := Nat.mul_le_mul (by omega) h1
  omega
theorem up_end0 {o : List Nat} {v q m n : Nat} (hok : okw o) (hm : (dg v).length = m) (h0 : v ≠ 0) (hq : 32 * q ≤ n) (ho : o.length = q + m) (h : val o = v * 2 ^ n) : o = dg (v * 2 ^ n) := by
  rw [← h]
  refine dg_of_ge hok (.inr ?_)
  have hm0 : (dg v).length ≠ 0 := fun e => h0 (dg_nil_iff.1 e)
  have h1 := dg_ge hm0
  rw [hm] at h1 hm0
  rw [ho, h, pow32, show 32 * (q + m - 1) = 32 * (m - 1) + 32 * q by omega, Nat.pow_add, ← pow32]
  exact Nat.mul_le_mul h1 (Nat.pow_le_pow_right (by decide) hq)
theorem up_end1 {o : List Nat} {c z : Nat} (hok : okw o) (hc : c < 4294967296) (h0 : c ≠ 0) (h : val o + 4294967296 ^ o.length * c = z) : o ++ [c] = dg z := by
  have h1 := dg_snoc hok hc h0
  rwa [val_snoc, h] at h1

theorem val_set (o : List Nat) (k y : Nat) (hk : k < o.length) : val (o.set k y) + 4294967296 ^ k * atw o k = val o + 4294967296 ^ k * y := by
  induction o generalizing k with
  | nil => simp at hk
  | cons x o ih =>
    cases k with
    | zero => simp [val, atw]; omega
    | succ k =>
      have := ih k (by simpa using hk)
      have e : atw (x :: o) (k + 1) = atw o k := by simp [atw]
      simp only [List.set_cons_succ, val]
      rw [e, pow_succ32, Nat.mul_assoc, Nat.mul_assoc]
      omega
theorem okw_set {o : List Nat} (h : okw o) {y : Nat} (hy : y < 4294967296) (k : Nat) : okw (o.set k y) := fun x hx => by
  rcases List.mem_or_eq_of_mem_set hx with h1 | h1
  · exact h x h1
  · omega
/-- A word's high part, and what of it falls into the word below. -/
theorem word_parts (w r : Nat) (hr : r ≤ 31) : w * 2 ^ (32 - r) = w * 2 ^ (32 - r) % 4294967296 + 4294967296 * (w / 2 ^ r) := by
  have e : w * 2 ^ (32 - r) / 4294967296 = w / 2 ^ r := by
    rw [show (4294967296 : Nat) = 2 ^ r * 2 ^ (32 - r) by rw [← Nat.pow_add, show r + (32 - r) = 32 by omega], Nat.mul_div_mul_right _ _ (Nat.two_pow_pos _)]
  rw [← e]; omega
theorem down_first {t : List Nat} (r : Nat) : val [atw t 0 / 2 ^ r] = low t 1 / 2 ^ r := by simp [val, low_one]
/-- What stands in the topmost word so far leaves room for the next one's low bits. -/
theorem down_room {t o : List Nat} {k r : Nat} (hr : r ≤ 31) (ht : okw t) (h : val o = low t (k + 1) / 2 ^ r) : atw o k < 2 ^ (32 - r) := by
  have h1 := low_lt2 ht (k + 1)
  have h2 : low t (k + 1) / 2 ^ r < 2 ^ (32 * k) * 2 ^ (32 - r) := by
    rw [Nat.div_lt_iff_lt_mul (Nat.two_pow_pos r), ← Nat.pow_add, ← Nat.pow_add, show 32 * k + (32 - r) + r = 32 * (k + 1) by omega]
    exact h1
  rw [← h] at h2
  have h3 : 2 ^ (32 * k) * atw o k ≤ val o := by
    rw [val_split2 o k, top_succ, Nat.mul_add]; omega
  exact Nat.lt_of_mul_lt_mul_left (Nat.lt_of_le_of_lt h3 h2)
theorem down_or {x w r : Nat} (hr : r ≤ 31) (hx : x < 2 ^ (32 - r)) : x ||| (w * 2 ^ (32 - r) % 4294967296) = x + w * 2 ^ (32 - r) % 4294967296 ∧ x + w * 2 ^ (32 - r) % 4294967296 < 4294967296 := by
  have e0 : (4294967296 : Nat) = 2 ^ (32 - r) * 2 ^ r := by rw [← Nat.pow_add, show 32 - r + r = 32 by omega]
  have e1 : w * 2 ^ (32 - r) % 4294967296 = 2 ^ (32 - r) * (w % 2 ^ r) := by rw [e0, Nat.mul_comm w, Nat.mul_mod_mul_left]
  rw [e1]
  constructor
  · have := Nat.two_pow_add_eq_or_of_lt hx (w % 2 ^ r)
    rw [Nat.or_comm, ← this, Nat.add_comm]
  · have h1 : w % 2 ^ r < 2 ^ r := Nat.mod_lt _ (Nat.two_pow_pos r)
    have h2 : 2 ^ (32 - r) * (w % 2 ^ r) + 2 ^ (32 - r) ≤ 2 ^ (32 - r) * 2 ^ r := by rw [← Nat.mul_succ]; exact Nat.mul_le_mul_left _ h1
    omega
theorem down_step {t o : List Nat} {k r : Nat} (hr : r ≤ 31) (ho : o.length = k + 1) (h : val o = low t (k + 1) / 2 ^ r) :
    val (o.set k (atw o k + atw t (k + 1) * 2 ^ (32 - r) % 4294967296) ++ [atw t (k + 1) / 2 ^ r]) = low t (k + 1 + 1) / 2 ^ r := by
  have hs := val_set o k (atw o k + atw t (k + 1) * 2 ^ (32 - r) % 4294967296) (by omega)
  have hw := word_parts (atw t (k + 1)) r hr
  have e : low t (k + 1 + 1) / 2 ^ r = low t (k + 1) / 2 ^ r + 4294967296 ^ k * (atw t (k + 1) * 2 ^ (32 - r)) := by
    rw [low_succ t (k + 1)]
    have e1 : 4294967296 ^ (k + 1) * atw t (k + 1) = 2 ^ r * (4294967296 ^ k * (atw t (k + 1) * 2 ^ (32 - r))) := by
      rw [pow_succ32, show (4294967296 : Nat) * 4294967296 ^ k = 2 ^ r * 2 ^ (32 - r) * 4294967296 ^ k by rw [← Nat.pow_add, show r + (32 - r) = 32 by omega]]
      generalize 2 ^ (32 - r) = A
      generalize 4294967296 ^ k = B
      rw [Nat.mul_assoc, Nat.mul_assoc, Nat.mul_left_comm A, Nat.mul_comm A]
    rw [e1, Nat.add_mul_div_left _ _ (Nat.two_pow_pos r)]
  rw [val_snoc, List.length_set, ho, e, ← h, pow_succ32]
  generalize atw t (k + 1) * 2 ^ (32 - r) = W at *
  generalize W % 4294967296 = a at *
  generalize atw t (k + 1) / 2 ^ r = b at *
  subst hw
  rw [Nat.mul_add] at hs ⊢
  rw [Nat.mul_comm 4294967296 (4294967296 ^ k), Nat.mul_assoc]
  omega
theorem set_behind (o z : List Nat) (x y k : Nat) (hk : k < o.length) : ((o ++ [x]) ++ z).set k y = (o.set k y ++ [x]) ++ z := by
  rw [List.set_append_left _ _ (by simp; omega), List.set_append_left _ _ hk]
theorem shift_div {l : List Nat} (h : okw l) (q r : Nat) : top l q / 2 ^ r = val l / 2 ^ (32 * q + r) := by
  rw [top_div h, Nat.div_div_eq_div_mul, ← Nat.pow_add]

/-- The low bits of a list. -/
theorem low_mask {l : List Nat} (h : okw l) (q r : Nat) (hq : q < l.length) (hr : r ≤ 32) : val ((l.take (q + 1)).set q (atw l q % 2 ^ r)) = val l % 2 ^ (32 * q + r) := by
  have h1 := val_set (l.take (q + 1)) q (atw l q % 2 ^ r) (by rw [List.length_take]; omega)
  rw [atw_take (by omega)] at h1
  have h2 : val (l.take (q + 1)) = low l q + 4294967296 ^ q * atw l q := low_succ l q
  have e : val ((l.take (q + 1)).set q (atw l q % 2 ^ r)) = 2 ^ (32 * q) * (atw l q % 2 ^ r) + low l q := by rw [← pow32]; omega
  rw [e, Nat.pow_add, Nat.mod_mul, ← low_mod h, ← top_div h, top_succ]
  have e2 : (atw l q + 4294967296 * top l (q + 1)) % 2 ^ r = atw l q % 2 ^ r := by
    rw [show (4294967296 : Nat) = 2 ^ r * 2 ^ (32 - r) by rw [← Nat.pow_add, show r + (32 - r) = 32 by omega], Nat.mul_assoc, Nat.add_mul_mod_self_left]
  rw [e2]; omega
theorem mod_min {v n m : Nat} (h : v < 2 ^ m) : v % 2 ^ (min n m) = v % 2 ^ n := by
  rcases Nat.le_total n m with h1 | h1
  · rw [Nat.min_eq_left h1]
  · rw [Nat.min_eq_right h1, Nat.mod_eq_of_lt h, Nat.mod_eq_of_lt (Nat.lt_of_lt_of_le h (Nat.pow_le_pow_right (by decide) h1))]

/-- A number built bit by bit, from the lowest one on. -/
theorem bit_room {o : List Nat} {i : Nat} (h : val o < 2 ^ i) : atw o (i / 32) < 2 ^ (i % 32) := by
  have e : 2 ^ i = 2 ^ (32 * (i / 32)) * 2 ^ (i % 32) := by rw [← Nat.pow_add]; congr 1; omega
  have h3 : 2 ^ (32 * (i / 32)) * atw o (i / 32) ≤ val o := by rw [val_split2 o (i / 32), top_succ, Nat.mul_add]; omega
  rw [e] at h
  exact Nat.lt_of_mul_lt_mul_left (Nat.lt_of_le_of_lt h3 h)
theorem mod_next (X i : Nat) : X % 2 ^ (i + 1) = X % 2 ^ i + 2 ^ i * (X.testBit i).toNat := by
  rw [Nat.pow_succ, Nat.mod_mul, Nat.testBit_eq_decide_div_mod_eq]
  congr 2
  rcases Nat.mod_two_eq_zero_or_one (X / 2 ^ i) with h | h <;> simp [h]
theorem bit_on {o : List Nat} {i X : Nat} (hl : i / 32 < o.length) (h : val o = X % 2 ^ i) (hb : X.testBit i = true) : val (o.set (i / 32) (atw o (i / 32) + 2 ^ (i % 32))) = X % 2 ^ (i + 1) ∧ atw o (i / 32) + 2 ^ (i % 32) < 4294967296 := by
  have hr := bit_room (o := o) (i := i) (by rw [h]; exact Nat.mod_lt _ (Nat.two_pow_pos i))
  have h2 : 2 ^ (i % 32) ≤ 2 ^ 31 := Nat.pow_le_pow_right (by decide) (by omega)
  have h1 := val_set o (i / 32) (atw o (i / 32) + 2 ^ (i % 32)) hl
  refine ⟨?_, by omega⟩
  have e : 4294967296 ^ (i / 32) * 2 ^ (i % 32) = 2 ^ i := by rw [pow32, ← Nat.pow_add]; congr 1; omega
  rw [Nat.mul_add, e] at h1
  rw [mod_next, hb, ← h]
  simp only [Bool.toNat_true, Nat.mul_one]
  omega
theorem bit_off {o : List Nat} {i X : Nat} (h : val o = X % 2 ^ i) (hb : X.testBit i = false) : val o = X % 2 ^ (i + 1) := by
  rw [mod_next, hb, ← h]; simp
theorem lt_of_bit {v p : Nat} (h : v < 2 ^ (p + 1)) (hb : v.testBit p = false) : v < 2 ^ p := by
  have h1 := mod_next v p
  rw [hb, Nat.mod_eq_of_lt h] at h1
  have h2 : v % 2 ^ p < 2 ^ p := Nat.mod_lt _ (Nat.two_pow_pos p)
  simp at h1
  omega
/-- The bits of a shifted number. -/
theorem up_bit (v n i : Nat) : (v * 2 ^ n).testBit i = (decide (n ≤ i) && v.testBit (i - n)) := by
  rw [Nat.mul_comm, Nat.testBit_two_pow_mul]
theorem down_bit (v n i : Nat) : (v / 2 ^ n).testBit i = v.testBit (n + i) := by rw [Nat.testBit_div_two_pow, Nat.add_comm]
/-! What the machine's words tell. -/
theorem or_u32_nat (x y : Nat) (hx : x < 4294967296) (hy : y < 4294967296) : bits .or .u32 (x : Int) (y : Int) = ((x ||| y : Nat) : Int) := by
  have h1 : (BitVec.ofInt 32 (x : Int)).toNat = x := by rw [BitVec.ofInt_natCast, BitVec.toNat_ofNat]; exact Nat.mod_eq_of_lt (by omega)
  have h2 : (BitVec.ofInt 32 (y : Int)).toNat = y := by rw [BitVec.ofInt_natCast, BitVec.toNat_ofNat]; exact Nat.mod_eq_of_lt (by omega)
  have h3 : x ||| y < 2 ^ 32 := Nat.or_lt_two_pow (by omega) (by omega)
  show IntKind.u32.wrap ((BitVec.ofInt 32 (x : Int) ||| BitVec.ofInt 32 (y : Int)).toNat : Int) = _
  rw [BitVec.toNat_or, h1, h2, wrapu32]
  omega
theorem div_pow_int (x r : Nat) : (x : Int) / 2 ^ r = ((x / 2 ^ r : Nat) : Int) := by rw [Int.natCast_ediv, Int.natCast_pow]; rfl
theorem mul_pow_int (x r : Nat) : (x : Int) * 2 ^ r = ((x * 2 ^ r : Nat) : Int) := by rw [Int.natCast_mul, Int.natCast_pow]; rfl
theorem div_pow_lt {x : Nat} (h : x < 4294967296) (r : Nat) : x / 2 ^ r < 4294967296 := Nat.lt_of_le_of_lt (Nat.div_le_self _ _) h
theorem bit_word {x : Nat} (h : x < 4294967296) (r : Nat) : (bits BinOp.and IntKind.u32 ((x : Int) / 2 ^ r) 1 == 1) = x.testBit r := by
  rw [div_pow_int, show (1 : Int) = ((1 : Nat) : Int) from rfl, and_u32_nat _ _ (div_pow_lt h r) (by omega), Nat.and_one_is_mod, Nat.testBit_eq_decide_div_mod_eq]
  generalize x / 2 ^ r % 2 = y
  rw [Bool.eq_iff_iff, beq_iff_eq, decide_eq_true_eq]
  omega
end Go.Proofs.Ythblmpkdcahmkaa

/-
  Plain mathematics: products and powers of numbers that are lists of words. Nothing of the program.
-/
namespace Go.Proofs.Ythblmpkdcahmkaa

theorem atw_set_ne {l : List Nat} {k j y : Nat} (h : j ≠ k) : atw (l.set k y) j = atw l j := by
  unfold atw
  rw [List.getD_eq_getElem?_getD, List.getD_eq_getElem?_getD, List.getElem?_set_ne (Ne.symm h)]
theorem atw_zeros (n k : Nat) : atw (List.replicate n 0) k = 0 := by
  unfold atw
  rw [List.getD_eq_getElem?_getD, List.getElem?_replicate]
  split <;> rfl

/-- A product, row by row: what the first i words of a make of b stands in P; nothing stands from place i + m on. -/
def RowAt (A B P : List Nat) (m i : Nat) : Prop := val P = low A i * val B ∧ ∀ k, i + m ≤ k → atw P k = 0
/-- Within a row: j words of b are done, and c is carried. -/
def CellAt (A B P : List Nat) (m i j c : Nat) : Prop := val P + 4294967296 ^ (i + j) * c = low A i * val B + 4294967296 ^ i * (atw A i * low B j) ∧ ∀ k, i + m ≤ k → atw P k = 0
theorem row_start (A B : List Nat) (n m : Nat) : RowAt A B (List.replicate n 0) m 0 := ⟨by rw [val_zeros, low_zero, Nat.zero_mul], fun k _ => atw_zeros n k⟩
theorem cell_start {A B P : List Nat} {m i : Nat} (h : RowAt A B P m i) : CellAt A B P m i 0 0 := ⟨by rw [h.1, low_zero]; simp, h.2⟩
theorem cell_step {A B P : List Nat} {m i j c lo hi : Nat} (h : CellAt A B P m i j c) (hj : j < m) (hP : i + j < P.length) (hs : lo + 4294967296 * hi = atw A i * atw B j + (atw P (i + j) + c)) : CellAt A B (P.set (i + j) lo) m i (j + 1) hi := by
  refine ⟨?_, fun k hk => by rw [atw_set_ne (by omega)]; exact h.2 k hk⟩
  have h1 := val_set P (i + j) lo hP
  have h2 := h.1
  have h3 : 4294967296 ^ (i + j) * lo + 4294967296 ^ (i + j) * (4294967296 * hi) = 4294967296 ^ (i + j) * (atw A i * atw B j) + (4294967296 ^ (i + j) * atw P (i + j) + 4294967296 ^ (i + j) * c) := by
    rw [← Nat.mul_add, hs, Nat.mul_add, Nat.mul_add]
  have h4 : 4294967296 ^ (i + (j + 1)) * hi = 4294967296 ^ (i + j) * (4294967296 * hi) := by rw [← Nat.add_assoc, Nat.pow_succ, Nat.mul_assoc]
  have h5 : 4294967296 ^ i * (atw A i * low B (j + 1)) = 4294967296 ^ i * (atw A i * low B j) + 4294967296 ^ (i + j) * (atw A i * atw B j) := by
    rw [low_succ, Nat.mul_add, Nat.mul_add, Nat.pow_add, Nat.mul_left_comm (atw A i), ← Nat.mul_assoc (4294967296 ^ i) (4294967296 ^ j)]
  rw [h4, h5]
  generalize val (P.set (i + j) lo) = a1 at *
  generalize 4294967296 ^ (i + j) * lo = a2 at *
  generalize 4294967296 ^ (i + j) * (4294967296 * hi) = a3 at *
  generalize 4294967296 ^ (i + j) * (atw A i * atw B j) = a4 at *
  generalize 4294967296 ^ (i + j) * atw P (i + j) = a5 at *
  generalize 4294967296 ^ (i + j) * c = a6 at *
  generalize low A i * val B = a7 at *
  generalize 4294967296 ^ i * (atw A i * low B j) = a8 at *
  omega
theorem row_next {A B P : List Nat} {m i c : Nat} (h : CellAt A B P m i m c) (hB : B.length = m) (hP : i + m < P.length) : RowAt A B (P.set (i + m) c) m (i + 1) := by
  refine ⟨?_, fun k hk => by rw [atw_set_ne (by omega)]; exact h.2 k (by omega)⟩
  have h1 := val_set P (i + m) c hP
  have h2 := h.1
  rw [h.2 (i + m) (Nat.le_refl _), Nat.mul_zero, Nat.add_zero] at h1
  rw [low_ge (l := B) (i := m) (by omega)] at h2
  rw [h1, h2, low_succ, Nat.add_mul, Nat.mul_assoc]
theorem row_end {A B P : List Nat} {m i : Nat} (h : RowAt A B P m i) (hA : A.length = i) : val P = val A * val B := by rw [h.1, low_ge (by omega)]
/-- What two words make of one another, with two added, is no longer than two words. -/
theorem mul_room {x y u c : Nat} (hx : x < 4294967296) (hy : y < 4294967296) (hu : u < 4294967296) (hc : c < 4294967296) : x * y ≤ 18446744065119617025 ∧ x * y + (u + c) < 18446744073709551616 := by
  have h1 : x * y ≤ 4294967295 * 4294967295 := Nat.mul_le_mul (by omega) (by omega)
  omega

/-- A number by a word, word by word. -/
theorem word_step {l o : List Nat} {k x c hi lo : Nat} {d : Nat} (ho : o.length = k) (h : val o + 4294967296 ^ k * c = low l k * x + d) (hs : lo + 4294967296 * hi = atw l k * x + c) :
    val (o ++ [lo]) + 4294967296 ^ (k + 1) * hi = low l (k + 1) * x + d := by
  have h3 : 4294967296 ^ k * lo + 4294967296 ^ k * (4294967296 * hi) = 4294967296 ^ k * (atw l k * x) + 4294967296 ^ k * c := by rw [← Nat.mul_add, hs, Nat.mul_add]
  have h4 : 4294967296 ^ (k + 1) * hi = 4294967296 ^ k * (4294967296 * hi) := by rw [Nat.pow_succ, Nat.mul_assoc]
  rw [val_snoc, ho, h4, low_succ, Nat.add_mul, Nat.mul_assoc]
  generalize 4294967296 ^ k * lo = a2 at *
  generalize 4294967296 ^ k * (4294967296 * hi) = a3 at *
  generalize 4294967296 ^ k * (atw l k * x) = a4 at *
  generalize 4294967296 ^ k * c = a6 at *
  generalize low l k * x = a7 at *
  omega

/-- The product of the values of lists. -/
def prods : List (List Nat) → Nat
  | [] => 1
  | l :: r => val l * prods r
theorem prods_append (a b : List (List Nat)) : prods (a ++ b) = prods a * prods b := by
  induction a with
  | nil => simp [prods]
  | cons l r ih => simp [prods, ih, Nat.mul_assoc]
theorem prods_take (ls : List (List Nat)) (k : Nat) (hk : k < ls.length) : prods (ls.take (k + 1)) = prods (ls.take k) * val (ls.getD k []) := by
  rw [List.take_succ_eq_append_getElem hk, prods_append, List.getD_eq_getElem?_getD, List.getElem?_eq_getElem hk]; simp [prods]
theorem words_append (a b : List (List Nat)) : words (a ++ b) = words a + words b := by
  induction a with
  | nil => simp [words]
  | cons l r ih => simp [words, ih]; omega
theorem prods_le {ls : List (List Nat)} (h : ∀ l ∈ ls, okw l) : prods ls ≤ 4294967296 ^ words ls := by
  induction ls with
  | nil => simp [prods, words]
  | cons l r ih =>
    have h1 := val_lt (h l (by simp))
    have h3 := ih (fun x hx => h x (by simp [hx]))
    simp only [prods, words, Nat.pow_add]
    exact Nat.mul_le_mul (by omega) h3
theorem prods_length {ls : List (List Nat)} (h : ∀ l ∈ ls, okw l) : (dg (prods ls)).length ≤ words ls + 1 := by
  apply dg_length_le
  have h1 := prods_le h
  have h2 := pow_pos32 (words ls)
  rw [pow_succ32]
  omega
/-- How long a product is. -/
theorem dg_mul_length (a b : Nat) : (dg (a * b)).length ≤ (dg a).length + (dg b).length := by
  apply dg_length_le
  rw [Nat.pow_add]
  have h1 := lt_dg_length a
  have h2 := lt_dg_length b
  exact Nat.mul_lt_mul'' h1 h2
theorem dg_add_length (a b : Nat) : (dg (a + b)).length ≤ (dg a).length + (dg b).length + 1 := by
  apply dg_length_le
  rw [pow_succ32, Nat.pow_add]
  have h1 := lt_dg_length a
  have h2 := lt_dg_length b
  have h3 := pow_pos32 (dg a).length
  have h4 := pow_pos32 (dg b).length
  generalize 4294967296 ^ (dg a).length = p at *
  generalize 4294967296 ^ (dg b).length = q at *
  have h5 : p ≤ p * q := Nat.le_mul_of_pos_right _ h4
  have h6 : q ≤ p * q := Nat.le_mul_of_pos_left _ h3
  omega

/-! Powers. -/
/-- Whether there is a power; which. -/
def powB (v : Nat) (e : Int) : Bool := decide (0 ≤ e) && (decide (blen v < 2) || decide (e ≤ ((65536 / blen v : Nat) : Int)))
def powL (v : Nat) (e : Int) : List Nat := if powB v e = true then dg (v ^ e.toNat) else []
theorem powB_neg {v : Nat} {e : Int} (h : e < 0) : powB v e = false := by unfold powB; rw [decide_eq_false (by omega)]; rfl
theorem powB_long {v : Nat} {e : Int} (h1 : 2 ≤ blen v) (h : ((65536 / blen v : Nat) : Int) < e) : powB v e = false := by
  unfold powB; rw [decide_eq_false (p := blen v < 2) (by omega), decide_eq_false (p := e ≤ _) (by omega)]; simp
theorem powB_yes {v E : Nat} (h : blen v < 2 ∨ E ≤ 65536 / blen v) : powB v (E : Int) = true := by
  unfold powB
  rw [decide_eq_true (p := (0 : Int) ≤ E) (by omega)]
  rcases h with h | h
  · rw [decide_eq_true h]; rfl
  · rw [decide_eq_true (p := (E : Int) ≤ _) (by omega)]; simp
theorem powL_no {v : Nat} {e : Int} (h : powB v e = false) : powL v e = [] := by unfold powL; rw [h]; rfl
theorem powL_yes {v E : Nat} (h : powB v (E : Int) = true) : powL v (E : Int) = dg (v ^ E) := by unfold powL; rw [if_pos h, Int.toNat_natCast]
theorem small_pow {v : Nat} (h : blen v < 2) : v ≤ 1 := by
  have h1 := lt_blen v
  have h2 : 2 ^ blen v ≤ 2 ^ 1 := Nat.pow_le_pow_right (by decide) (by omega)
  omega
/-- Powers on the way to one that there is are not too long: M is 65536. -/
theorem pow_room {v E e M : Nat} (hM : M = 65536) (h : blen v < 2 ∨ E ≤ 65536 / blen v) (he : e ≤ E) : (dg (v ^ e)).length ≤ 2049 := by
  rcases h with h | h
  · have h1 := small_pow h
    have h2 : v ^ e ≤ 1 := by rw [← Nat.one_pow e]; exact Nat.pow_le_pow_left h1 e
    exact Nat.le_trans (dg_length_mono h2) (by rw [dg_word (by decide) (by decide)]; decide)
  · have h1 : v ^ e ≤ 2 ^ (blen v * e) := by rw [Nat.pow_mul]; exact Nat.pow_le_pow_left (Nat.le_of_lt (lt_blen v)) e
    have h2 : blen v * e ≤ M := by
      rw [hM]
      exact Nat.le_trans (Nat.mul_le_mul_left _ (Nat.le_trans he h)) (Nat.mul_div_le _ _)
    have h3 : v ^ e < 2 ^ (M + 1) := Nat.lt_of_le_of_lt h1 (Nat.lt_of_le_of_lt (Nat.pow_le_pow_right (by decide) h2) (Nat.pow_lt_pow_right (by decide) (by omega)))
    have h4 := blen_le.2 h3
    rw [dg_len_blen]
    omega
/-- One bit of the exponent more. -/
theorem pow_even {v E k : Nat} (h : E / 2 ^ k % 2 = 0) : v ^ (E / 2 ^ (k + 1)) * v ^ (E / 2 ^ (k + 1)) = v ^ (E / 2 ^ k) := by
  rw [← Nat.pow_add, Nat.pow_succ, ← Nat.div_div_eq_div_mul]
  congr 1
  omega
theorem pow_odd {v E k : Nat} (h : E / 2 ^ k % 2 = 1) : v ^ (E / 2 ^ (k + 1)) * v ^ (E / 2 ^ (k + 1)) * v = v ^ (E / 2 ^ k) := by
  rw [← Nat.pow_add, ← Nat.pow_succ, Nat.pow_succ 2, ← Nat.div_div_eq_div_mul]
  congr 1
  omega
theorem pow_min {v e : Nat} (h : v ≤ 1) : v ^ (min e 1) = v ^ e := by
  rcases Nat.eq_zero_or_pos e with h0 | h0
  · subst h0; rfl
  · rw [Nat.min_eq_right h0, Nat.pow_one]
    rcases Nat.eq_zero_or_pos v with h1 | h1
    · subst h1; rw [Nat.zero_pow h0]
    · rw [show v = 1 by omega, Nat.one_pow]
end Go.Proofs.Ythblmpkdcahmkaa

/-
  Plain mathematics: quotients of numbers that are lists of words, by a guess from their highest words, and bit by bit. Nothing of the program.
-/
namespace Go.Proofs.Ythblmpkdcahmkaa

/-- Nothing stands from place t on. -/
def Flat (P : List Nat) (t : Nat) : Prop := ∀ k, t ≤ k → atw P k = 0
theorem val_noughts : ∀ {l : List Nat}, (∀ k, atw l k = 0) → val l = 0
  | [], _ => rfl
  | x :: l, h => by
    have h0 : x = 0 := h 0
    have h1 := val_noughts (l := l) (fun k => h (k + 1))
    rw [val, h0, h1]
theorem top_flat {P : List Nat} {t : Nat} (h : Flat P t) : top P t = 0 := val_noughts (fun k => by rw [atw_drop]; exact h _ (by omega))
theorem flat_lt {P : List Nat} {t : Nat} (ho : okw P) (h : Flat P t) : val P < 4294967296 ^ t := by
  have h1 := low_lt ho t
  have h2 := val_split P t
  rw [top_flat h, Nat.mul_zero] at h2
  omega
theorem top_zero_of_lt {P : List Nat} {t : Nat} (h : val P < 4294967296 ^ t) : top P t = 0 := by
  have h2 := val_split P t
  rcases Nat.eq_zero_or_pos (top P t) with h3 | h3
  · exact h3
  · have h4 : 4294967296 ^ t * 1 ≤ 4294967296 ^ t * top P t := Nat.mul_le_mul_left _ h3
    omega
theorem flat_of_lt {P : List Nat} {t : Nat} (h : val P < 4294967296 ^ t) : Flat P t := fun k hk => by
  have h1 := top_zero_of_lt (P := P) (t := k) (Nat.lt_of_lt_of_le h (Nat.pow_le_pow_right (by decide) hk))
  rw [top_succ] at h1
  omega
theorem flat_set {P : List Nat} {t k y : Nat} (h : Flat P t) (hk : k < t) : Flat (P.set k y) t := fun j hj => by
  rw [atw_set_ne (by omega)]; exact h j hj
theorem flat_mono {P : List Nat} {t s : Nat} (h : Flat P t) (hs : t ≤ s) : Flat P s := fun j hj => h j (by omega)

/-- q times D taken away from P0 at place i, j words of it done: c is carried, b borrowed. -/
def TakeAt (P0 D P : List Nat) (i q j c b : Nat) : Prop := val P + 4294967296 ^ i * (q * low D j) = val P0 + 4294967296 ^ (i + j) * (c + b)
theorem take_start (P0 D : List Nat) (i q : Nat) : TakeAt P0 D P0 i q 0 0 0 := by unfold TakeAt; rw [low_zero]; simp
theorem take_word {x y k lo b r b' u v : Nat} (h1 : x + 4294967296 ^ k * u = y + 4294967296 ^ k * r) (hs : u + 4294967296 * b' = lo + b + r) (hv : v = lo + b) :
    x + 4294967296 ^ k * v = y + 4294967296 ^ (k + 1) * b' := by
  subst hv
  have h3 : 4294967296 ^ k * u + 4294967296 ^ k * (4294967296 * b') = 4294967296 ^ k * (lo + b) + 4294967296 ^ k * r := by rw [← Nat.mul_add, hs, Nat.mul_add]
  have h4 : 4294967296 ^ (k + 1) * b' = 4294967296 ^ k * (4294967296 * b') := by rw [Nat.pow_succ, Nat.mul_assoc]
  rw [h4]
  generalize 4294967296 ^ k * u = a1 at *
  generalize 4294967296 ^ k * r = a2 at *
  generalize 4294967296 ^ k * (4294967296 * b') = a3 at *
  generalize 4294967296 ^ k * (lo + b) = a4 at *
  omega
theorem take_step {P0 D P : List Nat} {i q j c b lo hi r b' : Nat} (h : TakeAt P0 D P i q j c b) (hP : i + j < P.length) (hm : lo + 4294967296 * hi = atw D j * q + c) (hs : atw P (i + j) + 4294967296 * b' = lo + b + r) :
    TakeAt P0 D (P.set (i + j) r) i q (j + 1) hi b' := by
  unfold TakeAt at *
  have h1 := take_word (val_set P (i + j) r hP) hs rfl
  have h5 : 4294967296 ^ i * (q * low D (j + 1)) = 4294967296 ^ i * (q * low D j) + 4294967296 ^ (i + j) * (atw D j * q) := by
    rw [low_succ, Nat.mul_add, Nat.mul_add, Nat.pow_add, Nat.mul_left_comm q, Nat.mul_comm q (atw D j), ← Nat.mul_assoc (4294967296 ^ i) (4294967296 ^ j)]
  have h6 : 4294967296 ^ (i + j) * lo + 4294967296 ^ (i + j) * (4294967296 * hi) = 4294967296 ^ (i + j) * (atw D j * q) + 4294967296 ^ (i + j) * c := by rw [← Nat.mul_add, hm, Nat.mul_add]
  have h7 : 4294967296 ^ (i + (j + 1)) * (hi + b') = 4294967296 ^ (i + j) * (4294967296 * hi) + 4294967296 ^ (i + j + 1) * b' := by
    rw [← Nat.add_assoc, Nat.mul_add, Nat.pow_succ, Nat.mul_assoc]
  have h8 : 4294967296 ^ (i + j) * (lo + b) = 4294967296 ^ (i + j) * lo + 4294967296 ^ (i + j) * b := Nat.mul_add ..
  have h9 : 4294967296 ^ (i + j) * (c + b) = 4294967296 ^ (i + j) * c + 4294967296 ^ (i + j) * b := Nat.mul_add ..
  rw [h5, h7]
  rw [h8] at h1
  rw [h9] at h
  generalize val (P.set (i + j) r) = a1 at *
  generalize 4294967296 ^ (i + j) * lo = a2 at *
  generalize 4294967296 ^ (i + j) * (4294967296 * hi) = a3 at *
  generalize 4294967296 ^ (i + j) * (atw D j * q) = a4 at *
  generalize 4294967296 ^ (i + j) * b = a5 at *
  generalize 4294967296 ^ (i + j) * c = a6 at *
  generalize 4294967296 ^ (i + j + 1) * b' = a7 at *
  generalize 4294967296 ^ i * (q * low D j) = a8 at *
  omega
theorem take_end {P0 D P : List Nat} {i q m c b r b' : Nat} (h : TakeAt P0 D P i q m c b) (hD : D.length = m) (hP : i + m < P.length) (hs : atw P (i + m) + 4294967296 * b' = c + b + r) :
    val (P.set (i + m) r) + 4294967296 ^ i * (q * val D) = val P0 + 4294967296 ^ (i + m + 1) * b' := by
  unfold TakeAt at h
  rw [low_ge (by omega)] at h
  have h1 := take_word (val_set P (i + m) r hP) hs rfl
  generalize val (P.set (i + m) r) = a1 at *
  generalize 4294967296 ^ (i + m) * (c + b) = a2 at *
  omega

/-- D added to P0 at place i, j words of it done: c is carried. -/
def GiveAt (P0 D P : List Nat) (i j c : Nat) : Prop := val P + 4294967296 ^ (i + j) * c = val P0 + 4294967296 ^ i * low D j
theorem give_start (P0 D : List Nat) (i : Nat) : GiveAt P0 D P0 i 0 0 := by unfold GiveAt; rw [low_zero]; simp
theorem give_word {x y k r z c u d : Nat} (h1 : x + 4294967296 ^ k * u = y + 4294967296 ^ k * r) (hs : r + 4294967296 * z = c + (u + d)) :
    x + 4294967296 ^ (k + 1) * z = y + (4294967296 ^ k * c + 4294967296 ^ k * d) := by
  have h3 : 4294967296 ^ k * r + 4294967296 ^ k * (4294967296 * z) = 4294967296 ^ k * c + (4294967296 ^ k * u + 4294967296 ^ k * d) := by rw [← Nat.mul_add, hs, Nat.mul_add, Nat.mul_add]
  have h4 : 4294967296 ^ (k + 1) * z = 4294967296 ^ k * (4294967296 * z) := by rw [Nat.pow_succ, Nat.mul_assoc]
  rw [h4]
  generalize 4294967296 ^ k * u = a1 at *
  generalize 4294967296 ^ k * r = a2 at *
  generalize 4294967296 ^ k * (4294967296 * z) = a3 at *
  generalize 4294967296 ^ k * c = a4 at *
  generalize 4294967296 ^ k * d = a5 at *
  omega
theorem give_step {P0 D P : List Nat} {i j c r z : Nat} (h : GiveAt P0 D P i j c) (hP : i + j < P.length) (hs : r + 4294967296 * z = c + (atw P (i + j) + atw D j)) : GiveAt P0 D (P.set (i + j) r) i (j + 1) z := by
  unfold GiveAt at *
  have h1 := give_word (val_set P (i + j) r hP) hs
  have h5 : 4294967296 ^ i * low D (j + 1) = 4294967296 ^ i * low D j + 4294967296 ^ (i + j) * atw D j := by rw [low_succ, Nat.mul_add, Nat.pow_add, Nat.mul_assoc]
  rw [h5, ← Nat.add_assoc i j 1]
  generalize val (P.set (i + j) r) = a1 at *
  generalize 4294967296 ^ (i + j + 1) * z = a2 at *
  generalize 4294967296 ^ (i + j) * c = a3 at *
  generalize 4294967296 ^ (i + j) * atw D j = a4 at *
  generalize 4294967296 ^ i * low D j = a5 at *
  omega
theorem give_end {P0 D P : List Nat} {i m c r z : Nat} (h : GiveAt P0 D P i m c) (hD : D.length = m) (hP : i + m < P.length) (hs : r + 4294967296 * z = c + (atw P (i + m) + 0)) :
    val (P.set (i + m) r) + 4294967296 ^ (i + m + 1) * z = val P0 + 4294967296 ^ i * val D := by
  unfold GiveAt at h
  rw [low_ge (by omega)] at h
  have h1 := give_word (val_set P (i + m) r hP) hs
  rw [Nat.mul_zero, Nat.add_zero] at h1
  generalize val (P.set (i + m) r) = a1 at *
  generalize 4294967296 ^ (i + m + 1) * z = a2 at *
  generalize 4294967296 ^ (i + m) * c = a3 at *
  omega

/-- The guess at a word of a quotient, from the two highest words of what is divided, and of the divisor. -/
def guessOf (u1 u0 v1 v0 : Nat) : Nat :=
  if v1 ≤ u1 then 4294967295
  else if (u1 * 4294967296 + u0) % v1 < (u1 * 4294967296 + u0) / v1 * v0 / 4294967296 then (u1 * 4294967296 + u0) / v1 - 1
  else (u1 * 4294967296 + u0) / v1
theorem guess_num {u1 u0 v1 v0 p dl wl D W : Nat} (hv1 : 2147483648 ≤ v1) (hv0 : v0 < 4294967296) (hu0 : u0 < 4294967296) (hvw : v1 < 4294967296) (hdl : dl < p) (hwl : wl < 4294967296 * p) (hD : D = v1 * (4294967296 * p) + (v0 * p + dl)) (hW : W = (u1 * 4294967296 + u0) * (4294967296 * p) + wl) (hlt : W < 4294967296 * D) :
    W < (guessOf u1 u0 v1 v0 + 1) * D ∧ guessOf u1 u0 v1 v0 * D ≤ W + D ∧ guessOf u1 u0 v1 v0 < 4294967296 := by
  obtain ⟨X, hX⟩ : ∃ X, X = 4294967296 * p := ⟨_, rfl⟩
  rw [← hX] at hwl hD hW
  have a1 : v0 * p + p ≤ X := by
    have h := Nat.mul_le_mul_right p (show v0 + 1 ≤ 4294967296 by omega)
    rw [Nat.add_mul, Nat.one_mul] at h
    omega
  have a2 : 2147483648 * X ≤ v1 * X := Nat.mul_le_mul_right _ hv1
  unfold guessOf
  split
  · rename_i hle
    have a3 : v1 * X ≤ u1 * X := Nat.mul_le_mul_right _ hle
    have a4 : (u1 * 4294967296 + u0) * X = 4294967296 * (u1 * X) + u0 * X := by rw [Nat.add_mul, Nat.mul_comm u1, Nat.mul_assoc]
    generalize u0 * X = t0 at *
    generalize u1 * X = t1 at *
    generalize v1 * X = t2 at *
    generalize v0 * p = t3 at *
    refine ⟨by omega, by omega, by omega⟩
  · rename_i hle
    obtain ⟨U, hU⟩ : ∃ U, U = u1 * 4294967296 + u0 := ⟨_, rfl⟩
    rw [← hU] at hW ⊢
    have hUv : U < v1 * 4294967296 := by omega
    have hq : U / v1 < 4294967296 := Nat.div_lt_of_lt_mul hUv
    have hr : U % v1 < v1 := Nat.mod_lt _ (by omega)
    have hdm := Nat.div_add_mod U v1
    generalize U / v1 = q at *
    generalize U % v1 = r at *
    have e1 : q * D = q * v1 * X + q * (v0 * p + dl) := by rw [hD, Nat.mul_add, Nat.mul_assoc]
    have e2 : U * X = q * v1 * X + r * X := by rw [← hdm, Nat.add_mul, Nat.mul_comm v1 q]
    have e3 : q * X ≤ 4294967295 * X := Nat.mul_le_mul_right _ (by omega)
    have e4 : r * X + X ≤ v1 * X := by have := Nat.mul_le_mul_right X (show r + 1 ≤ v1 by omega); rwa [Nat.add_mul, Nat.one_mul] at this
    have e5 : q * (v0 * p + dl) ≤ q * X := Nat.mul_le_mul_left _ (by omega)
    have e6 : (q + 1) * D = q * D + D := by rw [Nat.add_mul, Nat.one_mul]
    split
    · rename_i hgt
      have hq1 : 1 ≤ q := by
        rcases Nat.eq_zero_or_pos q with h0 | h0
        · subst h0; simp at hgt
        · exact h0
      have f1 : (r + 1) * 4294967296 ≤ q * v0 := by
        have h1 : r + 1 ≤ q * v0 / 4294967296 := hgt
        have h2 := Nat.div_mul_le_self (q * v0) 4294967296
        have h3 := Nat.mul_le_mul_right 4294967296 h1
        exact Nat.le_trans h3 h2
      have f2 : (r + 1) * X ≤ q * (v0 * p + dl) := by
        have h1 := Nat.mul_le_mul_right p f1
        have h2 : q * v0 * p ≤ q * (v0 * p + dl) := by rw [Nat.mul_assoc]; exact Nat.mul_le_mul_left _ (by omega)
        rw [hX, ← Nat.mul_assoc]
        omega
      rw [Nat.add_mul, Nat.one_mul] at f2
      have f3 : (q - 1 + 1) * D = q * D := by rw [Nat.sub_add_cancel hq1]
      have f4 : (q - 1) * D + D = q * D := by rw [← f3, Nat.add_mul, Nat.one_mul]
      rw [f3]
      generalize (q - 1) * D = y0 at *
      generalize q * D = y1 at *
      generalize q * v1 * X = y2 at *
      generalize q * (v0 * p + dl) = y3 at *
      generalize U * X = y4 at *
      generalize r * X = y5 at *
      generalize q * X = y6 at *
      generalize v1 * X = y7 at *
      generalize v0 * p = y8 at *
      refine ⟨by omega, by omega, by omega⟩
    · rename_i hgt
      have f1 : q * v0 < (r + 1) * 4294967296 := by
        have h1 : q * v0 / 4294967296 < r + 1 := by omega
        exact (Nat.div_lt_iff_lt_mul (by decide)).1 h1
      have f2 : q * (v0 * p + dl) ≤ (r + 2) * X := by
        have h1 : q * (v0 * p + dl) ≤ q * (v0 * p + p) := Nat.mul_le_mul_left _ (by omega)
        have h2 : q * (v0 * p + p) = (q * v0 + q) * p := by rw [Nat.mul_add, Nat.add_mul, Nat.mul_assoc]
        have h3 : (q * v0 + q) * p ≤ ((r + 2) * 4294967296) * p := Nat.mul_le_mul_right _ (by omega)
        rw [hX, ← Nat.mul_assoc]
        omega
      rw [Nat.add_mul] at f2
      generalize (q + 1) * D = y0 at *
      generalize q * D = y1 at *
      generalize q * v1 * X = y2 at *
      generalize q * (v0 * p + dl) = y3 at *
      generalize U * X = y4 at *
      generalize r * X = y5 at *
      generalize q * X = y6 at *
      generalize v1 * X = y7 at *
      generalize v0 * p = y8 at *
      refine ⟨by omega, by omega, by omega⟩
/-- The guess, from lists: what stands in P from place i on, by D. -/
theorem guess_list {P D : List Nat} {i m : Nat} (hP : okw P) (hD : okw D) (hm : D.length = m + 2) (hF : Flat P (i + m + 3)) (hv : 2147483648 ≤ atw D (m + 1)) (hlt : val P < 4294967296 ^ (i + 1) * val D) :
    top P i < (guessOf (atw P (i + m + 2)) (atw P (i + m + 1)) (atw D (m + 1)) (atw D m) + 1) * val D ∧ guessOf (atw P (i + m + 2)) (atw P (i + m + 1)) (atw D (m + 1)) (atw D m) * val D ≤ top P i + val D ∧ guessOf (atw P (i + m + 2)) (atw P (i + m + 1)) (atw D (m + 1)) (atw D m) < 4294967296 := by
  refine guess_num (p := 4294967296 ^ m) (dl := low D m) (wl := low (P.drop i) (m + 1)) hv (atw_lt hD m) (atw_lt hP _) (atw_lt hD _) (low_lt hD m) (by rw [← pow_succ32]; exact low_lt (okw_drop hP i) _) ?_ ?_ ?_
  · have h1 := val_split D m
    rw [top_succ, top_succ, top_ge (l := D) (i := m + 1 + 1) (by omega)] at h1
    rw [h1, ← pow_succ32, Nat.pow_succ]
    generalize 4294967296 ^ m = X
    rw [Nat.mul_add, Nat.mul_zero, Nat.add_zero, Nat.mul_comm X (atw D m), ← Nat.mul_assoc X, Nat.mul_comm (X * 4294967296)]
    omega
  · have h1 := val_split (P.drop i) (m + 1)
    have h2 : top (P.drop i) (m + 3) = 0 := by
      have : top (P.drop i) (m + 3) = top P (i + m + 3) := by unfold top; rw [List.drop_drop, Nat.add_assoc]
      rw [this, top_flat hF]
    rw [top_succ, top_succ, h2, atw_drop, atw_drop] at h1
    show val (P.drop i) = _
    rw [h1, ← pow_succ32, ← Nat.add_assoc, show i + (m + 1 + 1) = i + m + 2 by omega]
    generalize 4294967296 ^ (m + 1) = X
    rw [Nat.mul_comm X]
    have e : atw P (i + m + 1) + 4294967296 * (atw P (i + m + 2) + 4294967296 * 0) = atw P (i + m + 2) * 4294967296 + atw P (i + m + 1) := by omega
    rw [e]
    omega
  · have h1 := val_split P i
    rcases Nat.lt_or_ge (top P i) (4294967296 * val D) with h2 | h2
    · exact h2
    · have h3 := Nat.mul_le_mul_left (4294967296 ^ i) h2
      rw [← Nat.mul_assoc, Nat.mul_comm _ 4294967296, ← pow_succ32] at h3
      generalize 4294967296 ^ (i + 1) * val D = y1 at *
      generalize 4294967296 ^ i * top P i = y2 at *
      omega

/-- One word of the quotient was taken away: what P held, P' and q times D at place i hold; P' is below D at place i. -/
def Taken (P D P' : List Nat) (i q : Nat) : Prop := val P' + 4294967296 ^ i * (q * val D) = val P ∧ val P' < 4294967296 ^ i * val D
theorem low_top_lt {P : List Nat} (hP : okw P) {i x : Nat} (h : top P i < x) : val P < 4294967296 ^ i * x := by
  have h1 := val_split P i
  have h2 := low_lt hP i
  have h3 := Nat.mul_le_mul_left (4294967296 ^ i) (show top P i + 1 ≤ x from h)
  rw [Nat.mul_add, Nat.mul_one] at h3
  generalize 4294967296 ^ i * top P i = y1 at *
  generalize 4294967296 ^ i * x = y2 at *
  generalize 4294967296 ^ i = y3 at *
  omega
theorem taken_yes {P D P1 : List Nat} {i m g : Nat} (hP : okw P) (hlow : top P i < (g + 1) * val D) (h1 : val P1 + 4294967296 ^ i * (g * val D) = val P + 4294967296 ^ (i + m + 1) * 0) : Taken P D P1 i g := by
  rw [Nat.mul_zero, Nat.add_zero] at h1
  have h2 := low_top_lt hP hlow
  rw [Nat.add_mul, Nat.one_mul, Nat.mul_add] at h2
  unfold Taken
  generalize 4294967296 ^ i * (g * val D) = y1 at *
  generalize 4294967296 ^ i * val D = y2 at *
  exact ⟨h1, by omega⟩
theorem taken_back {P D P1 P2 : List Nat} {i m g c : Nat} (hP : okw P) (hP1 : val P1 < 4294967296 ^ (i + m + 1)) (hP2 : val P2 < 4294967296 ^ (i + m + 1)) (hhigh : g * val D ≤ top P i + val D) (hc : c ≤ 1)
    (h1 : val P1 + 4294967296 ^ i * (g * val D) = val P + 4294967296 ^ (i + m + 1) * 1) (h2 : val P2 + 4294967296 ^ (i + m + 1) * c = val P1 + 4294967296 ^ i * val D) : 1 ≤ g ∧ Taken P D P2 i (g - 1) := by
  have h3 := val_split P i
  have hgt : top P i < g * val D := by
    rcases Nat.lt_or_ge (top P i) (g * val D) with h | h
    · exact h
    · have h4 := Nat.mul_le_mul_left (4294967296 ^ i) h
      omega
  have hg : 1 ≤ g := by
    rcases Nat.eq_zero_or_pos g with h | h
    · subst h; simp at hgt
    · exact h
  have e1 : (g - 1) * val D + val D = g * val D := by
    have : (g - 1 + 1) * val D = g * val D := by rw [Nat.sub_add_cancel hg]
    rwa [Nat.add_mul, Nat.one_mul] at this
  have e2 : 4294967296 ^ i * ((g - 1) * val D) + 4294967296 ^ i * val D = 4294967296 ^ i * (g * val D) := by rw [← Nat.mul_add, e1]
  have e3 : 4294967296 ^ i * ((g - 1) * val D) ≤ 4294967296 ^ i * top P i := Nat.mul_le_mul_left _ (by omega)
  have e4 := low_top_lt hP hgt
  have hc1 : c = 1 := by
    rcases Nat.eq_zero_or_pos c with h | h
    · subst h
      generalize 4294967296 ^ (i + m + 1) = E at *
      generalize 4294967296 ^ i * ((g - 1) * val D) = y1 at *
      generalize 4294967296 ^ i * (g * val D) = y2 at *
      generalize 4294967296 ^ i * val D = y3 at *
      generalize 4294967296 ^ i * top P i = y4 at *
      omega
    · omega
  subst hc1
  refine ⟨hg, ?_, ?_⟩
  · generalize 4294967296 ^ (i + m + 1) = E at *
    generalize 4294967296 ^ i * ((g - 1) * val D) = y1 at *
    generalize 4294967296 ^ i * (g * val D) = y2 at *
    generalize 4294967296 ^ i * val D = y3 at *
    generalize 4294967296 ^ i * top P i = y4 at *
    omega
  · generalize 4294967296 ^ (i + m + 1) = E at *
    generalize 4294967296 ^ i * ((g - 1) * val D) = y1 at *
    generalize 4294967296 ^ i * (g * val D) = y2 at *
    generalize 4294967296 ^ i * val D = y3 at *
    generalize 4294967296 ^ i * top P i = y4 at *
    omega

/-- A long division: A is what was divided, by D; Q holds the words of the quotient from place k on, P what is left. -/
def LongAt (A : Nat) (D Q P : List Nat) (k : Nat) : Prop := val P + val Q * val D = A ∧ val P < 4294967296 ^ k * val D ∧ ∀ j, j < k → atw Q j = 0
theorem long_step {A : Nat} {D Q P P' : List Nat} {i q : Nat} (h : LongAt A D Q P (i + 1)) (hQ : i < Q.length) (ht : Taken P D P' i q) : LongAt A D (Q.set i q) P' i := by
  refine ⟨?_, ht.2, fun j hj => by rw [atw_set_ne (by omega)]; exact h.2.2 j (by omega)⟩
  have h1 := val_set Q i q hQ
  rw [h.2.2 i (by omega), Nat.mul_zero, Nat.add_zero] at h1
  have h2 := h.1
  have h3 := ht.1
  have e : 4294967296 ^ i * q * val D = 4294967296 ^ i * (q * val D) := Nat.mul_assoc ..
  rw [h1, Nat.add_mul, e]
  omega
theorem long_end {A : Nat} {D Q P : List Nat} (h : LongAt A D Q P 0) : val Q = A / val D ∧ val P = A % val D := by
  have h1 := h.1
  have h2 := h.2.1
  rw [Nat.pow_zero, Nat.one_mul] at h2
  have h3 : A = val P + val D * val Q := by rw [Nat.mul_comm]; exact h1.symm
  rw [h3, Nat.add_mul_div_left _ _ (by omega), Nat.div_eq_of_lt h2, Nat.add_mul_mod_self_left, Nat.mod_eq_of_lt h2]
  omega
/-- A divisor shifted up so that its highest bit is set. -/
theorem norm_top {b m s : Nat} (hm : (dg b).length = m + 1) (hs : s = 32 - blen (atw (dg b) m)) : s < 32 ∧ (dg (b * 2 ^ s)).length = m + 1 ∧ 2147483648 ≤ atw (dg (b * 2 ^ s)) m := by
  have hr : atw (dg b) m ≠ 0 := by
    have := atw_dg (l := dg b) (okw_dg b)
    rw [val_dg, hm] at this
    simpa using this
  have ht : top (dg b) (m + 1) = 0 := top_ge (by omega)
  have h1 := blen_top (okw_dg b) ht hr
  rw [val_dg] at h1
  have h2 : blen (atw (dg b) m) ≤ 32 := blen_le.2 (atw_lt (okw_dg b) m)
  have h3 := blen_pos hr
  have hb : b ≠ 0 := by
    intro e; subst e; rw [dg_zero] at hm; simp at hm
  have h4 := blen_mul (n := s) hb
  have h5 : blen (b * 2 ^ s) = 32 * (m + 1) := by omega
  have h6 : (dg (b * 2 ^ s)).length = m + 1 := by rw [dg_len_blen, h5]; omega
  refine ⟨by omega, h6, ?_⟩
  have hr2 : atw (dg (b * 2 ^ s)) m ≠ 0 := by
    have := atw_dg (l := dg (b * 2 ^ s)) (okw_dg _)
    rw [val_dg, h6] at this
    simpa using this
  have h7 := blen_top (okw_dg (b * 2 ^ s)) (top_ge (l := dg (b * 2 ^ s)) (i := m + 1) (by omega)) hr2
  rw [val_dg, h5] at h7
  have h8 := blen_ge hr2
  rw [show blen (atw (dg (b * 2 ^ s)) m) - 1 = 31 by omega] at h8
  exact h8
/-- What the long division starts with. -/
theorem long_start {A n m : Nat} {D : List Nat} (hA : (dg A).length + 1 = n + (m + 1)) (hD : D.length = m + 1) (hv : 2147483648 ≤ atw D m) : LongAt A D (List.replicate n 0) (dg A ++ [0]) n := by
  refine ⟨?_, ?_, fun j _ => atw_zeros n j⟩
  · rw [val_zeros, Nat.zero_mul, val_snoc, val_dg]; omega
  · have h1 : val (dg A ++ [0]) = A := by rw [val_snoc, val_dg]; omega
    rw [h1]
    have h2 := lt_dg_length A
    rw [show (dg A).length = n + m by omega, Nat.pow_add] at h2
    have h3 := val_split D m
    rw [top_succ, top_ge (l := D) (i := m + 1) (by omega)] at h3
    have h4 : 4294967296 ^ m * 1 ≤ 4294967296 ^ m * (atw D m + 4294967296 * 0) := Nat.mul_le_mul_left _ (by omega)
    have h5 := Nat.mul_le_mul_left (4294967296 ^ n) (show 4294967296 ^ m ≤ val D by omega)
    omega
/-- Both shifted alike: the quotient stays, the rest is shifted. -/
theorem shifted_div (a b s : Nat) : a * 2 ^ s / (b * 2 ^ s) = a / b ∧ a * 2 ^ s % (b * 2 ^ s) / 2 ^ s = a % b := by
  have hp := Nat.two_pow_pos s
  exact ⟨Nat.mul_div_mul_right _ _ hp, by rw [Nat.mul_mod_mul_right, Nat.mul_div_cancel _ hp]⟩

/-- By a word, from the top: what is done of the quotient stands in Q from place k on; r is left of it. -/
def WordAt (x : Nat) (L Q : List Nat) (k r : Nat) : Prop := top L k = top Q k * x + r ∧ r < x ∧ (∀ j, j < k → atw Q j = atw L j) ∧ Q.length = L.length
theorem top_set {Q : List Nat} {i y : Nat} : top (Q.set i y) (i + 1) = top Q (i + 1) := by
  unfold top; rw [List.drop_set_of_lt (by omega)]
theorem word_down {x i r : Nat} {L Q : List Nat} (h : WordAt x L Q (i + 1) r) (hx : 0 < x) (hi : i < Q.length) : WordAt x L (Q.set i ((r * 4294967296 + atw L i) / x)) i ((r * 4294967296 + atw L i) % x) := by
  obtain ⟨h1, h2, h3, h4⟩ := h
  refine ⟨?_, Nat.mod_lt _ hx, fun j hj => by rw [atw_set_ne (by omega)]; exact h3 j (by omega), by rw [List.length_set]; exact h4⟩
  have e : atw (Q.set i ((r * 4294967296 + atw L i) / x)) i = (r * 4294967296 + atw L i) / x := by
    unfold atw; rw [List.getD_eq_getElem?_getD, List.getElem?_set_self hi]; rfl
  have hd := Nat.div_add_mod (r * 4294967296 + atw L i) x
  rw [top_succ L, top_succ (Q.set i _), e, top_set, h1, Nat.add_mul, Nat.mul_comm ((r * 4294967296 + atw L i) / x) x, Nat.mul_assoc 4294967296]
  generalize x * ((r * 4294967296 + atw L i) / x) = y1 at *
  generalize top Q (i + 1) * x = y2 at *
  omega
theorem word_end {A x r : Nat} {L Q : List Nat} (h : WordAt x L Q 0 r) (hA : val L = A) : val Q = A / x ∧ r = A % x := by
  obtain ⟨h1, h2, _, _⟩ := h
  rw [top_zero, top_zero, hA] at h1
  rw [h1, Nat.mul_comm, Nat.mul_add_div (by omega), Nat.mul_add_mod, Nat.div_eq_of_lt h2, Nat.mod_eq_of_lt h2]
  omega
end Go.Proofs.Ythblmpkdcahmkaa

/-
  Plain mathematics: decimal digits. Nothing of the program.
-/
namespace Go.Proofs.Ythblmpkdcahmkaa

/-- The decimal digits of a number, the highest first; as bytes. -/
def decs (n : Nat) : List Nat := if n < 10 then [n] else decs (n / 10) ++ [n % 10]
termination_by n
decreasing_by omega
def dig (d : Nat) : UInt8 := UInt8.ofNat (48 + d)
def txt (n : Nat) : List UInt8 := (decs n).map dig
theorem decs_small {n : Nat} (h : n < 10) : decs n = [n] := by rw [decs]; simp [h]
theorem decs_big {n : Nat} (h : 10 ≤ n) : decs n = decs (n / 10) ++ [n % 10] := by rw [decs]; simp [show ¬ n < 10 by omega]
theorem txt_small {n : Nat} (h : n < 10) : txt n = [dig n] := by rw [txt, decs_small h]; rfl
theorem txt_big {n : Nat} (h : 10 ≤ n) : txt n = txt (n / 10) ++ [dig (n % 10)] := by rw [txt, decs_big h]; simp [txt]
theorem dig_val {d : Nat} (h : d < 10) : (dig d).toNat = 48 + d := by
  unfold dig; rw [UInt8.toNat_ofNat']; omega
theorem decs_lt (n : Nat) : ∀ d ∈ decs n, d < 10 := by
  induction n using Nat.strongRecOn with
  | _ n ih =>
    by_cases h : n < 10
    · rw [decs_small h]; intro d hd; simp at hd; omega
    · rw [decs_big (by omega)]
      intro d hd
      rcases List.mem_append.1 hd with h1 | h1
      · exact ih _ (by omega) d h1
      · simp at h1; omega
theorem decs_length_le {n k : Nat} (h : n < 2 ^ k) : (decs n).length ≤ k + 1 := by
  induction k generalizing n with
  | zero => rw [decs_small (by simp at h; omega)]; simp
  | succ k ih =>
    by_cases h1 : n < 10
    · rw [decs_small h1]; simp
    · rw [decs_big (by omega), List.length_append]
      have := ih (n := n / 10) (by rw [Nat.pow_succ] at h; omega)
      simp only [List.length_cons, List.length_nil]
      omega
theorem decs_ne (n : Nat) : decs n ≠ [] := by
  by_cases h : n < 10
  · rw [decs_small h]; simp
  · rw [decs_big (by omega)]; simp
theorem txt_length (n : Nat) : (txt n).length = (decs n).length := by simp [txt]
theorem txt_length_le {n k : Nat} (h : n < 2 ^ k) : (txt n).length ≤ k + 1 := by rw [txt_length]; exact decs_length_le h
theorem txt_ne (n : Nat) : txt n ≠ [] := by unfold txt; simp [decs_ne]

/-- Digit by digit, from the low end: what is written is s, what is left is v. -/
def TextAt (v0 v : Nat) (s : List UInt8) : Prop := (s = [] ∧ v = v0) ∨ (s ≠ [] ∧ v = 0 ∧ s = txt v0) ∨ (s ≠ [] ∧ v ≠ 0 ∧ txt v0 = txt v ++ s)
theorem text_start (v : Nat) : TextAt v v [] := .inl ⟨rfl, rfl⟩
theorem text_step {v0 v : Nat} {s : List UInt8} (h : TextAt v0 v s) (hv : v ≠ 0 ∨ s = []) : TextAt v0 (v / 10) (dig (v % 10) :: s) := by
  have key : (s = [] ∧ v = v0) ∨ txt v0 = txt v ++ s := by
    rcases h with h | ⟨h1, h2, h3⟩ | ⟨_, _, h3⟩
    · exact .inl h
    · rcases hv with h4 | h4
      · exact absurd h2 h4
      · exact absurd h4 h1
    · exact .inr h3
  have key2 : txt v0 = txt v ++ s := by
    rcases key with ⟨h1, h2⟩ | h1
    · rw [h1, h2, List.append_nil]
    · exact h1
  by_cases h10 : v < 10
  · refine .inr (.inl ⟨by simp, by omega, ?_⟩)
    rw [key2, txt_small h10, show v % 10 = v by omega]; rfl
  · refine .inr (.inr ⟨by simp, by omega, ?_⟩)
    rw [key2, txt_big (by omega)]; simp
theorem text_end {v0 v : Nat} {s : List UInt8} (h : TextAt v0 v s) (hv : v = 0) (hs : s ≠ []) : s = txt v0 := by
  rcases h with ⟨h1, _⟩ | ⟨_, _, h3⟩ | ⟨_, h2, _⟩
  · exact absurd h1 hs
  · exact h3
  · exact absurd hv h2
theorem text_length {v0 v : Nat} {s : List UInt8} (h : TextAt v0 v s) : s.length ≤ (txt v0).length := by
  rcases h with ⟨h1, _⟩ | ⟨_, _, h3⟩ | ⟨_, _, h3⟩
  · rw [h1]; simp
  · rw [h3]; exact Nat.le_refl _
  · rw [h3, List.length_append]; omega

/-- The first place at which bytes are no digits, or that is too far; below 0: there is none. -/
def wrongFrom : List UInt8 → Nat → Int
  | [], _ => -1
  | x :: r, i => if x.toNat < 48 ∨ 57 < x.toNat ∨ 60 ≤ i then (i : Int) else wrongFrom r (i + 1)
def wrongI (l : List UInt8) : Int := if l = [] then 0 else wrongFrom l 0
/-- The number that digits are. -/
def readV (l : List UInt8) : Nat := l.foldl (fun n x => n * 10 + (x.toNat - 48)) 0
def alldig (l : List UInt8) : Prop := ∀ x ∈ l, 48 ≤ x.toNat ∧ x.toNat ≤ 57
theorem wrongFrom_none {l : List UInt8} {i : Nat} (h : wrongFrom l i < 0) : alldig l ∧ (l = [] ∨ i + l.length ≤ 60) := by
  induction l generalizing i with
  | nil => exact ⟨fun x hx => (by cases hx), .inl rfl⟩
  | cons x r ih =>
    rw [wrongFrom] at h
    split at h
    · omega
    · rename_i hx
      obtain ⟨h1, h2⟩ := ih h
      refine ⟨fun y hy => ?_, .inr ?_⟩
      · rcases List.mem_cons.1 hy with rfl | hy
        · omega
        · exact h1 y hy
      · simp only [List.length_cons]
        rcases h2 with rfl | h2
        · simp; omega
        · omega
theorem wrongI_none {l : List UInt8} (h : wrongI l < 0) : alldig l ∧ l ≠ [] ∧ l.length ≤ 60 := by
  unfold wrongI at h
  split at h
  · omega
  · rename_i hne
    obtain ⟨h1, h2⟩ := wrongFrom_none h
    refine ⟨h1, hne, ?_⟩
    rcases h2 with h2 | h2
    · exact absurd h2 hne
    · omega
theorem wrongFrom_range {l : List UInt8} {i : Nat} : wrongFrom l i < ((i + l.length : Nat) : Int) ∧ (wrongFrom l i < 0 ∨ (i : Int) ≤ wrongFrom l i) ∧ -1 ≤ wrongFrom l i := by
  induction l generalizing i with
  | nil => simp [wrongFrom]; omega
  | cons x r ih =>
    rw [wrongFrom]
    split
    · simp; omega
    · have h1 := ih (i := i + 1)
      simp only [List.length_cons]
      omega
theorem readV_take {l : List UInt8} {k : Nat} (h : k < l.length) : readV (l.take (k + 1)) = readV (l.take k) * 10 + ((l.getD k 0).toNat - 48) := by
  unfold readV
  rw [List.take_succ_eq_append_getElem h, List.foldl_append, List.getD_eq_getElem?_getD, List.getElem?_eq_getElem h]; rfl
theorem readV_lt {l : List UInt8} (h : alldig l) : readV l < 10 ^ l.length := by
  have key : ∀ (l : List UInt8) (n m : Nat), alldig l → n < 10 ^ m → l.foldl (fun n x => n * 10 + (x.toNat - 48)) n < 10 ^ (m + l.length) := by
    intro l
    induction l with
    | nil => intro n m _ hn; simpa using hn
    | cons x r ih =>
      intro n m hd hn
      have h1 := hd x (by simp)
      have h2 := ih (n * 10 + (x.toNat - 48)) (m + 1) (fun y hy => hd y (by simp [hy])) (by rw [Nat.pow_succ]; omega)
      rw [List.foldl_cons, List.length_cons, show m + (r.length + 1) = m + 1 + r.length by omega]
      exact h2
  have := key l 0 0 h (by decide)
  rwa [Nat.zero_add] at this
theorem alldig_getD {l : List UInt8} (h : alldig l) {k : Nat} (hk : k < l.length) : 48 ≤ (l.getD k 0).toNat ∧ (l.getD k 0).toNat ≤ 57 := by
  rw [List.getD_eq_getElem?_getD, List.getElem?_eq_getElem hk]; exact h _ (List.getElem_mem hk)
/-- Without noughts ahead. -/
def trimL : List UInt8 → List UInt8
  | [] => []
  | [x] => [x]
  | x :: y :: r => if x.toNat = 48 then trimL (y :: r) else x :: y :: r
theorem readV_cons (x : UInt8) (l : List UInt8) (h : x.toNat = 48) : readV (x :: l) = readV l := by unfold readV; rw [List.foldl_cons, h]
/-- What is written is read as it was. -/
theorem readV_append (l : List UInt8) (x : UInt8) : readV (l ++ [x]) = readV l * 10 + (x.toNat - 48) := by unfold readV; rw [List.foldl_append]; rfl
theorem readV_txt (n : Nat) : readV (txt n) = n := by
  induction n using Nat.strongRecOn with
  | _ n ih =>
    by_cases h : n < 10
    · rw [txt_small h]
      show 0 * 10 + ((dig n).toNat - 48) = n
      rw [dig_val h]; omega
    · rw [txt_big (by omega), readV_append, ih _ (by omega), dig_val (by omega)]; omega
theorem alldig_txt (n : Nat) : alldig (txt n) := by
  intro x hx
  obtain ⟨d, hd, rfl⟩ := List.mem_map.1 hx
  have := decs_lt n d hd
  rw [dig_val this]; omega
theorem wrongFrom_alldig {l : List UInt8} {i : Nat} (h : alldig l) : wrongFrom l i = if l = [] ∨ i + l.length ≤ 60 then -1 else ((max i 60 : Nat) : Int) := by
  induction l generalizing i with
  | nil => simp [wrongFrom]
  | cons x r ih =>
    have hx := h x (by simp)
    have h1 := ih (i := i + 1) (fun y hy => h y (by simp [hy]))
    rw [wrongFrom]
    by_cases hi : 60 ≤ i
    · rw [if_pos (by omega), if_neg (by simp; omega), Nat.max_eq_left hi]
    · rw [if_neg (by omega), h1]
      simp only [List.length_cons]
      by_cases hr : r = []
      · subst hr; simp; omega
      · have : 0 < r.length := List.length_pos_iff.2 hr
        by_cases h2 : i + 1 + r.length ≤ 60
        · rw [if_pos (.inr h2), if_pos (.inr (by omega))]
        · rw [if_neg (by simp [hr]; omega), if_neg (by simp; omega), Nat.max_eq_right (by omega), Nat.max_eq_right (by omega)]
theorem wrongI_txt (n : Nat) : wrongI (txt n) = if (txt n).length ≤ 60 then -1 else 60 := by
  unfold wrongI
  rw [if_neg (txt_ne n), wrongFrom_alldig (alldig_txt n)]
  simp [txt_ne]
/-- A text of digits without noughts ahead is what is written of the number that it is. -/
theorem byte_ext {x : UInt8} {d : Nat} (h : x.toNat = 48 + d) (hd : d < 10) : x = dig d := UInt8.toNat_inj.1 (by rw [h, dig_val hd])
theorem readV_pos {l : List UInt8} (h : alldig l) (h0 : ∀ x r, l = x :: r → x.toNat ≠ 48) (hne : l ≠ []) : 0 < readV l := by
  have key : ∀ (l : List UInt8) (n : Nat), 0 < n → 0 < l.foldl (fun n x => n * 10 + (x.toNat - 48)) n := by
    intro l
    induction l with
    | nil => intro n hn; exact hn
    | cons x r ih => intro n hn; rw [List.foldl_cons]; exact ih _ (by omega)
  cases l with
  | nil => exact absurd rfl hne
  | cons x r =>
    have h1 := h x (by simp)
    have h2 := h0 x r rfl
    unfold readV
    rw [List.foldl_cons]
    exact key r _ (by omega)
theorem txt_readV_right : ∀ (k : Nat) (l : List UInt8), l.length = k → alldig l → (∀ x r, l = x :: r → x.toNat ≠ 48) → l ≠ [] → txt (readV l) = l := by
  intro k
  induction k with
  | zero => intro l hl _ _ hne; exact absurd (List.eq_nil_of_length_eq_zero hl) hne
  | succ k ih =>
    intro l hl hd h0 hne
    obtain ⟨m, y, rfl⟩ : ∃ m y, l = m ++ [y] := ⟨l.dropLast, l.getLast hne, (List.dropLast_concat_getLast hne).symm⟩
    have hy := hd y (by simp)
    have hlm : m.length = k := by simp at hl; omega
    rw [readV_append]
    have hyd : y = dig (y.toNat - 48) := byte_ext (by omega) (by omega)
    by_cases hm : m = []
    · subst hm
      show txt (0 * 10 + (y.toNat - 48)) = [y]
      rw [Nat.zero_mul, Nat.zero_add, txt_small (by omega), ← hyd]
    · have hp : 0 < readV m := readV_pos (fun x hx => hd x (by simp [hx])) (fun x r e => h0 x (r ++ [y]) (by rw [e]; rfl)) hm
      have hih := ih m hlm (fun x hx => hd x (by simp [hx])) (fun x r e => h0 x (r ++ [y]) (by rw [e]; rfl)) hm
      rw [txt_big (by omega), show (readV m * 10 + (y.toNat - 48)) / 10 = readV m by omega, show (readV m * 10 + (y.toNat - 48)) % 10 = y.toNat - 48 by omega, hih, ← hyd]
theorem txt_readV {l : List UInt8} (h : alldig l) (hne : l ≠ []) : txt (readV l) = trimL l := by
  have key : ∀ (k : Nat) (l : List UInt8), l.length = k → alldig l → l ≠ [] → txt (readV l) = trimL l := by
    intro k
    induction k with
    | zero => intro l hl _ hne; exact absurd (List.eq_nil_of_length_eq_zero hl) hne
    | succ k ih =>
      intro l hl hd hne
      match l, hl, hd, hne with
      | [x], _, hd, _ =>
        have hx := hd x (by simp)
        have hxd : x = dig (x.toNat - 48) := byte_ext (by omega) (by omega)
        show txt (0 * 10 + (x.toNat - 48)) = [x]
        rw [Nat.zero_mul, Nat.zero_add, txt_small (by omega), ← hxd]
      | x :: y :: r, hl, hd, _ =>
        rw [trimL]
        split
        · rename_i hx
          rw [readV_cons x _ hx]
          exact ih (y :: r) (by simpa using hl) (fun z hz => hd z (by simp [hz])) (by simp)
        · rename_i hx
          exact txt_readV_right _ _ rfl hd (fun z s e => by cases e; exact hx) (by simp)
  exact key _ l rfl h hne
end Go.Proofs.Ythblmpkdcahmkaa

/-
  What package digits' functions owe (layer 7), as one hypothesis: the contracts that the laws' walks lean on.
-/
namespace Go.Proofs.Ythblmpkdcahmkaa
open Go.RowKit

/-- A text, as a value. -/
def bs (l : List UInt8) : ByteArray := ⟨l.toArray⟩
theorem bs_size (l : List UInt8) : (bs l).size = l.length := by show l.toArray.size = _; simp
theorem bs_append (a b : List UInt8) : bs a ++ bs b = bs (a ++ b) := by unfold bs; rw [ByteArray.mk_append_mk]
theorem bs_list (l : List UInt8) : (bs l).toList = l := by rw [ByteArray.toList_eq]; rfl
theorem bs_get (l : List UInt8) (k : Nat) (h : k < l.length) (h' : k < (bs l).size) : ((bs l)[k]'h').toNat = (l.getD k 0).toNat := by
  rw [List.getD_eq_getElem?_getD, List.getElem?_eq_getElem h]; rfl
theorem bs_of (s : ByteArray) : ∃ l, s = bs l := ⟨s.data.toList, by cases s; simp [bs]⟩
theorem bs_all (l : List UInt8) : (bs l).extract 0 l.length = bs l := by unfold bs; rw [ByteArray.extract_mk]; simp
theorem bs_rest (x : UInt8) (r : List UInt8) : (bs (x :: r)).extract 1 (r.length + 1) = bs r := by unfold bs; rw [ByteArray.extract_mk]; simp
/-- A fault, as a value. -/
def faultV (k s t a : Int) : Value := .agg #[.int .i64 k, .int .i64 s, .int .i64 t, .int .i64 a]
/-- The library's table of the powers of ten reads as its initialiser lays it (nothing is asked where the program has no such table). -/
def Dec10 (w : World) : Prop := w = w
theorem Dec10.later {w w' : World} (_ : Dec10 w) (_ : Below w.heap.size w w') : Dec10 w' := rfl
theorem Dec10.all (w : World) : Dec10 w := rfl
structure DigitsSaid : Prop where
  read_ok : ∀ (l : List UInt8) (w : World), l.length ≤ 1000 → Hid (wrongI l < 0) → Calls Try.prog 103 #[.string (bs l)] w (Lst2 (dg (readV l)) (faultV 0 0 0 0) w)
  read_no : ∀ (l : List UInt8) (w : World), l.length ≤ 1000 → Hid (0 ≤ wrongI l) → Calls Try.prog 103 #[.string (bs l)] w (Lst2 [] (faultV 1 0 0 (wrongI l)) w)
/-- The cells of a fault in a variable. -/
def Box (w : World) (g : Nat) (k s t a : Int) : Prop :=
  w.cell? ⟨g, 0, none⟩ = some (.int .i64 k) ∧ w.cell? ⟨g, 1, none⟩ = some (.int .i64 s) ∧ w.cell? ⟨g, 2, none⟩ = some (.int .i64 t) ∧ w.cell? ⟨g, 3, none⟩ = some (.int .i64 a)
theorem Box.later {w w' : World} {g : Nat} {k s t a : Int} (h : Box w g k s t a) (hb : Below w.heap.size w w') : Box w' g k s t a :=
  ⟨cell_later hb h.1, cell_later hb h.2.1, cell_later hb h.2.2.1, cell_later hb h.2.2.2⟩
theorem Box.new (w : World) (k s t a : Int) (e : TypeId) : Box (w.alloc (.cells #[.int .i64 k, .int .i64 s, .int .i64 t, .int .i64 a] e)) w.heap.size k s t a := ⟨by simp, by simp, by simp, by simp⟩
end Go.Proofs.Ythblmpkdcahmkaa
