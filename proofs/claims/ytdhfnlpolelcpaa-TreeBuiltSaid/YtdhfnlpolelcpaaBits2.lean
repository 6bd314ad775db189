/-
  Plain mathematics: shifts of lists of words, word by word, and numbers built bit by bit. Nothing of the program.
-/
import Derived.Test.YtdhfnlpolelcpaaBits
import Derived.Test.YtdhfnlpolelcpaaLimbPlain
namespace Go.Proofs.Ytdhfnlpolelcpaa

theorem dg_len_blen (n : Nat) : (dg n).length = (blen n + 31) / 32 := by
  have h1 : (dg n).length ≤ (blen n + 31) / 32 := dg_length_le (by
    rw [pow32]; exact Nat.lt_of_lt_of_le (lt_blen n) (Nat.pow_le_pow_right (by decide) (by omega)))
  have h2 : blen n ≤ 32 * (dg n).length := blen_le.2 (by rw [← pow32]; exact lt_dg_length n)
  omega
theorem top_div {l : List Nat} (h : okw l) (q : Nat) : top l q = val l / 2 ^ (32 * q) := by
  have h1 := val_split2 l q
  have h2 := low_lt2 h q
  have hp := Nat.two_pow_pos (32 * q)
  rw [h1, Nat.mul_add_div hp, Nat.div_eq_of_lt h2, Nat.add_zero]
theorem low_mod {l : List Nat} (h : okw l) (q : Nat) : low l q = val l % 2 ^ (32 * q) := by
  have h1 := val_split2 l q
  have h2 := low_lt2 h q
  rw [h1, Nat.mul_add_mod, Nat.mod_eq_of_lt h2]
theorem val_drop {l : List Nat} (q : Nat) : val (l.drop q) = top l q := rfl
theorem low_bit (l : List Nat) (h : okw l) (i : Nat) : (val l).testBit i = decide (atw l (i / 32) / 2 ^ (i % 32) % 2 = 1) := by
  rw [val_bit h, Nat.testBit_eq_decide_div_mod_eq]

/-- A shift up, word by word. -/
theorem up_step {l o : List Nat} {k q r c c' x : Nat} (ho : o.length = q + k) (h : val o + 4294967296 ^ (q + k) * c = low l k * 2 ^ (32 * q + r)) (hx : x + 4294967296 * c' = atw l k * 2 ^ r + c) :
    val (o ++ [x]) + 4294967296 ^ (q + (k + 1)) * c' = low l (k + 1) * 2 ^ (32 * q + r) := by
  have e1 : 4294967296 ^ k * atw l k * 2 ^ (32 * q + r) = 4294967296 ^ (q + k) * (atw l k * 2 ^ r) := by
    rw [Nat.pow_add 2, ← pow32, Nat.pow_add 4294967296 q k]
    generalize 4294967296 ^ k = A
    generalize 4294967296 ^ q = B
    generalize 2 ^ r = C
    rw [Nat.mul_comm A, Nat.mul_assoc, Nat.mul_comm B A, Nat.mul_assoc A, Nat.mul_left_comm, Nat.mul_left_comm B]
  rw [val_snoc, ho, low_succ, Nat.add_mul, e1, show q + (k + 1) = q + k + 1 from rfl, pow_succ32, ← h]
  generalize 4294967296 ^ (q + k) = P at *
  have e2 : P * x + 4294967296 * P * c' = P * (atw l k * 2 ^ r) + P * c := by
    rw [Nat.mul_comm 4294967296 P, Nat.mul_assoc, ← Nat.mul_add, hx, Nat.mul_add]
  omega
/-- What is carried stays a word. -/
theorem up_carry {w r c c' x : Nat} (hw : w < 4294967296) (hr : r < 32) (hc : c < 4294967296) (hx : x + 4294967296 * c' = w * 2 ^ r + c) : c' < 4294967296 := by
  have h1 : 2 ^ r ≤ 2 ^ 31 := Nat.pow_le_pow_right (by decide) (by omega)
  have h2 : w * 2 ^ r ≤ 4294967295 * 2 ^ 31 := Nat.mul_le_mul (by omega) h1
  omega
theorem up_end0 {o : List Nat} {v q m n : Nat} (hok : okw o) (hm : (dg v).length = m) (h0 : v ≠ 0) (hq : 32 * q ≤ n) (ho : o.length = q + m) (h : val o = v * 2 ^ n) : o = dg (v * 2 ^ n) := by
  rw [← h]
  refine dg_of_ge hok (.inr ?_)
  have hm0 : (dg v).length ≠ 0 := fun e => h0 (dg_nil_iff.1 e)
  have h1 := dg_ge hm0
  rw [hm] at h1 hm0
  rw [ho, h, pow32, show 32 * (q + m - 1) = 32 * (m - 1) + 32 * q by omega, Nat.pow_add, ← pow32]
  exact Nat.mul_le_mul h1 (Nat.pow_le_pow_right (by decide) hq)
theorem up_end1 {o : List Nat} {c z : Nat} (hok : okw o) (hc : c < 4294967296) (h0 : c ≠ 0) (h : val o + 4294967296 ^ o.length * c = z) : o ++ [c] = dg z := by
  have h1 := dg_snoc hok hc h0
  rwa [val_snoc, h] at h1

theorem val_set (o : List Nat) (k y : Nat) (hk : k < o.length) : val (o.set k y) + 4294967296 ^ k * atw o k = val o + 4294967296 ^ k * y := by
  induction o generalizing k with
  | nil => simp at hk
  | cons x o ih =>
    cases k with
    | zero => simp [val, atw]; omega
    | succ k =>
      have := ih k (by simpa using hk)
      have e : atw (x :: o) (k + 1) = atw o k := by simp [atw]
      simp only [List.set_cons_succ, val]
      rw [e, pow_succ32, Nat.mul_assoc, Nat.mul_assoc]
      omega
theorem okw_set {o : List Nat} (h : okw o) {y : Nat} (hy : y < 4294967296) (k : Nat) : okw (o.set k y) := fun x hx => by
  rcases List.mem_or_eq_of_mem_set hx with h1 | h1
  · exact h x h1
  · omega
/-- A word's high part, and what of it falls into the word below. -/
theorem word_parts (w r : Nat) (hr : r ≤ 31) : w * 2 ^ (32 - r) = w * 2 ^ (32 - r) % 4294967296 + 4294967296 * (w / 2 ^ r) := by
  have e : w * 2 ^ (32 - r) / 4294967296 = w / 2 ^ r := by
    rw [show (4294967296 : Nat) = 2 ^ r * 2 ^ (32 - r) by rw [← Nat.pow_add, show r + (32 - r) = 32 by omega], Nat.mul_div_mul_right _ _ (Nat.two_pow_pos _)]
  rw [← e]; omega
theorem down_first {t : List Nat} (r : Nat) : val [atw t 0 / 2 ^ r] = low t 1 / 2 ^ r := by simp [val, low_one]
/-- What stands in the topmost word so far leaves room for the next one's low bits. -/
theorem down_room {t o : List Nat} {k r : Nat} (hr : r ≤ 31) (ht : okw t) (h : val o = low t (k + 1) / 2 ^ r) : atw o k < 2 ^ (32 - r) := by
  have h1 := low_lt2 ht (k + 1)
  have h2 : low t (k + 1) / 2 ^ r < 2 ^ (32 * k) * 2 ^ (32 - r) := by
    rw [Nat.div_lt_iff_lt_mul (Nat.two_pow_pos r), ← Nat.pow_add, ← Nat.pow_add, show 32 * k + (32 - r) + r = 32 * (k + 1) by omega]
    exact h1
  rw [← h] at h2
  have h3 : 2 ^ (32 * k) * atw o k ≤ val o := by
    rw [val_split2 o k, top_succ, Nat.mul_add]; omega
  exact Nat.lt_of_mul_lt_mul_left (Nat.lt_of_le_of_lt h3 h2)
theorem down_or {x w r : Nat} (hr : r ≤ 31) (hx : x < 2 ^ (32 - r)) : x ||| (w * 2 ^ (32 - r) % 4294967296) = x + w * 2 ^ (32 - r) % 4294967296 ∧ x + w * 2 ^ (32 - r) % 4294967296 < 4294967296 := by
  have e0 : (4294967296 : Nat) = 2 ^ (32 - r) * 2 ^ r := by rw [← Nat.pow_add, show 32 - r + r = 32 by omega]
  have e1 : w * 2 ^ (32 - r) % 4294967296 = 2 ^ (32 - r) * (w % 2 ^ r) := by rw [e0, Nat.mul_comm w, Nat.mul_mod_mul_left]
  rw [e1]
  constructor
  · have := Nat.two_pow_add_eq_or_of_lt hx (w % 2 ^ r)
    rw [Nat.or_comm, ← this, Nat.add_comm]
  · have h1 : w % 2 ^ r < 2 ^ r := Nat.mod_lt _ (Nat.two_pow_pos r)
    have h2 : 2 ^ (32 - r) * (w % 2 ^ r) + 2 ^ (32 - r) ≤ 2 ^ (32 - r) * 2 ^ r := by rw [← Nat.mul_succ]; exact Nat.mul_le_mul_left _ h1
    omega
theorem down_step {t o : List Nat} {k r : Nat} (hr : r ≤ 31) (ho : o.length = k + 1) (h : val o = low t (k + 1) / 2 ^ r) :
    val (o.set k (atw o k + atw t (k + 1) * 2 ^ (32 - r) % 4294967296) ++ [atw t (k + 1) / 2 ^ r]) = low t (k + 1 + 1) / 2 ^ r := by
  have hs := val_set o k (atw o k + atw t (k + 1) * 2 ^ (32 - r) % 4294967296) (by omega)
  have hw := word_parts (atw t (k + 1)) r hr
  have e : low t (k + 1 + 1) / 2 ^ r = low t (k + 1) / 2 ^ r + 4294967296 ^ k * (atw t (k + 1) * 2 ^ (32 - r)) := by
    rw [low_succ t (k + 1)]
    have e1 : 4294967296 ^ (k + 1) * atw t (k + 1) = 2 ^ r * (4294967296 ^ k * (atw t (k + 1) * 2 ^ (32 - r))) := by
      rw [pow_succ32, show (4294967296 : Nat) * 4294967296 ^ k = 2 ^ r * 2 ^ (32 - r) * 4294967296 ^ k by rw [← Nat.pow_add, show r + (32 - r) = 32 by omega]]
      generalize 2 ^ (32 - r) = A
      generalize 4294967296 ^ k = B
      rw [Nat.mul_assoc, Nat.mul_assoc, Nat.mul_left_comm A, Nat.mul_comm A]
    rw [e1, Nat.add_mul_div_left _ _ (Nat.two_pow_pos r)]
  rw [val_snoc, List.length_set, ho, e, ← h, pow_succ32]
  generalize atw t (k + 1) * 2 ^ (32 - r) = W at *
  generalize W % 4294967296 = a at *
  generalize atw t (k + 1) / 2 ^ r = b at *
  subst hw
  rw [Nat.mul_add] at hs ⊢
  rw [Nat.mul_comm 4294967296 (4294967296 ^ k), Nat.mul_assoc]
  omega
theorem set_behind (o z : List Nat) (x y k : Nat) (hk : k < o.length) : ((o ++ [x]) ++ z).set k y = (o.set k y ++ [x]) ++ z := by
  rw [List.set_append_left _ _ (by simp; omega), List.set_append_left _ _ hk]
theorem shift_div {l : List Nat} (h : okw l) (q r : Nat) : top l q / 2 ^ r = val l / 2 ^ (32 * q + r) := by
  rw [top_div h, Nat.div_div_eq_div_mul, ← Nat.pow_add]

/-- The low bits of a list. -/
theorem low_mask {l : List Nat} (h : okw l) (q r : Nat) (hq : q < l.length) (hr : r ≤ 32) : val ((l.take (q + 1)).set q (atw l q % 2 ^ r)) = val l % 2 ^ (32 * q + r) := by
  have h1 := val_set (l.take (q + 1)) q (atw l q % 2 ^ r) (by rw [List.length_take]; omega)
  rw [atw_take (by omega)] at h1
  have h2 : val (l.take (q + 1)) = low l q + 4294967296 ^ q * atw l q := low_succ l q
  have e : val ((l.take (q + 1)).set q (atw l q % 2 ^ r)) = 2 ^ (32 * q) * (atw l q % 2 ^ r) + low l q := by rw [← pow32]; omega
  rw [e, Nat.pow_add, Nat.mod_mul, ← low_mod h, ← top_div h, top_succ]
  have e2 : (atw l q + 4294967296 * top l (q + 1)) % 2 ^ r = atw l q % 2 ^ r := by
    rw [show (4294967296 : Nat) = 2 ^ r * 2 ^ (32 - r) by rw [← Nat.pow_add, show r + (32 - r) = 32 by omega], Nat.mul_assoc, Nat.add_mul_mod_self_left]
  rw [e2]; omega
theorem mod_min {v n m : Nat} (h : v < 2 ^ m) : v % 2 ^ (min n m) = v % 2 ^ n := by
  rcases Nat.le_total n m with h1 | h1
  · rw [Nat.min_eq_left h1]
  · rw [Nat.min_eq_right h1, Nat.mod_eq_of_lt h, Nat.mod_eq_of_lt (Nat.lt_of_lt_of_le h (Nat.pow_le_pow_right (by decide) h1))]

/-- A number built bit by bit, from the lowest one on. -/
theorem bit_room {o : List Nat} {i : Nat} (h : val o < 2 ^ i) : atw o (i / 32) < 2 ^ (i % 32) := by
  have e : 2 ^ i = 2 ^ (32 * (i / 32)) * 2 ^ (i % 32) := by rw [← Nat.pow_add]; congr 1; omega
  have h3 : 2 ^ (32 * (i / 32)) * atw o (i / 32) ≤ val o := by rw [val_split2 o (i / 32), top_succ, Nat.mul_add]; omega
  rw [e] at h
  exact Nat.lt_of_mul_lt_mul_left (Nat.lt_of_le_of_lt h3 h)
theorem mod_next (X i : Nat) : X % 2 ^ (i + 1) = X % 2 ^ i + 2 ^ i * (X.testBit i).toNat := by
  rw [Nat.pow_succ, Nat.mod_mul, Nat.testBit_eq_decide_div_mod_eq]
  congr 2
  rcases Nat.mod_two_eq_zero_or_one (X / 2 ^ i) with h | h <;> simp [h]
theorem bit_on {o : List Nat} {i X : Nat} (hl : i / 32 < o.length) (h : val o = X % 2 ^ i) (hb : X.testBit i = true) : val (o.set (i / 32) (atw o (i / 32) + 2 ^ (i % 32))) = X % 2 ^ (i + 1) ∧ atw o (i / 32) + 2 ^ (i % 32) < 4294967296 := by
  have hr := bit_room (o := o) (i := i) (by rw [h]; exact Nat.mod_lt _ (Nat.two_pow_pos i))
  have h2 : 2 ^ (i % 32) ≤ 2 ^ 31 := Nat.pow_le_pow_right (by decide) (by omega)
  have h1 := val_set o (i / 32) (atw o (i / 32) + 2 ^ (i % 32)) hl
  refine ⟨?_, by omega⟩
  have e : 4294967296 ^ (i / 32) * 2 ^ (i % 32) = 2 ^ i := by rw [pow32, ← Nat.pow_add]; congr 1; omega
  rw [Nat.mul_add, e] at h1
  rw [mod_next, hb, ← h]
  simp only [Bool.toNat_true, Nat.mul_one]
  omega
theorem bit_off {o : List Nat} {i X : Nat} (h : val o = X % 2 ^ i) (hb : X.testBit i = false) : val o = X % 2 ^ (i + 1) := by
  rw [mod_next, hb, ← h]; simp
theorem lt_of_bit {v p : Nat} (h : v < 2 ^ (p + 1)) (hb : v.testBit p = false) : v < 2 ^ p := by
  have h1 := mod_next v p
  rw [hb, Nat.mod_eq_of_lt h] at h1
  have h2 : v % 2 ^ p < 2 ^ p := Nat.mod_lt _ (Nat.two_pow_pos p)
  simp at h1
  omega
/-- The bits of a shifted number. -/
theorem up_bit (v n i : Nat) : (v * 2 ^ n).testBit i = (decide (n ≤ i) && v.testBit (i - n)) := by
  rw [Nat.mul_comm, Nat.testBit_two_pow_mul]
theorem down_bit (v n i : Nat) : (v / 2 ^ n).testBit i = v.testBit (n + i) := by rw [Nat.testBit_div_two_pow, Nat.add_comm]
/-! What the machine's words tell. -/
theorem or_u32_nat (x y : Nat) (hx : x < 4294967296) (hy : y < 4294967296) : bits .or .u32 (x : Int) (y : Int) = ((x ||| y : Nat) : Int) := by
  have h1 : (BitVec.ofInt 32 (x : Int)).toNat = x := by rw [BitVec.ofInt_natCast, BitVec.toNat_ofNat]; exact Nat.mod_eq_of_lt (by omega)
  have h2 : (BitVec.ofInt 32 (y : Int)).toNat = y := by rw [BitVec.ofInt_natCast, BitVec.toNat_ofNat]; exact Nat.mod_eq_of_lt (by omega)
  have h3 : x ||| y < 2 ^ 32 := Nat.or_lt_two_pow (by omega) (by omega)
  show IntKind.u32.wrap ((BitVec.ofInt 32 (x : Int) ||| BitVec.ofInt 32 (y : Int)).toNat : Int) = _
  rw [BitVec.toNat_or, h1, h2, wrapu32]
  omega
theorem div_pow_int (x r : Nat) : (x : Int) / 2 ^ r = ((x / 2 ^ r : Nat) : Int) := by rw [Int.natCast_ediv, Int.natCast_pow]; rfl
theorem mul_pow_int (x r : Nat) : (x : Int) * 2 ^ r = ((x * 2 ^ r : Nat) : Int) := by rw [Int.natCast_mul, Int.natCast_pow]; rfl
theorem div_pow_lt {x : Nat} (h : x < 4294967296) (r : Nat) : x / 2 ^ r < 4294967296 := Nat.lt_of_le_of_lt (Nat.div_le_self _ _) h
theorem bit_word {x : Nat} (h : x < 4294967296) (r : Nat) : (bits BinOp.and IntKind.u32 ((x : Int) / 2 ^ r) 1 == 1) = x.testBit r := by
  rw [div_pow_int, show (1 : Int) = ((1 : Nat) : Int) from rfl, and_u32_nat _ _ (div_pow_lt h r) (by omega), Nat.and_one_is_mod, Nat.testBit_eq_decide_div_mod_eq]
  generalize x / 2 ^ r % 2 = y
  rw [Bool.eq_iff_iff, beq_iff_eq, decide_eq_true_eq]
  omega
end Go.Proofs.Ytdhfnlpolelcpaa
