/-
  Plain mathematics, more: lists of words of 32 bits. Nothing of the program.
-/
import Derived.Test.YtdhfnlpolelcpaaWords
namespace Go.Proofs.Ytdhfnlpolelcpaa

theorem top_dg {l : List Nat} : top l (dg (val l)).length = 0 := by
  have h1 := val_split l (dg (val l)).length
  have h2 := lt_dg_length (val l)
  generalize (dg (val l)).length = n at *
  rcases Nat.eq_zero_or_pos (top l n) with h | h
  · exact h
  · have h3 : 4294967296 ^ n * 1 ≤ 4294967296 ^ n * top l n := Nat.mul_le_mul_left _ h
    omega
theorem atw_dg {l : List Nat} (ho : okw l) : (dg (val l)).length = 0 ∨ atw l ((dg (val l)).length - 1) ≠ 0 := by
  by_cases h0 : (dg (val l)).length = 0
  · exact .inl h0
  · refine .inr fun h => ?_
    have h1 := val_split l ((dg (val l)).length - 1)
    rw [top_succ, h, Nat.sub_add_cancel (by omega), top_dg] at h1
    have h2 := low_lt ho ((dg (val l)).length - 1)
    have h3 : (dg (val l)).length ≤ (dg (val l)).length - 1 := dg_length_le (by omega)
    omega
/-- The first words of a list, as many as its right list has, are its right list. -/
theorem take_dg {l : List Nat} (ho : okw l) : l.take (dg (val l)).length = dg (val l) :=
  take_right (dg_length_val_le ho) ho top_dg (atw_dg ho)
/-- Where cutting noughts off the end stops. -/
theorem dg_stop {l : List Nat} {n : Nat} (hn : n ≤ l.length) (ho : okw l) (ht : top l n = 0) (hr : n = 0 ∨ atw l (n - 1) ≠ 0) : (dg (val l)).length = n := by
  rw [← take_right hn ho ht hr, List.length_take, Nat.min_eq_left hn]
/-- A list as long as its right list is right. -/
theorem dg_of_length {l : List Nat} (ho : okw l) (h : l.length ≤ (dg (val l)).length) : l = dg (val l) := by
  have h1 := take_dg ho
  rwa [List.take_of_length_le h] at h1
theorem dg_of_ge {l : List Nat} (ho : okw l) (h : l.length = 0 ∨ 4294967296 ^ (l.length - 1) ≤ val l) : l = dg (val l) := by
  apply dg_of_length ho
  rcases h with h | h
  · omega
  · rcases Nat.lt_or_ge (dg (val l)).length l.length with h1 | h1
    · have h2 := lt_dg_length (val l)
      have h3 : (4294967296 : Nat) ^ (dg (val l)).length ≤ 4294967296 ^ (l.length - 1) := Nat.pow_le_pow_right (by decide) (by omega)
      omega
    · exact h1
theorem dg_ge {n : Nat} (h : (dg n).length ≠ 0) : 4294967296 ^ ((dg n).length - 1) ≤ n := by
  rcases Nat.lt_or_ge n (4294967296 ^ ((dg n).length - 1)) with h1 | h1
  · have := dg_length_le h1; omega
  · exact h1
theorem dg_snoc {l : List Nat} {x : Nat} (ho : okw l) (hx : x < 4294967296) (h0 : x ≠ 0) : l ++ [x] = dg (val (l ++ [x])) := by
  refine (dg_val (.inr ?_) (okw_snoc ho hx)).symm
  simp [atw, List.getD_eq_getElem?_getD, h0]
theorem lt_of_dg_length {a b : Nat} (h : (dg a).length < (dg b).length) : a < b := by
  rcases Nat.lt_or_ge a b with h1 | h1
  · exact h1
  · have := dg_length_mono h1; omega

theorem val_append_zeros (l : List Nat) (k : Nat) : val (l ++ List.replicate k 0) = val l := by rw [val_append, val_zeros]; simp
theorem okw_zeros (k : Nat) : okw (List.replicate k 0) := fun x hx => by rw [List.eq_of_mem_replicate hx]; decide
theorem atw_append_left {a b : List Nat} {i : Nat} (h : i < a.length) : atw (a ++ b) i = atw a i := by
  unfold atw; rw [List.getD_eq_getElem?_getD, List.getElem?_append_left h, ← List.getD_eq_getElem?_getD]
theorem atw_append_right {a b : List Nat} {i : Nat} (h : a.length ≤ i) : atw (a ++ b) i = atw b (i - a.length) := by
  unfold atw; rw [List.getD_eq_getElem?_getD, List.getElem?_append_right h, ← List.getD_eq_getElem?_getD]
theorem atw_drop (l : List Nat) (i j : Nat) : atw (l.drop i) j = atw l (i + j) := by
  unfold atw; rw [List.getD_eq_getElem?_getD, List.getElem?_drop, ← List.getD_eq_getElem?_getD]
theorem drop_atw {l : List Nat} {i : Nat} (h : i < l.length) : l.drop i = atw l i :: l.drop (i + 1) := by
  rw [List.drop_eq_getElem_cons h]; unfold atw; rw [List.getD_eq_getElem?_getD, List.getElem?_eq_getElem h]; rfl
/-- A word written over the first word behind those that are done. -/
theorem set_over (o l : List Nat) (k r : Nat) (ho : o.length = k) (hk : k < l.length) : (o ++ l.drop k).set k r = (o ++ [r]) ++ l.drop (k + 1) := by
  rw [drop_atw hk, List.set_append_right _ _ (by omega), ho, Nat.sub_self]
  simp
theorem atw_over (o l : List Nat) (k : Nat) (ho : o.length = k) : atw (o ++ l.drop k) k = atw l k := by
  rw [atw_append_right (by omega), ho, Nat.sub_self, atw_drop]; rfl
/-- Where nothing is carried any more the rest stays as it is. -/
theorem add_stop {la lb o : List Nat} {k : Nat} (ho : o.length = k) (hk : lb.length ≤ k) (h : val o = low la k + low lb k) : val (o ++ la.drop k) = val la + val lb := by
  rw [val_append, ho, h, low_ge hk, val_split la k]; unfold top; omega
theorem sub_stop {la lb o : List Nat} {k : Nat} (ho : o.length = k) (hk : lb.length ≤ k) (h : low la k = low lb k + val o) : val la = val lb + val (o ++ la.drop k) := by
  rw [val_append, ho, val_split la k, h, low_ge hk]; unfold top; omega
/-- Two lists of one length with the same words from a place on and less at it. -/
theorem okw_over {o l : List Nat} (ho : okw o) (hl : okw l) (k : Nat) : okw (o ++ l.drop k) := okw_append.2 ⟨ho, okw_drop hl k⟩
/-- A list of at most two words, put together. -/
theorem low_one (l : List Nat) : low l 1 = atw l 0 := by have := low_succ l 0; rw [low_zero] at this; simpa using this
theorem low_two (l : List Nat) : low l 2 = atw l 0 + 4294967296 * atw l 1 := by have := low_succ l 1; rw [low_one] at this; simpa using this
/-- One word more of a sum, by its word and its carry. -/
theorem add_more {la lb o : List Nat} {k s r z : Nat} (ho : o.length = k) (h : val o + 4294967296 ^ k * s = low la k + low lb k) (hr : r < 4294967296) (ht : r + 4294967296 * z = s + (atw la k + atw lb k)) :
    val (o ++ [r]) + 4294967296 ^ (k + 1) * z = low la (k + 1) + low lb (k + 1) := by
  have h1 := add_step ho h rfl
  rw [← ht, show (r + 4294967296 * z) % 4294967296 = r by omega, show (r + 4294967296 * z) / 4294967296 = z by omega] at h1
  exact h1
/-- The end of a sum whose list is as long as the longer one: nothing is carried any more, or the carry stands behind it. -/
theorem add_right0 {x : List Nat} {p q : Nat} (ho : okw x) (hv : val x = p + q) (hl : x.length = 0 ∨ 4294967296 ^ (x.length - 1) ≤ p + q) : x = dg (p + q) := by
  rw [← hv] at hl ⊢; exact dg_of_ge ho hl
theorem add_right1 {o : List Nat} {k p q : Nat} (hok : okw o) (ho : o.length = k) (hv : val o + 4294967296 ^ k * 1 = p + q) : o ++ [1] = dg (p + q) := by
  have := dg_snoc hok (x := 1) (by decide) (by decide)
  rw [val_snoc, ho, hv] at this
  exact this
theorem words_le_take (ls : List (List Nat)) (k : Nat) : words (ls.take k) ≤ words ls := by
  induction ls generalizing k with
  | nil => simp
  | cons l r ih =>
    cases k with
    | zero => simp [words]
    | succ k =>
      have := ih k
      simp only [List.take_succ_cons, words]
      omega
end Go.Proofs.Ytdhfnlpolelcpaa
