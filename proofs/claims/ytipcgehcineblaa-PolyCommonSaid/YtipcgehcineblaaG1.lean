/-
  Several texts of this claim as one, group 1.
-/
import Derived.WalkKit
import Derived.WalkSpells
import Derived.WalkLawsBesides
import Derived.Lib.Hide
import Derived.Test.YtipcgehcineblaaRows
import Derived.Lib.TrailingZeros
import Derived.Lib.BitFns
import Derived.Laws.Bits64b
import Derived.IntWalk
import Derived.Deep.QuietTactic
import Derived.BigQuiet
import Derived.Lib.Strings
import Derived.Lib.Slices
import Derived.Lib.Small
import Derived.Lib.Walk
import Derived.Deep.AppendSrc
import Derived.Deep.DeepMust
import Derived.Laws.CopyOwn
/-
  Plain mathematics: lists of words of 32 bits and their values. Nothing of the program.
-/
namespace Go.Proofs.Ytipcgehcineblaa

/-- The value of a list of words, the lowest first. -/
def val : List Nat → Nat
  | [] => 0
  | x :: l => x + 4294967296 * val l
/-- Each is a word. -/
def okw (l : List Nat) : Prop := ∀ x ∈ l, x < 4294967296
/-- The right list of a value. -/
def dg (n : Nat) : List Nat := if h : n = 0 then [] else n % 4294967296 :: dg (n / 4294967296)
termination_by n
decreasing_by omega
/-- The word at a place, 0 behind the end; what stands below a place, and from it on. -/
def atw (l : List Nat) (i : Nat) : Nat := l.getD i 0
def low (l : List Nat) (i : Nat) : Nat := val (l.take i)
def top (l : List Nat) (i : Nat) : Nat := val (l.drop i)
/-- The list without the noughts at its end. -/
def rightw (l : List Nat) : Prop := l = [] ∨ atw l (l.length - 1) ≠ 0

theorem pow_succ32 (i : Nat) : (4294967296 : Nat) ^ (i + 1) = 4294967296 * 4294967296 ^ i := by rw [Nat.pow_succ, Nat.mul_comm]
theorem pow_pos32 (i : Nat) : 0 < (4294967296 : Nat) ^ i := Nat.pow_pos (by decide)

theorem okw_nil : okw [] := fun _ h => by cases h
theorem okw_cons {x : Nat} {l : List Nat} : okw (x :: l) ↔ x < 4294967296 ∧ okw l := by simp [okw]
theorem okw_append {a b : List Nat} : okw (a ++ b) ↔ okw a ∧ okw b := by simp only [okw, List.mem_append]; exact ⟨fun h => ⟨fun x hx => h x (.inl hx), fun x hx => h x (.inr hx)⟩, fun h x hx => hx.elim (h.1 x) (h.2 x)⟩
theorem okw_snoc {l : List Nat} {x : Nat} (h : okw l) (hx : x < 4294967296) : okw (l ++ [x]) := okw_append.2 ⟨h, by simpa [okw] using hx⟩
theorem okw_take {l : List Nat} (h : okw l) (i : Nat) : okw (l.take i) := fun x hx => h x (List.mem_of_mem_take hx)
theorem okw_drop {l : List Nat} (h : okw l) (i : Nat) : okw (l.drop i) := fun x hx => h x (List.mem_of_mem_drop hx)
theorem atw_lt {l : List Nat} (h : okw l) (i : Nat) : atw l i < 4294967296 := by
  unfold atw
  by_cases hi : i < l.length
  · rw [List.getD_eq_getElem?_getD, List.getElem?_eq_getElem hi]; exact h _ (List.getElem_mem hi)
  · rw [List.getD_eq_getElem?_getD, List.getElem?_eq_none (by omega)]; decide
theorem atw_ge {l : List Nat} {i : Nat} (h : l.length ≤ i) : atw l i = 0 := by
  unfold atw; rw [List.getD_eq_getElem?_getD, List.getElem?_eq_none h]; rfl

theorem val_append : ∀ (a b : List Nat), val (a ++ b) = val a + 4294967296 ^ a.length * val b
  | [], b => by simp [val]
  | x :: a, b => by
    rw [List.cons_append, val, val, val_append a b, List.length_cons, pow_succ32, Nat.mul_add, Nat.mul_assoc]
    omega
theorem val_snoc (l : List Nat) (x : Nat) : val (l ++ [x]) = val l + 4294967296 ^ l.length * x := by rw [val_append]; simp [val]
theorem val_lt : ∀ {l : List Nat}, okw l → val l < 4294967296 ^ l.length
  | [], _ => by simp [val]
  | x :: l, h => by
    obtain ⟨hx, hl⟩ := okw_cons.1 h
    have := val_lt hl
    rw [val, List.length_cons, pow_succ32]
    omega
theorem val_zeros (k : Nat) : val (List.replicate k 0) = 0 := by
  induction k with
  | zero => rfl
  | succ k ih => rw [List.replicate_succ, val, ih]

theorem low_zero (l : List Nat) : low l 0 = 0 := by simp [low, val]
theorem low_ge {l : List Nat} {i : Nat} (h : l.length ≤ i) : low l i = val l := by rw [low, List.take_of_length_le h]
theorem low_lt {l : List Nat} (h : okw l) (i : Nat) : low l i < 4294967296 ^ i := by
  have h1 := val_lt (okw_take h i)
  have h2 : (4294967296 : Nat) ^ (l.take i).length ≤ 4294967296 ^ i := Nat.pow_le_pow_right (by decide) (List.length_take_le _ _)
  unfold low; omega
theorem low_succ (l : List Nat) (i : Nat) : low l (i + 1) = low l i + 4294967296 ^ i * atw l i := by
  unfold low atw
  by_cases hi : i < l.length
  · rw [List.take_succ_eq_append_getElem hi, val_snoc, List.length_take, Nat.min_eq_left (by omega), List.getD_eq_getElem?_getD, List.getElem?_eq_getElem hi]; rfl
  · rw [List.take_of_length_le (by omega), List.take_of_length_le (by omega), List.getD_eq_getElem?_getD, List.getElem?_eq_none (by omega)]; simp
theorem top_zero (l : List Nat) : top l 0 = val l := by simp [top]
theorem top_ge {l : List Nat} {i : Nat} (h : l.length ≤ i) : top l i = 0 := by rw [top, List.drop_of_length_le h]; rfl
theorem top_succ (l : List Nat) (i : Nat) : top l i = atw l i + 4294967296 * top l (i + 1) := by
  unfold top atw
  by_cases hi : i < l.length
  · rw [List.drop_eq_getElem_cons hi, val, List.getD_eq_getElem?_getD, List.getElem?_eq_getElem hi]; rfl
  · rw [List.drop_of_length_le (by omega), List.drop_of_length_le (by omega), List.getD_eq_getElem?_getD, List.getElem?_eq_none (by omega)]; simp [val]
theorem val_split (l : List Nat) (i : Nat) : val l = low l i + 4294967296 ^ i * top l i := by
  induction i with
  | zero => rw [low_zero, top_zero]; simp
  | succ i ih => rw [ih, low_succ, top_succ, pow_succ32, Nat.mul_add, ← Nat.mul_assoc, Nat.mul_comm 4294967296]; omega

theorem dg_zero : dg 0 = [] := by rw [dg]; simp
theorem dg_pos {n : Nat} (h : n ≠ 0) : dg n = n % 4294967296 :: dg (n / 4294967296) := by rw [dg]; simp [h]
theorem dg_word {n : Nat} (h0 : n ≠ 0) (h : n < 4294967296) : dg n = [n] := by rw [dg_pos h0, show n / 4294967296 = 0 from by omega, dg_zero, show n % 4294967296 = n from by omega]
theorem okw_dg (n : Nat) : okw (dg n) := by
  induction n using Nat.strongRecOn with
  | _ n ih =>
    by_cases h : n = 0
    · subst h; rw [dg_zero]; exact okw_nil
    · rw [dg_pos h]; exact okw_cons.2 ⟨by omega, ih _ (by omega)⟩
theorem val_dg (n : Nat) : val (dg n) = n := by
  induction n using Nat.strongRecOn with
  | _ n ih =>
    by_cases h : n = 0
    · subst h; rw [dg_zero]; rfl
    · rw [dg_pos h, val, ih _ (by omega)]; omega
theorem right_cons {x : Nat} {l : List Nat} (h : rightw (x :: l)) : rightw l ∧ (l = [] → x ≠ 0) := by
  cases h with
  | inl h => cases h
  | inr h =>
    cases l with
    | nil => exact ⟨.inl rfl, fun _ => by simpa [atw] using h⟩
    | cons y m => exact ⟨.inr (by simpa [atw] using h), fun h => by cases h⟩
theorem right_val_zero : ∀ {l : List Nat}, rightw l → val l = 0 → l = []
  | [], _, _ => rfl
  | x :: l, h, hv => by
    obtain ⟨h1, h2⟩ := right_cons h
    rw [val] at hv
    have := right_val_zero h1 (by omega)
    exact absurd (by omega) (h2 this)
/-- The right list of a value is the only one. -/
theorem dg_val : ∀ {l : List Nat}, rightw l → okw l → dg (val l) = l
  | [], _, _ => dg_zero
  | x :: l, h, ho => by
    obtain ⟨h1, _⟩ := right_cons h
    obtain ⟨hx, hl⟩ := okw_cons.1 ho
    have hne : val (x :: l) ≠ 0 := fun e => by cases right_val_zero h e
    rw [dg_pos hne, val]
    have e1 : (x + 4294967296 * val l) % 4294967296 = x := by omega
    have e2 : (x + 4294967296 * val l) / 4294967296 = val l := by omega
    rw [e1, e2, dg_val h1 hl]
theorem dg_length_le {n k : Nat} (h : n < 4294967296 ^ k) : (dg n).length ≤ k := by
  induction k generalizing n with
  | zero => have : n = 0 := by simpa using h
            subst this; rw [dg_zero]; simp
  | succ k ih =>
    by_cases h0 : n = 0
    · subst h0; rw [dg_zero]; simp
    · rw [dg_pos h0, List.length_cons]
      have := ih (n := n / 4294967296) (by rw [pow_succ32] at h; omega)
      omega
theorem lt_dg_length (n : Nat) : n < 4294967296 ^ (dg n).length := by
  have := val_lt (okw_dg n); rwa [val_dg] at this
theorem dg_length_mono {a b : Nat} (h : a ≤ b) : (dg a).length ≤ (dg b).length := dg_length_le (Nat.lt_of_le_of_lt h (lt_dg_length b))
theorem dg_length_val_le {l : List Nat} (h : okw l) : (dg (val l)).length ≤ l.length := dg_length_le (val_lt h)
theorem dg_length_pow {n k : Nat} : (dg n).length ≤ k ↔ n < 4294967296 ^ k :=
  ⟨fun h => Nat.lt_of_lt_of_le (lt_dg_length n) (Nat.pow_le_pow_right (by decide) h), dg_length_le⟩

/-- Cutting noughts off the end. -/
theorem take_right {l : List Nat} {n : Nat} (hn : n ≤ l.length) (ho : okw l) (ht : top l n = 0) (hr : n = 0 ∨ atw l (n - 1) ≠ 0) : l.take n = dg (val l) := by
  have hv : val (l.take n) = val l := by
    have := val_split l n
    rw [ht] at this
    unfold low at this
    omega
  rw [← hv]
  refine (dg_val ?_ (okw_take ho n)).symm
  by_cases h0 : n = 0
  · exact .inl (by subst h0; simp)
  · refine .inr ?_
    have hlen : (l.take n).length = n := by rw [List.length_take, Nat.min_eq_left hn]
    rw [hlen]
    unfold atw at *
    rw [List.getD_eq_getElem?_getD, List.getElem?_take, if_pos (by omega), ← List.getD_eq_getElem?_getD]
    exact hr.resolve_left h0
/-- A word of a take. -/
theorem atw_take {l : List Nat} {n i : Nat} (h : i < n) : atw (l.take n) i = atw l i := by
  unfold atw; rw [List.getD_eq_getElem?_getD, List.getElem?_take, if_pos h, ← List.getD_eq_getElem?_getD]

/-- One word more of a sum; of a difference. -/
theorem add_step {la lb o : List Nat} {k s t : Nat} (ho : o.length = k) (h : val o + 4294967296 ^ k * s = low la k + low lb k) (ht : t = s + (atw la k + atw lb k)) :
    val (o ++ [t % 4294967296]) + 4294967296 ^ (k + 1) * (t / 4294967296) = low la (k + 1) + low lb (k + 1) := by
  rw [val_snoc, ho, low_succ, low_succ, pow_succ32]
  generalize 4294967296 ^ k = P at *
  have e : P * (t % 4294967296) + 4294967296 * P * (t / 4294967296) = P * t := by
    rw [Nat.mul_comm 4294967296 P, Nat.mul_assoc, ← Nat.mul_add, Nat.mod_add_div]
  have e2 : P * t = P * s + (P * atw la k + P * atw lb k) := by rw [ht, Nat.mul_add, Nat.mul_add]
  generalize P * t = u at *
  generalize P * s = v at *
  generalize P * (t % 4294967296) = x at *
  generalize 4294967296 * P * (t / 4294967296) = y at *
  omega
theorem sub_step {la lb o : List Nat} {k s z r : Nat} (ho : o.length = k) (h : low la k + 4294967296 ^ k * s = low lb k + val o) (ht : atw la k + 4294967296 * z = atw lb k + s + r) :
    low la (k + 1) + 4294967296 ^ (k + 1) * z = low lb (k + 1) + val (o ++ [r]) := by
  rw [val_snoc, ho, low_succ, low_succ, pow_succ32]
  generalize 4294967296 ^ k = P at *
  have e : P * atw la k + 4294967296 * P * z = P * atw lb k + P * s + P * r := by
    rw [Nat.mul_comm 4294967296 P, Nat.mul_assoc, ← Nat.mul_add, ht, Nat.mul_add, Nat.mul_add]
  generalize P * atw la k = x at *
  generalize 4294967296 * P * z = y at *
  generalize P * atw lb k = u at *
  generalize P * s = v at *
  generalize P * r = t at *
  omega
/-- A word stored behind those that are stored already. -/
theorem set_next (o : List Nat) (N k r : Nat) (ho : o.length = k) (hk : k < N) : (o ++ List.replicate (N - k) 0).set k r = (o ++ [r]) ++ List.replicate (N - (k + 1)) 0 := by
  obtain ⟨j, hj⟩ : ∃ j, N - k = j + 1 := ⟨N - k - 1, by omega⟩
  have hj2 : N - (k + 1) = j := by omega
  rw [hj, hj2, List.replicate_succ, List.set_append_right _ _ (by omega), ho, Nat.sub_self]
  simp

theorem val_two {l : List Nat} (h : l.length ≤ 2) : val l = atw l 0 + 4294967296 * atw l 1 := by
  match l, h with
  | [], _ => rfl
  | [x], _ => simp [val, atw]
  | [x, y], _ => simp [val, atw]
theorem dg_nil_iff {n : Nat} : (dg n).length = 0 ↔ n = 0 :=
  ⟨fun h => by have := val_dg n; rw [List.eq_nil_of_length_eq_zero h] at this; exact this.symm, fun h => by rw [h, dg_zero]; rfl⟩

/-- Compared from the top: the first place at which two lists part decides. -/
theorem cmp_lt {a b : List Nat} (ha : okw a) {i : Nat} (ht : top a (i + 1) = top b (i + 1)) (h : atw a i < atw b i) : val a < val b := by
  rw [val_split a i, val_split b i, top_succ a i, top_succ b i, ht]
  have h1 := low_lt ha i
  have h2 : 4294967296 ^ i * (atw a i + 4294967296 * top b (i + 1)) + 4294967296 ^ i ≤ 4294967296 ^ i * (atw b i + 4294967296 * top b (i + 1)) := by
    rw [← Nat.mul_succ]; exact Nat.mul_le_mul_left _ (by omega)
  omega
theorem top_eq {a b : List Nat} {i : Nat} (ht : top a (i + 1) = top b (i + 1)) (h : atw a i = atw b i) : top a i = top b i := by rw [top_succ a, top_succ b, ht, h]

/-- Lists of one length are the same if they have the same words. -/
theorem list_eq_of_at {a b : List Nat} (hl : a.length = b.length) (h : ∀ j, j < a.length → atw a j = atw b j) : a = b := by
  apply List.ext_getElem hl
  intro j h1 h2
  have := h j h1
  unfold atw at this
  rwa [List.getD_eq_getElem?_getD, List.getD_eq_getElem?_getD, List.getElem?_eq_getElem h1, List.getElem?_eq_getElem h2] at this
/-- The sum of the values of lists; how many words they have in all. -/
def vals : List (List Nat) → Nat
  | [] => 0
  | l :: r => val l + vals r
def words : List (List Nat) → Nat
  | [] => 0
  | l :: r => l.length + words r
theorem vals_take (ls : List (List Nat)) (k : Nat) (hk : k < ls.length) : vals (ls.take (k + 1)) = vals (ls.take k) + val (ls.getD k []) := by
  induction ls generalizing k with
  | nil => simp at hk
  | cons l r ih =>
    cases k with
    | zero => simp [vals]
    | succ k =>
      have := ih k (by simpa using hk)
      simp only [List.take_succ_cons, vals, List.getD_cons_succ]
      omega
theorem words_mem (ls : List (List Nat)) (k : Nat) (hk : k < ls.length) : (ls.getD k []).length ≤ words ls := by
  induction ls generalizing k with
  | nil => simp at hk
  | cons l r ih =>
    cases k with
    | zero => simp [words]
    | succ k =>
      have := ih k (by simpa using hk)
      simp only [words, List.getD_cons_succ]
      omega
theorem vals_lt {ls : List (List Nat)} (h : ∀ l ∈ ls, okw l) : vals ls < 4294967296 ^ words ls + ls.length * 4294967296 ^ words ls := by
  induction ls with
  | nil => simp [vals, words]
  | cons l r ih =>
    have h1 := val_lt (h l (by simp))
    have h3 := ih (fun x hx => h x (by simp [hx]))
    have e1 : (4294967296 : Nat) ^ l.length ≤ 4294967296 ^ (l.length + words r) := Nat.pow_le_pow_right (by decide) (by omega)
    have e2 : (4294967296 : Nat) ^ words r ≤ 4294967296 ^ (l.length + words r) := Nat.pow_le_pow_right (by decide) (by omega)
    have e3 : r.length * 4294967296 ^ words r ≤ r.length * 4294967296 ^ (l.length + words r) := Nat.mul_le_mul_left _ e2
    simp only [vals, words, List.length_cons, Nat.add_mul, Nat.one_mul]
    generalize (4294967296 : Nat) ^ l.length = p at *
    generalize (4294967296 : Nat) ^ words r = q at *
    generalize (4294967296 : Nat) ^ (l.length + words r) = t at *
    generalize r.length * q = x at *
    generalize r.length * t = y at *
    omega
theorem vals_length {ls : List (List Nat)} (h : ∀ l ∈ ls, okw l) (hn : ls.length < 4294967296) : (dg (vals ls)).length ≤ words ls + 1 := by
  apply dg_length_le
  have h1 := vals_lt h
  rw [pow_succ32]
  have h2 : ls.length * 4294967296 ^ words ls + 4294967296 ^ words ls ≤ 4294967296 * 4294967296 ^ words ls := by
    rw [← Nat.succ_mul]; exact Nat.mul_le_mul_right _ hn
  generalize 4294967296 ^ words ls = p at *
  generalize ls.length * p = x at *
  omega

/-- Which of two is the greater one, as Go tells it. -/
def cmpI (x y : Nat) : Int := if x < y then -1 else if y < x then 1 else 0
theorem cmpI_lt {x y : Nat} (h : x < y) : cmpI x y = -1 := by simp [cmpI, h]
theorem cmpI_gt {x y : Nat} (h : y < x) : cmpI x y = 1 := by unfold cmpI; rw [if_neg (by omega), if_pos h]
theorem cmpI_eq {x y : Nat} (h : x = y) : cmpI x y = 0 := by subst h; simp [cmpI]
end Go.Proofs.Ytipcgehcineblaa

/-
  Lists of words in memory: what a slice of uint32 holds. Of no program.
-/
namespace Go.Proofs.Ytipcgehcineblaa
open Go.RowKit

theorem ret_bool {a b : Bool} (h : a = b) : Ending.returned (.bool a) = .returned (.bool b) := by rw [h]
theorem ret_i64 {a b : Int} (h : a = b) : Ending.returned (.int .i64 a) = .returned (.int .i64 b) := by rw [h]

/-- In the world w the slice ⟨a, n, cap⟩ holds just the words l. -/
def Wd (w : World) (a : Option Addr) (n cap : Nat) (l : List Nat) : Prop :=
  l.length = n ∧ n ≤ cap ∧ cap ≤ 9223372036854775807 ∧ okw l ∧ (a = none → cap = 0) ∧ (n = 0 ∨ ∃ b off, a = some ⟨b, off, none⟩ ∧ ∀ j, j < n → w.cell? ⟨b, off + j, none⟩ = some (.int .u32 ((atw l j : Nat) : Int)))

theorem Wd.len {w : World} {a : Option Addr} {n cap : Nat} {l : List Nat} (h : Wd w a n cap l) : l.length = n := h.1
theorem Wd.ok {w : World} {a : Option Addr} {n cap : Nat} {l : List Nat} (h : Wd w a n cap l) : okw l := h.2.2.2.1
theorem Wd.bound {w : World} {a : Option Addr} {n cap : Nat} {l : List Nat} (h : Wd w a n cap l) : n ≤ cap ∧ cap ≤ 9223372036854775807 := ⟨h.2.1, h.2.2.1⟩
theorem Wd.ofNone {w : World} {n cap : Nat} {l : List Nat} (h : Wd w none n cap l) : n = 0 ∧ cap = 0 ∧ l = [] := by
  have h1 := h.2.2.2.2.1 rfl
  have h2 := h.2.1
  have h3 := h.1
  exact ⟨by omega, h1, List.eq_nil_of_length_eq_zero (by omega)⟩
-- the address of its first word
theorem Wd.at {w : World} {a : Option Addr} {n cap : Nat} {l : List Nat} (h : Wd w a n cap l) (hn : 0 < n) : ∃ b off, a = some ⟨b, off, none⟩ ∧ ∀ j, j < n → w.cell? ⟨b, off + j, none⟩ = some (.int .u32 ((atw l j : Nat) : Int)) := by
  rcases h.2.2.2.2.2 with h0 | h0
  · omega
  · exact h0
theorem Wd.later {w w' : World} {a : Option Addr} {n cap : Nat} {l : List Nat} (h : Wd w a n cap l) (hb : Below w.heap.size w w') : Wd w' a n cap l :=
  ⟨h.1, h.2.1, h.2.2.1, h.2.2.2.1, h.2.2.2.2.1, h.2.2.2.2.2.imp id fun ⟨b, off, e, hc⟩ => ⟨b, off, e, fun j hj => cell_later hb (hc j hj)⟩⟩
theorem Wd.ofNil (w : World) : Wd w none 0 0 [] := ⟨rfl, Nat.le_refl _, by omega, okw_nil, fun _ => rfl, .inl rfl⟩
/-- Its first k words. -/
theorem Wd.take {w : World} {a : Option Addr} {n cap : Nat} {l : List Nat} (h : Wd w a n cap l) {k : Nat} (hk : k ≤ n) : Wd w a k cap (l.take k) := by
  obtain ⟨h1, h2, h3, h4, h6, h5⟩ := h
  refine ⟨by rw [List.length_take]; omega, by omega, h3, okw_take h4 k, h6, ?_⟩
  by_cases hk0 : k = 0
  · exact .inl hk0
  · rcases h5 with h0 | ⟨b, off, e, hc⟩
    · omega
    · exact .inr ⟨b, off, e, fun j hj => by rw [hc j (by omega), atw_take hj]⟩

/-- In the world w the slice ⟨a, n, cap⟩ of slices holds just these lists of words. -/
def Wds (w : World) (a : Option Addr) (n cap : Nat) (ls : List (List Nat)) : Prop :=
  ls.length = n ∧ n ≤ cap ∧ cap ≤ 9223372036854775807 ∧ (a = none → cap = 0) ∧ (n = 0 ∨ ∃ b off, a = some ⟨b, off, none⟩ ∧ ∀ j, j < n → ∃ a' n' c', w.cell? ⟨b, off + j, none⟩ = some (.slice a' n' c') ∧ Wd w a' n' c' (ls.getD j []))
theorem Wds.len {w : World} {a : Option Addr} {n cap : Nat} {l : List (List Nat)} (h : Wds w a n cap l) : l.length = n := h.1
theorem Wds.bound {w : World} {a : Option Addr} {n cap : Nat} {l : List (List Nat)} (h : Wds w a n cap l) : n ≤ cap ∧ cap ≤ 9223372036854775807 := ⟨h.2.1, h.2.2.1⟩
theorem Wds.at {w : World} {a : Option Addr} {n cap : Nat} {l : List (List Nat)} (h : Wds w a n cap l) {j : Nat} (hj : j < n) : ∃ b off, a = some ⟨b, off, none⟩ ∧ ∃ a' n' c', w.cell? ⟨b, off + j, none⟩ = some (.slice a' n' c') ∧ Wd w a' n' c' (l.getD j []) := by
  rcases h.2.2.2.2 with h0 | ⟨b, off, e, hc⟩
  · omega
  · exact ⟨b, off, e, hc j hj⟩
theorem Wds.oks {w : World} {a : Option Addr} {n cap : Nat} {l : List (List Nat)} (h : Wds w a n cap l) : ∀ x ∈ l, okw x := by
  intro x hx
  obtain ⟨j, hj, rfl⟩ := List.getElem_of_mem hx
  obtain ⟨b, off, _, a', n', c', _, hw⟩ := h.at (j := j) (by rw [← h.len]; exact hj)
  have := hw.ok
  rwa [List.getD_eq_getElem?_getD, List.getElem?_eq_getElem hj] at this
theorem Wds.later {w w' : World} {a : Option Addr} {n cap : Nat} {l : List (List Nat)} (h : Wds w a n cap l) (hb : Below w.heap.size w w') : Wds w' a n cap l :=
  ⟨h.1, h.2.1, h.2.2.1, h.2.2.2.1, h.2.2.2.2.imp id fun ⟨b, off, e, hc⟩ => ⟨b, off, e, fun j hj => by
    obtain ⟨a', n', c', h1, h2⟩ := hc j hj
    exact ⟨a', n', c', cell_later hb h1, h2.later hb⟩⟩⟩

/-- The words as cells. -/
def wcells (l : List Nat) : List Value := l.map fun x => Value.int .u32 ((x : Nat) : Int)
theorem wcells_length (l : List Nat) : (wcells l).length = l.length := by simp [wcells]
theorem wcells_at {l : List Nat} {j : Nat} (h : j < l.length) : (wcells l)[j]? = some (.int .u32 ((atw l j : Nat) : Int)) := by
  simp [wcells, atw, h, List.getD_eq_getElem?_getD]
theorem wcells_one (l : List Nat) : ∀ u ∈ wcells l, u.oneCell' = true := by
  intro u hu
  simp only [wcells, List.mem_map] at hu
  obtain ⟨x, _, rfl⟩ := hu
  rfl
/-- What it holds, as the cells that an append copies. -/
theorem Wd.cells {w : World} {b off n cap : Nat} {l : List Nat} (h : Wd w (some ⟨b, off, none⟩) n cap l) : ∀ j u, (wcells l)[j]? = some u → w.cell? ((⟨b, off, none⟩ : Addr).add j) = some u := by
  intro j u hu
  have hj : j < l.length := by
    rcases Nat.lt_or_ge j l.length with h1 | h1
    · exact h1
    · rw [List.getElem?_eq_none (by rw [wcells_length]; exact h1)] at hu; cases hu
  rw [wcells_at hj] at hu
  have hn := h.len
  obtain ⟨b', off', e, hc⟩ := h.at (by omega)
  simp only [Option.some.injEq, Addr.mk.injEq, and_true] at e
  obtain ⟨rfl, rfl⟩ := e
  rw [← hu]
  have := hc j (by omega)
  by_cases h0 : j = 0
  · subst h0; simpa [Addr.add] using this
  · simpa [Addr.add, h0] using this
/-- What the call owns, it holds. -/
theorem Wd.own {w : World} {base : Nat} {e : TypeId} {a : Option Addr} {n cap : Nat} {l : List Nat} (h : w.ownsRow base e 1 (.slice a n cap) n (wcells l)) (ho : okw l) : Wd w a n cap l := by
  have hl : l.length = n := by have := h.1; rw [wcells_length] at this; omega
  rcases h.2 with ⟨h', h0⟩ | ⟨g, cap', cur, h', hb, hg, hnc, hcm, hcs, htake⟩
  · simp only [Value.slice.injEq] at h'
    obtain ⟨rfl, rfl, rfl⟩ := h'
    exact ⟨hl, Nat.le_refl _, by omega, ho, fun _ => rfl, .inl rfl⟩
  · simp only [Value.slice.injEq] at h'
    obtain ⟨rfl, _, rfl⟩ := h'
    refine ⟨hl, hnc, by unfold maxLen at hcm; omega, ho, fun e => (by cases e), .inr ⟨g, 0, rfl, fun j hj => ?_⟩⟩
    rw [Nat.zero_add, h.cellAt j (by omega), wcells_at (by omega)]
theorem wcells_set (l : List Nat) (k r : Nat) : (wcells l).set k (.int .u32 ((r : Nat) : Int)) = wcells (l.set k r) := by simp [wcells, List.map_set]
/-- What a make leaves. -/
theorem wcells_made (n : Nat) : (madeCells (Value.int .u32 0).cells (n * 1)).toList = wcells (List.replicate n 0) := by
  rw [Nat.mul_one]
  show (madeCells #[Value.int .u32 0] n).toList = _
  rw [toList_madeCells_one]
  simp [wcells]
/-- A list of two words, written out. -/
theorem Wd.lit2 (w : World) (e : TypeId) {x y : Nat} (hx : x < 4294967296) (hy : y < 4294967296) : Wd (w.alloc (.cells #[.int .u32 (x : Int), .int .u32 (y : Int)] e)) (some ⟨w.heap.size, 0, none⟩) 2 2 [x, y] :=
  Wd.own (base := 0) (World.ownsRow_lit (base := 0) w #[.int .u32 (x : Int), .int .u32 (y : Int)] 2 (Nat.zero_le _) (by decide) rfl) (okw_cons.2 ⟨hx, okw_cons.2 ⟨hy, okw_nil⟩⟩)
theorem Wd.lit1 (w : World) (e : TypeId) {x : Nat} (hx : x < 4294967296) : Wd (w.alloc (.cells #[.int .u32 (x : Int)] e)) (some ⟨w.heap.size, 0, none⟩) 1 1 [x] :=
  Wd.own (base := 0) (World.ownsRow_lit (base := 0) w #[.int .u32 (x : Int)] 1 (Nat.zero_le _) (by decide) rfl) (okw_cons.2 ⟨hx, okw_nil⟩)
/-- Two, three slices, written out as one of slices (a call of a variadic function). -/
theorem Wds.lit2 (w : World) (e : TypeId) {a1 a2 : Option Addr} {n1 n2 c1 c2 : Nat} {l1 l2 : List Nat} (h1 : Wd w a1 n1 c1 l1) (h2 : Wd w a2 n2 c2 l2) :
    Wds (w.alloc (.cells #[.slice a1 n1 c1, .slice a2 n2 c2] e)) (some ⟨w.heap.size, 0, none⟩) 2 2 [l1, l2] := by
  have hb : Below w.heap.size w (w.alloc (.cells #[.slice a1 n1 c1, .slice a2 n2 c2] e)) := (Below.refl _ _).alloc (Nat.le_refl _) _
  refine ⟨rfl, Nat.le_refl _, by omega, fun h => (by cases h), .inr ⟨w.heap.size, 0, rfl, fun j hj => ?_⟩⟩
  match j, hj with
  | 0, _ => exact ⟨a1, n1, c1, by simp, h1.later hb⟩
  | 1, _ => exact ⟨a2, n2, c2, by simp, h2.later hb⟩
theorem Wds.lit3 (w : World) (e : TypeId) {a1 a2 a3 : Option Addr} {n1 n2 n3 c1 c2 c3 : Nat} {l1 l2 l3 : List Nat} (h1 : Wd w a1 n1 c1 l1) (h2 : Wd w a2 n2 c2 l2) (h3 : Wd w a3 n3 c3 l3) :
    Wds (w.alloc (.cells #[.slice a1 n1 c1, .slice a2 n2 c2, .slice a3 n3 c3] e)) (some ⟨w.heap.size, 0, none⟩) 3 3 [l1, l2, l3] := by
  have hb : Below w.heap.size w (w.alloc (.cells #[.slice a1 n1 c1, .slice a2 n2 c2, .slice a3 n3 c3] e)) := (Below.refl _ _).alloc (Nat.le_refl _) _
  refine ⟨rfl, Nat.le_refl _, by omega, fun h => (by cases h), .inr ⟨w.heap.size, 0, rfl, fun j hj => ?_⟩⟩
  match j, hj with
  | 0, _ => exact ⟨a1, n1, c1, by simp, h1.later hb⟩
  | 1, _ => exact ⟨a2, n2, c2, by simp, h2.later hb⟩
  | 2, _ => exact ⟨a3, n3, c3, by simp, h3.later hb⟩
theorem below_alloc (w : World) (o : Obj) : Below w.heap.size w (w.alloc o) := (Below.refl _ _).alloc (Nat.le_refl _) o
theorem below_draws (w : World) (n : Nat) : Below w.heap.size w (w.drewN n) := below_drewN (Below.refl _ _) n
/-- One step behind another. -/
theorem below_then {w w1 w2 : World} (h : Below w.heap.size w w1) (k : Below w1.heap.size w1 w2) : Below w.heap.size w w2 := h.trans (k.mono h.size)
/-- A callee that leaves the world as it is, in a region that draws: whatever is asked of the world behind it is asked of the one before. -/
theorem quiet_here {P : Program} {f : FuncId} {args : Array Value} {W : World} {v : Value} {Z : World → Prop} (h : Calls P f args W fun e w' => e = .returned v ∧ W = w') (hz : Z W) : Calls P f args W fun e w' => e = .returned v ∧ Z w' :=
  h.mono fun _ _ ⟨he, hw⟩ => ⟨he, hw ▸ hz⟩
theorem quiet_there {P : Program} {f : FuncId} {args : Array Value} {W : World} {v : Value} {Z : World → Prop} (h : Calls P f args W fun e w' => e = .returned v ∧ ∃ q, w' = W.drewN q) (hz : ∀ q, Z (W.drewN q)) : Calls P f args W fun e w' => e = .returned v ∧ Z w' :=
  h.mono fun _ _ ⟨he, q, hw⟩ => ⟨he, hw ▸ hz q⟩
def lenOf : Value → Nat | .slice _ n _ => n | _ => 0
end Go.Proofs.Ytipcgehcineblaa

/-
  What package nat's functions owe (layer 2), as one hypothesis: the contracts that the laws' walks lean on.
-/
namespace Go.Proofs.Ytipcgehcineblaa
open Go.RowKit

/-- A list of words comes back, in memory of the call's own or such as was there; nothing that was there has turned. -/
def Lst (l : List Nat) (w : World) (e : Ending) (w' : World) : Prop :=
  ∃ (a : Option Addr) (n cap : Nat), e = .returned (.slice a n cap) ∧ Wd w' a n cap l ∧ Below w.heap.size w w'
/-- A list of words and one more result. -/
def Lst2 (l : List Nat) (v : Value) (w : World) (e : Ending) (w' : World) : Prop :=
  ∃ (a : Option Addr) (n cap : Nat), e = .returned (.tuple #[.slice a n cap, v]) ∧ Wd w' a n cap l ∧ Below w.heap.size w w'
/-- A plain value comes back; nothing that was there has turned. -/
def Gives (v : Value) (w : World) (e : Ending) (w' : World) : Prop := e = .returned v ∧ Below w.heap.size w w'

def two64 : Nat := 18446744073709551616
def smallB (v : Nat) : Bool := decide (v < two64)
def smallV (v : Nat) : Nat := if v < two64 then v else 0

structure NatSaid : Prop where
  norm : ∀ (a : Option Addr) (n cap : Nat) (l : List Nat) (w : World), Wd w a n cap l → n ≤ 17592183947264 → Calls Try.prog 60 #[.slice a n cap] w (Lst (dg (val l)) w)
  of : ∀ (x : Nat) (w : World), x ≤ 18446744073709551615 → Calls Try.prog 44 #[.int .u64 (x : Int)] w (Lst (dg x) w)
  small : ∀ (a : Option Addr) (n cap : Nat) (l : List Nat) (w : World), Wd w a n cap l → n ≤ 17592183947264 → Calls Try.prog 71 #[.slice a n cap] w (Gives (.tuple #[.int .u64 ((smallV (val l) : Nat) : Int), .bool (smallB (val l))]) w)
  zero : ∀ (a : Option Addr) (n cap : Nat) (l : List Nat) (w : World), Wd w a n cap l → n ≤ 17592183947264 → Calls Try.prog 53 #[.slice a n cap] w (Gives (.bool (decide (val l = 0))) w)
  cmp : ∀ (a : Option Addr) (n cap : Nat) (la : List Nat) (b : Option Addr) (m cap' : Nat) (lb : List Nat) (w : World), Wd w a n cap la → Wd w b m cap' lb → n ≤ 17592183947264 → m ≤ 17592183947264 →
    Calls Try.prog 67 #[.slice a n cap, .slice b m cap'] w (Gives (.int .i64 (cmpI (val la) (val lb))) w)
  add : ∀ (a : Option Addr) (n cap : Nat) (ls : List (List Nat)) (w : World), Wds w a n cap ls → n ≤ 1000000 → words ls ≤ 1048576000000 → Calls Try.prog 58 #[.slice a n cap] w (Lst (dg (vals ls)) w)
  gap : ∀ (a : Option Addr) (n cap : Nat) (la : List Nat) (b : Option Addr) (m cap' : Nat) (lb : List Nat) (w : World), Wd w a n cap la → Wd w b m cap' lb → n ≤ 17592183947264 → m ≤ 17592183947264 →
    Calls Try.prog 59 #[.slice a n cap, .slice b m cap'] w (Lst2 (dg (val la - val lb + (val lb - val la))) (.int .i64 (cmpI (val la) (val lb))) w)
end Go.Proofs.Ytipcgehcineblaa

/-
  Plain mathematics, more: lists of words of 32 bits. Nothing of the program.
-/
namespace Go.Proofs.Ytipcgehcineblaa

theorem top_dg {l : List Nat} : top l (dg (val l)).length = 0 := by
  have h1 := val_split l (dg (val l)).length
  have h2 := lt_dg_length (val l)
  generalize (dg (val l)).length = n at *
  rcases Nat.eq_zero_or_pos (top l n) with h | h
  · exact h
  · have h3 : 4294967296 ^ n * 1 ≤ 4294967296 ^ n * top l n := Nat.mul_le_mul_left _ h
    omega
theorem atw_dg {l : List Nat} (ho : okw l) : (dg (val l)).length = 0 ∨ atw l ((dg (val l)).length - 1) ≠ 0 := by
  by_cases h0 : (dg (val l)).length = 0
  · exact .inl h0
  · refine .inr fun h => ?_
    have h1 := val_split l ((dg (val l)).length - 1)
    rw [top_succ, h, Nat.sub_add_cancel (by omega), top_dg] at h1
    have h2 := low_lt ho ((dg (val l)).length - 1)
    have h3 : (dg (val l)).length ≤ (dg (val l)).length - 1 := dg_length_le (by omega)
    omega
/-- The first words of a list, as many as its right list has, are its right list. -/
theorem take_dg {l : List Nat} (ho : okw l) : l.take (dg (val l)).length = dg (val l) :=
  take_right (dg_length_val_le ho) ho top_dg (atw_dg ho)
/-- Where cutting noughts off the end stops. -/
theorem dg_stop {l : List Nat} {n : Nat} (hn : n ≤ l.length) (ho : okw l) (ht : top l n = 0) (hr : n = 0 ∨ atw l (n - 1) ≠ 0) : (dg (val l)).length = n := by
  rw [← take_right hn ho ht hr, List.length_take, Nat.min_eq_left hn]
/-- A list as long as its right list is right. -/
theorem dg_of_length {l : List Nat} (ho : okw l) (h : l.length ≤ (dg (val l)).length) : l = dg (val l) := by
  have h1 := take_dg ho
  rwa [List.take_of_length_le h] at h1
theorem dg_of_ge {l : List Nat} (ho : okw l) (h : l.length = 0 ∨ 4294967296 ^ (l.length - 1) ≤ val l) : l = dg (val l) := by
  apply dg_of_length ho
  rcases h with h | h
  · omega
  · rcases Nat.lt_or_ge (dg (val l)).length l.length with h1 | h1
    · have h2 := lt_dg_length (val l)
      have h3 : (4294967296 : Nat) ^ (dg (val l)).length ≤ 4294967296 ^ (l.length - 1) := Nat.pow_le_pow_right (by decide) (by omega)
      omega
    · exact h1
theorem dg_ge {n : Nat} (h : (dg n).length ≠ 0) : 4294967296 ^ ((dg n).length - 1) ≤ n := by
  rcases Nat.lt_or_ge n (4294967296 ^ ((dg n).length - 1)) with h1 | h1
  · have := dg_length_le h1; omega
  · exact h1
theorem dg_snoc {l : List Nat} {x : Nat} (ho : okw l) (hx : x < 4294967296) (h0 : x ≠ 0) : l ++ [x] = dg (val (l ++ [x])) := by
  refine (dg_val (.inr ?_) (okw_snoc ho hx)).symm
  simp [atw, List.getD_eq_getElem?_getD, h0]
theorem lt_of_dg_length {a b : Nat} (h : (dg a).length < (dg b).length) : a < b := by
  rcases Nat.lt_or_ge a b with h1 | h1
  · exact h1
  · have := dg_length_mono h1; omega

theorem val_append_zeros (l : List Nat) (k : Nat) : val (l ++ List.replicate k 0) = val l := by rw [val_append, val_zeros]; simp
theorem okw_zeros (k : Nat) : okw (List.replicate k 0) := fun x hx => by rw [List.eq_of_mem_replicate hx]; decide
theorem atw_append_left {a b : List Nat} {i : Nat} (h : i < a.length) : atw (a ++ b) i = atw a i := by
  unfold atw; rw [List.getD_eq_getElem?_getD, List.getElem?_append_left h, ← List.getD_eq_getElem?_getD]
theorem atw_append_right {a b : List Nat} {i : Nat} (h : a.length ≤ i) : atw (a ++ b) i = atw b (i - a.length) := by
  unfold atw; rw [List.getD_eq_getElem?_getD, List.getElem?_append_right h, ← List.getD_eq_getElem?_getD]
theorem atw_drop (l : List Nat) (i j : Nat) : atw (l.drop i) j = atw l (i + j) := by
  unfold atw; rw [List.getD_eq_getElem?_getD, List.getElem?_drop, ← List.getD_eq_getElem?_getD]
theorem drop_atw {l : List Nat} {i : Nat} (h : i < l.length) : l.drop i = atw l i :: l.drop (i + 1) := by
  rw [List.drop_eq_getElem_cons h]; unfold atw; rw [List.getD_eq_getElem?_getD, List.getElem?_eq_getElem h]; rfl
/-- A word written over the first word behind those that are done. -/
theorem set_over (o l : List Nat) (k r : Nat) (ho : o.length = k) (hk : k < l.length) : (o ++ l.drop k).set k r = (o ++ [r]) ++ l.drop (k + 1) := by
  rw [drop_atw hk, List.set_append_right _ _ (by omega), ho, Nat.sub_self]
  simp
theorem atw_over (o l : List Nat) (k : Nat) (ho : o.length = k) : atw (o ++ l.drop k) k = atw l k := by
  rw [atw_append_right (by omega), ho, Nat.sub_self, atw_drop]; rfl
/-- Where nothing is carried any more the rest stays as it is. -/
theorem add_stop {la lb o : List Nat} {k : Nat} (ho : o.length = k) (hk : lb.length ≤ k) (h : val o = low la k + low lb k) : val (o ++ la.drop k) = val la + val lb := by
  rw [val_append, ho, h, low_ge hk, val_split la k]; unfold top; omega
theorem sub_stop {la lb o : List Nat} {k : Nat} (ho : o.length = k) (hk : lb.length ≤ k) (h : low la k = low lb k + val o) : val la = val lb + val (o ++ la.drop k) := by
  rw [val_append, ho, val_split la k, h, low_ge hk]; unfold top; omega
/-- A list of at most two words, put together. -/
theorem low_one (l : List Nat) : low l 1 = atw l 0 := by have := low_succ l 0; rw [low_zero] at this; simpa using this
/-- One word more of a sum, by its word and its carry. -/
theorem add_more {la lb o : List Nat} {k s r z : Nat} (ho : o.length = k) (h : val o + 4294967296 ^ k * s = low la k + low lb k) (hr : r < 4294967296) (ht : r + 4294967296 * z = s + (atw la k + atw lb k)) :
    val (o ++ [r]) + 4294967296 ^ (k + 1) * z = low la (k + 1) + low lb (k + 1) := by
  have h1 := add_step ho h rfl
  rw [← ht, show (r + 4294967296 * z) % 4294967296 = r by omega, show (r + 4294967296 * z) / 4294967296 = z by omega] at h1
  exact h1
/-- The end of a sum whose list is as long as the longer one: nothing is carried any more, or the carry stands behind it. -/
theorem add_right0 {x : List Nat} {p q : Nat} (ho : okw x) (hv : val x = p + q) (hl : x.length = 0 ∨ 4294967296 ^ (x.length - 1) ≤ p + q) : x = dg (p + q) := by
  rw [← hv] at hl ⊢; exact dg_of_ge ho hl
theorem add_right1 {o : List Nat} {k p q : Nat} (hok : okw o) (ho : o.length = k) (hv : val o + 4294967296 ^ k * 1 = p + q) : o ++ [1] = dg (p + q) := by
  have := dg_snoc hok (x := 1) (by decide) (by decide)
  rw [val_snoc, ho, hv] at this
  exact this
theorem words_le_take (ls : List (List Nat)) (k : Nat) : words (ls.take k) ≤ words ls := by
  induction ls generalizing k with
  | nil => simp
  | cons l r ih =>
    cases k with
    | zero => simp [words]
    | succ k =>
      have := ih k
      simp only [List.take_succ_cons, words]
      omega
end Go.Proofs.Ytipcgehcineblaa

/-
  Plain arithmetic behind layer 1 (words of 32 bits). Nothing of the program.
-/
namespace Go.Proofs.Ytipcgehcineblaa

theorem wrapu32 (n : Int) : IntKind.u32.wrap n = n % 4294967296 := by simp [IntKind.wrap, IntKind.signed, IntKind.bits]

/-- The product of two words is no greater than the square of the greatest word. -/
theorem mul_words {x y : Int} (hx0 : 0 ≤ x) (hx : x ≤ 4294967295) (hy0 : 0 ≤ y) (hy : y ≤ 4294967295) : 0 ≤ x * y ∧ x * y ≤ 18446744065119617025 := by
  refine ⟨Int.mul_nonneg hx0 hy0, ?_⟩
  have h1 : x * y ≤ 4294967295 * y := Int.mul_le_mul_of_nonneg_right hx hy0
  omega

/-- A quotient by a divisor above the high word is a word. -/
theorem div_word {hi lo y : Int} (h0 : 0 ≤ hi) (hl0 : 0 ≤ lo) (hl : lo ≤ 4294967295) (hy : hi < y) : 0 ≤ (hi * 4294967296 + lo) / y ∧ (hi * 4294967296 + lo) / y ≤ 4294967295 := by
  refine ⟨Int.ediv_nonneg (by omega) (by omega), ?_⟩
  have : (hi * 4294967296 + lo) / y < 4294967296 := Int.ediv_lt_of_lt_mul (by omega) (by omega)
  omega

theorem mod_word {n y : Int} (hy0 : 0 < y) : 0 ≤ n % y ∧ n % y < y := ⟨Int.emod_nonneg _ (by omega), Int.emod_lt_of_pos _ hy0⟩

theorem or_words {hi lo : Int} (h0 : 0 ≤ hi) (h : hi ≤ 4294967295) (hl0 : 0 ≤ lo) (hl : lo ≤ 4294967295) : bits .or .u64 (hi * 4294967296) lo = hi * 4294967296 + lo := by
  obtain ⟨a, rfl⟩ := Int.eq_ofNat_of_zero_le h0
  obtain ⟨b, rfl⟩ := Int.eq_ofNat_of_zero_le hl0
  have e : (a : Int) * 4294967296 = ((a * 4294967296 : Nat) : Int) := by omega
  rw [e]
  have h1 : (BitVec.ofInt 64 ((a * 4294967296 : Nat) : Int)).toNat = a * 4294967296 := by
    rw [BitVec.ofInt_natCast, BitVec.toNat_ofNat]; exact Nat.mod_eq_of_lt (by omega)
  have h2 : (BitVec.ofInt 64 (b : Int)).toNat = b := by
    rw [BitVec.ofInt_natCast, BitVec.toNat_ofNat]; exact Nat.mod_eq_of_lt (by omega)
  have h3 : a * 4294967296 ||| b = a * 4294967296 + b := by
    have := Nat.two_pow_add_eq_or_of_lt (i := 32) (b := b) (by omega) a
    rw [Nat.mul_comm a 4294967296]
    exact this.symm
  show IntKind.u64.wrap ((BitVec.ofInt 64 ((a * 4294967296 : Nat) : Int) ||| BitVec.ofInt 64 (b : Int)).toNat : Int) = _
  rw [BitVec.toNat_or, h1, h2, h3, IntKind.wrap_u64]
  omega

end Go.Proofs.Ytipcgehcineblaa

/-
  The contracts of package limb (layer 1) at this seat: what each call returns, for every word, and that the world is as it was.
-/
namespace Go.Proofs.Ytipcgehcineblaa
open Go.RowKit

theorem limb_add (x y c : Int) (w : World) (hx0 : 0 ≤ x) (hx : x ≤ 4294967295) (hy0 : 0 ≤ y) (hy : y ≤ 4294967295) (hc0 : 0 ≤ c) (hc : c ≤ 4294967295) : Calls Try.prog 83 #[.int .u32 x, .int .u32 y, .int .u32 c] w fun e w' => e = .returned (.tuple #[.int .u32 ((x + y + c) % 4294967296), .int .u32 ((x + y + c) / 4294967296)]) ∧ w = w' := by
  go_enter Try.func83, Try.ntmps83
  go_wp2
  go_ret2
  exact ⟨rfl, rfl⟩
theorem limb_sub (x y c : Int) (w : World) (hx0 : 0 ≤ x) (hx : x ≤ 4294967295) (hy0 : 0 ≤ y) (hy : y ≤ 4294967295) (hc0 : 0 ≤ c) (hc : c ≤ 4294967295) : Calls Try.prog 84 #[.int .u32 x, .int .u32 y, .int .u32 c] w fun e w' => e = .returned (.tuple #[.int .u32 ((x - y - c) % 4294967296), .int .u32 (-((x - y - c) / 4294967296))]) ∧ w = w' := by
  go_enter Try.func84, Try.ntmps84
  go_wp2
  go_ret2
  exact ⟨rfl, rfl⟩
theorem limb_mul (x y c d : Int) (w : World) (hx0 : 0 ≤ x) (hx : x ≤ 4294967295) (hy0 : 0 ≤ y) (hy : y ≤ 4294967295) (hc0 : 0 ≤ c) (hc : c ≤ 4294967295) (hd0 : 0 ≤ d) (hd : d ≤ 4294967295) : Calls Try.prog 61 #[.int .u32 x, .int .u32 y, .int .u32 c, .int .u32 d] w fun e w' => e = .returned (.tuple #[.int .u32 ((x * y + c + d) / 4294967296), .int .u32 ((x * y + c + d) % 4294967296)]) ∧ w = w' := by
  obtain ⟨hm0, hm⟩ := mul_words hx0 hx hy0 hy
  go_enter Try.func61, Try.ntmps61
  go_wp2
  go_ret2
  exact ⟨rfl, rfl⟩
theorem limb_div_no (hi lo y : Int) (w : World) (hge : y ≤ hi) : Calls Try.prog 88 #[.int .u32 hi, .int .u32 lo, .int .u32 y] w fun e w' => e = .returned (.tuple #[.int .u32 0, .int .u32 0, .bool false]) ∧ w = w' := by
  go_enter Try.func88, Try.ntmps88
  go_wp2
  go_ret3
  exact ⟨rfl, rfl⟩
theorem limb_div_yes (hi lo y : Int) (w : World) (hh0 : 0 ≤ hi) (hh : hi ≤ 4294967295) (hl0 : 0 ≤ lo) (hl : lo ≤ 4294967295) (hy : y ≤ 4294967295) (hlt : hi < y) : Calls Try.prog 88 #[.int .u32 hi, .int .u32 lo, .int .u32 y] w fun e w' => e = .returned (.tuple #[.int .u32 ((hi * 4294967296 + lo) / y), .int .u32 ((hi * 4294967296 + lo) % y), .bool true]) ∧ ∃ n, w' = w.drewN n := by
  have hor := or_words hh0 hh hl0 hl
  obtain ⟨hq0, hq⟩ := div_word hh0 hl0 hl hlt
  obtain ⟨hr0, hr⟩ := mod_word (n := hi * 4294967296 + lo) (y := y) (by omega)
  go_enter Try.func88, Try.ntmps88
  go_wp2
  go_quiet (fail)
  go_wp2
  go_ret3
  exact ⟨rfl, _, rfl⟩
theorem len8_at (i : Int) (h0 : 0 ≤ i) (h1 : i ≤ 255) {h : i.toNat < Lib.len8tab.size} : (((Lib.len8tab[i.toNat]'h).toNat : Nat) : Int) = (Lib.bitLen i.toNat : Int) := by
  rw [← Lib.len8_of i h0 h1]
  unfold Lib.len8
  rw [getElem?_pos Lib.len8tab i.toNat h]
  rfl
set_option maxHeartbeats 4000000 in
set_option maxRecDepth 100000 in
theorem bits_len32 (x : Int) (w : World) (h0 : 0 ≤ x) (h1 : x ≤ 4294967295) : Calls Try.prog 85 #[.int .u32 x] w fun e w' => e = .returned (.int .i64 (Lib.bitLen x.toNat)) ∧ w = w' := by
  go_enter Try.func85, Try.ntmps85
  by_cases c1 : 65536 ≤ x
  · by_cases c2 : 256 ≤ x / 65536
    · skip
      have hi : x / 65536 / 256 < (Lib.len8tab.size : Int) := by rw [Lib.len8tab_size]; omega
      have hj : 0 ≤ x / 65536 / 256 := by omega
      go_wp2
      go_ret
      refine ⟨congrArg Ending.returned (congrArg (Value.int IntKind.i64) ?_), rfl⟩
      rw [len8_at (x / 65536 / 256) (by omega) (by omega)]
      have l := Lib.bitLen_le8' (x / 65536 / 256) (by omega) (by omega)
      have e : (x / 65536 / 256).toNat = x.toNat / 16777216 := by omega
      have s := Lib.bitLen_shift24 x.toNat (by omega) (by omega)
      rw [e] at l ⊢
      rw [s]
      clear s e
      generalize Lib.bitLen _ = k at *
      unfold wrap64
      omega
    · skip
      have hi : x / 65536 < (Lib.len8tab.size : Int) := by rw [Lib.len8tab_size]; omega
      have hj : 0 ≤ x / 65536 := by omega
      go_wp2
      go_ret
      refine ⟨congrArg Ending.returned (congrArg (Value.int IntKind.i64) ?_), rfl⟩
      rw [len8_at (x / 65536) (by omega) (by omega)]
      have l := Lib.bitLen_le8' (x / 65536) (by omega) (by omega)
      have e : (x / 65536).toNat = x.toNat / 65536 := by omega
      have s := Lib.bitLen_shift16 x.toNat (by omega) (by omega)
      rw [e] at l ⊢
      rw [s]
      clear s e
      generalize Lib.bitLen _ = k at *
      unfold wrap64
      omega
  · by_cases c2 : 256 ≤ x
    · skip
      have hi : x / 256 < (Lib.len8tab.size : Int) := by rw [Lib.len8tab_size]; omega
      have hj : 0 ≤ x / 256 := by omega
      go_wp2
      go_ret
      refine ⟨congrArg Ending.returned (congrArg (Value.int IntKind.i64) ?_), rfl⟩
      rw [len8_at (x / 256) (by omega) (by omega)]
      have l := Lib.bitLen_le8' (x / 256) (by omega) (by omega)
      have e : (x / 256).toNat = x.toNat / 256 := by omega
      have s := Lib.bitLen_shift8 x.toNat (by omega) (by omega)
      rw [e] at l ⊢
      rw [s]
      clear s e
      generalize Lib.bitLen _ = k at *
      unfold wrap64
      omega
    · skip
      have hi : x < (Lib.len8tab.size : Int) := by rw [Lib.len8tab_size]; omega
      have hj : 0 ≤ x := by omega
      go_wp2
      go_ret
      refine ⟨congrArg Ending.returned (congrArg (Value.int IntKind.i64) ?_), rfl⟩
      rw [len8_at (x) (by omega) (by omega)]
      have l := Lib.bitLen_le8' (x) (by omega) (by omega)
      generalize Lib.bitLen _ = k at *
      unfold wrap64
      omega
theorem limb_len (x : Int) (w : World) (h0 : 0 ≤ x) (h1 : x ≤ 4294967295) : Calls Try.prog 89 #[.int .u32 x] w fun e w' => e = .returned (.int .i64 (Lib.bitLen x.toNat)) ∧ w = w' := by
  go_enter Try.func89, Try.ntmps89
  go_wp2_with (go_at_call 85; refine (bits_len32 x _ h0 h1).mono ?_; rintro e w' ⟨rfl, rfl⟩)
  go_ret
  exact ⟨rfl, rfl⟩

end Go.Proofs.Ytipcgehcineblaa

/-
  The contracts of package nat (layer 2) at this seat: what each call returns, for every list of words; nothing that was there has turned.
-/
namespace Go.Proofs.Ytipcgehcineblaa
open Go.RowKit

theorem infoU32 : (Try.prog.info? 85).map (fun i => (i.zero, i.size, i.bytes)) = some (some (.int .u32 0), 1, 4) := by kernel_rfl

/-- A row that fills its array, and the array. -/
theorem own_heap {w : World} {base g : Nat} {e : TypeId} {n : Nat} {xs : List Value} (h : w.ownsRow base e 1 (.slice (some ⟨g, 0, none⟩) n n) n xs) : w.heap[g]? = some (.cells xs.toArray e (0, 0)) := by
  rcases h.2 with ⟨h', _⟩ | ⟨g', cap', cur, h', _, hg, _, _, hcs, htake⟩
  · simp at h'
  · simp only [Value.slice.injEq, Option.some.injEq, Addr.mk.injEq, and_true, true_and] at h'
    obtain ⟨rfl, rfl⟩ := h'
    rw [List.take_of_length_le (by rw [Array.length_toList, hcs]; omega)] at htake
    rw [hg, ← htake]
theorem own_ofHeap {w : World} {base g : Nat} {e : TypeId} {n : Nat} {xs : List Value} (h : w.heap[g]? = some (.cells xs.toArray e (0, 0))) (hb : base ≤ g) (hl : xs.length = n) (hm : n ≤ maxLen) : w.ownsRow base e 1 (.slice (some ⟨g, 0, none⟩) n n) n xs :=
  ⟨by omega, .inr ⟨g, n, xs.toArray, rfl, hb, h, Nat.le_refl _, hm, by simp [hl], by rw [List.take_of_length_le (by simp [hl])]⟩⟩
theorem splice_all {L cs : List Value} (h : cs.length = L.length) : splice L 0 cs = cs := by
  unfold splice; rw [List.drop_of_length_le (by omega)]; simp
/-- The address of the first word, and the words as the cells that a copy reads. -/
theorem Wd.some_cells {w w' : World} {a : Option Addr} {n cap : Nat} {l : List Nat} (h : Wd w a n cap l) (h' : Wd w' a n cap l) (hn : 0 < n) : ∃ ad, a = some ad ∧ ∀ j u, (wcells l)[j]? = some u → w'.cell? (ad.add j) = some u := by
  obtain ⟨b, off, rfl, _⟩ := h.at hn
  exact ⟨_, rfl, h'.cells⟩

/-- What a list holds without the noughts at its end. -/
theorem Wd.trim {w : World} {a : Option Addr} {n cap : Nat} {l : List Nat} (h : Wd w a n cap l) : Wd w a (dg (val l)).length cap (dg (val l)) := by
  have h1 := h.take (k := (dg (val l)).length) (by rw [← h.len]; exact dg_length_val_le h.ok)
  rwa [take_dg h.ok] at h1
theorem Wd.trim_le {w : World} {a : Option Addr} {n cap : Nat} {l : List Nat} (h : Wd w a n cap l) : (dg (val l)).length ≤ n := by rw [← h.len]; exact dg_length_val_le h.ok

def TrimPost (a : Option Addr) (cap n : Nat) (l : List Nat) (w : World) (e : Ending) (w' : World) : Prop :=
  ∃ m : Nat, e = .returned (.slice a m cap) ∧ Hid (m = (dg (val l)).length) ∧ m ≤ n ∧ Hid (Wd w a m cap (dg (val l))) ∧ w = w'
theorem trim_post {a : Option Addr} {n cap k : Nat} {l : List Nat} {w : World} (h : Wd w a n cap l) (hk : k = (dg (val l)).length) : TrimPost a cap n l w (.returned (.slice a k cap)) w :=
  ⟨k, rfl, Lib.hid hk, by rw [hk]; exact h.trim_le, Lib.hid (by rw [hk]; exact h.trim), rfl⟩
set_option maxRecDepth 4096 in
set_option maxHeartbeats 400000 in
theorem nat_trim (a : Option Addr) (n cap : Nat) (l : List Nat) (w : World) (h : Wd w a n cap l) :
    Calls Try.prog 65 #[.slice a n cap] w (TrimPost a cap n l w) := by
  obtain ⟨hb1, hb2⟩ := h.bound
  have H := Lib.hid h
  clear h
  go_enter Try.func65, Try.ntmps65
  go_wp2
  go_loop [3] (fun i => ∃ k : Nat, k ≤ n ∧ i = .int .i64 k ∧ Hid (top l k = 0)) (fun i => (intOf i).toNat)
  case atStart => exact ⟨n, by omega, rfl, Lib.hid (top_ge (by have := H.out.len; omega))⟩
  case round =>
    obtain ⟨k, hk, rfl, Ht⟩ := hrel
    cases k with
    | zero =>
      have Hfin := Lib.hid (trim_post (k := 0) H.out (dg_stop (Nat.zero_le _) H.out.ok Ht.out (.inl rfl)).symm)
      cases a with
      | none =>
        obtain ⟨rfl, rfl, rfl⟩ := H.out.ofNone
        go_wp2
        go_ret
        exact Hfin.out
      | some ad =>
        go_wp2
        go_ret
        exact Hfin.out
    | succ k =>
      obtain ⟨b, off, rfl, hc⟩ := H.out.at (by omega)
      have hck := hc k (by omega)
      clear hc
      by_cases hz : atw l k = 0
      · have hzb : (((atw l k : Nat) : Int) == 0) = true := by simp [hz]
        have Hz := Lib.hid hz
        clear hz
        go_wp2
        go_round
        case rel => exact ⟨k, by omega, by go_num, Lib.hid (by rw [top_succ, Hz.out, Ht.out])⟩
        case measure => simp [intOf]
      · have hzb : (((atw l k : Nat) : Int) == 0) = false := by simp [hz]
        have Hfin := Lib.hid (trim_post (k := k + 1) H.out (dg_stop (by rw [H.out.len]; exact hk) H.out.ok Ht.out (.inr (by simpa using hz))).symm)
        clear hz
        go_wp2
        go_ret
        exact Hfin.out
theorem nat_sign_yes (w : World) : Calls Try.prog 76 #[.bool true] w fun e w' => e = .returned (.int .i64 (-1)) ∧ w = w' := by
  go_enter Try.func76, Try.ntmps76
  go_wp2
  go_ret
  exact ⟨rfl, rfl⟩
theorem nat_sign_no (w : World) : Calls Try.prog 76 #[.bool false] w fun e w' => e = .returned (.int .i64 1) ∧ w = w' := by
  go_enter Try.func76, Try.ntmps76
  go_wp2
  go_ret
  exact ⟨rfl, rfl⟩
theorem nat_zero (a : Option Addr) (n cap : Nat) (l : List Nat) (w : World) (h : Wd w a n cap l) :
    Calls Try.prog 53 #[.slice a n cap] w (Gives (.bool (decide (val l = 0))) w) := by
  obtain ⟨hb1, hb2⟩ := h.bound
  have H := Lib.hid h
  clear h
  go_enter Try.func53, Try.ntmps53
  go_wp2_with fail
  refine (nat_trim _ _ _ _ _ H.out).mono ?_
  rintro e w' ⟨m, rfl, Hm, hmn, HT, rfl⟩
  by_cases h0 : m = 0
  · have Hv := Lib.hid (dg_nil_iff.1 (Hm.out.symm.trans h0))
    subst h0
    go_wp2
    go_ret
    exact ⟨ret_bool (decide_eq_true Hv.out).symm, Below.refl _ _⟩
  · have Hv := Lib.hid (fun h => h0 (Hm.out.trans (dg_nil_iff.2 h)))
    have hmb : ((m : Int) == 0) = false := by simp [h0]
    clear h0
    go_wp2
    go_ret
    exact ⟨ret_bool (decide_eq_false Hv.out).symm, Below.refl _ _⟩
theorem nat_of (x : Nat) (w : World) (hx : x ≤ 18446744073709551615) : Calls Try.prog 44 #[.int .u64 (x : Int)] w (Lst (dg x) w) := by
  have Hv : Hid (val [x % 4294967296, x / 4294967296] = x) := Lib.hid (by simp only [val]; omega)
  have Hlit := Lib.hid (Wd.lit2 w 85 (x := x % 4294967296) (y := x / 4294967296) (by omega) (by omega))
  go_enter Try.func44, Try.ntmps44
  go_wp2_with fail
  refine (nat_trim _ _ _ _ _ Hlit.out).mono ?_
  rintro e w' ⟨m, rfl, Hm, hmn, HT, rfl⟩
  rw [Hv.out] at HT
  go_wp2
  go_ret
  exact ⟨_, _, _, rfl, HT.out, below_alloc _ _⟩
/-- A copy in a row of the call's own. -/
def NormPost (l : List Nat) (w : World) (e : Ending) (w' : World) : Prop :=
  ∃ g m : Nat, e = .returned (.slice (some ⟨g, 0, none⟩) m m) ∧ Hid (m = (dg (val l)).length) ∧ Hid (w'.ownsRow w.heap.size 85 1 (.slice (some ⟨g, 0, none⟩) m m) m (wcells (dg (val l)))) ∧ Below w.heap.size w w'
set_option maxRecDepth 4096 in
set_option maxHeartbeats 400000 in
theorem nat_norm (a : Option Addr) (n cap : Nat) (l : List Nat) (w : World) (h : Wd w a n cap l) (hn : n ≤ 17592183947264) :
    Calls Try.prog 60 #[.slice a n cap] w (NormPost l w) := by
  obtain ⟨i0, hi, hz0, hz1, hz2⟩ := info_parts infoU32
  obtain ⟨hb1, hb2⟩ := h.bound
  have H := Lib.hid h
  clear h
  go_enter Try.func60, Try.ntmps60
  go_wp2_with fail
  refine (nat_trim _ _ _ _ _ H.out).mono ?_
  rintro e w' ⟨m, rfl, Hm, hmn, HT, rfl⟩
  go_wp2_with (first
    | (at_make; refine wpList_make_full _ rfl _ _ 23 rfl w.heap.size 85 i0 (.int .u32 0) 1 Try.underlying23 hi hz0 hz1 .i64 .i64 _ _ m rfl rfl (by omega) (by omega) (by rw [hz2]; omega) (by unfold maxLen; omega) (Nat.le_refl _) ?_; intro w1 hown1 hgrow1; rw [wcells_made] at hown1; have Hg := Lib.hid (own_heap hown1); have hB1 : Below w.heap.size w w1 := (Below.refl _ _).grown hgrow1 (Nat.le_refl _) (fun k hk => by cases hk); clear hown1 hgrow1)
    | (refine wpList_copy_splice (o := ⟨some 11, _, _, _, _, _⟩) rfl (.tmp 9) (.tmp 10) 23 23 rfl 85 Try.underlying23 (by rw [hi]; simp [hz1]) (some ⟨w.heap.size, 0, none⟩) a m m m cap (by rfl) (by rfl) w.heap.size 0 (wcells (List.replicate m 0)) 85 Hg.out (wcells (dg (val l))) (by rw [wcells_length, ← Hm.out]; simp) (fun h => ⟨rfl, HT.out.some_cells (HT.out.later hB1) (by rw [wcells_length, ← Hm.out] at h; exact h)⟩) (by rw [wcells_length, wcells_length, ← Hm.out]; simp) (wcells_one _) w.heap.size w hB1 (Nat.le_refl _) ?_; intro w2 hg2 hb2))
  go_ret
  refine ⟨w.heap.size, m, rfl, Hm, ?_, hb2⟩
  have hg := hg2.out
  rw [splice_all (by rw [wcells_length, wcells_length, ← Hm.out]; simp)] at hg
  exact Lib.hid (own_ofHeap hg (Nat.le_refl _) (by rw [wcells_length]; exact Hm.out.symm) (by unfold maxLen; omega))
end Go.Proofs.Ytipcgehcineblaa
