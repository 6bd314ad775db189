/-
  Several texts of this claim as one, group 1.
-/
import Derived.WalkKit
import Derived.ProofKit
import Derived.OpenShut
import Derived.WalkSpells
import Derived.WalkLawsBesides
import Derived.Lib.Hide
import Derived.Test.YthblmpkdcahmkaaRows
import Derived.Lib.BitFns
import Derived.Lib.TrailingZeros
import Derived.Laws.Bits64b
/-
  What every law's row asks behind its walk, said once: a law that returned true and left all that was there as it was meets its specification. Of no program.
-/
namespace Go.Proofs.Ythblmpkdcahmkaa
open Go.ChangeShapes Go.WideShapes Go.ChangeAt Go.RowKit

theorem below_of_same {w w' : World} (h : w = w') : Below w.heap.size w w' := by subst h; exact Below.refl _ _
/-- A law's walk that leaves the world as it was, in the form that leaves what was there. -/
theorem same_below {P : Program} {f : FuncId} {args : Array Value} {w : World} (h : Calls P f args w fun e w' => e = .returned (.bool true) ∧ w = w') : Calls P f args w fun e w' => e = .returned (.bool true) ∧ Below w.heap.size w w' :=
  h.mono fun _ _ ⟨he, hw⟩ => ⟨he, below_of_same hw⟩

/-- The arguments read again as they read before. -/
theorem stays_all {H : Type} {enc : TypeId × Value → H} {P : Program} (hl : laidOutB P = true) {W W' : World} (hb : Below W.heap.size W W') :
    ∀ (ts : List TypeId) (vs : List Value) (ds : List (DataW H)) (ps : List MemPlace), (ts.all fun t => P.readableRec t && decide (t < P.types.size)) = true →
      DataW.TrodAll enc P W 0 (fun _ => true) true ts vs ds ps → (∀ x ∈ ps, x.block < W.heap.size) →
      DataW.TrodAll enc P W' 0 (fun b => decide (b < W.heap.size)) true ts vs ds ps
  | [], [], [], _, _, h, _ => h
  | t :: ts, v :: vs, d :: ds, ps, hr, h, hlt => by
    obtain ⟨p, q, h1, h2, rfl⟩ := h
    simp only [List.all_cons, Bool.and_eq_true, decide_eq_true_eq] at hr
    exact ⟨p, q, Below.trod hl hr.1.1 hr.1.2 h1 hb (fun x hx => hlt x (by simp [hx])), stays_all hl hb ts vs ds q hr.2 h2 (fun x hx => hlt x (by simp [hx])), rfl⟩
  | [], [], _ :: _, _, _, h, _ => h.elim
  | [], _ :: _, _, _, _, h, _ => h.elim
  | _ :: _, [], _, _, _, h, _ => h.elim
  | _ :: _, _ :: _, [], _, _, h, _ => h.elim

theorem law_post {H : Type} {enc : TypeId × Value → H} {P : Program} {f : Func} {s : ChangeSpec} {apart fresh handsOn : Bool} {W W' : World} {args : Array Value} {ds gs : List (DataW H)} {before : List MemPlace} {tb : TypeId}
    (hl : laidOutB P = true) (hr : (f.params.toList.all fun t => P.readableRec t && decide (t < P.types.size)) = true) (hrt : f.resultTypes = #[tb]) (htb : P.underlying tb = some .bool) (hvars : s.vars = [])
    (hs : s.fn H ds = { results := [.lit (.bool true)], args := ds })
    (hW : DataW.Whole enc P f.params.toList s.vars apart W args.toList ds gs before) (hb : Below W.heap.size W W') :
    s.post enc P f apart fresh handsOn false W args (.bool true) W' := by
  have hW0 := hW
  obtain ⟨p, q, hA, hV, rfl, _, _⟩ := hW
  rw [hvars] at hV
  obtain ⟨rfl, rfl⟩ := trodVars_none hV
  have hlt : ∀ x ∈ p, x.block < W.heap.size := fun x hx => hW0.lt x (by simp [hx])
  refine ⟨ds, [], p ++ [], [], p, [], hW0, ?_, ?_, ?_, hb.frame _, fun h => by cases h⟩
  · rw [List.append_nil, hs, hrt]
    exact trodAll_mk1 (shut_bool htb true)
  · rw [List.append_nil, hs]
    exact stays_all hl hb _ _ _ _ hr hA hlt
  · rw [List.append_nil, hs, hvars]
    rfl
end Go.Proofs.Ythblmpkdcahmkaa

/-
  Plain mathematics: lists of words of 32 bits and their values. Nothing of the program.
-/
namespace Go.Proofs.Ythblmpkdcahmkaa

/-- The value of a list of words, the lowest first. -/
def val : List Nat → Nat
  | [] => 0
  | x :: l => x + 4294967296 * val l
/-- Each is a word. -/
def okw (l : List Nat) : Prop := ∀ x ∈ l, x < 4294967296
/-- The right list of a value. -/
def dg (n : Nat) : List Nat := if h : n = 0 then [] else n % 4294967296 :: dg (n / 4294967296)
termination_by n
decreasing_by omega
/-- The word at a place, 0 behind the end; what stands below a place, and from it on. -/
def atw (l : List Nat) (i : Nat) : Nat := l.getD i 0
def low (l : List Nat) (i : Nat) : Nat := val (l.take i)
def top (l : List Nat) (i : Nat) : Nat := val (l.drop i)
/-- The list without the noughts at its end. -/
def rightw (l : List Nat) : Prop := l = [] ∨ atw l (l.length - 1) ≠ 0

theorem pow_succ32 (i : Nat) : (4294967296 : Nat) ^ (i + 1) = 4294967296 * 4294967296 ^ i := by rw [Nat.pow_succ, Nat.mul_comm]
theorem pow_pos32 (i : Nat) : 0 < (4294967296 : Nat) ^ i := Nat.pow_pos (by decide)

theorem okw_nil : okw [] := fun _ h => by cases h
theorem okw_cons {x : Nat} {l : List Nat} : okw (x :: l) ↔ x < 4294967296 ∧ okw l := by simp [okw]
theorem okw_append {a b : List Nat} : okw (a ++ b) ↔ okw a ∧ okw b := by simp only [okw, List.mem_append]; exact ⟨fun h => ⟨fun x hx => h x (.inl hx), fun x hx => h x (.inr hx)⟩, fun h x hx => hx.elim (h.1 x) (h.2 x)⟩
theorem okw_snoc {l : List Nat} {x : Nat} (h : okw l) (hx : x < 4294967296) : okw (l ++ [x]) := okw_append.2 ⟨h, by simpa [okw] using hx⟩
theorem okw_take {l : List Nat} (h : okw l) (i : Nat) : okw (l.take i) := fun x hx => h x (List.mem_of_mem_take hx)
theorem okw_drop {l : List Nat} (h : okw l) (i : Nat) : okw (l.drop i) := fun x hx => h x (List.mem_of_mem_drop hx)
theorem atw_lt {l : List Nat} (h : okw l) (i : Nat) : atw l i < 4294967296 := by
  unfold atw
  by_cases hi : i < l.length
  · rw [List.getD_eq_getElem?_getD, List.getElem?_eq_getElem hi]; exact h _ (List.getElem_mem hi)
  · rw [List.getD_eq_getElem?_getD, List.getElem?_eq_none (by omega)]; decide
theorem atw_ge {l : List Nat} {i : Nat} (h : l.length ≤ i) : atw l i = 0 := by
  unfold atw; rw [List.getD_eq_getElem?_getD, List.getElem?_eq_none h]; rfl

theorem val_append : ∀ (a b : List Nat), val (a ++ b) = val a + 4294967296 ^ a.length * val b
  | [], b => by simp [val]
  | x :: a, b => by
    rw [List.cons_append, val, val, val_append a b, List.length_cons, pow_succ32, Nat.mul_add, Nat.mul_assoc]
    omega
theorem val_snoc (l : List Nat) (x : Nat) : val (l ++ [x]) = val l + 4294967296 ^ l.length * x := by rw [val_append]; simp [val]
theorem val_lt : ∀ {l : List Nat}, okw l → val l < 4294967296 ^ l.length
  | [], _ => by simp [val]
  | x :: l, h => by
    obtain ⟨hx, hl⟩ := okw_cons.1 h
    have := val_lt hl
    rw [val, List.length_cons, pow_succ32]
    omega
theorem val_zeros (k : Nat) : val (List.replicate k 0) = 0 := by
  induction k with
  | zero => rfl
  | succ k ih => rw [List.replicate_succ, val, ih]

theorem low_zero (l : List Nat) : low l 0 = 0 := by simp [low, val]
theorem low_ge {l : List Nat} {i : Nat} (h : l.length ≤ i) : low l i = val l := by rw [low, List.take_of_length_le h]
theorem low_lt {l : List Nat} (h : okw l) (i : Nat) : low l i < 4294967296 ^ i := by
  have h1 := val_lt (okw_take h i)
  have h2 : (4294967296 : Nat) ^ (l.take i).length ≤ 4294967296 ^ i := Nat.pow_le_pow_right (by decide) (List.length_take_le _ _)
  unfold low; omega
theorem low_succ (l : List Nat) (i : Nat) : low l (i + 1) = low l i + 4294967296 ^ i * atw l i := by
  unfold low atw
  by_cases hi : i < l.length
  · rw [List.take_succ_eq_append_getElem hi, val_snoc, List.length_take, Nat.min_eq_left (by omega), List.getD_eq_getElem?_getD, List.getElem?_eq_getElem hi]; rfl
  · rw [List.take_of_length_le (by omega), List.take_of_length_le (by omega), List.getD_eq_getElem?_getD, List.getElem?_eq_none (by omega)]; simp
theorem top_zero (l : List Nat) : top l 0 = val l := by simp [top]
theorem top_ge {l : List Nat} {i : Nat} (h : l.length ≤ i) : top l i = 0 := by rw [top, List.drop_of_length_le h]; rfl
theorem top_succ (l : List Nat) (i : Nat) : top l i = atw l i + 4294967296 * top l (i + 1) := by
  unfold top atw
  by_cases hi : i < l.length
  · rw [List.drop_eq_getElem_cons hi, val, List.getD_eq_getElem?_getD, List.getElem?_eq_getElem hi]; rfl
  · rw [List.drop_of_length_le (by omega), List.drop_of_length_le (by omega), List.getD_eq_getElem?_getD, List.getElem?_eq_none (by omega)]; simp [val]
theorem val_split (l : List Nat) (i : Nat) : val l = low l i + 4294967296 ^ i * top l i := by
  induction i with
  | zero => rw [low_zero, top_zero]; simp
  | succ i ih => rw [ih, low_succ, top_succ, pow_succ32, Nat.mul_add, ← Nat.mul_assoc, Nat.mul_comm 4294967296]; omega

theorem dg_zero : dg 0 = [] := by rw [dg]; simp
theorem dg_pos {n : Nat} (h : n ≠ 0) : dg n = n % 4294967296 :: dg (n / 4294967296) := by rw [dg]; simp [h]
theorem dg_word {n : Nat} (h0 : n ≠ 0) (h : n < 4294967296) : dg n = [n] := by rw [dg_pos h0, show n / 4294967296 = 0 from by omega, dg_zero, show n % 4294967296 = n from by omega]
theorem okw_dg (n : Nat) : okw (dg n) := by
  induction n using Nat.strongRecOn with
  | _ n ih =>
    by_cases h : n = 0
    · subst h; rw [dg_zero]; exact okw_nil
    · rw [dg_pos h]; exact okw_cons.2 ⟨by omega, ih _ (by omega)⟩
theorem val_dg (n : Nat) : val (dg n) = n := by
  induction n using Nat.strongRecOn with
  | _ n ih =>
    by_cases h : n = 0
    · subst h; rw [dg_zero]; rfl
    · rw [dg_pos h, val, ih _ (by omega)]; omega
theorem right_cons {x : Nat} {l : List Nat} (h : rightw (x :: l)) : rightw l ∧ (l = [] → x ≠ 0) := by
  cases h with
  | inl h => cases h
  | inr h =>
    cases l with
    | nil => exact ⟨.inl rfl, fun _ => by simpa [atw] using h⟩
    | cons y m => exact ⟨.inr (by simpa [atw] using h), fun h => by cases h⟩
theorem right_val_zero : ∀ {l : List Nat}, rightw l → val l = 0 → l = []
  | [], _, _ => rfl
  | x :: l, h, hv => by
    obtain ⟨h1, h2⟩ := right_cons h
    rw [val] at hv
    have := right_val_zero h1 (by omega)
    exact absurd (by omega) (h2 this)
/-- The right list of a value is the only one. -/
theorem dg_val : ∀ {l : List Nat}, rightw l → okw l → dg (val l) = l
  | [], _, _ => dg_zero
  | x :: l, h, ho => by
    obtain ⟨h1, _⟩ := right_cons h
    obtain ⟨hx, hl⟩ := okw_cons.1 ho
    have hne : val (x :: l) ≠ 0 := fun e => by cases right_val_zero h e
    rw [dg_pos hne, val]
    have e1 : (x + 4294967296 * val l) % 4294967296 = x := by omega
    have e2 : (x + 4294967296 * val l) / 4294967296 = val l := by omega
    rw [e1, e2, dg_val h1 hl]
theorem dg_length_le {n k : Nat} (h : n < 4294967296 ^ k) : (dg n).length ≤ k := by
  induction k generalizing n with
  | zero => have : n = 0 := by simpa using h
            subst this; rw [dg_zero]; simp
  | succ k ih =>
    by_cases h0 : n = 0
    · subst h0; rw [dg_zero]; simp
    · rw [dg_pos h0, List.length_cons]
      have := ih (n := n / 4294967296) (by rw [pow_succ32] at h; omega)
      omega
theorem lt_dg_length (n : Nat) : n < 4294967296 ^ (dg n).length := by
  have := val_lt (okw_dg n); rwa [val_dg] at this
theorem right_dg (n : Nat) : rightw (dg n) := by
  induction n using Nat.strongRecOn with
  | _ n ih =>
    by_cases h : n = 0
    · subst h; rw [dg_zero]; exact .inl rfl
    · refine .inr ?_
      rw [dg_pos h]
      cases hd : dg (n / 4294967296) with
      | nil =>
        have h0 : n / 4294967296 = 0 := by have := val_dg (n / 4294967296); rw [hd] at this; exact this.symm
        simp [atw]; omega
      | cons y m =>
        rcases ih (n / 4294967296) (by omega) with h1 | h1
        · rw [hd] at h1; cases h1
        · rw [hd] at h1; simpa [atw] using h1
theorem dg_inj {a b : Nat} (h : dg a = dg b) : a = b := by have := congrArg val h; rwa [val_dg, val_dg] at this
theorem dg_length_mono {a b : Nat} (h : a ≤ b) : (dg a).length ≤ (dg b).length := dg_length_le (Nat.lt_of_le_of_lt h (lt_dg_length b))
theorem dg_length_val_le {l : List Nat} (h : okw l) : (dg (val l)).length ≤ l.length := dg_length_le (val_lt h)
theorem dg_length_pow {n k : Nat} : (dg n).length ≤ k ↔ n < 4294967296 ^ k :=
  ⟨fun h => Nat.lt_of_lt_of_le (lt_dg_length n) (Nat.pow_le_pow_right (by decide) h), dg_length_le⟩

/-- Cutting noughts off the end. -/
theorem take_right {l : List Nat} {n : Nat} (hn : n ≤ l.length) (ho : okw l) (ht : top l n = 0) (hr : n = 0 ∨ atw l (n - 1) ≠ 0) : l.take n = dg (val l) := by
  have hv : val (l.take n) = val l := by
    have := val_split l n
    rw [ht] at this
    unfold low at this
    omega
  rw [← hv]
  refine (dg_val ?_ (okw_take ho n)).symm
  by_cases h0 : n = 0
  · exact .inl (by subst h0; simp)
  · refine .inr ?_
    have hlen : (l.take n).length = n := by rw [List.length_take, Nat.min_eq_left hn]
    rw [hlen]
    unfold atw at *
    rw [List.getD_eq_getElem?_getD, List.getElem?_take, if_pos (by omega), ← List.getD_eq_getElem?_getD]
    exact hr.resolve_left h0
/-- A word of a take. -/
theorem atw_take {l : List Nat} {n i : Nat} (h : i < n) : atw (l.take n) i = atw l i := by
  unfold atw; rw [List.getD_eq_getElem?_getD, List.getElem?_take, if_pos h, ← List.getD_eq_getElem?_getD]

/-- One word more of a sum; of a difference. -/
theorem add_step {la lb o : List Nat} {k s t : Nat} (ho : o.length = k) (h : val o + 4294967296 ^ k * s = low la k + low lb k) (ht : t = s + (atw la k + atw lb k)) :
    val (o ++ [t % 4294967296]) + 4294967296 ^ (k + 1) * (t / 4294967296) = low la (k + 1) + low lb (k + 1) := by
  rw [val_snoc, ho, low_succ, low_succ, pow_succ32]
  generalize 4294967296 ^ k = P at *
  have e : P * (t % 4294967296) + 4294967296 * P * (t / 4294967296) = P * t := by
    rw [Nat.mul_comm 4294967296 P, Nat.mul_assoc, ← Nat.mul_add, Nat.mod_add_div]
  have e2 : P * t = P * s + (P * atw la k + P * atw lb k) := by rw [ht, Nat.mul_add, Nat.mul_add]
  generalize P * t = u at *
  generalize P * s = v at *
  generalize P * (t % 4294967296) = x at *
  generalize 4294967296 * P * (t / 4294967296) = y at *
  omega
theorem add_end {la lb o : List Nat} {N s : Nat} (ha : okw la) (hb : okw lb) (hla : la.length ≤ N) (hlb : lb.length ≤ N) (ho : o.length = N + 1) (h : val o + 4294967296 ^ (N + 1) * s = low la (N + 1) + low lb (N + 1)) :
    val o = val la + val lb := by
  rw [low_ge (by omega), low_ge (by omega)] at h
  have h1 : val la < 4294967296 ^ N := Nat.lt_of_lt_of_le (val_lt ha) (Nat.pow_le_pow_right (by decide) hla)
  have h2 : val lb < 4294967296 ^ N := Nat.lt_of_lt_of_le (val_lt hb) (Nat.pow_le_pow_right (by decide) hlb)
  rw [pow_succ32] at h
  generalize 4294967296 ^ N = P at *
  have hs : s = 0 := by
    cases s with
    | zero => rfl
    | succ s =>
      have h3 : 4294967296 * P * 1 ≤ 4294967296 * P * (s + 1) := Nat.mul_le_mul_left _ (by omega)
      generalize 4294967296 * P * (s + 1) = z at *
      omega
  subst hs
  omega
theorem sub_step {la lb o : List Nat} {k s z r : Nat} (ho : o.length = k) (h : low la k + 4294967296 ^ k * s = low lb k + val o) (ht : atw la k + 4294967296 * z = atw lb k + s + r) :
    low la (k + 1) + 4294967296 ^ (k + 1) * z = low lb (k + 1) + val (o ++ [r]) := by
  rw [val_snoc, ho, low_succ, low_succ, pow_succ32]
  generalize 4294967296 ^ k = P at *
  have e : P * atw la k + 4294967296 * P * z = P * atw lb k + P * s + P * r := by
    rw [Nat.mul_comm 4294967296 P, Nat.mul_assoc, ← Nat.mul_add, ht, Nat.mul_add, Nat.mul_add]
  generalize P * atw la k = x at *
  generalize 4294967296 * P * z = y at *
  generalize P * atw lb k = u at *
  generalize P * s = v at *
  generalize P * r = t at *
  omega
theorem sub_end {la lb o : List Nat} {N s : Nat} (hle : val lb ≤ val la) (hla : la.length ≤ N) (hlb : lb.length ≤ N) (ho : o.length = N) (hok : okw o) (h : low la N + 4294967296 ^ N * s = low lb N + val o) :
    val o = val la - val lb := by
  rw [low_ge hla, low_ge hlb] at h
  have h1 := val_lt hok
  rw [ho] at h1
  generalize 4294967296 ^ N = P at *
  have hs : s = 0 := by
    cases s with
    | zero => rfl
    | succ s =>
      have h3 : P * 1 ≤ P * (s + 1) := Nat.mul_le_mul_left _ (by omega)
      generalize P * (s + 1) = z at *
      omega
  subst hs
  omega
/-- A word stored behind those that are stored already. -/
theorem set_next (o : List Nat) (N k r : Nat) (ho : o.length = k) (hk : k < N) : (o ++ List.replicate (N - k) 0).set k r = (o ++ [r]) ++ List.replicate (N - (k + 1)) 0 := by
  obtain ⟨j, hj⟩ : ∃ j, N - k = j + 1 := ⟨N - k - 1, by omega⟩
  have hj2 : N - (k + 1) = j := by omega
  rw [hj, hj2, List.replicate_succ, List.set_append_right _ _ (by omega), ho, Nat.sub_self]
  simp

theorem val_two {l : List Nat} (h : l.length ≤ 2) : val l = atw l 0 + 4294967296 * atw l 1 := by
  match l, h with
  | [], _ => rfl
  | [x], _ => simp [val, atw]
  | [x, y], _ => simp [val, atw]
theorem dg_nil_iff {n : Nat} : (dg n).length = 0 ↔ n = 0 :=
  ⟨fun h => by have := val_dg n; rw [List.eq_nil_of_length_eq_zero h] at this; exact this.symm, fun h => by rw [h, dg_zero]; rfl⟩

/-- Compared from the top: the first place at which two lists part decides. -/
theorem cmp_lt {a b : List Nat} (ha : okw a) {i : Nat} (ht : top a (i + 1) = top b (i + 1)) (h : atw a i < atw b i) : val a < val b := by
  rw [val_split a i, val_split b i, top_succ a i, top_succ b i, ht]
  have h1 := low_lt ha i
  have h2 : 4294967296 ^ i * (atw a i + 4294967296 * top b (i + 1)) + 4294967296 ^ i ≤ 4294967296 ^ i * (atw b i + 4294967296 * top b (i + 1)) := by
    rw [← Nat.mul_succ]; exact Nat.mul_le_mul_left _ (by omega)
  omega
theorem top_eq {a b : List Nat} {i : Nat} (ht : top a (i + 1) = top b (i + 1)) (h : atw a i = atw b i) : top a i = top b i := by rw [top_succ a, top_succ b, ht, h]

/-- Lists of one length are the same if they have the same words. -/
theorem list_eq_of_at {a b : List Nat} (hl : a.length = b.length) (h : ∀ j, j < a.length → atw a j = atw b j) : a = b := by
  apply List.ext_getElem hl
  intro j h1 h2
  have := h j h1
  unfold atw at this
  rwa [List.getD_eq_getElem?_getD, List.getD_eq_getElem?_getD, List.getElem?_eq_getElem h1, List.getElem?_eq_getElem h2] at this
theorem list_ne_of_at {a b : List Nat} {j : Nat} (h : atw a j ≠ atw b j) : a ≠ b := fun e => h (by rw [e])

/-- The sum of the values of lists; how many words they have in all. -/
def vals : List (List Nat) → Nat
  | [] => 0
  | l :: r => val l + vals r
def words : List (List Nat) → Nat
  | [] => 0
  | l :: r => l.length + words r
theorem vals_take (ls : List (List Nat)) (k : Nat) (hk : k < ls.length) : vals (ls.take (k + 1)) = vals (ls.take k) + val (ls.getD k []) := by
  induction ls generalizing k with
  | nil => simp at hk
  | cons l r ih =>
    cases k with
    | zero => simp [vals]
    | succ k =>
      have := ih k (by simpa using hk)
      simp only [List.take_succ_cons, vals, List.getD_cons_succ]
      omega
theorem words_take (ls : List (List Nat)) (k : Nat) (hk : k < ls.length) : words (ls.take (k + 1)) = words (ls.take k) + (ls.getD k []).length := by
  induction ls generalizing k with
  | nil => simp at hk
  | cons l r ih =>
    cases k with
    | zero => simp [words]
    | succ k =>
      have := ih k (by simpa using hk)
      simp only [List.take_succ_cons, words, List.getD_cons_succ]
      omega
theorem words_mem (ls : List (List Nat)) (k : Nat) (hk : k < ls.length) : (ls.getD k []).length ≤ words ls := by
  induction ls generalizing k with
  | nil => simp at hk
  | cons l r ih =>
    cases k with
    | zero => simp [words]
    | succ k =>
      have := ih k (by simpa using hk)
      simp only [words, List.getD_cons_succ]
      omega
theorem vals_lt {ls : List (List Nat)} (h : ∀ l ∈ ls, okw l) : vals ls < 4294967296 ^ words ls + ls.length * 4294967296 ^ words ls := by
  induction ls with
  | nil => simp [vals, words]
  | cons l r ih =>
    have h1 := val_lt (h l (by simp))
    have h3 := ih (fun x hx => h x (by simp [hx]))
    have e1 : (4294967296 : Nat) ^ l.length ≤ 4294967296 ^ (l.length + words r) := Nat.pow_le_pow_right (by decide) (by omega)
    have e2 : (4294967296 : Nat) ^ words r ≤ 4294967296 ^ (l.length + words r) := Nat.pow_le_pow_right (by decide) (by omega)
    have e3 : r.length * 4294967296 ^ words r ≤ r.length * 4294967296 ^ (l.length + words r) := Nat.mul_le_mul_left _ e2
    simp only [vals, words, List.length_cons, Nat.add_mul, Nat.one_mul]
    generalize (4294967296 : Nat) ^ l.length = p at *
    generalize (4294967296 : Nat) ^ words r = q at *
    generalize (4294967296 : Nat) ^ (l.length + words r) = t at *
    generalize r.length * q = x at *
    generalize r.length * t = y at *
    omega
theorem vals_length {ls : List (List Nat)} (h : ∀ l ∈ ls, okw l) (hn : ls.length < 4294967296) : (dg (vals ls)).length ≤ words ls + 1 := by
  apply dg_length_le
  have h1 := vals_lt h
  rw [pow_succ32]
  have h2 : ls.length * 4294967296 ^ words ls + 4294967296 ^ words ls ≤ 4294967296 * 4294967296 ^ words ls := by
    rw [← Nat.succ_mul]; exact Nat.mul_le_mul_right _ hn
  generalize 4294967296 ^ words ls = p at *
  generalize ls.length * p = x at *
  omega

/-- Which of two is the greater one, as Go tells it. -/
def cmpI (x y : Nat) : Int := if x < y then -1 else if y < x then 1 else 0
theorem cmpI_lt {x y : Nat} (h : x < y) : cmpI x y = -1 := by simp [cmpI, h]
theorem cmpI_gt {x y : Nat} (h : y < x) : cmpI x y = 1 := by unfold cmpI; rw [if_neg (by omega), if_pos h]
theorem cmpI_eq {x y : Nat} (h : x = y) : cmpI x y = 0 := by subst h; simp [cmpI]
theorem cmpI_range (x y : Nat) : -1 ≤ cmpI x y ∧ cmpI x y ≤ 1 := by unfold cmpI; split <;> (try split) <;> omega
end Go.Proofs.Ythblmpkdcahmkaa

/-
  Lists of words in memory: what a slice of uint32 holds. Of no program.
-/
namespace Go.Proofs.Ythblmpkdcahmkaa
open Go.RowKit

theorem ret_bool {a b : Bool} (h : a = b) : Ending.returned (.bool a) = .returned (.bool b) := by rw [h]
theorem ret_i64 {a b : Int} (h : a = b) : Ending.returned (.int .i64 a) = .returned (.int .i64 b) := by rw [h]

/-- In the world w the slice ⟨a, n, cap⟩ holds just the words l. -/
def Wd (w : World) (a : Option Addr) (n cap : Nat) (l : List Nat) : Prop :=
  l.length = n ∧ n ≤ cap ∧ cap ≤ 9223372036854775807 ∧ okw l ∧ (a = none → cap = 0) ∧ (n = 0 ∨ ∃ b off, a = some ⟨b, off, none⟩ ∧ ∀ j, j < n → w.cell? ⟨b, off + j, none⟩ = some (.int .u32 ((atw l j : Nat) : Int)))

theorem Wd.len {w : World} {a : Option Addr} {n cap : Nat} {l : List Nat} (h : Wd w a n cap l) : l.length = n := h.1
theorem Wd.ok {w : World} {a : Option Addr} {n cap : Nat} {l : List Nat} (h : Wd w a n cap l) : okw l := h.2.2.2.1
theorem Wd.bound {w : World} {a : Option Addr} {n cap : Nat} {l : List Nat} (h : Wd w a n cap l) : n ≤ cap ∧ cap ≤ 9223372036854775807 := ⟨h.2.1, h.2.2.1⟩
theorem Wd.ofNone {w : World} {n cap : Nat} {l : List Nat} (h : Wd w none n cap l) : n = 0 ∧ cap = 0 ∧ l = [] := by
  have h1 := h.2.2.2.2.1 rfl
  have h2 := h.2.1
  have h3 := h.1
  exact ⟨by omega, h1, List.eq_nil_of_length_eq_zero (by omega)⟩
-- the address of its first word
theorem Wd.at {w : World} {a : Option Addr} {n cap : Nat} {l : List Nat} (h : Wd w a n cap l) (hn : 0 < n) : ∃ b off, a = some ⟨b, off, none⟩ ∧ ∀ j, j < n → w.cell? ⟨b, off + j, none⟩ = some (.int .u32 ((atw l j : Nat) : Int)) := by
  rcases h.2.2.2.2.2 with h0 | h0
  · omega
  · exact h0
theorem Wd.later {w w' : World} {a : Option Addr} {n cap : Nat} {l : List Nat} (h : Wd w a n cap l) (hb : Below w.heap.size w w') : Wd w' a n cap l :=
  ⟨h.1, h.2.1, h.2.2.1, h.2.2.2.1, h.2.2.2.2.1, h.2.2.2.2.2.imp id fun ⟨b, off, e, hc⟩ => ⟨b, off, e, fun j hj => cell_later hb (hc j hj)⟩⟩
theorem Wd.ofNil (w : World) : Wd w none 0 0 [] := ⟨rfl, Nat.le_refl _, by omega, okw_nil, fun _ => rfl, .inl rfl⟩
theorem Wd.empty (w : World) (ad : Addr) (cap : Nat) (h : cap ≤ 9223372036854775807) : Wd w (some ad) 0 cap [] := ⟨rfl, Nat.zero_le _, h, okw_nil, fun e => (by cases e), .inl rfl⟩
/-- Its first k words. -/
theorem Wd.take {w : World} {a : Option Addr} {n cap : Nat} {l : List Nat} (h : Wd w a n cap l) {k : Nat} (hk : k ≤ n) : Wd w a k cap (l.take k) := by
  obtain ⟨h1, h2, h3, h4, h6, h5⟩ := h
  refine ⟨by rw [List.length_take]; omega, by omega, h3, okw_take h4 k, h6, ?_⟩
  by_cases hk0 : k = 0
  · exact .inl hk0
  · rcases h5 with h0 | ⟨b, off, e, hc⟩
    · omega
    · exact .inr ⟨b, off, e, fun j hj => by rw [hc j (by omega), atw_take hj]⟩

/-- In the world w the slice ⟨a, n, cap⟩ of slices holds just these lists of words. -/
def Wds (w : World) (a : Option Addr) (n cap : Nat) (ls : List (List Nat)) : Prop :=
  ls.length = n ∧ n ≤ cap ∧ cap ≤ 9223372036854775807 ∧ (a = none → cap = 0) ∧ (n = 0 ∨ ∃ b off, a = some ⟨b, off, none⟩ ∧ ∀ j, j < n → ∃ a' n' c', w.cell? ⟨b, off + j, none⟩ = some (.slice a' n' c') ∧ Wd w a' n' c' (ls.getD j []))
theorem Wds.len {w : World} {a : Option Addr} {n cap : Nat} {l : List (List Nat)} (h : Wds w a n cap l) : l.length = n := h.1
theorem Wds.bound {w : World} {a : Option Addr} {n cap : Nat} {l : List (List Nat)} (h : Wds w a n cap l) : n ≤ cap ∧ cap ≤ 9223372036854775807 := ⟨h.2.1, h.2.2.1⟩
theorem Wds.at {w : World} {a : Option Addr} {n cap : Nat} {l : List (List Nat)} (h : Wds w a n cap l) {j : Nat} (hj : j < n) : ∃ b off, a = some ⟨b, off, none⟩ ∧ ∃ a' n' c', w.cell? ⟨b, off + j, none⟩ = some (.slice a' n' c') ∧ Wd w a' n' c' (l.getD j []) := by
  rcases h.2.2.2.2 with h0 | ⟨b, off, e, hc⟩
  · omega
  · exact ⟨b, off, e, hc j hj⟩
theorem Wds.oks {w : World} {a : Option Addr} {n cap : Nat} {l : List (List Nat)} (h : Wds w a n cap l) : ∀ x ∈ l, okw x := by
  intro x hx
  obtain ⟨j, hj, rfl⟩ := List.getElem_of_mem hx
  obtain ⟨b, off, _, a', n', c', _, hw⟩ := h.at (j := j) (by rw [← h.len]; exact hj)
  have := hw.ok
  rwa [List.getD_eq_getElem?_getD, List.getElem?_eq_getElem hj] at this
theorem Wds.later {w w' : World} {a : Option Addr} {n cap : Nat} {l : List (List Nat)} (h : Wds w a n cap l) (hb : Below w.heap.size w w') : Wds w' a n cap l :=
  ⟨h.1, h.2.1, h.2.2.1, h.2.2.2.1, h.2.2.2.2.imp id fun ⟨b, off, e, hc⟩ => ⟨b, off, e, fun j hj => by
    obtain ⟨a', n', c', h1, h2⟩ := hc j hj
    exact ⟨a', n', c', cell_later hb h1, h2.later hb⟩⟩⟩

/-- The words as cells. -/
def wcells (l : List Nat) : List Value := l.map fun x => Value.int .u32 ((x : Nat) : Int)
theorem wcells_length (l : List Nat) : (wcells l).length = l.length := by simp [wcells]
theorem wcells_append (a b : List Nat) : wcells (a ++ b) = wcells a ++ wcells b := by simp [wcells]
theorem wcells_at {l : List Nat} {j : Nat} (h : j < l.length) : (wcells l)[j]? = some (.int .u32 ((atw l j : Nat) : Int)) := by
  simp [wcells, atw, h, List.getD_eq_getElem?_getD]
theorem wcells_one (l : List Nat) : ∀ u ∈ wcells l, u.oneCell' = true := by
  intro u hu
  simp only [wcells, List.mem_map] at hu
  obtain ⟨x, _, rfl⟩ := hu
  rfl
/-- What it holds, as the cells that an append copies. -/
theorem Wd.cells {w : World} {b off n cap : Nat} {l : List Nat} (h : Wd w (some ⟨b, off, none⟩) n cap l) : ∀ j u, (wcells l)[j]? = some u → w.cell? ((⟨b, off, none⟩ : Addr).add j) = some u := by
  intro j u hu
  have hj : j < l.length := by
    rcases Nat.lt_or_ge j l.length with h1 | h1
    · exact h1
    · rw [List.getElem?_eq_none (by rw [wcells_length]; exact h1)] at hu; cases hu
  rw [wcells_at hj] at hu
  have hn := h.len
  obtain ⟨b', off', e, hc⟩ := h.at (by omega)
  simp only [Option.some.injEq, Addr.mk.injEq, and_true] at e
  obtain ⟨rfl, rfl⟩ := e
  rw [← hu]
  have := hc j (by omega)
  by_cases h0 : j = 0
  · subst h0; simpa [Addr.add] using this
  · simpa [Addr.add, h0] using this
/-- What the call owns, it holds. -/
theorem Wd.own {w : World} {base : Nat} {e : TypeId} {a : Option Addr} {n cap : Nat} {l : List Nat} (h : w.ownsRow base e 1 (.slice a n cap) n (wcells l)) (ho : okw l) : Wd w a n cap l := by
  have hl : l.length = n := by have := h.1; rw [wcells_length] at this; omega
  rcases h.2 with ⟨h', h0⟩ | ⟨g, cap', cur, h', hb, hg, hnc, hcm, hcs, htake⟩
  · simp only [Value.slice.injEq] at h'
    obtain ⟨rfl, rfl, rfl⟩ := h'
    exact ⟨hl, Nat.le_refl _, by omega, ho, fun _ => rfl, .inl rfl⟩
  · simp only [Value.slice.injEq] at h'
    obtain ⟨rfl, _, rfl⟩ := h'
    refine ⟨hl, hnc, by unfold maxLen at hcm; omega, ho, fun e => (by cases e), .inr ⟨g, 0, rfl, fun j hj => ?_⟩⟩
    rw [Nat.zero_add, h.cellAt j (by omega), wcells_at (by omega)]
theorem wcells_set (l : List Nat) (k r : Nat) : (wcells l).set k (.int .u32 ((r : Nat) : Int)) = wcells (l.set k r) := by simp [wcells, List.map_set]
/-- What a make leaves. -/
theorem wcells_made (n : Nat) : (madeCells (Value.int .u32 0).cells (n * 1)).toList = wcells (List.replicate n 0) := by
  rw [Nat.mul_one]
  show (madeCells #[Value.int .u32 0] n).toList = _
  rw [toList_madeCells_one]
  simp [wcells]
/-- A list of two words, written out. -/
theorem Wd.lit2 (w : World) (e : TypeId) {x y : Nat} (hx : x < 4294967296) (hy : y < 4294967296) : Wd (w.alloc (.cells #[.int .u32 (x : Int), .int .u32 (y : Int)] e)) (some ⟨w.heap.size, 0, none⟩) 2 2 [x, y] :=
  Wd.own (base := 0) (World.ownsRow_lit (base := 0) w #[.int .u32 (x : Int), .int .u32 (y : Int)] 2 (Nat.zero_le _) (by decide) rfl) (okw_cons.2 ⟨hx, okw_cons.2 ⟨hy, okw_nil⟩⟩)
theorem Wd.lit1 (w : World) (e : TypeId) {x : Nat} (hx : x < 4294967296) : Wd (w.alloc (.cells #[.int .u32 (x : Int)] e)) (some ⟨w.heap.size, 0, none⟩) 1 1 [x] :=
  Wd.own (base := 0) (World.ownsRow_lit (base := 0) w #[.int .u32 (x : Int)] 1 (Nat.zero_le _) (by decide) rfl) (okw_cons.2 ⟨hx, okw_nil⟩)
/-- Two, three slices, written out as one of slices (a call of a variadic function). -/
theorem Wds.lit2 (w : World) (e : TypeId) {a1 a2 : Option Addr} {n1 n2 c1 c2 : Nat} {l1 l2 : List Nat} (h1 : Wd w a1 n1 c1 l1) (h2 : Wd w a2 n2 c2 l2) :
    Wds (w.alloc (.cells #[.slice a1 n1 c1, .slice a2 n2 c2] e)) (some ⟨w.heap.size, 0, none⟩) 2 2 [l1, l2] := by
  have hb : Below w.heap.size w (w.alloc (.cells #[.slice a1 n1 c1, .slice a2 n2 c2] e)) := (Below.refl _ _).alloc (Nat.le_refl _) _
  refine ⟨rfl, Nat.le_refl _, by omega, fun h => (by cases h), .inr ⟨w.heap.size, 0, rfl, fun j hj => ?_⟩⟩
  match j, hj with
  | 0, _ => exact ⟨a1, n1, c1, by simp, h1.later hb⟩
  | 1, _ => exact ⟨a2, n2, c2, by simp, h2.later hb⟩
theorem Wds.lit3 (w : World) (e : TypeId) {a1 a2 a3 : Option Addr} {n1 n2 n3 c1 c2 c3 : Nat} {l1 l2 l3 : List Nat} (h1 : Wd w a1 n1 c1 l1) (h2 : Wd w a2 n2 c2 l2) (h3 : Wd w a3 n3 c3 l3) :
    Wds (w.alloc (.cells #[.slice a1 n1 c1, .slice a2 n2 c2, .slice a3 n3 c3] e)) (some ⟨w.heap.size, 0, none⟩) 3 3 [l1, l2, l3] := by
  have hb : Below w.heap.size w (w.alloc (.cells #[.slice a1 n1 c1, .slice a2 n2 c2, .slice a3 n3 c3] e)) := (Below.refl _ _).alloc (Nat.le_refl _) _
  refine ⟨rfl, Nat.le_refl _, by omega, fun h => (by cases h), .inr ⟨w.heap.size, 0, rfl, fun j hj => ?_⟩⟩
  match j, hj with
  | 0, _ => exact ⟨a1, n1, c1, by simp, h1.later hb⟩
  | 1, _ => exact ⟨a2, n2, c2, by simp, h2.later hb⟩
  | 2, _ => exact ⟨a3, n3, c3, by simp, h3.later hb⟩
theorem below_alloc (w : World) (o : Obj) : Below w.heap.size w (w.alloc o) := (Below.refl _ _).alloc (Nat.le_refl _) o
theorem below_draws (w : World) (n : Nat) : Below w.heap.size w (w.drewN n) := below_drewN (Below.refl _ _) n
/-- One step behind another. -/
theorem below_then {w w1 w2 : World} (h : Below w.heap.size w w1) (k : Below w1.heap.size w1 w2) : Below w.heap.size w w2 := h.trans (k.mono h.size)
/-- Where an owned slice lies. -/
theorem own_slice {w : World} {base : Nat} {e : TypeId} {v : Value} {n : Nat} {xs : List Value} (h : w.ownsRow base e 1 v n xs) : ∃ a cap, v = .slice a n cap := by
  rcases h.2 with ⟨h', h0⟩ | ⟨g, cap', cur, h', _⟩
  · exact ⟨none, 0, by rw [h', h0]⟩
  · exact ⟨_, _, h'⟩
/-- A callee that leaves the world as it is, in a region that draws: whatever is asked of the world behind it is asked of the one before. -/
theorem quiet_here {P : Program} {f : FuncId} {args : Array Value} {W : World} {v : Value} {Z : World → Prop} (h : Calls P f args W fun e w' => e = .returned v ∧ W = w') (hz : Z W) : Calls P f args W fun e w' => e = .returned v ∧ Z w' :=
  h.mono fun _ _ ⟨he, hw⟩ => ⟨he, hw ▸ hz⟩
theorem quiet_there {P : Program} {f : FuncId} {args : Array Value} {W : World} {v : Value} {Z : World → Prop} (h : Calls P f args W fun e w' => e = .returned v ∧ ∃ q, w' = W.drewN q) (hz : ∀ q, Z (W.drewN q)) : Calls P f args W fun e w' => e = .returned v ∧ Z w' :=
  h.mono fun _ _ ⟨he, q, hw⟩ => ⟨he, hw ▸ hz q⟩
def lenOf : Value → Nat | .slice _ n _ => n | _ => 0
/-- Just this comes back; nothing is made. -/
def Same1 (v : Value) (w : World) (e : Ending) (w' : World) : Prop := e = .returned v ∧ w = w'
end Go.Proofs.Ythblmpkdcahmkaa

/-
  What package nat's functions owe (layer 2), as one hypothesis: the contracts that the laws' walks lean on.
-/
namespace Go.Proofs.Ythblmpkdcahmkaa
open Go.RowKit

/-- A list of words comes back, in memory of the call's own or such as was there; nothing that was there has turned. -/
def Lst (l : List Nat) (w : World) (e : Ending) (w' : World) : Prop :=
  ∃ (a : Option Addr) (n cap : Nat), e = .returned (.slice a n cap) ∧ Wd w' a n cap l ∧ Below w.heap.size w w'
/-- A list of words and one more result. -/
def Lst2 (l : List Nat) (v : Value) (w : World) (e : Ending) (w' : World) : Prop :=
  ∃ (a : Option Addr) (n cap : Nat), e = .returned (.tuple #[.slice a n cap, v]) ∧ Wd w' a n cap l ∧ Below w.heap.size w w'
/-- A plain value comes back; nothing that was there has turned. -/
def Gives (v : Value) (w : World) (e : Ending) (w' : World) : Prop := e = .returned v ∧ Below w.heap.size w w'

def two64 : Nat := 18446744073709551616
def smallB (v : Nat) : Bool := decide (v < two64)
def smallV (v : Nat) : Nat := if v < two64 then v else 0

structure NatSaid : Prop where
  norm : ∀ (a : Option Addr) (n cap : Nat) (l : List Nat) (w : World), Wd w a n cap l → n ≤ 17592183947264 → Calls Try.prog 108 #[.slice a n cap] w (Lst (dg (val l)) w)
  small : ∀ (a : Option Addr) (n cap : Nat) (l : List Nat) (w : World), Wd w a n cap l → n ≤ 17592183947264 → Calls Try.prog 104 #[.slice a n cap] w (Gives (.tuple #[.int .u64 ((smallV (val l) : Nat) : Int), .bool (smallB (val l))]) w)
  cmp : ∀ (a : Option Addr) (n cap : Nat) (la : List Nat) (b : Option Addr) (m cap' : Nat) (lb : List Nat) (w : World), Wd w a n cap la → Wd w b m cap' lb → n ≤ 17592183947264 → m ≤ 17592183947264 →
    Calls Try.prog 69 #[.slice a n cap, .slice b m cap'] w (Gives (.int .i64 (cmpI (val la) (val lb))) w)
end Go.Proofs.Ythblmpkdcahmkaa

/-
  Plain mathematics, more: lists of words of 32 bits. Nothing of the program.
-/
namespace Go.Proofs.Ythblmpkdcahmkaa

theorem top_dg {l : List Nat} : top l (dg (val l)).length = 0 := by
  have h1 := val_split l (dg (val l)).length
  have h2 := lt_dg_length (val l)
  generalize (dg (val l)).length = n at *
  rcases Nat.eq_zero_or_pos (top l n) with h | h
  · exact h
  · have h3 : 4294967296 ^ n * 1 ≤ 4294967296 ^ n * top l n := Nat.mul_le_mul_left _ h
    omega
theorem atw_dg {l : List Nat} (ho : okw l) : (dg (val l)).length = 0 ∨ atw l ((dg (val l)).length - 1) ≠ 0 := by
  by_cases h0 : (dg (val l)).length = 0
  · exact .inl h0
  · refine .inr fun h => ?_
    have h1 := val_split l ((dg (val l)).length - 1)
    rw [top_succ, h, Nat.sub_add_cancel (by omega), top_dg] at h1
    have h2 := low_lt ho ((dg (val l)).length - 1)
    have h3 : (dg (val l)).length ≤ (dg (val l)).length - 1 := dg_length_le (by omega)
    omega
/-- The first words of a list, as many as its right list has, are its right list. -/
theorem take_dg {l : List Nat} (ho : okw l) : l.take (dg (val l)).length = dg (val l) :=
  take_right (dg_length_val_le ho) ho top_dg (atw_dg ho)
/-- Where cutting noughts off the end stops. -/
theorem dg_stop {l : List Nat} {n : Nat} (hn : n ≤ l.length) (ho : okw l) (ht : top l n = 0) (hr : n = 0 ∨ atw l (n - 1) ≠ 0) : (dg (val l)).length = n := by
  rw [← take_right hn ho ht hr, List.length_take, Nat.min_eq_left hn]
/-- A list as long as its right list is right. -/
theorem dg_of_length {l : List Nat} (ho : okw l) (h : l.length ≤ (dg (val l)).length) : l = dg (val l) := by
  have h1 := take_dg ho
  rwa [List.take_of_length_le h] at h1
theorem dg_of_ge {l : List Nat} (ho : okw l) (h : l.length = 0 ∨ 4294967296 ^ (l.length - 1) ≤ val l) : l = dg (val l) := by
  apply dg_of_length ho
  rcases h with h | h
  · omega
  · rcases Nat.lt_or_ge (dg (val l)).length l.length with h1 | h1
    · have h2 := lt_dg_length (val l)
      have h3 : (4294967296 : Nat) ^ (dg (val l)).length ≤ 4294967296 ^ (l.length - 1) := Nat.pow_le_pow_right (by decide) (by omega)
      omega
    · exact h1
theorem dg_ge {n : Nat} (h : (dg n).length ≠ 0) : 4294967296 ^ ((dg n).length - 1) ≤ n := by
  rcases Nat.lt_or_ge n (4294967296 ^ ((dg n).length - 1)) with h1 | h1
  · have := dg_length_le h1; omega
  · exact h1
theorem dg_snoc {l : List Nat} {x : Nat} (ho : okw l) (hx : x < 4294967296) (h0 : x ≠ 0) : l ++ [x] = dg (val (l ++ [x])) := by
  refine (dg_val (.inr ?_) (okw_snoc ho hx)).symm
  simp [atw, List.getD_eq_getElem?_getD, h0]
theorem lt_of_dg_length {a b : Nat} (h : (dg a).length < (dg b).length) : a < b := by
  rcases Nat.lt_or_ge a b with h1 | h1
  · exact h1
  · have := dg_length_mono h1; omega

theorem val_append_zeros (l : List Nat) (k : Nat) : val (l ++ List.replicate k 0) = val l := by rw [val_append, val_zeros]; simp
theorem okw_zeros (k : Nat) : okw (List.replicate k 0) := fun x hx => by rw [List.eq_of_mem_replicate hx]; decide
theorem atw_append_left {a b : List Nat} {i : Nat} (h : i < a.length) : atw (a ++ b) i = atw a i := by
  unfold atw; rw [List.getD_eq_getElem?_getD, List.getElem?_append_left h, ← List.getD_eq_getElem?_getD]
theorem atw_append_right {a b : List Nat} {i : Nat} (h : a.length ≤ i) : atw (a ++ b) i = atw b (i - a.length) := by
  unfold atw; rw [List.getD_eq_getElem?_getD, List.getElem?_append_right h, ← List.getD_eq_getElem?_getD]
theorem atw_drop (l : List Nat) (i j : Nat) : atw (l.drop i) j = atw l (i + j) := by
  unfold atw; rw [List.getD_eq_getElem?_getD, List.getElem?_drop, ← List.getD_eq_getElem?_getD]
theorem drop_atw {l : List Nat} {i : Nat} (h : i < l.length) : l.drop i = atw l i :: l.drop (i + 1) := by
  rw [List.drop_eq_getElem_cons h]; unfold atw; rw [List.getD_eq_getElem?_getD, List.getElem?_eq_getElem h]; rfl
/-- A word written over the first word behind those that are done. -/
theorem set_over (o l : List Nat) (k r : Nat) (ho : o.length = k) (hk : k < l.length) : (o ++ l.drop k).set k r = (o ++ [r]) ++ l.drop (k + 1) := by
  rw [drop_atw hk, List.set_append_right _ _ (by omega), ho, Nat.sub_self]
  simp
theorem atw_over (o l : List Nat) (k : Nat) (ho : o.length = k) : atw (o ++ l.drop k) k = atw l k := by
  rw [atw_append_right (by omega), ho, Nat.sub_self, atw_drop]; rfl
/-- Where nothing is carried any more the rest stays as it is. -/
theorem add_stop {la lb o : List Nat} {k : Nat} (ho : o.length = k) (hk : lb.length ≤ k) (h : val o = low la k + low lb k) : val (o ++ la.drop k) = val la + val lb := by
  rw [val_append, ho, h, low_ge hk, val_split la k]; unfold top; omega
theorem sub_stop {la lb o : List Nat} {k : Nat} (ho : o.length = k) (hk : lb.length ≤ k) (h : low la k = low lb k + val o) : val la = val lb + val (o ++ la.drop k) := by
  rw [val_append, ho, val_split la k, h, low_ge hk]; unfold top; omega
/-- Two lists of one length with the same words from a place on and less at it. -/
theorem okw_over {o l : List Nat} (ho : okw o) (hl : okw l) (k : Nat) : okw (o ++ l.drop k) := okw_append.2 ⟨ho, okw_drop hl k⟩
/-- A list of at most two words, put together. -/
theorem low_one (l : List Nat) : low l 1 = atw l 0 := by have := low_succ l 0; rw [low_zero] at this; simpa using this
theorem low_two (l : List Nat) : low l 2 = atw l 0 + 4294967296 * atw l 1 := by have := low_succ l 1; rw [low_one] at this; simpa using this
/-- One word more of a sum, by its word and its carry. -/
theorem add_more {la lb o : List Nat} {k s r z : Nat} (ho : o.length = k) (h : val o + 4294967296 ^ k * s = low la k + low lb k) (hr : r < 4294967296) (ht : r + 4294967296 * z = s + (atw la k + atw lb k)) :
    val (o ++ [r]) + 4294967296 ^ (k + 1) * z = low la (k + 1) + low lb (k + 1) := by
  have h1 := add_step ho h rfl
  rw [← ht, show (r + 4294967296 * z) % 4294967296 = r by omega, show (r + 4294967296 * z) / 4294967296 = z by omega] at h1
  exact h1
/-- The end of a sum whose list is as long as the longer one: nothing is carried any more, or the carry stands behind it. -/
theorem add_right0 {x : List Nat} {p q : Nat} (ho : okw x) (hv : val x = p + q) (hl : x.length = 0 ∨ 4294967296 ^ (x.length - 1) ≤ p + q) : x = dg (p + q) := by
  rw [← hv] at hl ⊢; exact dg_of_ge ho hl
theorem add_right1 {o : List Nat} {k p q : Nat} (hok : okw o) (ho : o.length = k) (hv : val o + 4294967296 ^ k * 1 = p + q) : o ++ [1] = dg (p + q) := by
  have := dg_snoc hok (x := 1) (by decide) (by decide)
  rw [val_snoc, ho, hv] at this
  exact this
theorem words_le_take (ls : List (List Nat)) (k : Nat) : words (ls.take k) ≤ words ls := by
  induction ls generalizing k with
  | nil => simp
  | cons l r ih =>
    cases k with
    | zero => simp [words]
    | succ k =>
      have := ih k
      simp only [List.take_succ_cons, words]
      omega
end Go.Proofs.Ythblmpkdcahmkaa

/-
  Plain mathematics: the bits of natural numbers, of lists of words, and shifts. Nothing of the program.
-/
namespace Go.Proofs.Ythblmpkdcahmkaa

theorem pow32 (k : Nat) : (4294967296 : Nat) ^ k = 2 ^ (32 * k) := by rw [Nat.pow_mul]

/-- How many bits a number has. -/
def blen (n : Nat) : Nat := if n = 0 then 0 else n.log2 + 1
/-- How many of them at the low end are 0; 0 of the number 0. -/
def tz (n : Nat) : Nat := if h : n = 0 then 0 else if n % 2 = 1 then 0 else tz (n / 2) + 1
termination_by n
decreasing_by omega

theorem blen_zero : blen 0 = 0 := rfl
theorem lt_blen (n : Nat) : n < 2 ^ blen n := by
  unfold blen; split
  · subst_vars; decide
  · exact Nat.lt_log2_self
theorem blen_le {n k : Nat} : blen n ≤ k ↔ n < 2 ^ k := by
  constructor
  · intro h; exact Nat.lt_of_lt_of_le (lt_blen n) (Nat.pow_le_pow_right (by decide) h)
  · intro h
    unfold blen; split
    · omega
    · rename_i h0; exact (Nat.log2_lt h0).2 h
theorem blen_ge {n : Nat} (h : n ≠ 0) : 2 ^ (blen n - 1) ≤ n := by
  unfold blen; rw [if_neg h, Nat.add_sub_cancel]; exact Nat.log2_self_le h
theorem blen_pos {n : Nat} (h : n ≠ 0) : 0 < blen n := by unfold blen; rw [if_neg h]; omega
theorem blen_eq {n k : Nat} (h : n < 2 ^ k) (hk : k = 0 ∨ 2 ^ (k - 1) ≤ n) : blen n = k := by
  have h1 := blen_le.2 h
  rcases hk with hk | hk
  · omega
  · rcases Nat.lt_or_ge (blen n) k with h2 | h2
    · have h3 := blen_le.1 (show blen n ≤ k - 1 by omega)
      omega
    · omega
theorem blen_mono {a b : Nat} (h : a ≤ b) : blen a ≤ blen b := blen_le.2 (Nat.lt_of_le_of_lt h (lt_blen b))
theorem blen_mul {v n : Nat} (h : v ≠ 0) : blen (v * 2 ^ n) = blen v + n := by
  have hp : 0 < blen v := blen_pos h
  apply blen_eq
  · rw [Nat.pow_add]; exact Nat.mul_lt_mul_of_pos_right (lt_blen v) (Nat.two_pow_pos n)
  · refine .inr ?_
    rw [show blen v + n - 1 = (blen v - 1) + n by omega, Nat.pow_add]
    exact Nat.mul_le_mul_right _ (blen_ge h)
theorem aux_zero (f : Nat) : Lib.bitLenAux f 0 = 0 := by cases f <;> simp [Lib.bitLenAux]
theorem aux_bounds : ∀ (f x : Nat), x < 2 ^ f → x ≠ 0 → 1 ≤ Lib.bitLenAux f x ∧ 2 ^ (Lib.bitLenAux f x - 1) ≤ x ∧ x < 2 ^ Lib.bitLenAux f x
  | 0, x, h, h0 => by simp at h; omega
  | f + 1, x, h, h0 => by
    rw [Lib.bitLenAux, if_neg h0]
    by_cases h2 : x / 2 = 0
    · rw [h2, aux_zero]
      have : x = 1 := by omega
      subst this
      simp
    · obtain ⟨a, b, c⟩ := aux_bounds f (x / 2) (by rw [Nat.pow_succ] at h; omega) h2
      generalize Lib.bitLenAux f (x / 2) = L at a b c ⊢
      obtain ⟨k, rfl⟩ : ∃ k, L = k + 1 := ⟨L - 1, by omega⟩
      simp only [Nat.add_sub_cancel] at b
      refine ⟨by omega, ?_, ?_⟩
      · rw [show 1 + (k + 1) - 1 = k + 1 by omega, Nat.pow_succ]; omega
      · rw [show 1 + (k + 1) = k + 1 + 1 by omega, Nat.pow_succ]; omega
theorem bitLen_blen {x : Nat} (h : x < 18446744073709551616) : Lib.bitLen x = blen x := by
  by_cases h0 : x = 0
  · subst h0; rfl
  · obtain ⟨a, b, c⟩ := aux_bounds 64 x h h0
    exact (blen_eq c (.inr b)).symm

theorem tz_zero : tz 0 = 0 := by rw [tz]; simp
theorem tz_odd {n : Nat} (h : n % 2 = 1) : tz n = 0 := by rw [tz]; simp [h]
theorem tz_even {n : Nat} (h0 : n ≠ 0) (h : n % 2 = 0) : tz n = tz (n / 2) + 1 := by rw [tz]; simp [h0, h]
theorem tz_pow (k m : Nat) : tz (2 ^ k * (2 * m + 1)) = k := by
  induction k with
  | zero => rw [Nat.pow_zero, Nat.one_mul, tz_odd (by omega)]
  | succ k ih =>
    have hp := Nat.two_pow_pos k
    have e : 2 ^ (k + 1) * (2 * m + 1) = 2 * (2 ^ k * (2 * m + 1)) := by rw [Nat.pow_succ, Nat.mul_comm (2 ^ k) 2, Nat.mul_assoc]
    have h0 : 2 ^ k * (2 * m + 1) ≠ 0 := Nat.ne_of_gt (Nat.mul_pos hp (by omega))
    rw [e, tz_even (by omega) (by omega), show 2 * (2 ^ k * (2 * m + 1)) / 2 = 2 ^ k * (2 * m + 1) by omega, ih]
theorem tz_spec (n : Nat) (h : n ≠ 0) : ∃ m, n = 2 ^ tz n * (2 * m + 1) := by
  induction n using Nat.strongRecOn with
  | _ n ih =>
    by_cases h1 : n % 2 = 1
    · exact ⟨n / 2, by rw [tz_odd h1]; omega⟩
    · obtain ⟨m, hm⟩ := ih (n / 2) (by omega) (by omega)
      refine ⟨m, ?_⟩
      rw [tz_even h (by omega), Nat.pow_succ, Nat.mul_comm _ 2, Nat.mul_assoc, ← hm]
      omega
theorem tz_mul {v n : Nat} (h : v ≠ 0) : tz (v * 2 ^ n) = tz v + n := by
  obtain ⟨m, hm⟩ := tz_spec v h
  have e : v * 2 ^ n = 2 ^ (tz v + n) * (2 * m + 1) := by
    conv => lhs; rw [hm]
    rw [Nat.pow_add, Nat.mul_assoc, Nat.mul_comm (2 * m + 1), ← Nat.mul_assoc]
  rw [e, tz_pow]
theorem tz_eq {n k : Nat} (h : n.testBit k = true) (hl : ∀ j, j < k → n.testBit j = false) : tz n = k := by
  have h0 : n ≠ 0 := by intro e; subst e; simp at h
  obtain ⟨m, hm⟩ := tz_spec n h0
  have hb : ∀ j, n.testBit j = (decide (tz n ≤ j) && (2 * m + 1).testBit (j - tz n)) := fun j => by
    conv => lhs; rw [hm]
    rw [Nat.testBit_two_pow_mul]
  rcases Nat.lt_trichotomy (tz n) k with h1 | h1 | h1
  · have := hl _ h1
    rw [hb, Nat.sub_self] at this
    simp [Nat.testBit_zero] at this
  · exact h1
  · rw [hb] at h
    simp only [Bool.and_eq_true, decide_eq_true_eq] at h
    omega
theorem ctz_tz {x : Nat} (h : x ≠ 0) (hx : x < 4294967296) : Lib.ctz 32 x = tz x := by
  unfold Lib.ctz; rw [if_neg h]
  obtain ⟨m, hm, _⟩ := Lib.ctzFrom_spec 32 x (by omega) hx
  conv => rhs; rw [hm]
  rw [tz_pow]
theorem tz_lt {x k : Nat} (h : x ≠ 0) (hx : x < 2 ^ k) : tz x < k := by
  obtain ⟨m, hm⟩ := tz_spec x h
  rcases Nat.lt_or_ge (tz x) k with h1 | h1
  · exact h1
  · have h2 : 2 ^ k ≤ 2 ^ tz x := Nat.pow_le_pow_right (by decide) h1
    have h3 : 2 ^ tz x * 1 ≤ 2 ^ tz x * (2 * m + 1) := Nat.mul_le_mul_left _ (by omega)
    omega

/-! Bits of lists of words. -/
theorem val_split2 (l : List Nat) (i : Nat) : val l = 2 ^ (32 * i) * top l i + low l i := by rw [val_split l i, pow32]; omega
theorem low_lt2 {l : List Nat} (h : okw l) (i : Nat) : low l i < 2 ^ (32 * i) := by rw [← pow32]; exact low_lt h i
theorem val_bit {l : List Nat} (h : okw l) (i : Nat) : (val l).testBit i = (atw l (i / 32)).testBit (i % 32) := by
  rw [val_split2 l (i / 32), Nat.testBit_two_pow_mul_add _ (low_lt2 h _), if_neg (by omega), top_succ]
  have e : i - 32 * (i / 32) = i % 32 := by omega
  rw [e, Nat.add_comm, show (4294967296 : Nat) = 2 ^ 32 from rfl, Nat.testBit_two_pow_mul_add _ (atw_lt h _), if_pos (by omega)]
/-- The topmost word that isn't 0. -/
theorem blen_top {l : List Nat} {i : Nat} (ho : okw l) (ht : top l (i + 1) = 0) (h0 : atw l i ≠ 0) : blen (val l) = 32 * i + blen (atw l i) := by
  have hl := low_lt2 ho i
  have hv : val l = 2 ^ (32 * i) * atw l i + low l i := by rw [val_split2 l i, top_succ, ht]; rfl
  have hb := blen_pos h0
  apply blen_eq
  · rw [hv, Nat.pow_add]
    have h1 : 2 ^ (32 * i) * atw l i + 2 ^ (32 * i) ≤ 2 ^ (32 * i) * 2 ^ blen (atw l i) := by
      rw [← Nat.mul_succ]; exact Nat.mul_le_mul_left _ (lt_blen _)
    omega
  · refine .inr ?_
    rw [hv, show 32 * i + blen (atw l i) - 1 = 32 * i + (blen (atw l i) - 1) by omega, Nat.pow_add]
    have h1 := Nat.mul_le_mul_left (2 ^ (32 * i)) (blen_ge h0)
    omega
/-- The lowest word that isn't 0. -/
theorem tz_low {l : List Nat} {i : Nat} (ho : okw l) (hl : low l i = 0) (h0 : atw l i ≠ 0) : tz (val l) = 32 * i + tz (atw l i) := by
  obtain ⟨m, hm⟩ := tz_spec _ h0
  have hx : val l = 2 ^ (32 * i) * (atw l i + 4294967296 * top l (i + 1)) := by rw [val_split2 l i, hl, top_succ]; rfl
  have ht : tz (atw l i) < 32 := tz_lt h0 (atw_lt ho i)
  generalize atw l i = x at *
  generalize top l (i + 1) = T at *
  have e : x + 4294967296 * T = 2 ^ tz x * (2 * (m + 2 ^ (31 - tz x) * T) + 1) := by
    have e1 : (4294967296 : Nat) = 2 ^ tz x * (2 * 2 ^ (31 - tz x)) := by
      rw [show 2 * 2 ^ (31 - tz x) = 2 ^ (31 - tz x + 1) by rw [Nat.pow_succ, Nat.mul_comm], ← Nat.pow_add, show tz x + (31 - tz x + 1) = 32 by omega]
    have e2 : 2 * (m + 2 ^ (31 - tz x) * T) + 1 = (2 * m + 1) + 2 * 2 ^ (31 - tz x) * T := by rw [Nat.mul_add, Nat.mul_assoc]; omega
    rw [e2, Nat.mul_add, ← hm, ← Nat.mul_assoc, ← e1]
  rw [hx, e, ← Nat.mul_assoc, ← Nat.pow_add, tz_pow]
end Go.Proofs.Ythblmpkdcahmkaa

/-
  Plain arithmetic behind layer 1 (words of 32 bits). Nothing of the program.
-/
namespace Go.Proofs.Ythblmpkdcahmkaa

theorem wrapu32 (n : Int) : IntKind.u32.wrap n = n % 4294967296 := by simp [IntKind.wrap, IntKind.signed, IntKind.bits]

/-- The product of two words is no greater than the square of the greatest word. -/
theorem mul_words {x y : Int} (hx0 : 0 ≤ x) (hx : x ≤ 4294967295) (hy0 : 0 ≤ y) (hy : y ≤ 4294967295) : 0 ≤ x * y ∧ x * y ≤ 18446744065119617025 := by
  refine ⟨Int.mul_nonneg hx0 hy0, ?_⟩
  have h1 : x * y ≤ 4294967295 * y := Int.mul_le_mul_of_nonneg_right hx hy0
  omega

/-- A quotient by a divisor above the high word is a word. -/
theorem div_word {hi lo y : Int} (h0 : 0 ≤ hi) (hl0 : 0 ≤ lo) (hl : lo ≤ 4294967295) (hy : hi < y) : 0 ≤ (hi * 4294967296 + lo) / y ∧ (hi * 4294967296 + lo) / y ≤ 4294967295 := by
  refine ⟨Int.ediv_nonneg (by omega) (by omega), ?_⟩
  have : (hi * 4294967296 + lo) / y < 4294967296 := Int.ediv_lt_of_lt_mul (by omega) (by omega)
  omega

theorem mod_word {n y : Int} (hy0 : 0 < y) : 0 ≤ n % y ∧ n % y < y := ⟨Int.emod_nonneg _ (by omega), Int.emod_lt_of_pos _ hy0⟩

theorem or_words {hi lo : Int} (h0 : 0 ≤ hi) (h : hi ≤ 4294967295) (hl0 : 0 ≤ lo) (hl : lo ≤ 4294967295) : bits .or .u64 (hi * 4294967296) lo = hi * 4294967296 + lo := by
  obtain ⟨a, rfl⟩ := Int.eq_ofNat_of_zero_le h0
  obtain ⟨b, rfl⟩ := Int.eq_ofNat_of_zero_le hl0
  have e : (a : Int) * 4294967296 = ((a * 4294967296 : Nat) : Int) := by omega
  rw [e]
  have h1 : (BitVec.ofInt 64 ((a * 4294967296 : Nat) : Int)).toNat = a * 4294967296 := by
    rw [BitVec.ofInt_natCast, BitVec.toNat_ofNat]; exact Nat.mod_eq_of_lt (by omega)
  have h2 : (BitVec.ofInt 64 (b : Int)).toNat = b := by
    rw [BitVec.ofInt_natCast, BitVec.toNat_ofNat]; exact Nat.mod_eq_of_lt (by omega)
  have h3 : a * 4294967296 ||| b = a * 4294967296 + b := by
    have := Nat.two_pow_add_eq_or_of_lt (i := 32) (b := b) (by omega) a
    rw [Nat.mul_comm a 4294967296]
    exact this.symm
  show IntKind.u64.wrap ((BitVec.ofInt 64 ((a * 4294967296 : Nat) : Int) ||| BitVec.ofInt 64 (b : Int)).toNat : Int) = _
  rw [BitVec.toNat_or, h1, h2, h3, IntKind.wrap_u64]
  omega

/-! One step of the division bit by bit. -/
/-- The bit that stands at the loop's head when k steps are left: 0 behind the last. -/
def bitAt (k : Nat) : Int := ((2 ^ k / 2 : Nat) : Int)
/-- Quotient and rest of what is above the lowest k bits. -/
def topQ (hi lo y : Int) (k : Nat) : Int := (hi * 4294967296 + lo) / ((2 ^ k : Nat) : Int) / y
def topR (hi lo y : Int) (k : Nat) : Int := (hi * 4294967296 + lo) / ((2 ^ k : Nat) : Int) % y

theorem bitAt_zero : bitAt 0 = 0 := rfl
theorem bitAt_top : bitAt 32 = 2147483648 := rfl
theorem bitAt_succ (k : Nat) : bitAt (k + 1) = ((2 ^ k : Nat) : Int) := by
  unfold bitAt
  rw [Nat.pow_succ, Nat.mul_div_cancel _ (by decide)]
theorem bitAt_half (k : Nat) : bitAt (k + 1) / 2 = bitAt k := by
  rw [bitAt_succ]; unfold bitAt; omega
theorem bitAt_pos (k : Nat) : 1 ≤ bitAt (k + 1) := by
  rw [bitAt_succ]; have := Nat.two_pow_pos k; omega
theorem bitAt_le (k : Nat) (h : k ≤ 32) : bitAt k ≤ 2147483648 := by
  unfold bitAt
  have : 2 ^ k ≤ 2 ^ 32 := Nat.pow_le_pow_right (by decide) h
  omega

theorem topQ_top {hi lo y : Int} (h0 : 0 ≤ hi) (hl0 : 0 ≤ lo) (hl : lo ≤ 4294967295) (hy : hi < y) : topQ hi lo y 32 = 0 := by
  unfold topQ
  rw [show (hi * 4294967296 + lo) / ((2 ^ 32 : Nat) : Int) = hi from by omega]
  exact Int.ediv_eq_zero_of_lt h0 hy
theorem topR_top {hi lo y : Int} (h0 : 0 ≤ hi) (hl0 : 0 ≤ lo) (hl : lo ≤ 4294967295) (hy : hi < y) : topR hi lo y 32 = hi := by
  unfold topR
  rw [show (hi * 4294967296 + lo) / ((2 ^ 32 : Nat) : Int) = hi from by omega]
  exact Int.emod_eq_of_lt h0 hy
theorem topQ_zero (hi lo y : Int) : topQ hi lo y 0 = (hi * 4294967296 + lo) / y := by unfold topQ; simp
theorem topR_zero (hi lo y : Int) : topR hi lo y 0 = (hi * 4294967296 + lo) % y := by unfold topR; simp

theorem halves (hi lo : Int) (k : Nat) (hk : k < 32) :
    (hi * 4294967296 + lo) / ((2 ^ k : Nat) : Int) = 2 * ((hi * 4294967296 + lo) / ((2 ^ (k + 1) : Nat) : Int)) + lo / bitAt (k + 1) % 2 := by
  rw [bitAt_succ]
  have e1 : ((2 ^ (k + 1) : Nat) : Int) = ((2 ^ k : Nat) : Int) * 2 := by rw [Nat.pow_succ]; push_cast; rfl
  have hp : (0 : Int) < ((2 ^ k : Nat) : Int) := by have := Nat.two_pow_pos k; omega
  rw [e1, ← Int.ediv_ediv_of_nonneg (Int.le_of_lt hp)]
  have e2 : hi * 4294967296 + lo = lo + (hi * ((2 ^ (31 - k) : Nat) : Int) * 2) * ((2 ^ k : Nat) : Int) := by
    have : (4294967296 : Int) = ((2 ^ (31 - k) : Nat) : Int) * 2 * ((2 ^ k : Nat) : Int) := by
      have h : 2 ^ 32 = 2 ^ (31 - k) * 2 * 2 ^ k := by rw [← Nat.pow_succ, ← Nat.pow_add]; congr 1; omega
      rw [show (4294967296 : Int) = ((2 ^ 32 : Nat) : Int) from rfl, h]; push_cast; rfl
    rw [this, Int.add_comm]; congr 1; ac_rfl
  rw [e2, Int.add_mul_ediv_right _ _ (by omega)]
  omega

theorem top_step_below {hi lo y : Int} {k : Nat} (hy : 0 < y) (hk : k < 32) (h : 2 * topR hi lo y (k + 1) + lo / bitAt (k + 1) % 2 < y) (h1 : 0 ≤ topR hi lo y (k + 1)) :
    topQ hi lo y k = 2 * topQ hi lo y (k + 1) ∧ topR hi lo y k = 2 * topR hi lo y (k + 1) + lo / bitAt (k + 1) % 2 := by
  have e := halves hi lo k hk
  have d := Int.mul_ediv_add_emod ((hi * 4294967296 + lo) / ((2 ^ (k + 1) : Nat) : Int)) y
  unfold topQ topR at *
  generalize (hi * 4294967296 + lo) / ((2 ^ (k + 1) : Nat) : Int) = M at *
  generalize (hi * 4294967296 + lo) / ((2 ^ k : Nat) : Int) = L at *
  have ht : 0 ≤ lo / bitAt (k + 1) % 2 := by omega
  generalize lo / bitAt (k + 1) % 2 = t at *
  have key : L = (2 * (M % y) + t) + y * (2 * (M / y)) := by rw [e]; have : y * (2 * (M / y)) = 2 * (y * (M / y)) := by ac_rfl
                                                             omega
  refine ⟨?_, ?_⟩
  · rw [key, Int.add_mul_ediv_left _ _ (by omega), Int.ediv_eq_zero_of_lt (by omega) h]; omega
  · rw [key, Int.add_mul_emod_self_left, Int.emod_eq_of_lt (by omega) h]

theorem top_step_above {hi lo y : Int} {k : Nat} (hy : 0 < y) (hk : k < 32) (h : y ≤ 2 * topR hi lo y (k + 1) + lo / bitAt (k + 1) % 2) (h1 : topR hi lo y (k + 1) < y) :
    topQ hi lo y k = 2 * topQ hi lo y (k + 1) + 1 ∧ topR hi lo y k = 2 * topR hi lo y (k + 1) + lo / bitAt (k + 1) % 2 - y := by
  have e := halves hi lo k hk
  have d := Int.mul_ediv_add_emod ((hi * 4294967296 + lo) / ((2 ^ (k + 1) : Nat) : Int)) y
  unfold topQ topR at *
  generalize (hi * 4294967296 + lo) / ((2 ^ (k + 1) : Nat) : Int) = M at *
  generalize (hi * 4294967296 + lo) / ((2 ^ k : Nat) : Int) = L at *
  have ht : 0 ≤ lo / bitAt (k + 1) % 2 ∧ lo / bitAt (k + 1) % 2 ≤ 1 := by omega
  generalize lo / bitAt (k + 1) % 2 = t at *
  have key : L = (2 * (M % y) + t - y) + y * (2 * (M / y) + 1) := by
    rw [e]
    have : y * (2 * (M / y) + 1) = 2 * (y * (M / y)) + y := by rw [Int.mul_add, Int.mul_one]; congr 1; ac_rfl
    omega
  refine ⟨?_, ?_⟩
  · rw [key, Int.add_mul_ediv_left _ _ (by omega), Int.ediv_eq_zero_of_lt (by omega) (by omega)]; omega
  · rw [key, Int.add_mul_emod_self_left, Int.emod_eq_of_lt (by omega) (by omega)]

theorem topQ_le {hi lo y : Int} (k : Nat) (h0 : 0 ≤ hi) (hl0 : 0 ≤ lo) (hl : lo ≤ 4294967295) (hy : hi < y) : 0 ≤ topQ hi lo y k ∧ topQ hi lo y k ≤ 4294967295 := by
  unfold topQ
  have hp : (0 : Int) < ((2 ^ k : Nat) : Int) := by have := Nat.two_pow_pos k; omega
  refine ⟨Int.ediv_nonneg (Int.ediv_nonneg (by omega) (by omega)) (by omega), ?_⟩
  have h1 : (hi * 4294967296 + lo) / ((2 ^ k : Nat) : Int) ≤ hi * 4294967296 + lo := Int.ediv_le_self _ (by omega)
  have h2 := Int.ediv_le_ediv (c := y) (by omega) h1
  have h3 := div_word h0 hl0 hl hy
  omega
theorem topR_le {hi lo y : Int} (k : Nat) (hy : 0 < y) : 0 ≤ topR hi lo y k ∧ topR hi lo y k < y := mod_word hy

/-! TrailingZeros32 by the table (the shelf's own arithmetic). -/
theorem and_u32_nat (a b : Nat) (ha : a < 4294967296) (hb : b < 4294967296) : bits .and .u32 (a : Int) (b : Int) = ((a &&& b : Nat) : Int) := by
  have hx : a &&& b < 2 ^ 32 := Nat.and_lt_two_pow _ (by omega)
  have h1 : (BitVec.ofInt 32 (a : Int)).toNat = a := by
    rw [BitVec.ofInt_natCast, BitVec.toNat_ofNat]; exact Nat.mod_eq_of_lt (by omega)
  have h2 : (BitVec.ofInt 32 (b : Int)).toNat = b := by
    rw [BitVec.ofInt_natCast, BitVec.toNat_ofNat]; exact Nat.mod_eq_of_lt (by omega)
  show IntKind.u32.wrap ((BitVec.ofInt 32 (a : Int) &&& BitVec.ofInt 32 (b : Int)).toNat : Int) = _
  rw [BitVec.toNat_and, h1, h2, wrapu32]
  omega
theorem tz_key (x a : Nat) (hx : x < 4294967296) (hx0 : x ≠ 0) (hlow : x &&& (4294967296 - x) = a) :
    bits BinOp.and IntKind.u32 (x : Int) (-(x : Int) % 4294967296) * 125613361 % 4294967296 / 134217728 = ((a * 125613361 % 4294967296 / 134217728 : Nat) : Int) := by
  have e1 : -(x : Int) % 4294967296 = ((4294967296 - x : Nat) : Int) := by omega
  rw [e1, and_u32_nat x _ hx (by omega), hlow]
  omega
/-- A word cut in halves of 16 bits. -/
theorem half_words {x y : Int} (hx0 : 0 ≤ x) (hx : x ≤ 4294967295) (hy0 : 0 ≤ y) (hy : y ≤ 4294967295) :
    0 ≤ x / 65536 * y ∧ x / 65536 * y ≤ 281470681677825 ∧ 0 ≤ x % 65536 * y ∧ x % 65536 * y ≤ 281470681677825 ∧ x * y = 65536 * (x / 65536 * y) + x % 65536 * y := by
  have a0 : 0 ≤ x / 65536 := by omega
  have a1 : x / 65536 ≤ 65535 := by omega
  have b0 : 0 ≤ x % 65536 := by omega
  have b1 : x % 65536 ≤ 65535 := by omega
  have e : x = 65536 * (x / 65536) + x % 65536 := by omega
  generalize x / 65536 = a at *
  generalize x % 65536 = b at *
  have h1 : a * y ≤ 65535 * y := Int.mul_le_mul_of_nonneg_right a1 hy0
  have h2 : b * y ≤ 65535 * y := Int.mul_le_mul_of_nonneg_right b1 hy0
  refine ⟨Int.mul_nonneg a0 hy0, by omega, Int.mul_nonneg b0 hy0, by omega, ?_⟩
  rw [e, Int.add_mul, Int.mul_assoc]

theorem bitLen_step {f a : Nat} (h0 : a ≠ 0) (h : a < 2 ^ f) : ∃ g, f = g + 1 ∧ a / 2 < 2 ^ g ∧ Lib.bitLenAux f a = 1 + Lib.bitLenAux g (a / 2) := by
  cases f with
  | zero => simp at h; omega
  | succ g => exact ⟨g, rfl, by rw [Nat.pow_succ] at h; omega, by rw [Lib.bitLenAux, if_neg h0]⟩
theorem bitLen_end (f : Nat) : Lib.bitLenAux f 0 = 0 := by cases f <;> simp [Lib.bitLenAux]
theorem ctz_even {f a : Nat} (h : a < 2 ^ f) (h0 : a ≠ 0) (he : a % 2 = 0) : ∃ g, f = g + 1 ∧ a / 2 < 2 ^ g ∧ a / 2 ≠ 0 ∧ Lib.ctzFrom f a = 1 + Lib.ctzFrom g (a / 2) := by
  cases f with
  | zero => simp at h; omega
  | succ g => exact ⟨g, rfl, by rw [Nat.pow_succ] at h; omega, by omega, by rw [Lib.ctzFrom, if_neg (by omega)]⟩
theorem ctz_odd {f a : Nat} (he : a % 2 = 1) : Lib.ctzFrom f a = 0 := by
  cases f with
  | zero => rfl
  | succ g => rw [Lib.ctzFrom, if_pos he]
end Go.Proofs.Ythblmpkdcahmkaa
