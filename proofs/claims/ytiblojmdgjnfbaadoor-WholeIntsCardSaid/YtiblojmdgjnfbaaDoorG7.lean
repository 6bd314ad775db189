/-
  Several texts of this claim as one, group 7.
-/
import Derived.Test.YtiblojmdgjnfbaaDoorG6
import Derived.Test.YtiblojmdgjnfbaaDoorG5
import Derived.Test.YtiblojmdgjnfbaaDoorG1
import Derived.Lib.AppendIntMem
import Derived.Lib.LaidTab
import Derived.Lib.ItoaNum
import Derived.OwnWalk
import Derived.Laws.OwnMore
import Derived.Laws.MakeOwn
import Derived.Test.YtiblojmdgjnfbaaDoorG4
import Derived.Test.YtiblojmdgjnfbaaDoorG3
import Derived.BigRegion
import Derived.BigQuiet
import Derived.Deep.QuietTactic
import Derived.Deep.DeepMust
/-
  A window of a row of the call's own: what stands in it may be written, the row stays the call's own. Of no program.
-/
namespace Go.Proofs.YtiblojmdgjnfbaaDoor
open Go.RowKit

/-- From place off of an own row on, n words: l. -/
def Win (w : World) (base g off n : Nat) (l : List Nat) : Prop := ∃ (N cap : Nat) (P : List Nat), Own w base g N cap P ∧ off + n ≤ N ∧ l = (P.drop off).take n
theorem Own.win {w : World} {base g n cap : Nat} {l : List Nat} (h : Own w base g n cap l) : Win w base g 0 n l :=
  ⟨n, cap, l, h, by omega, by rw [List.drop_zero, List.take_of_length_le (by rw [h.len]; exact Nat.le_refl _)]⟩
theorem Win.len {w : World} {base g off n : Nat} {l : List Nat} (h : Win w base g off n l) : l.length = n := by
  obtain ⟨N, cap, P, hO, hn, rfl⟩ := h
  have := hO.len
  rw [List.length_take, List.length_drop]
  omega
theorem Win.ok {w : World} {base g off n : Nat} {l : List Nat} (h : Win w base g off n l) : okw l := by
  obtain ⟨N, cap, P, hO, hn, rfl⟩ := h
  exact okw_take (okw_drop hO.2 off) n
theorem Win.base {w : World} {base g off n : Nat} {l : List Nat} (h : Win w base g off n l) : base ≤ g ∧ g < w.heap.size := by
  obtain ⟨N, cap, P, hO, _⟩ := h
  exact hO.base
theorem Win.cell {w : World} {base g off n : Nat} {l : List Nat} (h : Win w base g off n l) {k : Nat} (hk : k < n) : w.cell? ⟨g, off + k, none⟩ = some (.int .u32 ((atw l k : Nat) : Int)) := by
  obtain ⟨N, cap, P, hO, hn, rfl⟩ := h
  rw [hO.cell (by omega), atw_take hk, atw_drop]
theorem Win.frozen {w : World} {base g off n : Nat} {l : List Nat} (h : Win w base g off n l) (k : Nat) : w.frozen? ⟨g, off + k, none⟩ = false := by
  obtain ⟨N, cap, P, hO, _⟩ := h
  exact hO.1.frozenAt _
theorem Win.wd {w : World} {base g off n : Nat} {l : List Nat} (h : Win w base g off n l) {c : Nat} (hc : n ≤ c) (hc2 : c ≤ 9223372036854775807) : Wd w (some ⟨g, off, none⟩) n c l :=
  ⟨h.len, hc, hc2, h.ok, fun e => (by cases e), .inr ⟨g, off, rfl, fun _ hj => h.cell hj⟩⟩
theorem Win.set {w : World} {base g off n : Nat} {l : List Nat} (h : Win w base g off n l) {k r : Nat} (hr : r < 4294967296) : Win (w.setCell ⟨g, off + k, none⟩ (.int .u32 ((r : Nat) : Int))) base g off n (l.set k r) := by
  obtain ⟨N, cap, P, hO, hn, rfl⟩ := h
  refine ⟨N, cap, P.set (off + k) r, hO.set _ _ hr, hn, ?_⟩
  rw [List.drop_set, if_neg (by omega), List.take_set, Nat.add_sub_cancel_left]
theorem Win.take {w : World} {base g off n : Nat} {l : List Nat} (h : Win w base g off n l) {m : Nat} (hm : m ≤ n) : Win w base g off m (l.take m) := by
  obtain ⟨N, cap, P, hO, hn, rfl⟩ := h
  exact ⟨N, cap, P, hO, by omega, by rw [List.take_take, Nat.min_eq_left hm]⟩
theorem Win.drop {w : World} {base g off q m : Nat} {l : List Nat} (h : Win w base g off (q + m) l) : Win w base g (off + q) m (l.drop q) := by
  obtain ⟨N, cap, P, hO, hn, rfl⟩ := h
  exact ⟨N, cap, P, hO, by omega, by rw [List.drop_take, List.drop_drop, Nat.add_sub_cancel_left]⟩
theorem Win.later {w w' : World} {base g off n : Nat} {l : List Nat} (h : Win w base g off n l) (hb : Below w.heap.size w w') : Win w' base g off n l := by
  obtain ⟨N, cap, P, hO, hn, hl⟩ := h
  exact ⟨N, cap, P, hO.later hb, hn, hl⟩
theorem Win.other {w w' : World} {base g g' off n : Nat} {l : List Nat} (h : Win w base g off n l) (hg : w.grownBy w' (some g')) (hne : g ≠ g') : Win w' base g off n l := by
  obtain ⟨N, cap, P, hO, hn, hl⟩ := h
  exact ⟨N, cap, P, hO.other hg hne, hn, hl⟩
theorem Win.lower {w : World} {base base' g off n : Nat} {l : List Nat} (h : Win w base g off n l) (hb : base' ≤ base) : Win w base' g off n l := by
  obtain ⟨N, cap, P, hO, hn, hl⟩ := h
  exact ⟨N, cap, P, hO.lower hb, hn, hl⟩
theorem Wd.kept {w w' : World} {a : Option Addr} {n cap : Nat} {l : List Nat} {row : Option Nat} (h : Wd w a n cap l) (hg : w.grownBy w' row) (hne : ∀ ad : Addr, a = some ad → some ad.block ≠ row) : Wd w' a n cap l :=
  ⟨h.1, h.2.1, h.2.2.1, h.2.2.2.1, h.2.2.2.2.1, h.2.2.2.2.2.imp id fun ⟨b, off, e, hc⟩ => ⟨b, off, e, fun j hj => hg.cell (hc j hj) (hne ⟨b, off, none⟩ e)⟩⟩
/-- A row of the call's own that isn't empty has a block. -/
theorem own_block {w : World} {base : Nat} {a : Option Addr} {n cap : Nat} {l : List Nat} (h : w.ownsRow base 72 1 (.slice a n cap) n (wcells l)) (ho : okw l) (hn : 0 < n) : ∃ g, a = some ⟨g, 0, none⟩ ∧ Own w base g n cap l := by
  rcases h.2 with ⟨_, h0⟩ | ⟨g, cap', cur, e, _⟩
  · omega
  · simp only [Value.slice.injEq] at e
    obtain ⟨rfl, _, rfl⟩ := e
    exact ⟨g, rfl, h, ho⟩
theorem ownsRow_later {w w' : World} {base : Nat} {e : TypeId} {size : Nat} {v : Value} {n : Nat} {xs : List Value} (h : w.ownsRow base e size v n xs) (hb : Below w.heap.size w w') : w'.ownsRow base e size v n xs := by
  refine ⟨h.1, ?_⟩
  rcases h.2 with h0 | ⟨g', cap', cur, h1, h2, h3, h4⟩
  · exact .inl h0
  · exact .inr ⟨g', cap', cur, h1, h2, (hb.block g' (Array.getElem?_eq_some_iff.1 h3).1).trans h3, h4⟩
/-- The value that a slice of words holds in a world (for a measure that is read from memory). -/
def cellNat (w : World) (a : Addr) : Nat := match w.cell? a with | some (.int _ z) => z.toNat | _ => 0
def heldVal (w : World) : Value → Nat
  | .slice (some a) n _ => val ((List.range n).map fun j => cellNat w ⟨a.block, a.off + j, none⟩)
  | _ => 0
theorem Wd.held {w : World} {b off n cap : Nat} {l : List Nat} (h : Wd w (some ⟨b, off, none⟩) n cap l) : heldVal w (.slice (some ⟨b, off, none⟩) n cap) = val l := by
  show val ((List.range n).map fun j => cellNat w ⟨b, off + j, none⟩) = val l
  apply congrArg val
  apply list_eq_of_at
  · simp [h.len]
  · intro j hj
    simp at hj
    obtain ⟨b', off', e, hc⟩ := h.at (by omega)
    simp only [Option.some.injEq, Addr.mk.injEq, and_true] at e
    obtain ⟨rfl, rfl⟩ := e
    unfold atw
    rw [List.getD_eq_getElem?_getD, List.getElem?_map, List.getElem?_range hj]
    show cellNat w ⟨b, off + j, none⟩ = _
    unfold cellNat
    rw [hc j hj]
    show (((atw l j : Nat) : Int)).toNat = _
    rw [Int.toNat_natCast]; rfl
end Go.Proofs.YtiblojmdgjnfbaaDoor

/-
  Plain mathematics: decimal digits. Nothing of the program.
-/
namespace Go.Proofs.YtiblojmdgjnfbaaDoor

/-- The decimal digits of a number, the highest first; as bytes. -/
def decs (n : Nat) : List Nat := if n < 10 then [n] else decs (n / 10) ++ [n % 10]
termination_by n
decreasing_by omega
def dig (d : Nat) : UInt8 := UInt8.ofNat (48 + d)
def txt (n : Nat) : List UInt8 := (decs n).map dig
theorem decs_small {n : Nat} (h : n < 10) : decs n = [n] := by rw [decs]; simp [h]
theorem decs_big {n : Nat} (h : 10 ≤ n) : decs n = decs (n / 10) ++ [n % 10] := by rw [decs]; simp [show ¬ n < 10 by omega]
theorem txt_small {n : Nat} (h : n < 10) : txt n = [dig n] := by rw [txt, decs_small h]; rfl
theorem txt_big {n : Nat} (h : 10 ≤ n) : txt n = txt (n / 10) ++ [dig (n % 10)] := by rw [txt, decs_big h]; simp [txt]
theorem dig_val {d : Nat} (h : d < 10) : (dig d).toNat = 48 + d := by
  unfold dig; rw [UInt8.toNat_ofNat']; omega
theorem decs_lt (n : Nat) : ∀ d ∈ decs n, d < 10 := by
  induction n using Nat.strongRecOn with
  | _ n ih =>
    by_cases h : n < 10
    · rw [decs_small h]; intro d hd; simp at hd; omega
    · rw [decs_big (by omega)]
      intro d hd
      rcases List.mem_append.1 hd with h1 | h1
      · exact ih _ (by omega) d h1
      · simp at h1; omega
theorem decs_length_le {n k : Nat} (h : n < 2 ^ k) : (decs n).length ≤ k + 1 := by
  induction k generalizing n with
  | zero => rw [decs_small (by simp at h; omega)]; simp
  | succ k ih =>
    by_cases h1 : n < 10
    · rw [decs_small h1]; simp
    · rw [decs_big (by omega), List.length_append]
      have := ih (n := n / 10) (by rw [Nat.pow_succ] at h; omega)
      simp only [List.length_cons, List.length_nil]
      omega
theorem decs_ne (n : Nat) : decs n ≠ [] := by
  by_cases h : n < 10
  · rw [decs_small h]; simp
  · rw [decs_big (by omega)]; simp
theorem txt_length (n : Nat) : (txt n).length = (decs n).length := by simp [txt]
theorem txt_length_le {n k : Nat} (h : n < 2 ^ k) : (txt n).length ≤ k + 1 := by rw [txt_length]; exact decs_length_le h
theorem txt_ne (n : Nat) : txt n ≠ [] := by unfold txt; simp [decs_ne]

/-- Digit by digit, from the low end: what is written is s, what is left is v. -/
def TextAt (v0 v : Nat) (s : List UInt8) : Prop := (s = [] ∧ v = v0) ∨ (s ≠ [] ∧ v = 0 ∧ s = txt v0) ∨ (s ≠ [] ∧ v ≠ 0 ∧ txt v0 = txt v ++ s)
theorem text_start (v : Nat) : TextAt v v [] := .inl ⟨rfl, rfl⟩
theorem text_step {v0 v : Nat} {s : List UInt8} (h : TextAt v0 v s) (hv : v ≠ 0 ∨ s = []) : TextAt v0 (v / 10) (dig (v % 10) :: s) := by
  have key : (s = [] ∧ v = v0) ∨ txt v0 = txt v ++ s := by
    rcases h with h | ⟨h1, h2, h3⟩ | ⟨_, _, h3⟩
    · exact .inl h
    · rcases hv with h4 | h4
      · exact absurd h2 h4
      · exact absurd h4 h1
    · exact .inr h3
  have key2 : txt v0 = txt v ++ s := by
    rcases key with ⟨h1, h2⟩ | h1
    · rw [h1, h2, List.append_nil]
    · exact h1
  by_cases h10 : v < 10
  · refine .inr (.inl ⟨by simp, by omega, ?_⟩)
    rw [key2, txt_small h10, show v % 10 = v by omega]; rfl
  · refine .inr (.inr ⟨by simp, by omega, ?_⟩)
    rw [key2, txt_big (by omega)]; simp
theorem text_end {v0 v : Nat} {s : List UInt8} (h : TextAt v0 v s) (hv : v = 0) (hs : s ≠ []) : s = txt v0 := by
  rcases h with ⟨h1, _⟩ | ⟨_, _, h3⟩ | ⟨_, h2, _⟩
  · exact absurd h1 hs
  · exact h3
  · exact absurd hv h2
theorem text_length {v0 v : Nat} {s : List UInt8} (h : TextAt v0 v s) : s.length ≤ (txt v0).length := by
  rcases h with ⟨h1, _⟩ | ⟨_, _, h3⟩ | ⟨_, _, h3⟩
  · rw [h1]; simp
  · rw [h3]; exact Nat.le_refl _
  · rw [h3, List.length_append]; omega

/-- The first place at which bytes are no digits, or that is too far; below 0: there is none. -/
def wrongFrom : List UInt8 → Nat → Int
  | [], _ => -1
  | x :: r, i => if x.toNat < 48 ∨ 57 < x.toNat ∨ 60 ≤ i then (i : Int) else wrongFrom r (i + 1)
def wrongI (l : List UInt8) : Int := if l = [] then 0 else wrongFrom l 0
/-- The number that digits are. -/
def readV (l : List UInt8) : Nat := l.foldl (fun n x => n * 10 + (x.toNat - 48)) 0
def alldig (l : List UInt8) : Prop := ∀ x ∈ l, 48 ≤ x.toNat ∧ x.toNat ≤ 57
theorem wrongFrom_none {l : List UInt8} {i : Nat} (h : wrongFrom l i < 0) : alldig l ∧ (l = [] ∨ i + l.length ≤ 60) := by
  induction l generalizing i with
  | nil => exact ⟨fun x hx => (by cases hx), .inl rfl⟩
  | cons x r ih =>
    rw [wrongFrom] at h
    split at h
    · omega
    · rename_i hx
      obtain ⟨h1, h2⟩ := ih h
      refine ⟨fun y hy => ?_, .inr ?_⟩
      · rcases List.mem_cons.1 hy with rfl | hy
        · omega
        · exact h1 y hy
      · simp only [List.length_cons]
        rcases h2 with rfl | h2
        · simp; omega
        · omega
theorem wrongI_none {l : List UInt8} (h : wrongI l < 0) : alldig l ∧ l ≠ [] ∧ l.length ≤ 60 := by
  unfold wrongI at h
  split at h
  · omega
  · rename_i hne
    obtain ⟨h1, h2⟩ := wrongFrom_none h
    refine ⟨h1, hne, ?_⟩
    rcases h2 with h2 | h2
    · exact absurd h2 hne
    · omega
theorem wrongFrom_range {l : List UInt8} {i : Nat} : wrongFrom l i < ((i + l.length : Nat) : Int) ∧ (wrongFrom l i < 0 ∨ (i : Int) ≤ wrongFrom l i) ∧ -1 ≤ wrongFrom l i := by
  induction l generalizing i with
  | nil => simp [wrongFrom]; omega
  | cons x r ih =>
    rw [wrongFrom]
    split
    · simp; omega
    · have h1 := ih (i := i + 1)
      simp only [List.length_cons]
      omega
theorem readV_take {l : List UInt8} {k : Nat} (h : k < l.length) : readV (l.take (k + 1)) = readV (l.take k) * 10 + ((l.getD k 0).toNat - 48) := by
  unfold readV
  rw [List.take_succ_eq_append_getElem h, List.foldl_append, List.getD_eq_getElem?_getD, List.getElem?_eq_getElem h]; rfl
theorem readV_lt {l : List UInt8} (h : alldig l) : readV l < 10 ^ l.length := by
  have key : ∀ (l : List UInt8) (n m : Nat), alldig l → n < 10 ^ m → l.foldl (fun n x => n * 10 + (x.toNat - 48)) n < 10 ^ (m + l.length) := by
    intro l
    induction l with
    | nil => intro n m _ hn; simpa using hn
    | cons x r ih =>
      intro n m hd hn
      have h1 := hd x (by simp)
      have h2 := ih (n * 10 + (x.toNat - 48)) (m + 1) (fun y hy => hd y (by simp [hy])) (by rw [Nat.pow_succ]; omega)
      rw [List.foldl_cons, List.length_cons, show m + (r.length + 1) = m + 1 + r.length by omega]
      exact h2
  have := key l 0 0 h (by decide)
  rwa [Nat.zero_add] at this
theorem alldig_getD {l : List UInt8} (h : alldig l) {k : Nat} (hk : k < l.length) : 48 ≤ (l.getD k 0).toNat ∧ (l.getD k 0).toNat ≤ 57 := by
  rw [List.getD_eq_getElem?_getD, List.getElem?_eq_getElem hk]; exact h _ (List.getElem_mem hk)
/-- Without noughts ahead. -/
def trimL : List UInt8 → List UInt8
  | [] => []
  | [x] => [x]
  | x :: y :: r => if x.toNat = 48 then trimL (y :: r) else x :: y :: r
theorem readV_cons (x : UInt8) (l : List UInt8) (h : x.toNat = 48) : readV (x :: l) = readV l := by unfold readV; rw [List.foldl_cons, h]
/-- What is written is read as it was. -/
theorem readV_append (l : List UInt8) (x : UInt8) : readV (l ++ [x]) = readV l * 10 + (x.toNat - 48) := by unfold readV; rw [List.foldl_append]; rfl
theorem readV_txt (n : Nat) : readV (txt n) = n := by
  induction n using Nat.strongRecOn with
  | _ n ih =>
    by_cases h : n < 10
    · rw [txt_small h]
      show 0 * 10 + ((dig n).toNat - 48) = n
      rw [dig_val h]; omega
    · rw [txt_big (by omega), readV_append, ih _ (by omega), dig_val (by omega)]; omega
theorem alldig_txt (n : Nat) : alldig (txt n) := by
  intro x hx
  obtain ⟨d, hd, rfl⟩ := List.mem_map.1 hx
  have := decs_lt n d hd
  rw [dig_val this]; omega
theorem wrongFrom_alldig {l : List UInt8} {i : Nat} (h : alldig l) : wrongFrom l i = if l = [] ∨ i + l.length ≤ 60 then -1 else ((max i 60 : Nat) : Int) := by
  induction l generalizing i with
  | nil => simp [wrongFrom]
  | cons x r ih =>
    have hx := h x (by simp)
    have h1 := ih (i := i + 1) (fun y hy => h y (by simp [hy]))
    rw [wrongFrom]
    by_cases hi : 60 ≤ i
    · rw [if_pos (by omega), if_neg (by simp; omega), Nat.max_eq_left hi]
    · rw [if_neg (by omega), h1]
      simp only [List.length_cons]
      by_cases hr : r = []
      · subst hr; simp; omega
      · have : 0 < r.length := List.length_pos_iff.2 hr
        by_cases h2 : i + 1 + r.length ≤ 60
        · rw [if_pos (.inr h2), if_pos (.inr (by omega))]
        · rw [if_neg (by simp [hr]; omega), if_neg (by simp; omega), Nat.max_eq_right (by omega), Nat.max_eq_right (by omega)]
theorem wrongI_txt (n : Nat) : wrongI (txt n) = if (txt n).length ≤ 60 then -1 else 60 := by
  unfold wrongI
  rw [if_neg (txt_ne n), wrongFrom_alldig (alldig_txt n)]
  simp [txt_ne]
/-- A text of digits without noughts ahead is what is written of the number that it is. -/
theorem byte_ext {x : UInt8} {d : Nat} (h : x.toNat = 48 + d) (hd : d < 10) : x = dig d := UInt8.toNat_inj.1 (by rw [h, dig_val hd])
theorem readV_pos {l : List UInt8} (h : alldig l) (h0 : ∀ x r, l = x :: r → x.toNat ≠ 48) (hne : l ≠ []) : 0 < readV l := by
  have key : ∀ (l : List UInt8) (n : Nat), 0 < n → 0 < l.foldl (fun n x => n * 10 + (x.toNat - 48)) n := by
    intro l
    induction l with
    | nil => intro n hn; exact hn
    | cons x r ih => intro n hn; rw [List.foldl_cons]; exact ih _ (by omega)
  cases l with
  | nil => exact absurd rfl hne
  | cons x r =>
    have h1 := h x (by simp)
    have h2 := h0 x r rfl
    unfold readV
    rw [List.foldl_cons]
    exact key r _ (by omega)
theorem txt_readV_right : ∀ (k : Nat) (l : List UInt8), l.length = k → alldig l → (∀ x r, l = x :: r → x.toNat ≠ 48) → l ≠ [] → txt (readV l) = l := by
  intro k
  induction k with
  | zero => intro l hl _ _ hne; exact absurd (List.eq_nil_of_length_eq_zero hl) hne
  | succ k ih =>
    intro l hl hd h0 hne
    obtain ⟨m, y, rfl⟩ : ∃ m y, l = m ++ [y] := ⟨l.dropLast, l.getLast hne, (List.dropLast_concat_getLast hne).symm⟩
    have hy := hd y (by simp)
    have hlm : m.length = k := by simp at hl; omega
    rw [readV_append]
    have hyd : y = dig (y.toNat - 48) := byte_ext (by omega) (by omega)
    by_cases hm : m = []
    · subst hm
      show txt (0 * 10 + (y.toNat - 48)) = [y]
      rw [Nat.zero_mul, Nat.zero_add, txt_small (by omega), ← hyd]
    · have hp : 0 < readV m := readV_pos (fun x hx => hd x (by simp [hx])) (fun x r e => h0 x (r ++ [y]) (by rw [e]; rfl)) hm
      have hih := ih m hlm (fun x hx => hd x (by simp [hx])) (fun x r e => h0 x (r ++ [y]) (by rw [e]; rfl)) hm
      rw [txt_big (by omega), show (readV m * 10 + (y.toNat - 48)) / 10 = readV m by omega, show (readV m * 10 + (y.toNat - 48)) % 10 = y.toNat - 48 by omega, hih, ← hyd]
theorem txt_readV {l : List UInt8} (h : alldig l) (hne : l ≠ []) : txt (readV l) = trimL l := by
  have key : ∀ (k : Nat) (l : List UInt8), l.length = k → alldig l → l ≠ [] → txt (readV l) = trimL l := by
    intro k
    induction k with
    | zero => intro l hl _ hne; exact absurd (List.eq_nil_of_length_eq_zero hl) hne
    | succ k ih =>
      intro l hl hd hne
      match l, hl, hd, hne with
      | [x], _, hd, _ =>
        have hx := hd x (by simp)
        have hxd : x = dig (x.toNat - 48) := byte_ext (by omega) (by omega)
        show txt (0 * 10 + (x.toNat - 48)) = [x]
        rw [Nat.zero_mul, Nat.zero_add, txt_small (by omega), ← hxd]
      | x :: y :: r, hl, hd, _ =>
        rw [trimL]
        split
        · rename_i hx
          rw [readV_cons x _ hx]
          exact ih (y :: r) (by simpa using hl) (fun z hz => hd z (by simp [hz])) (by simp)
        · rename_i hx
          exact txt_readV_right _ _ rfl hd (fun z s e => by cases e; exact hx) (by simp)
  exact key _ l rfl h hne
end Go.Proofs.YtiblojmdgjnfbaaDoor

/-
  What package digits' functions owe (layer 7), as one hypothesis: the contracts that the laws' walks lean on.
-/
namespace Go.Proofs.YtiblojmdgjnfbaaDoor
open Go.RowKit

/-- A text, as a value. -/
def bs (l : List UInt8) : ByteArray := ⟨l.toArray⟩
theorem bs_size (l : List UInt8) : (bs l).size = l.length := by show l.toArray.size = _; simp
theorem bs_append (a b : List UInt8) : bs a ++ bs b = bs (a ++ b) := by unfold bs; rw [ByteArray.mk_append_mk]
theorem bs_list (l : List UInt8) : (bs l).toList = l := by rw [ByteArray.toList_eq]; rfl
theorem bs_get (l : List UInt8) (k : Nat) (h : k < l.length) (h' : k < (bs l).size) : ((bs l)[k]'h').toNat = (l.getD k 0).toNat := by
  rw [List.getD_eq_getElem?_getD, List.getElem?_eq_getElem h]; rfl
theorem bs_of (s : ByteArray) : ∃ l, s = bs l := ⟨s.data.toList, by cases s; simp [bs]⟩
theorem bs_all (l : List UInt8) : (bs l).extract 0 l.length = bs l := by unfold bs; rw [ByteArray.extract_mk]; simp
theorem bs_rest (x : UInt8) (r : List UInt8) : (bs (x :: r)).extract 1 (r.length + 1) = bs r := by unfold bs; rw [ByteArray.extract_mk]; simp
/-- A fault, as a value. -/
def faultV (k s t a : Int) : Value := .agg #[.int .i64 k, .int .i64 s, .int .i64 t, .int .i64 a]
/-- The library's table of the powers of ten reads as its initialiser lays it (nothing is asked where the program has no such table). -/
def Dec10 (w : World) : Prop := ∀ name, Tryd.prog.globalNamed name = some 0 → Lib.TabIs Tryd.prog w name .u64 Lib.pow10Tab
theorem Dec10.later {w w' : World} (h : Dec10 w) (hb : Below w.heap.size w w') : Dec10 w' := fun name hn => Lib.tabBelow_of_tabIs (h name hn) w' hb
structure DigitsSaid : Prop where
  text : ∀ (a : Option Addr) (n cap : Nat) (l : List Nat) (w : World), Wd w a n cap l → n ≤ 1000 → Hid (Dec10 w) → Calls Tryd.prog 55 #[.slice a n cap] w (Gives (.string (bs (txt (val l)))) w)
  read_ok : ∀ (l : List UInt8) (w : World), l.length ≤ 1000 → Hid (wrongI l < 0) → Calls Tryd.prog 52 #[.string (bs l)] w (Lst2 (dg (readV l)) (faultV 0 0 0 0) w)
  read_no : ∀ (l : List UInt8) (w : World), l.length ≤ 1000 → Hid (0 ≤ wrongI l) → Calls Tryd.prog 52 #[.string (bs l)] w (Lst2 [] (faultV 1 0 0 (wrongI l)) w)
/-- The cells of a fault in a variable. -/
def Box (w : World) (g : Nat) (k s t a : Int) : Prop :=
  w.cell? ⟨g, 0, none⟩ = some (.int .i64 k) ∧ w.cell? ⟨g, 1, none⟩ = some (.int .i64 s) ∧ w.cell? ⟨g, 2, none⟩ = some (.int .i64 t) ∧ w.cell? ⟨g, 3, none⟩ = some (.int .i64 a)
theorem Box.later {w w' : World} {g : Nat} {k s t a : Int} (h : Box w g k s t a) (hb : Below w.heap.size w w') : Box w' g k s t a :=
  ⟨cell_later hb h.1, cell_later hb h.2.1, cell_later hb h.2.2.1, cell_later hb h.2.2.2⟩
theorem Box.new (w : World) (k s t a : Int) (e : TypeId) : Box (w.alloc (.cells #[.int .i64 k, .int .i64 s, .int .i64 t, .int .i64 a] e)) w.heap.size k s t a := ⟨by simp, by simp, by simp, by simp⟩
end Go.Proofs.YtiblojmdgjnfbaaDoor

/-
  make of words, with a length and a capacity that are reckoned. Of no program.
-/
namespace Go.Proofs.YtiblojmdgjnfbaaDoor
open Go.RowKit

theorem ownsRow_made (w : World) (base : Nat) (e : TypeId) (z : Value) (q c : Nat) (hqc : q ≤ c) (hc : c ≤ maxLen) (hb : base ≤ w.heap.size) :
    (w.alloc (.cells (madeCells #[z] c) e)).ownsRow base e 1 (.slice (some ⟨w.heap.size, 0, none⟩) q c) q (List.replicate q z) := by
  refine ⟨by simp, .inr ⟨w.heap.size, c, madeCells #[z] c, rfl, hb, heap_alloc_new w _, hqc, hc, ?_, ?_⟩⟩
  · have := congrArg List.length (toList_madeCells_one z c)
    simpa using this
  · rw [toList_madeCells_one, List.take_replicate, Nat.mul_one, Nat.min_eq_left hqc]
theorem wpList_make_words {P : Program} (w : World) {ops : Array Oper} {rest : List Oper} {o : Oper} {a : Act} {Q : Exit → Act → World → Prop}
    (hg : o.guard = none) (l c : Operand) (t : TypeId) (hop : o.op = Op.makeSlice t l c)
    (base : Nat) (e : TypeId) (i : TypeInfo) (z : Value) (h1 : P.underlying t = some (.slice e)) (h2 : P.info? e = some i) (h3 : i.zero = some z) (h4 : i.size = 1) (hz : z.cells = #[z])
    (kl kc : IntKind) (L C : Int) (n m : Nat) (hl : a.eval l = .int kl L) (hc : a.eval c = .int kc C) (hL : L = (n : Int)) (hC : C = (m : Int)) (hnm : n ≤ m) (b2 : i.bytes * m ≤ 281474976710656) (b3 : m ≤ maxLen) (b4 : base ≤ w.heap.size)
    (hK : ∀ w', w'.ownsRow base e 1 (.slice (some ⟨w.heap.size, 0, none⟩) n m) n (List.replicate n z) → w.grownBy w' none → wpList P ops Q rest (a.put o.dst (.slice (some ⟨w.heap.size, 0, none⟩) n m)) w') :
    wpList P ops Q (o :: rest) a w := by
  refine wpList_plain hg fun K hK' => ?_
  have h63' : (m : Int) ≤ 9223372036854775807 := by
    have h := b3
    simp [maxLen] at h
    omega
  have hb' : (i.bytes : Int) * (m : Int) ≤ 281474976710656 := by
    have h : ((i.bytes * m : Nat) : Int) ≤ 281474976710656 := by omega
    rwa [Int.natCast_mul] at h
  have hrun := run_make (P := P) w t e i z h1 h2 h3 kl kc n m (by omega) (by omega) hb' h63'
  simp only [Int.toNat_natCast, h4, Nat.mul_one, hz] at hrun
  subst hL
  subst hC
  unfold Oper.wp
  simp [execOp, hop, hl, hc, hrun, Result.andThen]
  exact hK' _ _ (hK _ (ownsRow_made w base e z n m hnm b3 b4) (World.grownBy_alloc w _ none))
theorem zeros_cells (n : Nat) : List.replicate n (Value.int .u32 0) = wcells (List.replicate n 0) := by simp [wcells]
end Go.Proofs.YtiblojmdgjnfbaaDoor

/-
  The contracts of the document's answer for layer 4: Mul.
-/
namespace Go.Proofs.YtiblojmdgjnfbaaDoor
open Go.RowKit

theorem Own.drewN {w : World} {base g n cap : Nat} {l : List Nat} (h : Own w base g n cap l) (q : Nat) : Own (w.drewN q) base g n cap l := h
theorem Own.drew {w : World} {base g n cap : Nat} {l : List Nat} (h : Own w base g n cap l) : Own w.drew base g n cap l := h
set_option maxRecDepth 4096 in
set_option maxHeartbeats 2000000 in
theorem ref04_mul (a : Option Addr) (n cap : Nat) (la : List Nat) (b : Option Addr) (m cap' : Nat) (lb : List Nat) (w : World) (ha : Wd w a n cap la) (hb : Wd w b m cap' lb) (hn : n ≤ 4000000) (hm : m ≤ 4000000) :
    Calls Tryd.prog 46 #[.slice a n cap, .slice b m cap'] w (Lst (dg (val la * val lb)) w) := by
  obtain ⟨i0, hi, hz0, hz1, hz2⟩ := info_parts infoU32
  have Ha := Lib.hid ha
  have Hb := Lib.hid hb
  clear ha hb
  obtain ⟨N, hN⟩ : ∃ N : Nat, (n : Int) + (m : Int) = (N : Int) := ⟨n + m, by omega⟩
  have HN : Hid (N = n + m) := Lib.hid (by omega)
  have hNb : N ≤ 8000000 := by omega
  go_enter Tryd.func46, Tryd.ntmps46
  go_wp2_with (at_make; refine wpList_make_words _ rfl _ _ 22 rfl w.heap.size 72 i0 (.int .u32 0) Tryd.underlying22 hi hz0 hz1 rfl .i64 .i64 _ _ N N rfl rfl rfl rfl (Nat.le_refl _) (by rw [hz2]; omega) (by unfold maxLen; omega) (Nat.le_refl _) ?_; intro w1 hown1 hgrow1)
  rw [zeros_cells] at hown1
  have HO1 : Hid (Own w1 w.heap.size w.heap.size N N (List.replicate N 0)) := Lib.hid ⟨hown1, okw_zeros N⟩
  have hB1 : Below w.heap.size w w1 := (Below.refl _ _).grown hgrow1 (Nat.le_refl _) (fun k hk => by cases hk)
  clear hown1 hgrow1
  go_loopw [6] (fun iv wr => ∃ (i : Nat) (P : List Nat), i ≤ n ∧ iv = .int .i64 (i : Int) ∧ Hid (RowAt la lb P m i) ∧ Hid (Own wr w.heap.size w.heap.size N N P) ∧ Below w.heap.size w wr) (fun iv _ => n - (intOf iv).toNat)
  case atStart => exact ⟨0, List.replicate N 0, by omega, rfl, Lib.hid (row_start _ _ _ _), HO1, hB1⟩
  case round =>
    clear HO1 hB1
    obtain ⟨i, P, hin, rfl, HR, HO, hB⟩ := hrel
    by_cases hlt : i < n
    · have hii : (i : Int) < (n : Int) := by omega
      obtain ⟨ba, oa, rfl, hca⟩ := (Ha.out.later hB).at (by omega)
      have Hblk : Hid (ba < w.heap.size ∧ ∀ wz, Below w.heap.size w wz → wz.cell? ⟨ba, oa + i, none⟩ = some (.int .u32 ((atw la i : Nat) : Int))) := by
        obtain ⟨ba2, oa2, e2, hca2⟩ := Ha.out.at (by omega)
        simp only [Option.some.injEq, Addr.mk.injEq, and_true] at e2
        obtain ⟨rfl, rfl⟩ := e2
        exact Lib.hid ⟨World.block_lt_of_cell? w _ (hca2 i hlt), fun wz hz => cell_later hz (hca2 i hlt)⟩
      have hxw := atw_lt Ha.out.ok i
      obtain ⟨x, hxx⟩ : ∃ x, x = atw la i := ⟨_, rfl⟩
      rw [← hxx] at hxw Hblk
      have Hx := Lib.hid hxx
      clear hca hxx
      go_wp2
      go_loopw [7, 8] (fun sv jv wr => ∃ (j c : Nat) (P : List Nat), j ≤ m ∧ jv = .int .i64 (j : Int) ∧ sv = .int .u64 (c : Int) ∧ c < 4294967296 ∧ Hid (CellAt la lb P m i j c) ∧ Hid (Own wr w.heap.size w.heap.size N N P) ∧ Below w.heap.size w wr) (fun _ jv _ => m - (intOf jv).toNat)
      case atStart => exact ⟨0, 0, P, by omega, rfl, rfl, by omega, Lib.hid (cell_start HR.out), HO, hB⟩
      case round =>
        clear HO hB HR
        obtain ⟨j, c, P, hjm, rfl, rfl, hc, HC, HO, hB⟩ := hrel
        by_cases hjl : j < m
        · have hji : (j : Int) < (m : Int) := by omega
          obtain ⟨bb, ob, rfl, hcb⟩ := (Hb.out.later hB).at (by omega)
          have hcbj := hcb j hjl
          have hcai := Hblk.out.2 wr hB
          have hyw := atw_lt Hb.out.ok j
          obtain ⟨y, hyy⟩ : ∃ y, y = atw lb j := ⟨_, rfl⟩
          rw [← hyy] at hyw hcbj
          have Hy := Lib.hid hyy
          obtain ⟨q, hq⟩ : ∃ q : Nat, (i : Int) + (j : Int) = (q : Int) := ⟨i + j, by omega⟩
          have Hq : Hid (q = i + j) := Lib.hid (by omega)
          have hqN : q < N := by have := HN.out; omega
          have hqi : (q : Int) < (N : Int) := by omega
          have hcell := HO.out.cell (k := q) hqN
          have hfro := HO.out.1.frozenAt q
          have huw := atw_lt HO.out.2 q
          obtain ⟨u, huu⟩ : ∃ u, u = atw P q := ⟨_, rfl⟩
          rw [← huu] at huw hcell
          have Hu := Lib.hid huu
          have hroom := mul_room hxw hyw huw hc
          obtain ⟨p, hp⟩ : ∃ p : Nat, (x : Int) * (y : Int) = (p : Int) := ⟨x * y, by simp⟩
          have Hp : Hid (p = x * y) := Lib.hid (by rw [← Int.natCast_mul] at hp; omega)
          rw [← Hp.out] at hroom
          obtain ⟨hroom1, hroom2⟩ := hroom
          have hb := HO.out.base
          clear hcb hyy huu
          go_wp2
          go_quiet (fail)
          go_wp2
          go_roundw
          case rel =>
            have HOs := (HO.out.drewN nq).set q ((c + (p + u)) % 4294967296) (Nat.mod_lt _ (by decide))
            have hBs := (below_drewN hB nq).setCell (p := ⟨w.heap.size, q, none⟩) hb.1 (.int .u32 (((c + (p + u)) % 4294967296 : Nat) : Int))
            have e1 : (((c + (p + u)) % 4294967296 : Nat) : Int) = ((c : Int) + ((p : Int) + (u : Int))) % 4294967296 := by omega
            rw [e1] at HOs hBs
            exact ⟨j + 1, (c + (p + u)) / 4294967296, P.set q ((c + (p + u)) % 4294967296), by omega, by go_num, by go_num, by omega, Lib.hid (by
              have h1 := HC.out
              have h2 := HN.out
              have h3 := HO.out.len
              obtain rfl := Hq.out
              exact cell_step h1 hjl (by omega) (by rw [← Hx.out, ← Hy.out, ← Hu.out, ← Hp.out]; omega)), Lib.hid HOs, hBs⟩
          case measure => simp [intOf]; omega
        · obtain rfl : j = m := by omega
          obtain ⟨q, hq⟩ : ∃ q : Nat, (i : Int) + (j : Int) = (q : Int) := ⟨i + j, by omega⟩
          have Hq : Hid (q = i + j) := Lib.hid (by omega)
          have hqN : q < N := by have := HN.out; omega
          have hqi : (q : Int) < (N : Int) := by omega
          have hcell := HO.out.cell (k := q) hqN
          have hfro := HO.out.1.frozenAt q
          generalize atw P q = u at hcell
          have hb := HO.out.base
          have HOs := HO.out.set q c hc
          have hBs := hB.setCell (p := ⟨w.heap.size, q, none⟩) hb.1 (.int .u32 (c : Int))
          have HOs' := Lib.hid HOs
          have hBs' := Lib.hid hBs
          clear HOs hBs
          go_wp2
          go_roundw
          case rel =>
            exact ⟨i + 1, P.set q c, by omega, by go_num, Lib.hid (by
              have h1 := HC.out
              have h2 := HN.out
              have h3 := HO.out.len
              obtain rfl := Hq.out
              exact row_next h1 Hb.out.len (by omega)), HOs', hBs'.out⟩
          case measure => simp [intOf]; omega
    · obtain rfl : i = n := by omega
      have Hv := Lib.hid (row_end HR.out Ha.out.len)
      go_wp2_with fail
      refine (ref02_norm _ _ _ _ _ HO.out.wd (by omega)).mono ?_
      rintro e w' ⟨a', n', c', rfl, hwd, hbel⟩
      rw [Hv.out] at hwd
      have HWD := Lib.hid hwd
      clear hwd
      go_wp2
      go_ret
      exact ⟨_, _, _, rfl, HWD.out, below_then hB hbel⟩
end Go.Proofs.YtiblojmdgjnfbaaDoor
