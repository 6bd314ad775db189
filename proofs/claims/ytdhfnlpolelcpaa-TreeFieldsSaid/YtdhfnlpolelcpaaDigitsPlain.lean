/-
  Plain mathematics: decimal digits. Nothing of the program.
-/
import Derived.Test.YtdhfnlpolelcpaaQuotPlain
namespace Go.Proofs.Ytdhfnlpolelcpaa

/-- The decimal digits of a number, the highest first; as bytes. -/
def decs (n : Nat) : List Nat := if n < 10 then [n] else decs (n / 10) ++ [n % 10]
termination_by n
decreasing_by omega
def dig (d : Nat) : UInt8 := UInt8.ofNat (48 + d)
def txt (n : Nat) : List UInt8 := (decs n).map dig
theorem decs_small {n : Nat} (h : n < 10) : decs n = [n] := by rw [decs]; simp [h]
theorem decs_big {n : Nat} (h : 10 ≤ n) : decs n = decs (n / 10) ++ [n % 10] := by rw [decs]; simp [show ¬ n < 10 by omega]
theorem txt_small {n : Nat} (h : n < 10) : txt n = [dig n] := by rw [txt, decs_small h]; rfl
theorem txt_big {n : Nat} (h : 10 ≤ n) : txt n = txt (n / 10) ++ [dig (n % 10)] := by rw [txt, decs_big h]; simp [txt]
theorem dig_val {d : Nat} (h : d < 10) : (dig d).toNat = 48 + d := by
  unfold dig; rw [UInt8.toNat_ofNat']; omega
theorem decs_lt (n : Nat) : ∀ d ∈ decs n, d < 10 := by
  induction n using Nat.strongRecOn with
  | _ n ih =>
    by_cases h : n < 10
    · rw [decs_small h]; intro d hd; simp at hd; omega
    · rw [decs_big (by omega)]
      intro d hd
      rcases List.mem_append.1 hd with h1 | h1
      · exact ih _ (by omega) d h1
      · simp at h1; omega
theorem decs_length_le {n k : Nat} (h : n < 2 ^ k) : (decs n).length ≤ k + 1 := by
  induction k generalizing n with
  | zero => rw [decs_small (by simp at h; omega)]; simp
  | succ k ih =>
    by_cases h1 : n < 10
    · rw [decs_small h1]; simp
    · rw [decs_big (by omega), List.length_append]
      have := ih (n := n / 10) (by rw [Nat.pow_succ] at h; omega)
      simp only [List.length_cons, List.length_nil]
      omega
theorem decs_ne (n : Nat) : decs n ≠ [] := by
  by_cases h : n < 10
  · rw [decs_small h]; simp
  · rw [decs_big (by omega)]; simp
theorem txt_length (n : Nat) : (txt n).length = (decs n).length := by simp [txt]
theorem txt_length_le {n k : Nat} (h : n < 2 ^ k) : (txt n).length ≤ k + 1 := by rw [txt_length]; exact decs_length_le h
theorem txt_ne (n : Nat) : txt n ≠ [] := by unfold txt; simp [decs_ne]

/-- Digit by digit, from the low end: what is written is s, what is left is v. -/
def TextAt (v0 v : Nat) (s : List UInt8) : Prop := (s = [] ∧ v = v0) ∨ (s ≠ [] ∧ v = 0 ∧ s = txt v0) ∨ (s ≠ [] ∧ v ≠ 0 ∧ txt v0 = txt v ++ s)
theorem text_start (v : Nat) : TextAt v v [] := .inl ⟨rfl, rfl⟩
theorem text_step {v0 v : Nat} {s : List UInt8} (h : TextAt v0 v s) (hv : v ≠ 0 ∨ s = []) : TextAt v0 (v / 10) (dig (v % 10) :: s) := by
  have key : (s = [] ∧ v = v0) ∨ txt v0 = txt v ++ s := by
    rcases h with h | ⟨h1, h2, h3⟩ | ⟨_, _, h3⟩
    · exact .inl h
    · rcases hv with h4 | h4
      · exact absurd h2 h4
      · exact absurd h4 h1
    · exact .inr h3
  have key2 : txt v0 = txt v ++ s := by
    rcases key with ⟨h1, h2⟩ | h1
    · rw [h1, h2, List.append_nil]
    · exact h1
  by_cases h10 : v < 10
  · refine .inr (.inl ⟨by simp, by omega, ?_⟩)
    rw [key2, txt_small h10, show v % 10 = v by omega]; rfl
  · refine .inr (.inr ⟨by simp, by omega, ?_⟩)
    rw [key2, txt_big (by omega)]; simp
theorem text_end {v0 v : Nat} {s : List UInt8} (h : TextAt v0 v s) (hv : v = 0) (hs : s ≠ []) : s = txt v0 := by
  rcases h with ⟨h1, _⟩ | ⟨_, _, h3⟩ | ⟨_, h2, _⟩
  · exact absurd h1 hs
  · exact h3
  · exact absurd hv h2
theorem text_length {v0 v : Nat} {s : List UInt8} (h : TextAt v0 v s) : s.length ≤ (txt v0).length := by
  rcases h with ⟨h1, _⟩ | ⟨_, _, h3⟩ | ⟨_, _, h3⟩
  · rw [h1]; simp
  · rw [h3]; exact Nat.le_refl _
  · rw [h3, List.length_append]; omega

/-- The first place at which bytes are no digits, or that is too far; below 0: there is none. -/
def wrongFrom : List UInt8 → Nat → Int
  | [], _ => -1
  | x :: r, i => if x.toNat < 48 ∨ 57 < x.toNat ∨ 60 ≤ i then (i : Int) else wrongFrom r (i + 1)
def wrongI (l : List UInt8) : Int := if l = [] then 0 else wrongFrom l 0
/-- The number that digits are. -/
def readV (l : List UInt8) : Nat := l.foldl (fun n x => n * 10 + (x.toNat - 48)) 0
def alldig (l : List UInt8) : Prop := ∀ x ∈ l, 48 ≤ x.toNat ∧ x.toNat ≤ 57
theorem wrongFrom_none {l : List UInt8} {i : Nat} (h : wrongFrom l i < 0) : alldig l ∧ (l = [] ∨ i + l.length ≤ 60) := by
  induction l generalizing i with
  | nil => exact ⟨fun x hx => (by cases hx), .inl rfl⟩
  | cons x r ih =>
    rw [wrongFrom] at h
    split at h
    · omega
    · rename_i hx
      obtain ⟨h1, h2⟩ := ih h
      refine ⟨fun y hy => ?_, .inr ?_⟩
      · rcases List.mem_cons.1 hy with rfl | hy
        · omega
        · exact h1 y hy
      · simp only [List.length_cons]
        rcases h2 with rfl | h2
        · simp; omega
        · omega
theorem wrongI_none {l : List UInt8} (h : wrongI l < 0) : alldig l ∧ l ≠ [] ∧ l.length ≤ 60 := by
  unfold wrongI at h
  split at h
  · omega
  · rename_i hne
    obtain ⟨h1, h2⟩ := wrongFrom_none h
    refine ⟨h1, hne, ?_⟩
    rcases h2 with h2 | h2
    · exact absurd h2 hne
    · omega
theorem wrongFrom_range {l : List UInt8} {i : Nat} : wrongFrom l i < ((i + l.length : Nat) : Int) ∧ (wrongFrom l i < 0 ∨ (i : Int) ≤ wrongFrom l i) ∧ -1 ≤ wrongFrom l i := by
  induction l generalizing i with
  | nil => simp [wrongFrom]; omega
  | cons x r ih =>
    rw [wrongFrom]
    split
    · simp; omega
    · have h1 := ih (i := i + 1)
      simp only [List.length_cons]
      omega
theorem readV_take {l : List UInt8} {k : Nat} (h : k < l.length) : readV (l.take (k + 1)) = readV (l.take k) * 10 + ((l.getD k 0).toNat - 48) := by
  unfold readV
  rw [List.take_succ_eq_append_getElem h, List.foldl_append, List.getD_eq_getElem?_getD, List.getElem?_eq_getElem h]; rfl
theorem readV_lt {l : List UInt8} (h : alldig l) : readV l < 10 ^ l.length := by
  have key : ∀ (l : List UInt8) (n m : Nat), alldig l → n < 10 ^ m → l.foldl (fun n x => n * 10 + (x.toNat - 48)) n < 10 ^ (m + l.length) := by
    intro l
    induction l with
    | nil => intro n m _ hn; simpa using hn
    | cons x r ih =>
      intro n m hd hn
      have h1 := hd x (by simp)
      have h2 := ih (n * 10 + (x.toNat - 48)) (m + 1) (fun y hy => hd y (by simp [hy])) (by rw [Nat.pow_succ]; omega)
      rw [List.foldl_cons, List.length_cons, show m + (r.length + 1) = m + 1 + r.length by omega]
      exact h2
  have := key l 0 0 h (by decide)
  rwa [Nat.zero_add] at this
theorem alldig_getD {l : List UInt8} (h : alldig l) {k : Nat} (hk : k < l.length) : 48 ≤ (l.getD k 0).toNat ∧ (l.getD k 0).toNat ≤ 57 := by
  rw [List.getD_eq_getElem?_getD, List.getElem?_eq_getElem hk]; exact h _ (List.getElem_mem hk)
/-- Without noughts ahead. -/
def trimL : List UInt8 → List UInt8
  | [] => []
  | [x] => [x]
  | x :: y :: r => if x.toNat = 48 then trimL (y :: r) else x :: y :: r
theorem readV_cons (x : UInt8) (l : List UInt8) (h : x.toNat = 48) : readV (x :: l) = readV l := by unfold readV; rw [List.foldl_cons, h]
/-- What is written is read as it was. -/
theorem readV_append (l : List UInt8) (x : UInt8) : readV (l ++ [x]) = readV l * 10 + (x.toNat - 48) := by unfold readV; rw [List.foldl_append]; rfl
theorem readV_txt (n : Nat) : readV (txt n) = n := by
  induction n using Nat.strongRecOn with
  | _ n ih =>
    by_cases h : n < 10
    · rw [txt_small h]
      show 0 * 10 + ((dig n).toNat - 48) = n
      rw [dig_val h]; omega
    · rw [txt_big (by omega), readV_append, ih _ (by omega), dig_val (by omega)]; omega
theorem alldig_txt (n : Nat) : alldig (txt n) := by
  intro x hx
  obtain ⟨d, hd, rfl⟩ := List.mem_map.1 hx
  have := decs_lt n d hd
  rw [dig_val this]; omega
theorem wrongFrom_alldig {l : List UInt8} {i : Nat} (h : alldig l) : wrongFrom l i = if l = [] ∨ i + l.length ≤ 60 then -1 else ((max i 60 : Nat) : Int) := by
  induction l generalizing i with
  | nil => simp [wrongFrom]
  | cons x r ih =>
    have hx := h x (by simp)
    have h1 := ih (i := i + 1) (fun y hy => h y (by simp [hy]))
    rw [wrongFrom]
    by_cases hi : 60 ≤ i
    · rw [if_pos (by omega), if_neg (by simp; omega), Nat.max_eq_left hi]
    · rw [if_neg (by omega), h1]
      simp only [List.length_cons]
      by_cases hr : r = []
      · subst hr; simp; omega
      · have : 0 < r.length := List.length_pos_iff.2 hr
        by_cases h2 : i + 1 + r.length ≤ 60
        · rw [if_pos (.inr h2), if_pos (.inr (by omega))]
        · rw [if_neg (by simp [hr]; omega), if_neg (by simp; omega), Nat.max_eq_right (by omega), Nat.max_eq_right (by omega)]
theorem wrongI_txt (n : Nat) : wrongI (txt n) = if (txt n).length ≤ 60 then -1 else 60 := by
  unfold wrongI
  rw [if_neg (txt_ne n), wrongFrom_alldig (alldig_txt n)]
  simp [txt_ne]
/-- A text of digits without noughts ahead is what is written of the number that it is. -/
theorem byte_ext {x : UInt8} {d : Nat} (h : x.toNat = 48 + d) (hd : d < 10) : x = dig d := UInt8.toNat_inj.1 (by rw [h, dig_val hd])
theorem readV_pos {l : List UInt8} (h : alldig l) (h0 : ∀ x r, l = x :: r → x.toNat ≠ 48) (hne : l ≠ []) : 0 < readV l := by
  have key : ∀ (l : List UInt8) (n : Nat), 0 < n → 0 < l.foldl (fun n x => n * 10 + (x.toNat - 48)) n := by
    intro l
    induction l with
    | nil => intro n hn; exact hn
    | cons x r ih => intro n hn; rw [List.foldl_cons]; exact ih _ (by omega)
  cases l with
  | nil => exact absurd rfl hne
  | cons x r =>
    have h1 := h x (by simp)
    have h2 := h0 x r rfl
    unfold readV
    rw [List.foldl_cons]
    exact key r _ (by omega)
theorem txt_readV_right : ∀ (k : Nat) (l : List UInt8), l.length = k → alldig l → (∀ x r, l = x :: r → x.toNat ≠ 48) → l ≠ [] → txt (readV l) = l := by
  intro k
  induction k with
  | zero => intro l hl _ _ hne; exact absurd (List.eq_nil_of_length_eq_zero hl) hne
  | succ k ih =>
    intro l hl hd h0 hne
    obtain ⟨m, y, rfl⟩ : ∃ m y, l = m ++ [y] := ⟨l.dropLast, l.getLast hne, (List.dropLast_concat_getLast hne).symm⟩
    have hy := hd y (by simp)
    have hlm : m.length = k := by simp at hl; omega
    rw [readV_append]
    have hyd : y = dig (y.toNat - 48) := byte_ext (by omega) (by omega)
    by_cases hm : m = []
    · subst hm
      show txt (0 * 10 + (y.toNat - 48)) = [y]
      rw [Nat.zero_mul, Nat.zero_add, txt_small (by omega), ← hyd]
    · have hp : 0 < readV m := readV_pos (fun x hx => hd x (by simp [hx])) (fun x r e => h0 x (r ++ [y]) (by rw [e]; rfl)) hm
      have hih := ih m hlm (fun x hx => hd x (by simp [hx])) (fun x r e => h0 x (r ++ [y]) (by rw [e]; rfl)) hm
      rw [txt_big (by omega), show (readV m * 10 + (y.toNat - 48)) / 10 = readV m by omega, show (readV m * 10 + (y.toNat - 48)) % 10 = y.toNat - 48 by omega, hih, ← hyd]
theorem txt_readV {l : List UInt8} (h : alldig l) (hne : l ≠ []) : txt (readV l) = trimL l := by
  have key : ∀ (k : Nat) (l : List UInt8), l.length = k → alldig l → l ≠ [] → txt (readV l) = trimL l := by
    intro k
    induction k with
    | zero => intro l hl _ hne; exact absurd (List.eq_nil_of_length_eq_zero hl) hne
    | succ k ih =>
      intro l hl hd hne
      match l, hl, hd, hne with
      | [x], _, hd, _ =>
        have hx := hd x (by simp)
        have hxd : x = dig (x.toNat - 48) := byte_ext (by omega) (by omega)
        show txt (0 * 10 + (x.toNat - 48)) = [x]
        rw [Nat.zero_mul, Nat.zero_add, txt_small (by omega), ← hxd]
      | x :: y :: r, hl, hd, _ =>
        rw [trimL]
        split
        · rename_i hx
          rw [readV_cons x _ hx]
          exact ih (y :: r) (by simpa using hl) (fun z hz => hd z (by simp [hz])) (by simp)
        · rename_i hx
          exact txt_readV_right _ _ rfl hd (fun z s e => by cases e; exact hx) (by simp)
  exact key _ l rfl h hne
end Go.Proofs.Ytdhfnlpolelcpaa
