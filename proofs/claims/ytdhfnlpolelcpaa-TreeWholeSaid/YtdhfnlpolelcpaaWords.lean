/-
  Plain mathematics: lists of words of 32 bits and their values. Nothing of the program.
-/
namespace Go.Proofs.Ytdhfnlpolelcpaa

/-- The value of a list of words, the lowest first. -/
def val : List Nat → Nat
  | [] => 0
  | x :: l => x + 4294967296 * val l
/-- Each is a word. -/
def okw (l : List Nat) : Prop := ∀ x ∈ l, x < 4294967296
/-- The right list of a value. -/
def dg (n : Nat) : List Nat := if h : n = 0 then [] else n % 4294967296 :: dg (n / 4294967296)
termination_by n
decreasing_by omega
/-- The word at a place, 0 behind the end; what stands below a place, and from it on. -/
def atw (l : List Nat) (i : Nat) : Nat := l.getD i 0
def low (l : List Nat) (i : Nat) : Nat := val (l.take i)
def top (l : List Nat) (i : Nat) : Nat := val (l.drop i)
/-- The list without the noughts at its end. -/
def rightw (l : List Nat) : Prop := l = [] ∨ atw l (l.length - 1) ≠ 0

theorem pow_succ32 (i : Nat) : (4294967296 : Nat) ^ (i + 1) = 4294967296 * 4294967296 ^ i := by rw [Nat.pow_succ, Nat.mul_comm]
theorem pow_pos32 (i : Nat) : 0 < (4294967296 : Nat) ^ i := Nat.pow_pos (by decide)

theorem okw_nil : okw [] := fun _ h => by cases h
theorem okw_cons {x : Nat} {l : List Nat} : okw (x :: l) ↔ x < 4294967296 ∧ okw l := by simp [okw]
theorem okw_append {a b : List Nat} : okw (a ++ b) ↔ okw a ∧ okw b := by simp only [okw, List.mem_append]; exact ⟨fun h => ⟨fun x hx => h x (.inl hx), fun x hx => h x (.inr hx)⟩, fun h x hx => hx.elim (h.1 x) (h.2 x)⟩
theorem okw_snoc {l : List Nat} {x : Nat} (h : okw l) (hx : x < 4294967296) : okw (l ++ [x]) := okw_append.2 ⟨h, by simpa [okw] using hx⟩
theorem okw_take {l : List Nat} (h : okw l) (i : Nat) : okw (l.take i) := fun x hx => h x (List.mem_of_mem_take hx)
theorem okw_drop {l : List Nat} (h : okw l) (i : Nat) : okw (l.drop i) := fun x hx => h x (List.mem_of_mem_drop hx)
theorem atw_lt {l : List Nat} (h : okw l) (i : Nat) : atw l i < 4294967296 := by
  unfold atw
  by_cases hi : i < l.length
  · rw [List.getD_eq_getElem?_getD, List.getElem?_eq_getElem hi]; exact h _ (List.getElem_mem hi)
  · rw [List.getD_eq_getElem?_getD, List.getElem?_eq_none (by omega)]; decide
theorem atw_ge {l : List Nat} {i : Nat} (h : l.length ≤ i) : atw l i = 0 := by
  unfold atw; rw [List.getD_eq_getElem?_getD, List.getElem?_eq_none h]; rfl

theorem val_append : ∀ (a b : List Nat), val (a ++ b) = val a + 4294967296 ^ a.length * val b
  | [], b => by simp [val]
  | x :: a, b => by
    rw [List.cons_append, val, val, val_append a b, List.length_cons, pow_succ32, Nat.mul_add, Nat.mul_assoc]
    omega
theorem val_snoc (l : List Nat) (x : Nat) : val (l ++ [x]) = val l + 4294967296 ^ l.length * x := by rw [val_append]; simp [val]
theorem val_lt : ∀ {l : List Nat}, okw l → val l < 4294967296 ^ l.length
  | [], _ => by simp [val]
  | x :: l, h => by
    obtain ⟨hx, hl⟩ := okw_cons.1 h
    have := val_lt hl
    rw [val, List.length_cons, pow_succ32]
    omega
theorem val_zeros (k : Nat) : val (List.replicate k 0) = 0 := by
  induction k with
  | zero => rfl
  | succ k ih => rw [List.replicate_succ, val, ih]

theorem low_zero (l : List Nat) : low l 0 = 0 := by simp [low, val]
theorem low_ge {l : List Nat} {i : Nat} (h : l.length ≤ i) : low l i = val l := by rw [low, List.take_of_length_le h]
theorem low_lt {l : List Nat} (h : okw l) (i : Nat) : low l i < 4294967296 ^ i := by
  have h1 := val_lt (okw_take h i)
  have h2 : (4294967296 : Nat) ^ (l.take i).length ≤ 4294967296 ^ i := Nat.pow_le_pow_right (by decide) (List.length_take_le _ _)
  unfold low; omega
theorem low_succ (l : List Nat) (i : Nat) : low l (i + 1) = low l i + 4294967296 ^ i * atw l i := by
  unfold low atw
  by_cases hi : i < l.length
  · rw [List.take_succ_eq_append_getElem hi, val_snoc, List.length_take, Nat.min_eq_left (by omega), List.getD_eq_getElem?_getD, List.getElem?_eq_getElem hi]; rfl
  · rw [List.take_of_length_le (by omega), List.take_of_length_le (by omega), List.getD_eq_getElem?_getD, List.getElem?_eq_none (by omega)]; simp
theorem top_zero (l : List Nat) : top l 0 = val l := by simp [top]
theorem top_ge {l : List Nat} {i : Nat} (h : l.length ≤ i) : top l i = 0 := by rw [top, List.drop_of_length_le h]; rfl
theorem top_succ (l : List Nat) (i : Nat) : top l i = atw l i + 4294967296 * top l (i + 1) := by
  unfold top atw
  by_cases hi : i < l.length
  · rw [List.drop_eq_getElem_cons hi, val, List.getD_eq_getElem?_getD, List.getElem?_eq_getElem hi]; rfl
  · rw [List.drop_of_length_le (by omega), List.drop_of_length_le (by omega), List.getD_eq_getElem?_getD, List.getElem?_eq_none (by omega)]; simp [val]
theorem val_split (l : List Nat) (i : Nat) : val l = low l i + 4294967296 ^ i * top l i := by
  induction i with
  | zero => rw [low_zero, top_zero]; simp
  | succ i ih => rw [ih, low_succ, top_succ, pow_succ32, Nat.mul_add, ← Nat.mul_assoc, Nat.mul_comm 4294967296]; omega

theorem dg_zero : dg 0 = [] := by rw [dg]; simp
theorem dg_pos {n : Nat} (h : n ≠ 0) : dg n = n % 4294967296 :: dg (n / 4294967296) := by rw [dg]; simp [h]
theorem dg_word {n : Nat} (h0 : n ≠ 0) (h : n < 4294967296) : dg n = [n] := by rw [dg_pos h0, show n / 4294967296 = 0 from by omega, dg_zero, show n % 4294967296 = n from by omega]
theorem okw_dg (n : Nat) : okw (dg n) := by
  induction n using Nat.strongRecOn with
  | _ n ih =>
    by_cases h : n = 0
    · subst h; rw [dg_zero]; exact okw_nil
    · rw [dg_pos h]; exact okw_cons.2 ⟨by omega, ih _ (by omega)⟩
theorem val_dg (n : Nat) : val (dg n) = n := by
  induction n using Nat.strongRecOn with
  | _ n ih =>
    by_cases h : n = 0
    · subst h; rw [dg_zero]; rfl
    · rw [dg_pos h, val, ih _ (by omega)]; omega
theorem right_cons {x : Nat} {l : List Nat} (h : rightw (x :: l)) : rightw l ∧ (l = [] → x ≠ 0) := by
  cases h with
  | inl h => cases h
  | inr h =>
    cases l with
    | nil => exact ⟨.inl rfl, fun _ => by simpa [atw] using h⟩
    | cons y m => exact ⟨.inr (by simpa [atw] using h), fun h => by cases h⟩
theorem right_val_zero : ∀ {l : List Nat}, rightw l → val l = 0 → l = []
  | [], _, _ => rfl
  | x :: l, h, hv => by
    obtain ⟨h1, h2⟩ := right_cons h
    rw [val] at hv
    have := right_val_zero h1 (by omega)
    exact absurd (by omega) (h2 this)
/-- The right list of a value is the only one. -/
theorem dg_val : ∀ {l : List Nat}, rightw l → okw l → dg (val l) = l
  | [], _, _ => dg_zero
  | x :: l, h, ho => by
    obtain ⟨h1, _⟩ := right_cons h
    obtain ⟨hx, hl⟩ := okw_cons.1 ho
    have hne : val (x :: l) ≠ 0 := fun e => by cases right_val_zero h e
    rw [dg_pos hne, val]
    have e1 : (x + 4294967296 * val l) % 4294967296 = x := by omega
    have e2 : (x + 4294967296 * val l) / 4294967296 = val l := by omega
    rw [e1, e2, dg_val h1 hl]
theorem dg_length_le {n k : Nat} (h : n < 4294967296 ^ k) : (dg n).length ≤ k := by
  induction k generalizing n with
  | zero => have : n = 0 := by simpa using h
            subst this; rw [dg_zero]; simp
  | succ k ih =>
    by_cases h0 : n = 0
    · subst h0; rw [dg_zero]; simp
    · rw [dg_pos h0, List.length_cons]
      have := ih (n := n / 4294967296) (by rw [pow_succ32] at h; omega)
      omega
theorem lt_dg_length (n : Nat) : n < 4294967296 ^ (dg n).length := by
  have := val_lt (okw_dg n); rwa [val_dg] at this
theorem right_dg (n : Nat) : rightw (dg n) := by
  induction n using Nat.strongRecOn with
  | _ n ih =>
    by_cases h : n = 0
    · subst h; rw [dg_zero]; exact .inl rfl
    · refine .inr ?_
      rw [dg_pos h]
      cases hd : dg (n / 4294967296) with
      | nil =>
        have h0 : n / 4294967296 = 0 := by have := val_dg (n / 4294967296); rw [hd] at this; exact this.symm
        simp [atw]; omega
      | cons y m =>
        rcases ih (n / 4294967296) (by omega) with h1 | h1
        · rw [hd] at h1; cases h1
        · rw [hd] at h1; simpa [atw] using h1
theorem dg_inj {a b : Nat} (h : dg a = dg b) : a = b := by have := congrArg val h; rwa [val_dg, val_dg] at this
theorem dg_length_mono {a b : Nat} (h : a ≤ b) : (dg a).length ≤ (dg b).length := dg_length_le (Nat.lt_of_le_of_lt h (lt_dg_length b))
theorem dg_length_val_le {l : List Nat} (h : okw l) : (dg (val l)).length ≤ l.length := dg_length_le (val_lt h)
theorem dg_length_pow {n k : Nat} : (dg n).length ≤ k ↔ n < 4294967296 ^ k :=
  ⟨fun h => Nat.lt_of_lt_of_le (lt_dg_length n) (Nat.pow_le_pow_right (by decide) h), dg_length_le⟩

/-- Cutting noughts off the end. -/
theorem take_right {l : List Nat} {n : Nat} (hn : n ≤ l.length) (ho : okw l) (ht : top l n = 0) (hr : n = 0 ∨ atw l (n - 1) ≠ 0) : l.take n = dg (val l) := by
  have hv : val (l.take n) = val l := by
    have := val_split l n
    rw [ht] at this
    unfold low at this
    omega
  rw [← hv]
  refine (dg_val ?_ (okw_take ho n)).symm
  by_cases h0 : n = 0
  · exact .inl (by subst h0; simp)
  · refine .inr ?_
    have hlen : (l.take n).length = n := by rw [List.length_take, Nat.min_eq_left hn]
    rw [hlen]
    unfold atw at *
    rw [List.getD_eq_getElem?_getD, List.getElem?_take, if_pos (by omega), ← List.getD_eq_getElem?_getD]
    exact hr.resolve_left h0
/-- A word of a take. -/
theorem atw_take {l : List Nat} {n i : Nat} (h : i < n) : atw (l.take n) i = atw l i := by
  unfold atw; rw [List.getD_eq_getElem?_getD, List.getElem?_take, if_pos h, ← List.getD_eq_getElem?_getD]

/-- One word more of a sum; of a difference. -/
theorem add_step {la lb o : List Nat} {k s t : Nat} (ho : o.length = k) (h : val o + 4294967296 ^ k * s = low la k + low lb k) (ht : t = s + (atw la k + atw lb k)) :
    val (o ++ [t % 4294967296]) + 4294967296 ^ (k + 1) * (t / 4294967296) = low la (k + 1) + low lb (k + 1) := by
  rw [val_snoc, ho, low_succ, low_succ, pow_succ32]
  generalize 4294967296 ^ k = P at *
  have e : P * (t % 4294967296) + 4294967296 * P * (t / 4294967296) = P * t := by
    rw [Nat.mul_comm 4294967296 P, Nat.mul_assoc, ← Nat.mul_add, Nat.mod_add_div]
  have e2 : P * t = P * s + (P * atw la k + P * atw lb k) := by rw [ht, Nat.mul_add, Nat.mul_add]
  generalize P * t = u at *
  generalize P * s = v at *
  generalize P * (t % 4294967296) = x at *
  generalize 4294967296 * P * (t / 4294967296) = y at *
  omega
theorem add_end {la lb o : List Nat} {N s : Nat} (ha : okw la) (hb : okw lb) (hla : la.length ≤ N) (hlb : lb.length ≤ N) (ho : o.length = N + 1) (h : val o + 4294967296 ^ (N + 1) * s = low la (N + 1) + low lb (N + 1)) :
    val o = val la + val lb := by
  rw [low_ge (by omega), low_ge (by omega)] at h
  have h1 : val la < 4294967296 ^ N := Nat.lt_of_lt_of_le (val_lt ha) (Nat.pow_le_pow_right (by decide) hla)
  have h2 : val lb < 4294967296 ^ N := Nat.lt_of_lt_of_le (val_lt hb) (Nat.pow_le_pow_right (by decide) hlb)
  rw [pow_succ32] at h
  generalize 4294967296 ^ N = P at *
  have hs : s = 0 := by
    cases s with
    | zero => rfl
    | succ s =>
      have h3 : 4294967296 * P * 1 ≤ 4294967296 * P * (s + 1) := Nat.mul_le_mul_left _ (by omega)
      generalize 4294967296 * P * (s + 1) = z at *
      omega
  subst hs
  omega
theorem sub_step {la lb o : List Nat} {k s z r : Nat} (ho : o.length = k) (h : low la k + 4294967296 ^ k * s = low lb k + val o) (ht : atw la k + 4294967296 * z = atw lb k + s + r) :
    low la (k + 1) + 4294967296 ^ (k + 1) * z = low lb (k + 1) + val (o ++ [r]) := by
  rw [val_snoc, ho, low_succ, low_succ, pow_succ32]
  generalize 4294967296 ^ k = P at *
  have e : P * atw la k + 4294967296 * P * z = P * atw lb k + P * s + P * r := by
    rw [Nat.mul_comm 4294967296 P, Nat.mul_assoc, ← Nat.mul_add, ht, Nat.mul_add, Nat.mul_add]
  generalize P * atw la k = x at *
  generalize 4294967296 * P * z = y at *
  generalize P * atw lb k = u at *
  generalize P * s = v at *
  generalize P * r = t at *
  omega
theorem sub_end {la lb o : List Nat} {N s : Nat} (hle : val lb ≤ val la) (hla : la.length ≤ N) (hlb : lb.length ≤ N) (ho : o.length = N) (hok : okw o) (h : low la N + 4294967296 ^ N * s = low lb N + val o) :
    val o = val la - val lb := by
  rw [low_ge hla, low_ge hlb] at h
  have h1 := val_lt hok
  rw [ho] at h1
  generalize 4294967296 ^ N = P at *
  have hs : s = 0 := by
    cases s with
    | zero => rfl
    | succ s =>
      have h3 : P * 1 ≤ P * (s + 1) := Nat.mul_le_mul_left _ (by omega)
      generalize P * (s + 1) = z at *
      omega
  subst hs
  omega
/-- A word stored behind those that are stored already. -/
theorem set_next (o : List Nat) (N k r : Nat) (ho : o.length = k) (hk : k < N) : (o ++ List.replicate (N - k) 0).set k r = (o ++ [r]) ++ List.replicate (N - (k + 1)) 0 := by
  obtain ⟨j, hj⟩ : ∃ j, N - k = j + 1 := ⟨N - k - 1, by omega⟩
  have hj2 : N - (k + 1) = j := by omega
  rw [hj, hj2, List.replicate_succ, List.set_append_right _ _ (by omega), ho, Nat.sub_self]
  simp

theorem val_two {l : List Nat} (h : l.length ≤ 2) : val l = atw l 0 + 4294967296 * atw l 1 := by
  match l, h with
  | [], _ => rfl
  | [x], _ => simp [val, atw]
  | [x, y], _ => simp [val, atw]
theorem dg_nil_iff {n : Nat} : (dg n).length = 0 ↔ n = 0 :=
  ⟨fun h => by have := val_dg n; rw [List.eq_nil_of_length_eq_zero h] at this; exact this.symm, fun h => by rw [h, dg_zero]; rfl⟩

/-- Compared from the top: the first place at which two lists part decides. -/
theorem cmp_lt {a b : List Nat} (ha : okw a) {i : Nat} (ht : top a (i + 1) = top b (i + 1)) (h : atw a i < atw b i) : val a < val b := by
  rw [val_split a i, val_split b i, top_succ a i, top_succ b i, ht]
  have h1 := low_lt ha i
  have h2 : 4294967296 ^ i * (atw a i + 4294967296 * top b (i + 1)) + 4294967296 ^ i ≤ 4294967296 ^ i * (atw b i + 4294967296 * top b (i + 1)) := by
    rw [← Nat.mul_succ]; exact Nat.mul_le_mul_left _ (by omega)
  omega
theorem top_eq {a b : List Nat} {i : Nat} (ht : top a (i + 1) = top b (i + 1)) (h : atw a i = atw b i) : top a i = top b i := by rw [top_succ a, top_succ b, ht, h]

/-- Lists of one length are the same if they have the same words. -/
theorem list_eq_of_at {a b : List Nat} (hl : a.length = b.length) (h : ∀ j, j < a.length → atw a j = atw b j) : a = b := by
  apply List.ext_getElem hl
  intro j h1 h2
  have := h j h1
  unfold atw at this
  rwa [List.getD_eq_getElem?_getD, List.getD_eq_getElem?_getD, List.getElem?_eq_getElem h1, List.getElem?_eq_getElem h2] at this
theorem list_ne_of_at {a b : List Nat} {j : Nat} (h : atw a j ≠ atw b j) : a ≠ b := fun e => h (by rw [e])

/-- The sum of the values of lists; how many words they have in all. -/
def vals : List (List Nat) → Nat
  | [] => 0
  | l :: r => val l + vals r
def words : List (List Nat) → Nat
  | [] => 0
  | l :: r => l.length + words r
theorem vals_take (ls : List (List Nat)) (k : Nat) (hk : k < ls.length) : vals (ls.take (k + 1)) = vals (ls.take k) + val (ls.getD k []) := by
  induction ls generalizing k with
  | nil => simp at hk
  | cons l r ih =>
    cases k with
    | zero => simp [vals]
    | succ k =>
      have := ih k (by simpa using hk)
      simp only [List.take_succ_cons, vals, List.getD_cons_succ]
      omega
theorem words_take (ls : List (List Nat)) (k : Nat) (hk : k < ls.length) : words (ls.take (k + 1)) = words (ls.take k) + (ls.getD k []).length := by
  induction ls generalizing k with
  | nil => simp at hk
  | cons l r ih =>
    cases k with
    | zero => simp [words]
    | succ k =>
      have := ih k (by simpa using hk)
      simp only [List.take_succ_cons, words, List.getD_cons_succ]
      omega
theorem words_mem (ls : List (List Nat)) (k : Nat) (hk : k < ls.length) : (ls.getD k []).length ≤ words ls := by
  induction ls generalizing k with
  | nil => simp at hk
  | cons l r ih =>
    cases k with
    | zero => simp [words]
    | succ k =>
      have := ih k (by simpa using hk)
      simp only [words, List.getD_cons_succ]
      omega
theorem vals_lt {ls : List (List Nat)} (h : ∀ l ∈ ls, okw l) : vals ls < 4294967296 ^ words ls + ls.length * 4294967296 ^ words ls := by
  induction ls with
  | nil => simp [vals, words]
  | cons l r ih =>
    have h1 := val_lt (h l (by simp))
    have h3 := ih (fun x hx => h x (by simp [hx]))
    have e1 : (4294967296 : Nat) ^ l.length ≤ 4294967296 ^ (l.length + words r) := Nat.pow_le_pow_right (by decide) (by omega)
    have e2 : (4294967296 : Nat) ^ words r ≤ 4294967296 ^ (l.length + words r) := Nat.pow_le_pow_right (by decide) (by omega)
    have e3 : r.length * 4294967296 ^ words r ≤ r.length * 4294967296 ^ (l.length + words r) := Nat.mul_le_mul_left _ e2
    simp only [vals, words, List.length_cons, Nat.add_mul, Nat.one_mul]
    generalize (4294967296 : Nat) ^ l.length = p at *
    generalize (4294967296 : Nat) ^ words r = q at *
    generalize (4294967296 : Nat) ^ (l.length + words r) = t at *
    generalize r.length * q = x at *
    generalize r.length * t = y at *
    omega
theorem vals_length {ls : List (List Nat)} (h : ∀ l ∈ ls, okw l) (hn : ls.length < 4294967296) : (dg (vals ls)).length ≤ words ls + 1 := by
  apply dg_length_le
  have h1 := vals_lt h
  rw [pow_succ32]
  have h2 : ls.length * 4294967296 ^ words ls + 4294967296 ^ words ls ≤ 4294967296 * 4294967296 ^ words ls := by
    rw [← Nat.succ_mul]; exact Nat.mul_le_mul_right _ hn
  generalize 4294967296 ^ words ls = p at *
  generalize ls.length * p = x at *
  omega

/-- Which of two is the greater one, as Go tells it. -/
def cmpI (x y : Nat) : Int := if x < y then -1 else if y < x then 1 else 0
theorem cmpI_lt {x y : Nat} (h : x < y) : cmpI x y = -1 := by simp [cmpI, h]
theorem cmpI_gt {x y : Nat} (h : y < x) : cmpI x y = 1 := by unfold cmpI; rw [if_neg (by omega), if_pos h]
theorem cmpI_eq {x y : Nat} (h : x = y) : cmpI x y = 0 := by subst h; simp [cmpI]
theorem cmpI_range (x y : Nat) : -1 ≤ cmpI x y ∧ cmpI x y ≤ 1 := by unfold cmpI; split <;> (try split) <;> omega
end Go.Proofs.Ytdhfnlpolelcpaa
