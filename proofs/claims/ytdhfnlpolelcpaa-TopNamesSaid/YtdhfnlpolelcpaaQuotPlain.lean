/-
  Plain mathematics: quotients of numbers that are lists of words, by a guess from their highest words, and bit by bit. Nothing of the program.
-/
import Derived.Test.YtdhfnlpolelcpaaProdPlain
namespace Go.Proofs.Ytdhfnlpolelcpaa

/-- Nothing stands from place t on. -/
def Flat (P : List Nat) (t : Nat) : Prop := ∀ k, t ≤ k → atw P k = 0
theorem val_noughts : ∀ {l : List Nat}, (∀ k, atw l k = 0) → val l = 0
  | [], _ => rfl
  | x :: l, h => by
    have h0 : x = 0 := h 0
    have h1 := val_noughts (l := l) (fun k => h (k + 1))
    rw [val, h0, h1]
theorem top_flat {P : List Nat} {t : Nat} (h : Flat P t) : top P t = 0 := val_noughts (fun k => by rw [atw_drop]; exact h _ (by omega))
theorem flat_lt {P : List Nat} {t : Nat} (ho : okw P) (h : Flat P t) : val P < 4294967296 ^ t := by
  have h1 := low_lt ho t
  have h2 := val_split P t
  rw [top_flat h, Nat.mul_zero] at h2
  omega
theorem top_zero_of_lt {P : List Nat} {t : Nat} (h : val P < 4294967296 ^ t) : top P t = 0 := by
  have h2 := val_split P t
  rcases Nat.eq_zero_or_pos (top P t) with h3 | h3
  · exact h3
  · have h4 : 4294967296 ^ t * 1 ≤ 4294967296 ^ t * top P t := Nat.mul_le_mul_left _ h3
    omega
theorem flat_of_lt {P : List Nat} {t : Nat} (h : val P < 4294967296 ^ t) : Flat P t := fun k hk => by
  have h1 := top_zero_of_lt (P := P) (t := k) (Nat.lt_of_lt_of_le h (Nat.pow_le_pow_right (by decide) hk))
  rw [top_succ] at h1
  omega
theorem flat_set {P : List Nat} {t k y : Nat} (h : Flat P t) (hk : k < t) : Flat (P.set k y) t := fun j hj => by
  rw [atw_set_ne (by omega)]; exact h j hj
theorem flat_mono {P : List Nat} {t s : Nat} (h : Flat P t) (hs : t ≤ s) : Flat P s := fun j hj => h j (by omega)

/-- q times D taken away from P0 at place i, j words of it done: c is carried, b borrowed. -/
def TakeAt (P0 D P : List Nat) (i q j c b : Nat) : Prop := val P + 4294967296 ^ i * (q * low D j) = val P0 + 4294967296 ^ (i + j) * (c + b)
theorem take_start (P0 D : List Nat) (i q : Nat) : TakeAt P0 D P0 i q 0 0 0 := by unfold TakeAt; rw [low_zero]; simp
theorem take_word {x y k lo b r b' u v : Nat} (h1 : x + 4294967296 ^ k * u = y + 4294967296 ^ k * r) (hs : u + 4294967296 * b' = lo + b + r) (hv : v = lo + b) :
    x + 4294967296 ^ k * v = y + 4294967296 ^ (k + 1) * b' := by
  subst hv
  have h3 : 4294967296 ^ k * u + 4294967296 ^ k * (4294967296 * b') = 4294967296 ^ k * (lo + b) + 4294967296 ^ k * r := by rw [← Nat.mul_add, hs, Nat.mul_add]
  have h4 : 4294967296 ^ (k + 1) * b' = 4294967296 ^ k * (4294967296 * b') := by rw [Nat.pow_succ, Nat.mul_assoc]
  rw [h4]
  generalize 4294967296 ^ k * u = a1 at *
  generalize 4294967296 ^ k * r = a2 at *
  generalize 4294967296 ^ k * (4294967296 * b') = a3 at *
  generalize 4294967296 ^ k * (lo + b) = a4 at *
  omega
theorem take_step {P0 D P : List Nat} {i q j c b lo hi r b' : Nat} (h : TakeAt P0 D P i q j c b) (hP : i + j < P.length) (hm : lo + 4294967296 * hi = atw D j * q + c) (hs : atw P (i + j) + 4294967296 * b' = lo + b + r) :
    TakeAt P0 D (P.set (i + j) r) i q (j + 1) hi b' := by
  unfold TakeAt at *
  have h1 := take_word (val_set P (i + j) r hP) hs rfl
  have h5 : 4294967296 ^ i * (q * low D (j + 1)) = 4294967296 ^ i * (q * low D j) + 4294967296 ^ (i + j) * (atw D j * q) := by
    rw [low_succ, Nat.mul_add, Nat.mul_add, Nat.pow_add, Nat.mul_left_comm q, Nat.mul_comm q (atw D j), ← Nat.mul_assoc (4294967296 ^ i) (4294967296 ^ j)]
  have h6 : 4294967296 ^ (i + j) * lo + 4294967296 ^ (i + j) * (4294967296 * hi) = 4294967296 ^ (i + j) * (atw D j * q) + 4294967296 ^ (i + j) * c := by rw [← Nat.mul_add, hm, Nat.mul_add]
  have h7 : 4294967296 ^ (i + (j + 1)) * (hi + b') = 4294967296 ^ (i + j) * (4294967296 * hi) + 4294967296 ^ (i + j + 1) * b' := by
    rw [← Nat.add_assoc, Nat.mul_add, Nat.pow_succ, Nat.mul_assoc]
  have h8 : 4294967296 ^ (i + j) * (lo + b) = 4294967296 ^ (i + j) * lo + 4294967296 ^ (i + j) * b := Nat.mul_add ..
  have h9 : 4294967296 ^ (i + j) * (c + b) = 4294967296 ^ (i + j) * c + 4294967296 ^ (i + j) * b := Nat.mul_add ..
  rw [h5, h7]
  rw [h8] at h1
  rw [h9] at h
  generalize val (P.set (i + j) r) = a1 at *
  generalize 4294967296 ^ (i + j) * lo = a2 at *
  generalize 4294967296 ^ (i + j) * (4294967296 * hi) = a3 at *
  generalize 4294967296 ^ (i + j) * (atw D j * q) = a4 at *
  generalize 4294967296 ^ (i + j) * b = a5 at *
  generalize 4294967296 ^ (i + j) * c = a6 at *
  generalize 4294967296 ^ (i + j + 1) * b' = a7 at *
  generalize 4294967296 ^ i * (q * low D j) = a8 at *
  omega
theorem take_end {P0 D P : List Nat} {i q m c b r b' : Nat} (h : TakeAt P0 D P i q m c b) (hD : D.length = m) (hP : i + m < P.length) (hs : atw P (i + m) + 4294967296 * b' = c + b + r) :
    val (P.set (i + m) r) + 4294967296 ^ i * (q * val D) = val P0 + 4294967296 ^ (i + m + 1) * b' := by
  unfold TakeAt at h
  rw [low_ge (by omega)] at h
  have h1 := take_word (val_set P (i + m) r hP) hs rfl
  generalize val (P.set (i + m) r) = a1 at *
  generalize 4294967296 ^ (i + m) * (c + b) = a2 at *
  omega

/-- D added to P0 at place i, j words of it done: c is carried. -/
def GiveAt (P0 D P : List Nat) (i j c : Nat) : Prop := val P + 4294967296 ^ (i + j) * c = val P0 + 4294967296 ^ i * low D j
theorem give_start (P0 D : List Nat) (i : Nat) : GiveAt P0 D P0 i 0 0 := by unfold GiveAt; rw [low_zero]; simp
theorem give_word {x y k r z c u d : Nat} (h1 : x + 4294967296 ^ k * u = y + 4294967296 ^ k * r) (hs : r + 4294967296 * z = c + (u + d)) :
    x + 4294967296 ^ (k + 1) * z = y + (4294967296 ^ k * c + 4294967296 ^ k * d) := by
  have h3 : 4294967296 ^ k * r + 4294967296 ^ k * (4294967296 * z) = 4294967296 ^ k * c + (4294967296 ^ k * u + 4294967296 ^ k * d) := by rw [← Nat.mul_add, hs, Nat.mul_add, Nat.mul_add]
  have h4 : 4294967296 ^ (k + 1) * z = 4294967296 ^ k * (4294967296 * z) := by rw [Nat.pow_succ, Nat.mul_assoc]
  rw [h4]
  generalize 4294967296 ^ k * u = a1 at *
  generalize 4294967296 ^ k * r = a2 at *
  generalize 4294967296 ^ k * (4294967296 * z) = a3 at *
  generalize 4294967296 ^ k * c = a4 at *
  generalize 4294967296 ^ k * d = a5 at *
  omega
theorem give_step {P0 D P : List Nat} {i j c r z : Nat} (h : GiveAt P0 D P i j c) (hP : i + j < P.length) (hs : r + 4294967296 * z = c + (atw P (i + j) + atw D j)) : GiveAt P0 D (P.set (i + j) r) i (j + 1) z := by
  unfold GiveAt at *
  have h1 := give_word (val_set P (i + j) r hP) hs
  have h5 : 4294967296 ^ i * low D (j + 1) = 4294967296 ^ i * low D j + 4294967296 ^ (i + j) * atw D j := by rw [low_succ, Nat.mul_add, Nat.pow_add, Nat.mul_assoc]
  rw [h5, ← Nat.add_assoc i j 1]
  generalize val (P.set (i + j) r) = a1 at *
  generalize 4294967296 ^ (i + j + 1) * z = a2 at *
  generalize 4294967296 ^ (i + j) * c = a3 at *
  generalize 4294967296 ^ (i + j) * atw D j = a4 at *
  generalize 4294967296 ^ i * low D j = a5 at *
  omega
theorem give_end {P0 D P : List Nat} {i m c r z : Nat} (h : GiveAt P0 D P i m c) (hD : D.length = m) (hP : i + m < P.length) (hs : r + 4294967296 * z = c + (atw P (i + m) + 0)) :
    val (P.set (i + m) r) + 4294967296 ^ (i + m + 1) * z = val P0 + 4294967296 ^ i * val D := by
  unfold GiveAt at h
  rw [low_ge (by omega)] at h
  have h1 := give_word (val_set P (i + m) r hP) hs
  rw [Nat.mul_zero, Nat.add_zero] at h1
  generalize val (P.set (i + m) r) = a1 at *
  generalize 4294967296 ^ (i + m + 1) * z = a2 at *
  generalize 4294967296 ^ (i + m) * c = a3 at *
  omega

/-- The guess at a word of a quotient, from the two highest words of what is divided, and of the divisor. -/
def guessOf (u1 u0 v1 v0 : Nat) : Nat :=
  if v1 ≤ u1 then 4294967295
  else if (u1 * 4294967296 + u0) % v1 < (u1 * 4294967296 + u0) / v1 * v0 / 4294967296 then (u1 * 4294967296 + u0) / v1 - 1
  else (u1 * 4294967296 + u0) / v1
theorem guess_num {u1 u0 v1 v0 p dl wl D W : Nat} (hv1 : 2147483648 ≤ v1) (hv0 : v0 < 4294967296) (hu0 : u0 < 4294967296) (hvw : v1 < 4294967296) (hdl : dl < p) (hwl : wl < 4294967296 * p) (hD : D = v1 * (4294967296 * p) + (v0 * p + dl)) (hW : W = (u1 * 4294967296 + u0) * (4294967296 * p) + wl) (hlt : W < 4294967296 * D) :
    W < (guessOf u1 u0 v1 v0 + 1) * D ∧ guessOf u1 u0 v1 v0 * D ≤ W + D ∧ guessOf u1 u0 v1 v0 < 4294967296 := by
  obtain ⟨X, hX⟩ : ∃ X, X = 4294967296 * p := ⟨_, rfl⟩
  rw [← hX] at hwl hD hW
  have a1 : v0 * p + p ≤ X := by
    have h := Nat.mul_le_mul_right p (show v0 + 1 ≤ 4294967296 by omega)
    rw [Nat.add_mul, Nat.one_mul] at h
    omega
  have a2 : 2147483648 * X ≤ v1 * X := Nat.mul_le_mul_right _ hv1
  unfold guessOf
  split
  · rename_i hle
    have a3 : v1 * X ≤ u1 * X := Nat.mul_le_mul_right _ hle
    have a4 : (u1 * 4294967296 + u0) * X = 4294967296 * (u1 * X) + u0 * X := by rw [Nat.add_mul, Nat.mul_comm u1, Nat.mul_assoc]
    generalize u0 * X = t0 at *
    generalize u1 * X = t1 at *
    generalize v1 * X = t2 at *
    generalize v0 * p = t3 at *
    refine ⟨by omega, by omega, by omega⟩
  · rename_i hle
    obtain ⟨U, hU⟩ : ∃ U, U = u1 * 4294967296 + u0 := ⟨_, rfl⟩
    rw [← hU] at hW ⊢
    have hUv : U < v1 * 4294967296 := by omega
    have hq : U / v1 < 4294967296 := Nat.div_lt_of_lt_mul hUv
    have hr : U % v1 < v1 := Nat.mod_lt _ (by omega)
    have hdm := Nat.div_add_mod U v1
    generalize U / v1 = q at *
    generalize U % v1 = r at *
    have e1 : q * D = q * v1 * X + q * (v0 * p + dl) := by rw [hD, Nat.mul_add, Nat.mul_assoc]
    have e2 : U * X = q * v1 * X + r * X := by rw [← hdm, Nat.add_mul, Nat.mul_comm v1 q]
    have e3 : q * X ≤ 4294967295 * X := Nat.mul_le_mul_right _ (by omega)
    have e4 : r * X + X ≤ v1 * X := by have := Nat.mul_le_mul_right X (show r + 1 ≤ v1 by omega); rwa [Nat.add_mul, Nat.one_mul] at this
    have e5 : q * (v0 * p + dl) ≤ q * X := Nat.mul_le_mul_left _ (by omega)
    have e6 : (q + 1) * D = q * D + D := by rw [Nat.add_mul, Nat.one_mul]
    split
    · rename_i hgt
      have hq1 : 1 ≤ q := by
        rcases Nat.eq_zero_or_pos q with h0 | h0
        · subst h0; simp at hgt
        · exact h0
      have f1 : (r + 1) * 4294967296 ≤ q * v0 := by
        have h1 : r + 1 ≤ q * v0 / 4294967296 := hgt
        have h2 := Nat.div_mul_le_self (q * v0) 4294967296
        have h3 := Nat.mul_le_mul_right 4294967296 h1
        exact Nat.le_trans h3 h2
      have f2 : (r + 1) * X ≤ q * (v0 * p + dl) := by
        have h1 := Nat.mul_le_mul_right p f1
        have h2 : q * v0 * p ≤ q * (v0 * p + dl) := by rw [Nat.mul_assoc]; exact Nat.mul_le_mul_left _ (by omega)
        rw [hX, ← Nat.mul_assoc]
        omega
      rw [Nat.add_mul, Nat.one_mul] at f2
      have f3 : (q - 1 + 1) * D = q * D := by rw [Nat.sub_add_cancel hq1]
      have f4 : (q - 1) * D + D = q * D := by rw [← f3, Nat.add_mul, Nat.one_mul]
      rw [f3]
      generalize (q - 1) * D = y0 at *
      generalize q * D = y1 at *
      generalize q * v1 * X = y2 at *
      generalize q * (v0 * p + dl) = y3 at *
      generalize U * X = y4 at *
      generalize r * X = y5 at *
      generalize q * X = y6 at *
      generalize v1 * X = y7 at *
      generalize v0 * p = y8 at *
      refine ⟨by omega, by omega, by omega⟩
    · rename_i hgt
      have f1 : q * v0 < (r + 1) * 4294967296 := by
        have h1 : q * v0 / 4294967296 < r + 1 := by omega
        exact (Nat.div_lt_iff_lt_mul (by decide)).1 h1
      have f2 : q * (v0 * p + dl) ≤ (r + 2) * X := by
        have h1 : q * (v0 * p + dl) ≤ q * (v0 * p + p) := Nat.mul_le_mul_left _ (by omega)
        have h2 : q * (v0 * p + p) = (q * v0 + q) * p := by rw [Nat.mul_add, Nat.add_mul, Nat.mul_assoc]
        have h3 : (q * v0 + q) * p ≤ ((r + 2) * 4294967296) * p := Nat.mul_le_mul_right _ (by omega)
        rw [hX, ← Nat.mul_assoc]
        omega
      rw [Nat.add_mul] at f2
      generalize (q + 1) * D = y0 at *
      generalize q * D = y1 at *
      generalize q * v1 * X = y2 at *
      generalize q * (v0 * p + dl) = y3 at *
      generalize U * X = y4 at *
      generalize r * X = y5 at *
      generalize q * X = y6 at *
      generalize v1 * X = y7 at *
      generalize v0 * p = y8 at *
      refine ⟨by omega, by omega, by omega⟩
/-- The guess, from lists: what stands in P from place i on, by D. -/
theorem guess_list {P D : List Nat} {i m : Nat} (hP : okw P) (hD : okw D) (hm : D.length = m + 2) (hF : Flat P (i + m + 3)) (hv : 2147483648 ≤ atw D (m + 1)) (hlt : val P < 4294967296 ^ (i + 1) * val D) :
    top P i < (guessOf (atw P (i + m + 2)) (atw P (i + m + 1)) (atw D (m + 1)) (atw D m) + 1) * val D ∧ guessOf (atw P (i + m + 2)) (atw P (i + m + 1)) (atw D (m + 1)) (atw D m) * val D ≤ top P i + val D ∧ guessOf (atw P (i + m + 2)) (atw P (i + m + 1)) (atw D (m + 1)) (atw D m) < 4294967296 := by
  refine guess_num (p := 4294967296 ^ m) (dl := low D m) (wl := low (P.drop i) (m + 1)) hv (atw_lt hD m) (atw_lt hP _) (atw_lt hD _) (low_lt hD m) (by rw [← pow_succ32]; exact low_lt (okw_drop hP i) _) ?_ ?_ ?_
  · have h1 := val_split D m
    rw [top_succ, top_succ, top_ge (l := D) (i := m + 1 + 1) (by omega)] at h1
    rw [h1, ← pow_succ32, Nat.pow_succ]
    generalize 4294967296 ^ m = X
    rw [Nat.mul_add, Nat.mul_zero, Nat.add_zero, Nat.mul_comm X (atw D m), ← Nat.mul_assoc X, Nat.mul_comm (X * 4294967296)]
    omega
  · have h1 := val_split (P.drop i) (m + 1)
    have h2 : top (P.drop i) (m + 3) = 0 := by
      have : top (P.drop i) (m + 3) = top P (i + m + 3) := by unfold top; rw [List.drop_drop, Nat.add_assoc]
      rw [this, top_flat hF]
    rw [top_succ, top_succ, h2, atw_drop, atw_drop] at h1
    show val (P.drop i) = _
    rw [h1, ← pow_succ32, ← Nat.add_assoc, show i + (m + 1 + 1) = i + m + 2 by omega]
    generalize 4294967296 ^ (m + 1) = X
    rw [Nat.mul_comm X]
    have e : atw P (i + m + 1) + 4294967296 * (atw P (i + m + 2) + 4294967296 * 0) = atw P (i + m + 2) * 4294967296 + atw P (i + m + 1) := by omega
    rw [e]
    omega
  · have h1 := val_split P i
    rcases Nat.lt_or_ge (top P i) (4294967296 * val D) with h2 | h2
    · exact h2
    · have h3 := Nat.mul_le_mul_left (4294967296 ^ i) h2
      rw [← Nat.mul_assoc, Nat.mul_comm _ 4294967296, ← pow_succ32] at h3
      generalize 4294967296 ^ (i + 1) * val D = y1 at *
      generalize 4294967296 ^ i * top P i = y2 at *
      omega

/-- One word of the quotient was taken away: what P held, P' and q times D at place i hold; P' is below D at place i. -/
def Taken (P D P' : List Nat) (i q : Nat) : Prop := val P' + 4294967296 ^ i * (q * val D) = val P ∧ val P' < 4294967296 ^ i * val D
theorem low_top_lt {P : List Nat} (hP : okw P) {i x : Nat} (h : top P i < x) : val P < 4294967296 ^ i * x := by
  have h1 := val_split P i
  have h2 := low_lt hP i
  have h3 := Nat.mul_le_mul_left (4294967296 ^ i) (show top P i + 1 ≤ x from h)
  rw [Nat.mul_add, Nat.mul_one] at h3
  generalize 4294967296 ^ i * top P i = y1 at *
  generalize 4294967296 ^ i * x = y2 at *
  generalize 4294967296 ^ i = y3 at *
  omega
theorem taken_yes {P D P1 : List Nat} {i m g : Nat} (hP : okw P) (hlow : top P i < (g + 1) * val D) (h1 : val P1 + 4294967296 ^ i * (g * val D) = val P + 4294967296 ^ (i + m + 1) * 0) : Taken P D P1 i g := by
  rw [Nat.mul_zero, Nat.add_zero] at h1
  have h2 := low_top_lt hP hlow
  rw [Nat.add_mul, Nat.one_mul, Nat.mul_add] at h2
  unfold Taken
  generalize 4294967296 ^ i * (g * val D) = y1 at *
  generalize 4294967296 ^ i * val D = y2 at *
  exact ⟨h1, by omega⟩
theorem taken_back {P D P1 P2 : List Nat} {i m g c : Nat} (hP : okw P) (hP1 : val P1 < 4294967296 ^ (i + m + 1)) (hP2 : val P2 < 4294967296 ^ (i + m + 1)) (hhigh : g * val D ≤ top P i + val D) (hc : c ≤ 1)
    (h1 : val P1 + 4294967296 ^ i * (g * val D) = val P + 4294967296 ^ (i + m + 1) * 1) (h2 : val P2 + 4294967296 ^ (i + m + 1) * c = val P1 + 4294967296 ^ i * val D) : 1 ≤ g ∧ Taken P D P2 i (g - 1) := by
  have h3 := val_split P i
  have hgt : top P i < g * val D := by
    rcases Nat.lt_or_ge (top P i) (g * val D) with h | h
    · exact h
    · have h4 := Nat.mul_le_mul_left (4294967296 ^ i) h
      omega
  have hg : 1 ≤ g := by
    rcases Nat.eq_zero_or_pos g with h | h
    · subst h; simp at hgt
    · exact h
  have e1 : (g - 1) * val D + val D = g * val D := by
    have : (g - 1 + 1) * val D = g * val D := by rw [Nat.sub_add_cancel hg]
    rwa [Nat.add_mul, Nat.one_mul] at this
  have e2 : 4294967296 ^ i * ((g - 1) * val D) + 4294967296 ^ i * val D = 4294967296 ^ i * (g * val D) := by rw [← Nat.mul_add, e1]
  have e3 : 4294967296 ^ i * ((g - 1) * val D) ≤ 4294967296 ^ i * top P i := Nat.mul_le_mul_left _ (by omega)
  have e4 := low_top_lt hP hgt
  have hc1 : c = 1 := by
    rcases Nat.eq_zero_or_pos c with h | h
    · subst h
      generalize 4294967296 ^ (i + m + 1) = E at *
      generalize 4294967296 ^ i * ((g - 1) * val D) = y1 at *
      generalize 4294967296 ^ i * (g * val D) = y2 at *
      generalize 4294967296 ^ i * val D = y3 at *
      generalize 4294967296 ^ i * top P i = y4 at *
      omega
    · omega
  subst hc1
  refine ⟨hg, ?_, ?_⟩
  · generalize 4294967296 ^ (i + m + 1) = E at *
    generalize 4294967296 ^ i * ((g - 1) * val D) = y1 at *
    generalize 4294967296 ^ i * (g * val D) = y2 at *
    generalize 4294967296 ^ i * val D = y3 at *
    generalize 4294967296 ^ i * top P i = y4 at *
    omega
  · generalize 4294967296 ^ (i + m + 1) = E at *
    generalize 4294967296 ^ i * ((g - 1) * val D) = y1 at *
    generalize 4294967296 ^ i * (g * val D) = y2 at *
    generalize 4294967296 ^ i * val D = y3 at *
    generalize 4294967296 ^ i * top P i = y4 at *
    omega

/-- A long division: A is what was divided, by D; Q holds the words of the quotient from place k on, P what is left. -/
def LongAt (A : Nat) (D Q P : List Nat) (k : Nat) : Prop := val P + val Q * val D = A ∧ val P < 4294967296 ^ k * val D ∧ ∀ j, j < k → atw Q j = 0
theorem long_step {A : Nat} {D Q P P' : List Nat} {i q : Nat} (h : LongAt A D Q P (i + 1)) (hQ : i < Q.length) (ht : Taken P D P' i q) : LongAt A D (Q.set i q) P' i := by
  refine ⟨?_, ht.2, fun j hj => by rw [atw_set_ne (by omega)]; exact h.2.2 j (by omega)⟩
  have h1 := val_set Q i q hQ
  rw [h.2.2 i (by omega), Nat.mul_zero, Nat.add_zero] at h1
  have h2 := h.1
  have h3 := ht.1
  have e : 4294967296 ^ i * q * val D = 4294967296 ^ i * (q * val D) := Nat.mul_assoc ..
  rw [h1, Nat.add_mul, e]
  omega
theorem long_end {A : Nat} {D Q P : List Nat} (h : LongAt A D Q P 0) : val Q = A / val D ∧ val P = A % val D := by
  have h1 := h.1
  have h2 := h.2.1
  rw [Nat.pow_zero, Nat.one_mul] at h2
  have h3 : A = val P + val D * val Q := by rw [Nat.mul_comm]; exact h1.symm
  rw [h3, Nat.add_mul_div_left _ _ (by omega), Nat.div_eq_of_lt h2, Nat.add_mul_mod_self_left, Nat.mod_eq_of_lt h2]
  omega
/-- A divisor shifted up so that its highest bit is set. -/
theorem norm_top {b m s : Nat} (hm : (dg b).length = m + 1) (hs : s = 32 - blen (atw (dg b) m)) : s < 32 ∧ (dg (b * 2 ^ s)).length = m + 1 ∧ 2147483648 ≤ atw (dg (b * 2 ^ s)) m := by
  have hr : atw (dg b) m ≠ 0 := by
    have := atw_dg (l := dg b) (okw_dg b)
    rw [val_dg, hm] at this
    simpa using this
  have ht : top (dg b) (m + 1) = 0 := top_ge (by omega)
  have h1 := blen_top (okw_dg b) ht hr
  rw [val_dg] at h1
  have h2 : blen (atw (dg b) m) ≤ 32 := blen_le.2 (atw_lt (okw_dg b) m)
  have h3 := blen_pos hr
  have hb : b ≠ 0 := by
    intro e; subst e; rw [dg_zero] at hm; simp at hm
  have h4 := blen_mul (n := s) hb
  have h5 : blen (b * 2 ^ s) = 32 * (m + 1) := by omega
  have h6 : (dg (b * 2 ^ s)).length = m + 1 := by rw [dg_len_blen, h5]; omega
  refine ⟨by omega, h6, ?_⟩
  have hr2 : atw (dg (b * 2 ^ s)) m ≠ 0 := by
    have := atw_dg (l := dg (b * 2 ^ s)) (okw_dg _)
    rw [val_dg, h6] at this
    simpa using this
  have h7 := blen_top (okw_dg (b * 2 ^ s)) (top_ge (l := dg (b * 2 ^ s)) (i := m + 1) (by omega)) hr2
  rw [val_dg, h5] at h7
  have h8 := blen_ge hr2
  rw [show blen (atw (dg (b * 2 ^ s)) m) - 1 = 31 by omega] at h8
  exact h8
/-- What the long division starts with. -/
theorem long_start {A n m : Nat} {D : List Nat} (hA : (dg A).length + 1 = n + (m + 1)) (hD : D.length = m + 1) (hv : 2147483648 ≤ atw D m) : LongAt A D (List.replicate n 0) (dg A ++ [0]) n := by
  refine ⟨?_, ?_, fun j _ => atw_zeros n j⟩
  · rw [val_zeros, Nat.zero_mul, val_snoc, val_dg]; omega
  · have h1 : val (dg A ++ [0]) = A := by rw [val_snoc, val_dg]; omega
    rw [h1]
    have h2 := lt_dg_length A
    rw [show (dg A).length = n + m by omega, Nat.pow_add] at h2
    have h3 := val_split D m
    rw [top_succ, top_ge (l := D) (i := m + 1) (by omega)] at h3
    have h4 : 4294967296 ^ m * 1 ≤ 4294967296 ^ m * (atw D m + 4294967296 * 0) := Nat.mul_le_mul_left _ (by omega)
    have h5 := Nat.mul_le_mul_left (4294967296 ^ n) (show 4294967296 ^ m ≤ val D by omega)
    omega
/-- Both shifted alike: the quotient stays, the rest is shifted. -/
theorem shifted_div (a b s : Nat) : a * 2 ^ s / (b * 2 ^ s) = a / b ∧ a * 2 ^ s % (b * 2 ^ s) / 2 ^ s = a % b := by
  have hp := Nat.two_pow_pos s
  exact ⟨Nat.mul_div_mul_right _ _ hp, by rw [Nat.mul_mod_mul_right, Nat.mul_div_cancel _ hp]⟩

/-- By a word, from the top: what is done of the quotient stands in Q from place k on; r is left of it. -/
def WordAt (x : Nat) (L Q : List Nat) (k r : Nat) : Prop := top L k = top Q k * x + r ∧ r < x ∧ (∀ j, j < k → atw Q j = atw L j) ∧ Q.length = L.length
theorem top_set {Q : List Nat} {i y : Nat} : top (Q.set i y) (i + 1) = top Q (i + 1) := by
  unfold top; rw [List.drop_set_of_lt (by omega)]
theorem word_down {x i r : Nat} {L Q : List Nat} (h : WordAt x L Q (i + 1) r) (hx : 0 < x) (hi : i < Q.length) : WordAt x L (Q.set i ((r * 4294967296 + atw L i) / x)) i ((r * 4294967296 + atw L i) % x) := by
  obtain ⟨h1, h2, h3, h4⟩ := h
  refine ⟨?_, Nat.mod_lt _ hx, fun j hj => by rw [atw_set_ne (by omega)]; exact h3 j (by omega), by rw [List.length_set]; exact h4⟩
  have e : atw (Q.set i ((r * 4294967296 + atw L i) / x)) i = (r * 4294967296 + atw L i) / x := by
    unfold atw; rw [List.getD_eq_getElem?_getD, List.getElem?_set_self hi]; rfl
  have hd := Nat.div_add_mod (r * 4294967296 + atw L i) x
  rw [top_succ L, top_succ (Q.set i _), e, top_set, h1, Nat.add_mul, Nat.mul_comm ((r * 4294967296 + atw L i) / x) x, Nat.mul_assoc 4294967296]
  generalize x * ((r * 4294967296 + atw L i) / x) = y1 at *
  generalize top Q (i + 1) * x = y2 at *
  omega
theorem word_end {A x r : Nat} {L Q : List Nat} (h : WordAt x L Q 0 r) (hA : val L = A) : val Q = A / x ∧ r = A % x := by
  obtain ⟨h1, h2, _, _⟩ := h
  rw [top_zero, top_zero, hA] at h1
  rw [h1, Nat.mul_comm, Nat.mul_add_div (by omega), Nat.mul_add_mod, Nat.div_eq_of_lt h2, Nat.mod_eq_of_lt h2]
  omega
end Go.Proofs.Ytdhfnlpolelcpaa
