/-
  Several texts of this claim as one, group 3.
-/
import Derived.Test.YtipcgehcineblaaG2
import Derived.Test.YtipcgehcineblaaG1
import Derived.Laws.OwnMore
import Derived.Test.YtipcgehcineblaaRows
import Derived.IntWalk
import Derived.Deep.QuietTactic
import Derived.BigQuiet
import Derived.Deep.AppendSrc
import Derived.Deep.DeepMust
import Derived.Lib.AppendIntMem
import Derived.Lib.LaidTab
import Derived.Lib.ItoaNum
import Derived.OwnWalk
import Derived.Laws.MakeOwn
import Derived.BigRegion
import Derived.Deep.RegionHeld3
/-
  Plain mathematics: quotients of numbers that are lists of words, by a guess from their highest words, and bit by bit. Nothing of the program.
-/
namespace Go.Proofs.Ytipcgehcineblaa

/-- Nothing stands from place t on. -/
def Flat (P : List Nat) (t : Nat) : Prop := ∀ k, t ≤ k → atw P k = 0
theorem val_noughts : ∀ {l : List Nat}, (∀ k, atw l k = 0) → val l = 0
  | [], _ => rfl
  | x :: l, h => by
    have h0 : x = 0 := h 0
    have h1 := val_noughts (l := l) (fun k => h (k + 1))
    rw [val, h0, h1]
theorem top_flat {P : List Nat} {t : Nat} (h : Flat P t) : top P t = 0 := val_noughts (fun k => by rw [atw_drop]; exact h _ (by omega))
theorem flat_lt {P : List Nat} {t : Nat} (ho : okw P) (h : Flat P t) : val P < 4294967296 ^ t := by
  have h1 := low_lt ho t
  have h2 := val_split P t
  rw [top_flat h, Nat.mul_zero] at h2
  omega
theorem top_zero_of_lt {P : List Nat} {t : Nat} (h : val P < 4294967296 ^ t) : top P t = 0 := by
  have h2 := val_split P t
  rcases Nat.eq_zero_or_pos (top P t) with h3 | h3
  · exact h3
  · have h4 : 4294967296 ^ t * 1 ≤ 4294967296 ^ t * top P t := Nat.mul_le_mul_left _ h3
    omega
theorem flat_of_lt {P : List Nat} {t : Nat} (h : val P < 4294967296 ^ t) : Flat P t := fun k hk => by
  have h1 := top_zero_of_lt (P := P) (t := k) (Nat.lt_of_lt_of_le h (Nat.pow_le_pow_right (by decide) hk))
  rw [top_succ] at h1
  omega
theorem flat_set {P : List Nat} {t k y : Nat} (h : Flat P t) (hk : k < t) : Flat (P.set k y) t := fun j hj => by
  rw [atw_set_ne (by omega)]; exact h j hj
/-- q times D taken away from P0 at place i, j words of it done: c is carried, b borrowed. -/
def TakeAt (P0 D P : List Nat) (i q j c b : Nat) : Prop := val P + 4294967296 ^ i * (q * low D j) = val P0 + 4294967296 ^ (i + j) * (c + b)
theorem take_start (P0 D : List Nat) (i q : Nat) : TakeAt P0 D P0 i q 0 0 0 := by unfold TakeAt; rw [low_zero]; simp
theorem take_word {x y k lo b r b' u v : Nat} (h1 : x + 4294967296 ^ k * u = y + 4294967296 ^ k * r) (hs : u + 4294967296 * b' = lo + b + r) (hv : v = lo + b) :
    x + 4294967296 ^ k * v = y + 4294967296 ^ (k + 1) * b' := by
  subst hv
  have h3 : 4294967296 ^ k * u + 4294967296 ^ k * (4294967296 * b') = 4294967296 ^ k * (lo + b) + 4294967296 ^ k * r := by rw [← Nat.mul_add, hs, Nat.mul_add]
  have h4 : 4294967296 ^ (k + 1) * b' = 4294967296 ^ k * (4294967296 * b') := by rw [Nat.pow_succ, Nat.mul_assoc]
  rw [h4]
  generalize 4294967296 ^ k * u = a1 at *
  generalize 4294967296 ^ k * r = a2 at *
  generalize 4294967296 ^ k * (4294967296 * b') = a3 at *
  generalize 4294967296 ^ k * (lo + b) = a4 at *
  omega
theorem take_step {P0 D P : List Nat} {i q j c b lo hi r b' : Nat} (h : TakeAt P0 D P i q j c b) (hP : i + j < P.length) (hm : lo + 4294967296 * hi = atw D j * q + c) (hs : atw P (i + j) + 4294967296 * b' = lo + b + r) :
    TakeAt P0 D (P.set (i + j) r) i q (j + 1) hi b' := by
  unfold TakeAt at *
  have h1 := take_word (val_set P (i + j) r hP) hs rfl
  have h5 : 4294967296 ^ i * (q * low D (j + 1)) = 4294967296 ^ i * (q * low D j) + 4294967296 ^ (i + j) * (atw D j * q) := by
    rw [low_succ, Nat.mul_add, Nat.mul_add, Nat.pow_add, Nat.mul_left_comm q, Nat.mul_comm q (atw D j), ← Nat.mul_assoc (4294967296 ^ i) (4294967296 ^ j)]
  have h6 : 4294967296 ^ (i + j) * lo + 4294967296 ^ (i + j) * (4294967296 * hi) = 4294967296 ^ (i + j) * (atw D j * q) + 4294967296 ^ (i + j) * c := by rw [← Nat.mul_add, hm, Nat.mul_add]
  have h7 : 4294967296 ^ (i + (j + 1)) * (hi + b') = 4294967296 ^ (i + j) * (4294967296 * hi) + 4294967296 ^ (i + j + 1) * b' := by
    rw [← Nat.add_assoc, Nat.mul_add, Nat.pow_succ, Nat.mul_assoc]
  have h8 : 4294967296 ^ (i + j) * (lo + b) = 4294967296 ^ (i + j) * lo + 4294967296 ^ (i + j) * b := Nat.mul_add ..
  have h9 : 4294967296 ^ (i + j) * (c + b) = 4294967296 ^ (i + j) * c + 4294967296 ^ (i + j) * b := Nat.mul_add ..
  rw [h5, h7]
  rw [h8] at h1
  rw [h9] at h
  generalize val (P.set (i + j) r) = a1 at *
  generalize 4294967296 ^ (i + j) * lo = a2 at *
  generalize 4294967296 ^ (i + j) * (4294967296 * hi) = a3 at *
  generalize 4294967296 ^ (i + j) * (atw D j * q) = a4 at *
  generalize 4294967296 ^ (i + j) * b = a5 at *
  generalize 4294967296 ^ (i + j) * c = a6 at *
  generalize 4294967296 ^ (i + j + 1) * b' = a7 at *
  generalize 4294967296 ^ i * (q * low D j) = a8 at *
  omega
theorem take_end {P0 D P : List Nat} {i q m c b r b' : Nat} (h : TakeAt P0 D P i q m c b) (hD : D.length = m) (hP : i + m < P.length) (hs : atw P (i + m) + 4294967296 * b' = c + b + r) :
    val (P.set (i + m) r) + 4294967296 ^ i * (q * val D) = val P0 + 4294967296 ^ (i + m + 1) * b' := by
  unfold TakeAt at h
  rw [low_ge (by omega)] at h
  have h1 := take_word (val_set P (i + m) r hP) hs rfl
  generalize val (P.set (i + m) r) = a1 at *
  generalize 4294967296 ^ (i + m) * (c + b) = a2 at *
  omega

/-- D added to P0 at place i, j words of it done: c is carried. -/
def GiveAt (P0 D P : List Nat) (i j c : Nat) : Prop := val P + 4294967296 ^ (i + j) * c = val P0 + 4294967296 ^ i * low D j
theorem give_start (P0 D : List Nat) (i : Nat) : GiveAt P0 D P0 i 0 0 := by unfold GiveAt; rw [low_zero]; simp
theorem give_word {x y k r z c u d : Nat} (h1 : x + 4294967296 ^ k * u = y + 4294967296 ^ k * r) (hs : r + 4294967296 * z = c + (u + d)) :
    x + 4294967296 ^ (k + 1) * z = y + (4294967296 ^ k * c + 4294967296 ^ k * d) := by
  have h3 : 4294967296 ^ k * r + 4294967296 ^ k * (4294967296 * z) = 4294967296 ^ k * c + (4294967296 ^ k * u + 4294967296 ^ k * d) := by rw [← Nat.mul_add, hs, Nat.mul_add, Nat.mul_add]
  have h4 : 4294967296 ^ (k + 1) * z = 4294967296 ^ k * (4294967296 * z) := by rw [Nat.pow_succ, Nat.mul_assoc]
  rw [h4]
  generalize 4294967296 ^ k * u = a1 at *
  generalize 4294967296 ^ k * r = a2 at *
  generalize 4294967296 ^ k * (4294967296 * z) = a3 at *
  generalize 4294967296 ^ k * c = a4 at *
  generalize 4294967296 ^ k * d = a5 at *
  omega
theorem give_step {P0 D P : List Nat} {i j c r z : Nat} (h : GiveAt P0 D P i j c) (hP : i + j < P.length) (hs : r + 4294967296 * z = c + (atw P (i + j) + atw D j)) : GiveAt P0 D (P.set (i + j) r) i (j + 1) z := by
  unfold GiveAt at *
  have h1 := give_word (val_set P (i + j) r hP) hs
  have h5 : 4294967296 ^ i * low D (j + 1) = 4294967296 ^ i * low D j + 4294967296 ^ (i + j) * atw D j := by rw [low_succ, Nat.mul_add, Nat.pow_add, Nat.mul_assoc]
  rw [h5, ← Nat.add_assoc i j 1]
  generalize val (P.set (i + j) r) = a1 at *
  generalize 4294967296 ^ (i + j + 1) * z = a2 at *
  generalize 4294967296 ^ (i + j) * c = a3 at *
  generalize 4294967296 ^ (i + j) * atw D j = a4 at *
  generalize 4294967296 ^ i * low D j = a5 at *
  omega
theorem give_end {P0 D P : List Nat} {i m c r z : Nat} (h : GiveAt P0 D P i m c) (hD : D.length = m) (hP : i + m < P.length) (hs : r + 4294967296 * z = c + (atw P (i + m) + 0)) :
    val (P.set (i + m) r) + 4294967296 ^ (i + m + 1) * z = val P0 + 4294967296 ^ i * val D := by
  unfold GiveAt at h
  rw [low_ge (by omega)] at h
  have h1 := give_word (val_set P (i + m) r hP) hs
  rw [Nat.mul_zero, Nat.add_zero] at h1
  generalize val (P.set (i + m) r) = a1 at *
  generalize 4294967296 ^ (i + m + 1) * z = a2 at *
  generalize 4294967296 ^ (i + m) * c = a3 at *
  omega

/-- The guess at a word of a quotient, from the two highest words of what is divided, and of the divisor. -/
def guessOf (u1 u0 v1 v0 : Nat) : Nat :=
  if v1 ≤ u1 then 4294967295
  else if (u1 * 4294967296 + u0) % v1 < (u1 * 4294967296 + u0) / v1 * v0 / 4294967296 then (u1 * 4294967296 + u0) / v1 - 1
  else (u1 * 4294967296 + u0) / v1
theorem guess_num {u1 u0 v1 v0 p dl wl D W : Nat} (hv1 : 2147483648 ≤ v1) (hv0 : v0 < 4294967296) (hu0 : u0 < 4294967296) (hvw : v1 < 4294967296) (hdl : dl < p) (hwl : wl < 4294967296 * p) (hD : D = v1 * (4294967296 * p) + (v0 * p + dl)) (hW : W = (u1 * 4294967296 + u0) * (4294967296 * p) + wl) (hlt : W < 4294967296 * D) :
    W < (guessOf u1 u0 v1 v0 + 1) * D ∧ guessOf u1 u0 v1 v0 * D ≤ W + D ∧ guessOf u1 u0 v1 v0 < 4294967296 := by
  obtain ⟨X, hX⟩ : ∃ X, X = 4294967296 * p := ⟨_, rfl⟩
  rw [← hX] at hwl hD hW
  have a1 : v0 * p + p ≤ X := by
    have h := Nat.mul_le_mul_right p (show v0 + 1 ≤ 4294967296 by omega)
    rw [Nat.add_mul, Nat.one_mul] at h
    omega
  have a2 : 2147483648 * X ≤ v1 * X := Nat.mul_le_mul_right _ hv1
  unfold guessOf
  split
  · rename_i hle
    have a3 : v1 * X ≤ u1 * X := Nat.mul_le_mul_right _ hle
    have a4 : (u1 * 4294967296 + u0) * X = 4294967296 * (u1 * X) + u0 * X := by rw [Nat.add_mul, Nat.mul_comm u1, Nat.mul_assoc]
    generalize u0 * X = t0 at *
    generalize u1 * X = t1 at *
    generalize v1 * X = t2 at *
    generalize v0 * p = t3 at *
    refine ⟨by omega, by omega, by omega⟩
  · rename_i hle
    obtain ⟨U, hU⟩ : ∃ U, U = u1 * 4294967296 + u0 := ⟨_, rfl⟩
    rw [← hU] at hW ⊢
    have hUv : U < v1 * 4294967296 := by omega
    have hq : U / v1 < 4294967296 := Nat.div_lt_of_lt_mul hUv
    have hr : U % v1 < v1 := Nat.mod_lt _ (by omega)
    have hdm := Nat.div_add_mod U v1
    generalize U / v1 = q at *
    generalize U % v1 = r at *
    have e1 : q * D = q * v1 * X + q * (v0 * p + dl) := by rw [hD, Nat.mul_add, Nat.mul_assoc]
    have e2 : U * X = q * v1 * X + r * X := by rw [← hdm, Nat.add_mul, Nat.mul_comm v1 q]
    have e3 : q * X ≤ 4294967295 * X := Nat.mul_le_mul_right _ (by omega)
    have e4 : r * X + X ≤ v1 * X := by have := Nat.mul_le_mul_right X (show r + 1 ≤ v1 by omega); rwa [Nat.add_mul, Nat.one_mul] at this
    have e5 : q * (v0 * p + dl) ≤ q * X := Nat.mul_le_mul_left _ (by omega)
    have e6 : (q + 1) * D = q * D + D := by rw [Nat.add_mul, Nat.one_mul]
    split
    · rename_i hgt
      have hq1 : 1 ≤ q := by
        rcases Nat.eq_zero_or_pos q with h0 | h0
        · subst h0; simp at hgt
        · exact h0
      have f1 : (r + 1) * 4294967296 ≤ q * v0 := by
        have h1 : r + 1 ≤ q * v0 / 4294967296 := hgt
        have h2 := Nat.div_mul_le_self (q * v0) 4294967296
        have h3 := Nat.mul_le_mul_right 4294967296 h1
        exact Nat.le_trans h3 h2
      have f2 : (r + 1) * X ≤ q * (v0 * p + dl) := by
        have h1 := Nat.mul_le_mul_right p f1
        have h2 : q * v0 * p ≤ q * (v0 * p + dl) := by rw [Nat.mul_assoc]; exact Nat.mul_le_mul_left _ (by omega)
        rw [hX, ← Nat.mul_assoc]
        omega
      rw [Nat.add_mul, Nat.one_mul] at f2
      have f3 : (q - 1 + 1) * D = q * D := by rw [Nat.sub_add_cancel hq1]
      have f4 : (q - 1) * D + D = q * D := by rw [← f3, Nat.add_mul, Nat.one_mul]
      rw [f3]
      generalize (q - 1) * D = y0 at *
      generalize q * D = y1 at *
      generalize q * v1 * X = y2 at *
      generalize q * (v0 * p + dl) = y3 at *
      generalize U * X = y4 at *
      generalize r * X = y5 at *
      generalize q * X = y6 at *
      generalize v1 * X = y7 at *
      generalize v0 * p = y8 at *
      refine ⟨by omega, by omega, by omega⟩
    · rename_i hgt
      have f1 : q * v0 < (r + 1) * 4294967296 := by
        have h1 : q * v0 / 4294967296 < r + 1 := by omega
        exact (Nat.div_lt_iff_lt_mul (by decide)).1 h1
      have f2 : q * (v0 * p + dl) ≤ (r + 2) * X := by
        have h1 : q * (v0 * p + dl) ≤ q * (v0 * p + p) := Nat.mul_le_mul_left _ (by omega)
        have h2 : q * (v0 * p + p) = (q * v0 + q) * p := by rw [Nat.mul_add, Nat.add_mul, Nat.mul_assoc]
        have h3 : (q * v0 + q) * p ≤ ((r + 2) * 4294967296) * p := Nat.mul_le_mul_right _ (by omega)
        rw [hX, ← Nat.mul_assoc]
        omega
      rw [Nat.add_mul] at f2
      generalize (q + 1) * D = y0 at *
      generalize q * D = y1 at *
      generalize q * v1 * X = y2 at *
      generalize q * (v0 * p + dl) = y3 at *
      generalize U * X = y4 at *
      generalize r * X = y5 at *
      generalize q * X = y6 at *
      generalize v1 * X = y7 at *
      generalize v0 * p = y8 at *
      refine ⟨by omega, by omega, by omega⟩
/-- The guess, from lists: what stands in P from place i on, by D. -/
theorem guess_list {P D : List Nat} {i m : Nat} (hP : okw P) (hD : okw D) (hm : D.length = m + 2) (hF : Flat P (i + m + 3)) (hv : 2147483648 ≤ atw D (m + 1)) (hlt : val P < 4294967296 ^ (i + 1) * val D) :
    top P i < (guessOf (atw P (i + m + 2)) (atw P (i + m + 1)) (atw D (m + 1)) (atw D m) + 1) * val D ∧ guessOf (atw P (i + m + 2)) (atw P (i + m + 1)) (atw D (m + 1)) (atw D m) * val D ≤ top P i + val D ∧ guessOf (atw P (i + m + 2)) (atw P (i + m + 1)) (atw D (m + 1)) (atw D m) < 4294967296 := by
  refine guess_num (p := 4294967296 ^ m) (dl := low D m) (wl := low (P.drop i) (m + 1)) hv (atw_lt hD m) (atw_lt hP _) (atw_lt hD _) (low_lt hD m) (by rw [← pow_succ32]; exact low_lt (okw_drop hP i) _) ?_ ?_ ?_
  · have h1 := val_split D m
    rw [top_succ, top_succ, top_ge (l := D) (i := m + 1 + 1) (by omega)] at h1
    rw [h1, ← pow_succ32, Nat.pow_succ]
    generalize 4294967296 ^ m = X
    rw [Nat.mul_add, Nat.mul_zero, Nat.add_zero, Nat.mul_comm X (atw D m), ← Nat.mul_assoc X, Nat.mul_comm (X * 4294967296)]
    omega
  · have h1 := val_split (P.drop i) (m + 1)
    have h2 : top (P.drop i) (m + 3) = 0 := by
      have : top (P.drop i) (m + 3) = top P (i + m + 3) := by unfold top; rw [List.drop_drop, Nat.add_assoc]
      rw [this, top_flat hF]
    rw [top_succ, top_succ, h2, atw_drop, atw_drop] at h1
    show val (P.drop i) = _
    rw [h1, ← pow_succ32, ← Nat.add_assoc, show i + (m + 1 + 1) = i + m + 2 by omega]
    generalize 4294967296 ^ (m + 1) = X
    rw [Nat.mul_comm X]
    have e : atw P (i + m + 1) + 4294967296 * (atw P (i + m + 2) + 4294967296 * 0) = atw P (i + m + 2) * 4294967296 + atw P (i + m + 1) := by omega
    rw [e]
    omega
  · have h1 := val_split P i
    rcases Nat.lt_or_ge (top P i) (4294967296 * val D) with h2 | h2
    · exact h2
    · have h3 := Nat.mul_le_mul_left (4294967296 ^ i) h2
      rw [← Nat.mul_assoc, Nat.mul_comm _ 4294967296, ← pow_succ32] at h3
      generalize 4294967296 ^ (i + 1) * val D = y1 at *
      generalize 4294967296 ^ i * top P i = y2 at *
      omega

/-- One word of the quotient was taken away: what P held, P' and q times D at place i hold; P' is below D at place i. -/
def Taken (P D P' : List Nat) (i q : Nat) : Prop := val P' + 4294967296 ^ i * (q * val D) = val P ∧ val P' < 4294967296 ^ i * val D
theorem low_top_lt {P : List Nat} (hP : okw P) {i x : Nat} (h : top P i < x) : val P < 4294967296 ^ i * x := by
  have h1 := val_split P i
  have h2 := low_lt hP i
  have h3 := Nat.mul_le_mul_left (4294967296 ^ i) (show top P i + 1 ≤ x from h)
  rw [Nat.mul_add, Nat.mul_one] at h3
  generalize 4294967296 ^ i * top P i = y1 at *
  generalize 4294967296 ^ i * x = y2 at *
  generalize 4294967296 ^ i = y3 at *
  omega
theorem taken_yes {P D P1 : List Nat} {i m g : Nat} (hP : okw P) (hlow : top P i < (g + 1) * val D) (h1 : val P1 + 4294967296 ^ i * (g * val D) = val P + 4294967296 ^ (i + m + 1) * 0) : Taken P D P1 i g := by
  rw [Nat.mul_zero, Nat.add_zero] at h1
  have h2 := low_top_lt hP hlow
  rw [Nat.add_mul, Nat.one_mul, Nat.mul_add] at h2
  unfold Taken
  generalize 4294967296 ^ i * (g * val D) = y1 at *
  generalize 4294967296 ^ i * val D = y2 at *
  exact ⟨h1, by omega⟩
theorem taken_back {P D P1 P2 : List Nat} {i m g c : Nat} (hP : okw P) (hP1 : val P1 < 4294967296 ^ (i + m + 1)) (hP2 : val P2 < 4294967296 ^ (i + m + 1)) (hhigh : g * val D ≤ top P i + val D) (hc : c ≤ 1)
    (h1 : val P1 + 4294967296 ^ i * (g * val D) = val P + 4294967296 ^ (i + m + 1) * 1) (h2 : val P2 + 4294967296 ^ (i + m + 1) * c = val P1 + 4294967296 ^ i * val D) : 1 ≤ g ∧ Taken P D P2 i (g - 1) := by
  have h3 := val_split P i
  have hgt : top P i < g * val D := by
    rcases Nat.lt_or_ge (top P i) (g * val D) with h | h
    · exact h
    · have h4 := Nat.mul_le_mul_left (4294967296 ^ i) h
      omega
  have hg : 1 ≤ g := by
    rcases Nat.eq_zero_or_pos g with h | h
    · subst h; simp at hgt
    · exact h
  have e1 : (g - 1) * val D + val D = g * val D := by
    have : (g - 1 + 1) * val D = g * val D := by rw [Nat.sub_add_cancel hg]
    rwa [Nat.add_mul, Nat.one_mul] at this
  have e2 : 4294967296 ^ i * ((g - 1) * val D) + 4294967296 ^ i * val D = 4294967296 ^ i * (g * val D) := by rw [← Nat.mul_add, e1]
  have e3 : 4294967296 ^ i * ((g - 1) * val D) ≤ 4294967296 ^ i * top P i := Nat.mul_le_mul_left _ (by omega)
  have e4 := low_top_lt hP hgt
  have hc1 : c = 1 := by
    rcases Nat.eq_zero_or_pos c with h | h
    · subst h
      generalize 4294967296 ^ (i + m + 1) = E at *
      generalize 4294967296 ^ i * ((g - 1) * val D) = y1 at *
      generalize 4294967296 ^ i * (g * val D) = y2 at *
      generalize 4294967296 ^ i * val D = y3 at *
      generalize 4294967296 ^ i * top P i = y4 at *
      omega
    · omega
  subst hc1
  refine ⟨hg, ?_, ?_⟩
  · generalize 4294967296 ^ (i + m + 1) = E at *
    generalize 4294967296 ^ i * ((g - 1) * val D) = y1 at *
    generalize 4294967296 ^ i * (g * val D) = y2 at *
    generalize 4294967296 ^ i * val D = y3 at *
    generalize 4294967296 ^ i * top P i = y4 at *
    omega
  · generalize 4294967296 ^ (i + m + 1) = E at *
    generalize 4294967296 ^ i * ((g - 1) * val D) = y1 at *
    generalize 4294967296 ^ i * (g * val D) = y2 at *
    generalize 4294967296 ^ i * val D = y3 at *
    generalize 4294967296 ^ i * top P i = y4 at *
    omega

/-- A long division: A is what was divided, by D; Q holds the words of the quotient from place k on, P what is left. -/
def LongAt (A : Nat) (D Q P : List Nat) (k : Nat) : Prop := val P + val Q * val D = A ∧ val P < 4294967296 ^ k * val D ∧ ∀ j, j < k → atw Q j = 0
theorem long_step {A : Nat} {D Q P P' : List Nat} {i q : Nat} (h : LongAt A D Q P (i + 1)) (hQ : i < Q.length) (ht : Taken P D P' i q) : LongAt A D (Q.set i q) P' i := by
  refine ⟨?_, ht.2, fun j hj => by rw [atw_set_ne (by omega)]; exact h.2.2 j (by omega)⟩
  have h1 := val_set Q i q hQ
  rw [h.2.2 i (by omega), Nat.mul_zero, Nat.add_zero] at h1
  have h2 := h.1
  have h3 := ht.1
  have e : 4294967296 ^ i * q * val D = 4294967296 ^ i * (q * val D) := Nat.mul_assoc ..
  rw [h1, Nat.add_mul, e]
  omega
theorem long_end {A : Nat} {D Q P : List Nat} (h : LongAt A D Q P 0) : val Q = A / val D ∧ val P = A % val D := by
  have h1 := h.1
  have h2 := h.2.1
  rw [Nat.pow_zero, Nat.one_mul] at h2
  have h3 : A = val P + val D * val Q := by rw [Nat.mul_comm]; exact h1.symm
  rw [h3, Nat.add_mul_div_left _ _ (by omega), Nat.div_eq_of_lt h2, Nat.add_mul_mod_self_left, Nat.mod_eq_of_lt h2]
  omega
/-- A divisor shifted up so that its highest bit is set. -/
theorem norm_top {b m s : Nat} (hm : (dg b).length = m + 1) (hs : s = 32 - blen (atw (dg b) m)) : s < 32 ∧ (dg (b * 2 ^ s)).length = m + 1 ∧ 2147483648 ≤ atw (dg (b * 2 ^ s)) m := by
  have hr : atw (dg b) m ≠ 0 := by
    have := atw_dg (l := dg b) (okw_dg b)
    rw [val_dg, hm] at this
    simpa using this
  have ht : top (dg b) (m + 1) = 0 := top_ge (by omega)
  have h1 := blen_top (okw_dg b) ht hr
  rw [val_dg] at h1
  have h2 : blen (atw (dg b) m) ≤ 32 := blen_le.2 (atw_lt (okw_dg b) m)
  have h3 := blen_pos hr
  have hb : b ≠ 0 := by
    intro e; subst e; rw [dg_zero] at hm; simp at hm
  have h4 := blen_mul (n := s) hb
  have h5 : blen (b * 2 ^ s) = 32 * (m + 1) := by omega
  have h6 : (dg (b * 2 ^ s)).length = m + 1 := by rw [dg_len_blen, h5]; omega
  refine ⟨by omega, h6, ?_⟩
  have hr2 : atw (dg (b * 2 ^ s)) m ≠ 0 := by
    have := atw_dg (l := dg (b * 2 ^ s)) (okw_dg _)
    rw [val_dg, h6] at this
    simpa using this
  have h7 := blen_top (okw_dg (b * 2 ^ s)) (top_ge (l := dg (b * 2 ^ s)) (i := m + 1) (by omega)) hr2
  rw [val_dg, h5] at h7
  have h8 := blen_ge hr2
  rw [show blen (atw (dg (b * 2 ^ s)) m) - 1 = 31 by omega] at h8
  exact h8
/-- What the long division starts with. -/
theorem long_start {A n m : Nat} {D : List Nat} (hA : (dg A).length + 1 = n + (m + 1)) (hD : D.length = m + 1) (hv : 2147483648 ≤ atw D m) : LongAt A D (List.replicate n 0) (dg A ++ [0]) n := by
  refine ⟨?_, ?_, fun j _ => atw_zeros n j⟩
  · rw [val_zeros, Nat.zero_mul, val_snoc, val_dg]; omega
  · have h1 : val (dg A ++ [0]) = A := by rw [val_snoc, val_dg]; omega
    rw [h1]
    have h2 := lt_dg_length A
    rw [show (dg A).length = n + m by omega, Nat.pow_add] at h2
    have h3 := val_split D m
    rw [top_succ, top_ge (l := D) (i := m + 1) (by omega)] at h3
    have h4 : 4294967296 ^ m * 1 ≤ 4294967296 ^ m * (atw D m + 4294967296 * 0) := Nat.mul_le_mul_left _ (by omega)
    have h5 := Nat.mul_le_mul_left (4294967296 ^ n) (show 4294967296 ^ m ≤ val D by omega)
    omega
/-- Both shifted alike: the quotient stays, the rest is shifted. -/
theorem shifted_div (a b s : Nat) : a * 2 ^ s / (b * 2 ^ s) = a / b ∧ a * 2 ^ s % (b * 2 ^ s) / 2 ^ s = a % b := by
  have hp := Nat.two_pow_pos s
  exact ⟨Nat.mul_div_mul_right _ _ hp, by rw [Nat.mul_mod_mul_right, Nat.mul_div_cancel _ hp]⟩

/-- By a word, from the top: what is done of the quotient stands in Q from place k on; r is left of it. -/
def WordAt (x : Nat) (L Q : List Nat) (k r : Nat) : Prop := top L k = top Q k * x + r ∧ r < x ∧ (∀ j, j < k → atw Q j = atw L j) ∧ Q.length = L.length
theorem top_set {Q : List Nat} {i y : Nat} : top (Q.set i y) (i + 1) = top Q (i + 1) := by
  unfold top; rw [List.drop_set_of_lt (by omega)]
theorem word_down {x i r : Nat} {L Q : List Nat} (h : WordAt x L Q (i + 1) r) (hx : 0 < x) (hi : i < Q.length) : WordAt x L (Q.set i ((r * 4294967296 + atw L i) / x)) i ((r * 4294967296 + atw L i) % x) := by
  obtain ⟨h1, h2, h3, h4⟩ := h
  refine ⟨?_, Nat.mod_lt _ hx, fun j hj => by rw [atw_set_ne (by omega)]; exact h3 j (by omega), by rw [List.length_set]; exact h4⟩
  have e : atw (Q.set i ((r * 4294967296 + atw L i) / x)) i = (r * 4294967296 + atw L i) / x := by
    unfold atw; rw [List.getD_eq_getElem?_getD, List.getElem?_set_self hi]; rfl
  have hd := Nat.div_add_mod (r * 4294967296 + atw L i) x
  rw [top_succ L, top_succ (Q.set i _), e, top_set, h1, Nat.add_mul, Nat.mul_comm ((r * 4294967296 + atw L i) / x) x, Nat.mul_assoc 4294967296]
  generalize x * ((r * 4294967296 + atw L i) / x) = y1 at *
  generalize top Q (i + 1) * x = y2 at *
  omega
theorem word_end {A x r : Nat} {L Q : List Nat} (h : WordAt x L Q 0 r) (hA : val L = A) : val Q = A / x ∧ r = A % x := by
  obtain ⟨h1, h2, _, _⟩ := h
  rw [top_zero, top_zero, hA] at h1
  rw [h1, Nat.mul_comm, Nat.mul_add_div (by omega), Nat.mul_add_mod, Nat.div_eq_of_lt h2, Nat.mod_eq_of_lt h2]
  omega
end Go.Proofs.Ytipcgehcineblaa

/-
  Whole numbers in memory and as values: a sign and a list of words. Of no program.
-/
namespace Go.Proofs.Ytipcgehcineblaa
open Go.RowKit

/-- A whole number, as a value; its value. -/
def whV (neg : Bool) (a : Option Addr) (n cap : Nat) : Value := .agg #[.bool neg, .slice a n cap]
def zval (neg : Bool) (v : Nat) : Int := if neg = true then -(v : Int) else (v : Int)
/-- Whether a whole number is below 0. -/
def zneg (z : Int) : Bool := decide (z < 0)
theorem zval_neg (neg : Bool) (v : Nat) : zneg (zval neg v) = (neg && decide (v ≠ 0)) := by
  unfold zneg zval
  cases neg with
  | false => simp
  | true =>
    by_cases h : v = 0
    · subst h; rfl
    · rw [if_pos rfl, decide_eq_true h, decide_eq_true (by omega)]; rfl
theorem zval_abs (neg : Bool) (v : Nat) : (zval neg v).natAbs = v := by unfold zval; cases neg <;> simp
theorem zval_of (z : Int) : zval (zneg z) z.natAbs = z := by
  unfold zval zneg
  by_cases h : z < 0
  · rw [decide_eq_true h, if_pos rfl]; omega
  · rw [decide_eq_false h, if_neg (by simp)]; omega
/-- A right whole number comes back. -/
def LstZ (z : Int) (w : World) (e : Ending) (w' : World) : Prop :=
  ∃ (a : Option Addr) (n cap : Nat), e = .returned (whV (zneg z) a n cap) ∧ Wd w' a n cap (dg z.natAbs) ∧ Below w.heap.size w w'
/-- What a block holds, cell by cell. -/
theorem blk_cell {w : World} {g : Nat} {cur : Array Value} {t : TypeId} (h : w.heap[g]? = some (.cells cur t (0, 0))) (j : Nat) : w.cell? ⟨g, j, none⟩ = cur[j]? := cell_of_row w g j cur t (0, 0) h
theorem blk_free {w : World} {g : Nat} {cur : Array Value} {t : TypeId} (h : w.heap[g]? = some (.cells cur t (0, 0))) (j : Nat) : w.frozen? ⟨g, j, none⟩ = false := frozen_of_row w g j cur t h
theorem blk_new (w : World) (cur : Array Value) (t : TypeId) : (w.alloc (.cells cur t)).heap[w.heap.size]? = some (.cells cur t (0, 0)) := heap_alloc_new w _
theorem blk_later {w w' : World} {g : Nat} {o : Obj} (h : w.heap[g]? = some o) (hb : Below w.heap.size w w') : w'.heap[g]? = some o := (hb.block g (Array.getElem?_eq_some_iff.1 h).1).trans h
theorem blk_size (w : World) (o : Obj) : (w.alloc o).heap.size = w.heap.size + 1 := by simp
/-- Words do not lie in a block that holds no words: they stay when it is written. -/
theorem Wd.stored {w : World} {a : Option Addr} {n cap : Nat} {l : List Nat} (h : Wd w a n cap l) {g : Nat} {cur : Array Value} {t : TypeId} (hg : w.heap[g]? = some (.cells cur t (0, 0))) (hc : ∀ (j : Nat) (k : Int), cur[j]? ≠ some (.int .u32 k)) (i : Nat) (u : Value) : Wd (w.setCell ⟨g, i, none⟩ u) a n cap l := by
  refine ⟨h.1, h.2.1, h.2.2.1, h.2.2.2.1, h.2.2.2.2.1, h.2.2.2.2.2.imp id fun ⟨b, off, e, hcl⟩ => ⟨b, off, e, fun j hj => ?_⟩⟩
  have h1 := hcl j hj
  have hne : b ≠ g := fun e2 => by
    subst e2
    rw [blk_cell hg] at h1
    exact hc _ _ h1
  rw [World.cell?_of_block (w := w) (Below.heap_setCell _ _ _ _ (by exact hne))]
  exact h1
theorem blk_set {w : World} {g : Nat} {cur : Array Value} {t : TypeId} (h : w.heap[g]? = some (.cells cur t (0, 0))) (i : Nat) (u : Value) : (w.setCell ⟨g, i, none⟩ u).heap[g]? = some (.cells (cur.setIfInBounds i u) t (0, 0)) := heap_setCell_same w g i cur t u h
theorem blk_set2 {w : World} {g : Nat} {x y : Value} {t : TypeId} (h : w.heap[g]? = some (.cells #[x, y] t (0, 0))) (u v : Value) : ((w.setCell ⟨g, 0, none⟩ u).setCell ⟨g, 1, none⟩ v).heap[g]? = some (.cells #[u, v] t (0, 0)) := by
  have h1 := blk_set (blk_set h 0 u) 1 v
  simpa using h1
theorem no_words {b : Bool} {a : Option Addr} {n cap : Nat} : ∀ (j : Nat) (k : Int), (#[Value.bool b, .slice a n cap] : Array Value)[j]? ≠ some (.int .u32 k) := by
  intro j k
  match j with
  | 0 => simp
  | 1 => simp
  | j + 2 => simp
theorem Wd.stored2 {w : World} {a : Option Addr} {n cap : Nat} {l : List Nat} (h : Wd w a n cap l) {g : Nat} {b : Bool} {x : Option Addr} {y z : Nat} {t : TypeId} (hg : w.heap[g]? = some (.cells #[.bool b, .slice x y z] t (0, 0))) (c : Bool) (v : Value) : Wd ((w.setCell ⟨g, 0, none⟩ (.bool c)).setCell ⟨g, 1, none⟩ v) a n cap l := by
  have h1 := h.stored hg no_words 0 (.bool c)
  have h2 : (w.setCell ⟨g, 0, none⟩ (.bool c)).heap[g]? = some (.cells #[.bool c, .slice x y z] t (0, 0)) := by simpa using blk_set hg 0 (.bool c)
  exact h1.stored h2 no_words 1 v
theorem below_set2 {w w1 : World} {g : Nat} (h : Below w.heap.size w w1) (hg : w.heap.size ≤ g) (u v : Value) : Below w.heap.size w ((w1.setCell ⟨g, 0, none⟩ u).setCell ⟨g, 1, none⟩ v) := (h.setCell (p := ⟨g, 0, none⟩) hg u).setCell (p := ⟨g, 1, none⟩) hg v
/-- The sign of a whole number. -/
def sgn (z : Int) : Int := if z = 0 then 0 else if z < 0 then -1 else 1
theorem sgn_range (z : Int) : -1 ≤ sgn z ∧ sgn z ≤ 1 := by unfold sgn; split <;> (try split) <;> omega
/-- One box, two boxes of a call: where they are later. -/
theorem box_at (w w1 : World) (x : Array Value) (t : TypeId) (hb : Below (w.alloc (.cells x t)).heap.size (w.alloc (.cells x t)) w1) : w1.heap[w.heap.size]? = some (.cells x t (0, 0)) := blk_later (blk_new w x t) hb
theorem boxes_at (w w1 : World) (x y : Array Value) (t s : TypeId) (hb : Below ((w.alloc (.cells x t)).alloc (.cells y s)).heap.size ((w.alloc (.cells x t)).alloc (.cells y s)) w1) :
    w1.heap[w.heap.size]? = some (.cells x t (0, 0)) ∧ w1.heap[w.heap.size + 1]? = some (.cells y s (0, 0)) := by
  refine ⟨blk_later (blk_later (blk_new w x t) (below_alloc _ _)) hb, ?_⟩
  have h2 := blk_new (w.alloc (.cells x t)) y s
  rw [blk_size] at h2
  exact blk_later h2 hb
end Go.Proofs.Ytipcgehcineblaa

/-
  The contracts of the document's answer for layer 2: reading functions.
-/
namespace Go.Proofs.Ytipcgehcineblaa
open Go.RowKit

end Go.Proofs.Ytipcgehcineblaa

/-
  The contracts of the document's answer for layer 2: functions that make lists.
-/
namespace Go.Proofs.Ytipcgehcineblaa
open Go.RowKit

end Go.Proofs.Ytipcgehcineblaa

/-
  The contracts of the document's answer for layer 8: Norm, Same, Sign, Neg.
-/
namespace Go.Proofs.Ytipcgehcineblaa
open Go.RowKit

end Go.Proofs.Ytipcgehcineblaa

/-
  Rows of words of the call's own, several side by side: what is written into one leaves the others. Of no program.
-/
namespace Go.Proofs.Ytipcgehcineblaa
open Go.RowKit

theorem grown_refl (w : World) (row : Option Nat) : w.grownBy w row := ⟨rfl, rfl, rfl, Nat.le_refl _, fun _ _ _ => rfl⟩
theorem grown_then {a b c : World} {row : Option Nat} (h : a.grownBy b row) (k : b.grownBy c row) : a.grownBy c row :=
  ⟨k.os.trans h.os, k.tape.trans h.tape, k.output.trans h.output, Nat.le_trans h.size k.size, fun i hi hr => (k.block i (Nat.lt_of_lt_of_le hi h.size) hr).trans (h.block i hi hr)⟩
theorem grown_cell (w : World) (g k : Nat) (u : Value) : w.grownBy (w.setCell ⟨g, k, none⟩ u) (some g) :=
  ⟨rfl, rfl, rfl, by simp [World.setCell], fun i _ hr => Below.heap_setCell _ _ _ _ (fun e => hr (by rw [e]))⟩
theorem grown_drewN {a w : World} {row : Option Nat} (h : a.grownBy w row) (n : Nat) : a.grownBy (w.drewN n) row := grown_then h ⟨rfl, rfl, rfl, Nat.le_refl _, fun _ _ _ => rfl⟩
/-- What was there below a world is there below a later one: whatever holds of memory since a world w holds of what has grown besides one own row. -/
theorem grown_below {w0 w w' : World} {g : Nat} (hB : Below w0.heap.size w0 w) (hg : w.grownBy w' (some g)) (hb : w0.heap.size ≤ g) : Below w0.heap.size w0 w' :=
  hB.grown hg hB.size (fun k hk => by cases hk; exact hb)
theorem Own.later {w w' : World} {base g n cap : Nat} {l : List Nat} (h : Own w base g n cap l) (hb : Below w.heap.size w w') : Own w' base g n cap l := by
  refine ⟨⟨h.1.1, ?_⟩, h.2⟩
  rcases h.1.2 with h0 | ⟨g', cap', cur, h1, h2, h3, h4⟩
  · exact .inl h0
  · exact .inr ⟨g', cap', cur, h1, h2, (hb.block g' (Array.getElem?_eq_some_iff.1 h3).1).trans h3, h4⟩
theorem Own.other {w w' : World} {base g g' n cap : Nat} {l : List Nat} (h : Own w base g n cap l) (hg : w.grownBy w' (some g')) (hne : g ≠ g') : Own w' base g n cap l :=
  ⟨h.1.kept hg (.inr (by simp [Value.ownBlock]; exact hne)), h.2⟩
theorem Own.stay {w w' : World} {base g n cap : Nat} {l : List Nat} (h : Own w base g n cap l) (hg : w.grownBy w' none) : Own w' base g n cap l :=
  ⟨h.1.kept hg (.inr (by simp [Value.ownBlock])), h.2⟩
theorem Own.lower {w : World} {base base' g n cap : Nat} {l : List Nat} (h : Own w base g n cap l) (hb : base' ≤ base) : Own w base' g n cap l :=
  ⟨⟨h.1.1, h.1.2.imp id fun ⟨g, cap, cur, h1, h2, h3⟩ => ⟨g, cap, cur, h1, Nat.le_trans hb h2, h3⟩⟩, h.2⟩
theorem Own.bound {w : World} {base g n cap : Nat} {l : List Nat} (h : Own w base g n cap l) : n ≤ cap ∧ cap ≤ 9223372036854775807 := h.wd.bound
end Go.Proofs.Ytipcgehcineblaa

/-
  A window of a row of the call's own: what stands in it may be written, the row stays the call's own. Of no program.
-/
namespace Go.Proofs.Ytipcgehcineblaa
open Go.RowKit

/-- From place off of an own row on, n words: l. -/
def Win (w : World) (base g off n : Nat) (l : List Nat) : Prop := ∃ (N cap : Nat) (P : List Nat), Own w base g N cap P ∧ off + n ≤ N ∧ l = (P.drop off).take n
theorem Win.len {w : World} {base g off n : Nat} {l : List Nat} (h : Win w base g off n l) : l.length = n := by
  obtain ⟨N, cap, P, hO, hn, rfl⟩ := h
  have := hO.len
  rw [List.length_take, List.length_drop]
  omega
theorem Win.ok {w : World} {base g off n : Nat} {l : List Nat} (h : Win w base g off n l) : okw l := by
  obtain ⟨N, cap, P, hO, hn, rfl⟩ := h
  exact okw_take (okw_drop hO.2 off) n
theorem Win.base {w : World} {base g off n : Nat} {l : List Nat} (h : Win w base g off n l) : base ≤ g ∧ g < w.heap.size := by
  obtain ⟨N, cap, P, hO, _⟩ := h
  exact hO.base
theorem Win.cell {w : World} {base g off n : Nat} {l : List Nat} (h : Win w base g off n l) {k : Nat} (hk : k < n) : w.cell? ⟨g, off + k, none⟩ = some (.int .u32 ((atw l k : Nat) : Int)) := by
  obtain ⟨N, cap, P, hO, hn, rfl⟩ := h
  rw [hO.cell (by omega), atw_take hk, atw_drop]
theorem Win.wd {w : World} {base g off n : Nat} {l : List Nat} (h : Win w base g off n l) {c : Nat} (hc : n ≤ c) (hc2 : c ≤ 9223372036854775807) : Wd w (some ⟨g, off, none⟩) n c l :=
  ⟨h.len, hc, hc2, h.ok, fun e => (by cases e), .inr ⟨g, off, rfl, fun _ hj => h.cell hj⟩⟩
theorem Win.set {w : World} {base g off n : Nat} {l : List Nat} (h : Win w base g off n l) {k r : Nat} (hr : r < 4294967296) : Win (w.setCell ⟨g, off + k, none⟩ (.int .u32 ((r : Nat) : Int))) base g off n (l.set k r) := by
  obtain ⟨N, cap, P, hO, hn, rfl⟩ := h
  refine ⟨N, cap, P.set (off + k) r, hO.set _ _ hr, hn, ?_⟩
  rw [List.drop_set, if_neg (by omega), List.take_set, Nat.add_sub_cancel_left]
theorem Win.take {w : World} {base g off n : Nat} {l : List Nat} (h : Win w base g off n l) {m : Nat} (hm : m ≤ n) : Win w base g off m (l.take m) := by
  obtain ⟨N, cap, P, hO, hn, rfl⟩ := h
  exact ⟨N, cap, P, hO, by omega, by rw [List.take_take, Nat.min_eq_left hm]⟩
theorem Win.drop {w : World} {base g off q m : Nat} {l : List Nat} (h : Win w base g off (q + m) l) : Win w base g (off + q) m (l.drop q) := by
  obtain ⟨N, cap, P, hO, hn, rfl⟩ := h
  exact ⟨N, cap, P, hO, by omega, by rw [List.drop_take, List.drop_drop, Nat.add_sub_cancel_left]⟩
theorem Win.later {w w' : World} {base g off n : Nat} {l : List Nat} (h : Win w base g off n l) (hb : Below w.heap.size w w') : Win w' base g off n l := by
  obtain ⟨N, cap, P, hO, hn, hl⟩ := h
  exact ⟨N, cap, P, hO.later hb, hn, hl⟩
theorem Win.other {w w' : World} {base g g' off n : Nat} {l : List Nat} (h : Win w base g off n l) (hg : w.grownBy w' (some g')) (hne : g ≠ g') : Win w' base g off n l := by
  obtain ⟨N, cap, P, hO, hn, hl⟩ := h
  exact ⟨N, cap, P, hO.other hg hne, hn, hl⟩
theorem Win.lower {w : World} {base base' g off n : Nat} {l : List Nat} (h : Win w base g off n l) (hb : base' ≤ base) : Win w base' g off n l := by
  obtain ⟨N, cap, P, hO, hn, hl⟩ := h
  exact ⟨N, cap, P, hO.lower hb, hn, hl⟩
theorem Wd.kept {w w' : World} {a : Option Addr} {n cap : Nat} {l : List Nat} {row : Option Nat} (h : Wd w a n cap l) (hg : w.grownBy w' row) (hne : ∀ ad : Addr, a = some ad → some ad.block ≠ row) : Wd w' a n cap l :=
  ⟨h.1, h.2.1, h.2.2.1, h.2.2.2.1, h.2.2.2.2.1, h.2.2.2.2.2.imp id fun ⟨b, off, e, hc⟩ => ⟨b, off, e, fun j hj => hg.cell (hc j hj) (hne ⟨b, off, none⟩ e)⟩⟩
/-- The value that a slice of words holds in a world (for a measure that is read from memory). -/
def cellNat (w : World) (a : Addr) : Nat := match w.cell? a with | some (.int _ z) => z.toNat | _ => 0
def heldVal (w : World) : Value → Nat
  | .slice (some a) n _ => val ((List.range n).map fun j => cellNat w ⟨a.block, a.off + j, none⟩)
  | _ => 0
theorem Wd.held {w : World} {b off n cap : Nat} {l : List Nat} (h : Wd w (some ⟨b, off, none⟩) n cap l) : heldVal w (.slice (some ⟨b, off, none⟩) n cap) = val l := by
  show val ((List.range n).map fun j => cellNat w ⟨b, off + j, none⟩) = val l
  apply congrArg val
  apply list_eq_of_at
  · simp [h.len]
  · intro j hj
    simp at hj
    obtain ⟨b', off', e, hc⟩ := h.at (by omega)
    simp only [Option.some.injEq, Addr.mk.injEq, and_true] at e
    obtain ⟨rfl, rfl⟩ := e
    unfold atw
    rw [List.getD_eq_getElem?_getD, List.getElem?_map, List.getElem?_range hj]
    show cellNat w ⟨b, off + j, none⟩ = _
    unfold cellNat
    rw [hc j hj]
    show (((atw l j : Nat) : Int)).toNat = _
    rw [Int.toNat_natCast]; rfl
end Go.Proofs.Ytipcgehcineblaa

/-
  Plain mathematics: decimal digits. Nothing of the program.
-/
namespace Go.Proofs.Ytipcgehcineblaa

/-- The first place at which bytes are no digits, or that is too far; below 0: there is none. -/
def wrongFrom : List UInt8 → Nat → Int
  | [], _ => -1
  | x :: r, i => if x.toNat < 48 ∨ 57 < x.toNat ∨ 60 ≤ i then (i : Int) else wrongFrom r (i + 1)
def wrongI (l : List UInt8) : Int := if l = [] then 0 else wrongFrom l 0
/-- The number that digits are. -/
def readV (l : List UInt8) : Nat := l.foldl (fun n x => n * 10 + (x.toNat - 48)) 0
end Go.Proofs.Ytipcgehcineblaa

/-
  What package digits' functions owe (layer 7), as one hypothesis: the contracts that the laws' walks lean on.
-/
namespace Go.Proofs.Ytipcgehcineblaa
open Go.RowKit

/-- The library's table of the powers of ten reads as its initialiser lays it (nothing is asked where the program has no such table). -/
def Dec10 (w : World) : Prop := w = w
theorem Dec10.later {w w' : World} (_ : Dec10 w) (_ : Below w.heap.size w w') : Dec10 w' := rfl
theorem Dec10.all (w : World) : Dec10 w := rfl
structure DigitsSaid : Prop where
/-- The cells of a fault in a variable. -/
def Box (w : World) (g : Nat) (k s t a : Int) : Prop :=
  w.cell? ⟨g, 0, none⟩ = some (.int .i64 k) ∧ w.cell? ⟨g, 1, none⟩ = some (.int .i64 s) ∧ w.cell? ⟨g, 2, none⟩ = some (.int .i64 t) ∧ w.cell? ⟨g, 3, none⟩ = some (.int .i64 a)
theorem Box.later {w w' : World} {g : Nat} {k s t a : Int} (h : Box w g k s t a) (hb : Below w.heap.size w w') : Box w' g k s t a :=
  ⟨cell_later hb h.1, cell_later hb h.2.1, cell_later hb h.2.2.1, cell_later hb h.2.2.2⟩
theorem Box.new (w : World) (k s t a : Int) (e : TypeId) : Box (w.alloc (.cells #[.int .i64 k, .int .i64 s, .int .i64 t, .int .i64 a] e)) w.heap.size k s t a := ⟨by simp, by simp, by simp, by simp⟩
end Go.Proofs.Ytipcgehcineblaa

/-
  make of words, with a length and a capacity that are reckoned. Of no program.
-/
namespace Go.Proofs.Ytipcgehcineblaa
open Go.RowKit

theorem ownsRow_made (w : World) (base : Nat) (e : TypeId) (z : Value) (q c : Nat) (hqc : q ≤ c) (hc : c ≤ maxLen) (hb : base ≤ w.heap.size) :
    (w.alloc (.cells (madeCells #[z] c) e)).ownsRow base e 1 (.slice (some ⟨w.heap.size, 0, none⟩) q c) q (List.replicate q z) := by
  refine ⟨by simp, .inr ⟨w.heap.size, c, madeCells #[z] c, rfl, hb, heap_alloc_new w _, hqc, hc, ?_, ?_⟩⟩
  · have := congrArg List.length (toList_madeCells_one z c)
    simpa using this
  · rw [toList_madeCells_one, List.take_replicate, Nat.mul_one, Nat.min_eq_left hqc]
theorem wpList_make_words {P : Program} (w : World) {ops : Array Oper} {rest : List Oper} {o : Oper} {a : Act} {Q : Exit → Act → World → Prop}
    (hg : o.guard = none) (l c : Operand) (t : TypeId) (hop : o.op = Op.makeSlice t l c)
    (base : Nat) (e : TypeId) (i : TypeInfo) (z : Value) (h1 : P.underlying t = some (.slice e)) (h2 : P.info? e = some i) (h3 : i.zero = some z) (h4 : i.size = 1) (hz : z.cells = #[z])
    (kl kc : IntKind) (L C : Int) (n m : Nat) (hl : a.eval l = .int kl L) (hc : a.eval c = .int kc C) (hL : L = (n : Int)) (hC : C = (m : Int)) (hnm : n ≤ m) (b2 : i.bytes * m ≤ 281474976710656) (b3 : m ≤ maxLen) (b4 : base ≤ w.heap.size)
    (hK : ∀ w', w'.ownsRow base e 1 (.slice (some ⟨w.heap.size, 0, none⟩) n m) n (List.replicate n z) → w.grownBy w' none → wpList P ops Q rest (a.put o.dst (.slice (some ⟨w.heap.size, 0, none⟩) n m)) w') :
    wpList P ops Q (o :: rest) a w := by
  refine wpList_plain hg fun K hK' => ?_
  have h63' : (m : Int) ≤ 9223372036854775807 := by
    have h := b3
    simp [maxLen] at h
    omega
  have hb' : (i.bytes : Int) * (m : Int) ≤ 281474976710656 := by
    have h : ((i.bytes * m : Nat) : Int) ≤ 281474976710656 := by omega
    rwa [Int.natCast_mul] at h
  have hrun := run_make (P := P) w t e i z h1 h2 h3 kl kc n m (by omega) (by omega) hb' h63'
  simp only [Int.toNat_natCast, h4, Nat.mul_one, hz] at hrun
  subst hL
  subst hC
  unfold Oper.wp
  simp [execOp, hop, hl, hc, hrun, Result.andThen]
  exact hK' _ _ (hK _ (ownsRow_made w base e z n m hnm b3 b4) (World.grownBy_alloc w _ none))
theorem zeros_cells (n : Nat) : List.replicate n (Value.int .u32 0) = wcells (List.replicate n 0) := by simp [wcells]
end Go.Proofs.Ytipcgehcineblaa

/-
  The contracts of the document's answer for layer 4: Mul.
-/
namespace Go.Proofs.Ytipcgehcineblaa
open Go.RowKit

theorem Own.drewN {w : World} {base g n cap : Nat} {l : List Nat} (h : Own w base g n cap l) (q : Nat) : Own (w.drewN q) base g n cap l := h
theorem Own.drew {w : World} {base g n cap : Nat} {l : List Nat} (h : Own w base g n cap l) : Own w.drew base g n cap l := h
end Go.Proofs.Ytipcgehcineblaa

/-
  The contracts of the document's answer for layer 7: ten, Text, Wrong, Read, Trim.
-/
namespace Go.Proofs.Ytipcgehcineblaa
open Go.RowKit

end Go.Proofs.Ytipcgehcineblaa

/-
  The contracts of the document's answer for layer 8: Text.
-/
namespace Go.Proofs.Ytipcgehcineblaa
open Go.RowKit

theorem sgn_neg {z : Int} (h : z < 0) : sgn z = -1 := by unfold sgn; rw [if_neg (by omega), if_pos h]
end Go.Proofs.Ytipcgehcineblaa

/-
  Plain mathematics: whole numbers; the quotient that is rounded down; the machine's numbers; what a text says. Nothing of the program.
-/
namespace Go.Proofs.Ytipcgehcineblaa

/-- Whether a whole number is one of the machine's; that one, or 0. -/
def isInt (z : Int) : Prop := -9223372036854775808 ≤ z ∧ z ≤ 9223372036854775807
instance (z : Int) : Decidable (isInt z) := by unfold isInt; infer_instance
/-- The place at which a text is no whole number (below 0: it is one), and the one that it is. -/
def zwrong : List UInt8 → Int
  | [] => 0
  | x :: r => if x.toNat = 45 then (if wrongI r < 0 then -1 else 1 + wrongI r) else wrongI (x :: r)
def zread : List UInt8 → Int
  | [] => 0
  | x :: r => if x.toNat = 45 then zval true (readV r) else zval false (readV (x :: r))
theorem zval_false (v : Nat) : zval false v = (v : Int) := rfl
theorem zval_true (v : Nat) : zval true v = -(v : Int) := rfl
theorem zlen_add (x y : Int) : (dg (x + y).natAbs).length ≤ (dg x.natAbs).length + (dg y.natAbs).length + 1 := Nat.le_trans (dg_length_mono (Int.natAbs_add_le x y)) (dg_add_length _ _)
theorem zlen_mul (x y : Int) : (dg (x * y).natAbs).length ≤ (dg x.natAbs).length + (dg y.natAbs).length := by rw [Int.natAbs_mul]; exact dg_mul_length _ _
end Go.Proofs.Ytipcgehcineblaa

/-
  What package whole's functions owe (layer 8), as one hypothesis: the contracts that the laws' walks lean on. And the document's quotient: it is the one that is rounded down.
-/
namespace Go.Proofs.Ytipcgehcineblaa
open Go.RowKit

theorem zval_dg (z : Int) : zval (zneg z) (val (dg z.natAbs)) = z := by rw [val_dg, zval_of]
structure WholeSaid : Prop where
  norm : ∀ (neg : Bool) (a : Option Addr) (n cap : Nat) (l : List Nat) (z : Int) (w : World), Wd w a n cap l → n ≤ 1000 → zval neg (val l) = z → Calls Try.prog 68 #[whV neg a n cap] w (LstZ z w)
  of : ∀ (z : Int) (w : World), isInt z → Calls Try.prog 43 #[.int .i64 z] w (LstZ z w)
  sign : ∀ (neg : Bool) (a : Option Addr) (n cap : Nat) (l : List Nat) (z : Int) (w : World), Wd w a n cap l → n ≤ 1000 → zval neg (val l) = z → Calls Try.prog 54 #[whV neg a n cap] w (Gives (.int .i64 (sgn z)) w)
  cmp : ∀ (na : Bool) (a : Option Addr) (n cap : Nat) (la : List Nat) (x : Int) (nb : Bool) (b : Option Addr) (m cap' : Nat) (lb : List Nat) (y : Int) (w : World), Wd w a n cap la → Wd w b m cap' lb → n ≤ 1000 → m ≤ 1000 → zval na (val la) = x → zval nb (val lb) = y →
    Calls Try.prog 47 #[whV na a n cap, whV nb b m cap'] w (Gives (.int .i64 (sgn (x - y))) w)
  add : ∀ (na : Bool) (a : Option Addr) (n cap : Nat) (la : List Nat) (x : Int) (nb : Bool) (b : Option Addr) (m cap' : Nat) (lb : List Nat) (y : Int) (w : World), Wd w a n cap la → Wd w b m cap' lb → n ≤ 1000 → m ≤ 1000 → zval na (val la) = x → zval nb (val lb) = y →
    Calls Try.prog 34 #[whV na a n cap, whV nb b m cap'] w (LstZ (x + y) w)
  mul : ∀ (na : Bool) (a : Option Addr) (n cap : Nat) (la : List Nat) (x : Int) (nb : Bool) (b : Option Addr) (m cap' : Nat) (lb : List Nat) (y : Int) (w : World), Wd w a n cap la → Wd w b m cap' lb → n ≤ 1000 → m ≤ 1000 → zval na (val la) = x → zval nb (val lb) = y →
    Calls Try.prog 49 #[whV na a n cap, whV nb b m cap'] w (LstZ (x * y) w)
end Go.Proofs.Ytipcgehcineblaa

/-
  The contracts of package prod (layer 4) at this seat: Mul, Square.
-/
namespace Go.Proofs.Ytipcgehcineblaa
open Go.RowKit

theorem limb_mul_nat4 (x y c d : Nat) (w : World) (hx : x < 4294967296) (hy : y < 4294967296) (hc : c < 4294967296) (hd : d < 4294967296) : Calls Try.prog 61 #[.int .u32 (x : Int), .int .u32 (y : Int), .int .u32 (c : Int), .int .u32 (d : Int)] w fun e w' =>
    ∃ z r : Nat, e = .returned (.tuple #[.int .u32 (z : Int), .int .u32 (r : Int)]) ∧ z < 4294967296 ∧ r < 4294967296 ∧ Hid (r + 4294967296 * z = x * y + (c + d)) ∧ w = w' :=
  (limb_mul x y c d w (by omega) (by omega) (by omega) (by omega) (by omega) (by omega) (by omega) (by omega)).mono fun e w' ⟨he, hw⟩ => by
    have h1 : x * y ≤ 4294967295 * 4294967295 := Nat.mul_le_mul (by omega) (by omega)
    have e0 : (x : Int) * (y : Int) = ((x * y : Nat) : Int) := by simp
    rw [e0] at he
    generalize x * y = p at *
    exact ⟨(p + (c + d)) / 4294967296, (p + (c + d)) % 4294967296, by rw [he, show ((p : Int) + c + d) / 4294967296 = (((p + (c + d)) / 4294967296 : Nat) : Int) by omega, show ((p : Int) + c + d) % 4294967296 = (((p + (c + d)) % 4294967296 : Nat) : Int) by omega], by omega, by omega, Lib.hid (by omega), hw⟩
theorem limb_mul_nat3 (x y c : Nat) (w : World) (hx : x < 4294967296) (hy : y < 4294967296) (hc : c < 4294967296) : Calls Try.prog 61 #[.int .u32 (x : Int), .int .u32 (y : Int), .int .u32 (c : Int), .int .u32 0] w fun e w' =>
    ∃ z r : Nat, e = .returned (.tuple #[.int .u32 (z : Int), .int .u32 (r : Int)]) ∧ z < 4294967296 ∧ r < 4294967296 ∧ Hid (r + 4294967296 * z = x * y + c) ∧ w = w' :=
  limb_mul_nat4 x y c 0 w hx hy hc (by omega)
set_option maxRecDepth 4096 in
set_option maxHeartbeats 2000000 in
theorem prod_mul (a : Option Addr) (na cap : Nat) (la : List Nat) (b : Option Addr) (nb cap' : Nat) (lb : List Nat) (w0 : World) (ha : Wd w0 a na cap la) (hb : Wd w0 b nb cap' lb) (hna : na ≤ 4194304000000) (hnb : nb ≤ 4194304000000) :
    Calls Try.prog 36 #[.slice a na cap, .slice b nb cap'] w0 (Lst (dg (val la * val lb)) w0) := by
  obtain ⟨i0, hi, hz0, hz1, hz2⟩ := info_parts infoU32
  have Hb0 := Lib.hid hb
  have Hla : Hid ((dg (val la)).length ≤ na) := Lib.hid (by rw [← ha.len]; exact dg_length_val_le ha.ok)
  have Hlb : Hid ((dg (val lb)).length ≤ nb) := Lib.hid (by rw [← hb.len]; exact dg_length_val_le hb.ok)
  go_enter Try.func36, Try.ntmps36
  go_wp2_with fail
  refine (natSaid.norm _ _ _ _ _ ha (by omega)).mono ?_
  rintro e w1 ⟨a, n, c1, rfl, h1, b1⟩
  have H1 := Lib.hid h1
  clear ha hb h1
  go_wp2_with fail
  refine (natSaid.norm _ _ _ _ _ (Hb0.out.later b1) (by omega)).mono ?_
  rintro e w ⟨b, m, c2, rfl, h2, b2⟩
  have Ha := Lib.hid (H1.out.later b2)
  have Hb := Lib.hid h2
  have hn : n ≤ 4194304000000 := by have h1 := H1.out.len; have h2 := Hla.out; omega
  have hm : m ≤ 4194304000000 := by have h1 := Hb.out.len; have h2 := Hlb.out; omega
  have HB0 := Lib.hid (below_then b1 b2)
  have Hv : Hid (val (dg (val la)) * val (dg (val lb)) = val la * val lb) := Lib.hid (by rw [val_dg, val_dg])
  clear H1 Hb0 h2 b1 b2 Hla Hlb hna hnb
  generalize dg (val la) = A at *
  generalize dg (val lb) = B at *
  obtain ⟨N, hN⟩ : ∃ N : Nat, (n : Int) + (m : Int) = (N : Int) := ⟨n + m, by omega⟩
  have HN : Hid (N = n + m) := Lib.hid (by omega)
  have hNb : N ≤ 8388608000000 := by omega
  go_wp2_with (at_make; refine wpList_make_words _ rfl _ _ 23 rfl w.heap.size 85 i0 (.int .u32 0) Try.underlying23 hi hz0 hz1 rfl .i64 .i64 _ _ N N rfl rfl rfl rfl (Nat.le_refl _) (by rw [hz2]; omega) (by unfold maxLen; omega) (Nat.le_refl _) ?_; intro w1 hown1 hgrow1)
  rw [zeros_cells] at hown1
  have HO1 : Hid (Own w1 w.heap.size w.heap.size N N (List.replicate N 0)) := Lib.hid ⟨hown1, okw_zeros N⟩
  have hB1 : Below w.heap.size w w1 := (Below.refl _ _).grown hgrow1 (Nat.le_refl _) (fun k hk => by cases hk)
  clear hown1 hgrow1
  go_loopw [23] (fun iv wr => ∃ (i : Nat) (P : List Nat), i ≤ n ∧ iv = .int .i64 (i : Int) ∧ Hid (RowAt A B P m i) ∧ Hid (Own wr w.heap.size w.heap.size N N P) ∧ Below w.heap.size w wr) (fun iv _ => n - (intOf iv).toNat)
  case atStart => exact ⟨0, List.replicate N 0, by omega, rfl, Lib.hid (row_start _ _ _ _), HO1, hB1⟩
  case round =>
    clear HO1 hB1
    obtain ⟨i, P, hin, rfl, HR, HO, hB⟩ := hrel
    by_cases hlt : i < n
    · have hii : (i : Int) < (n : Int) := by omega
      obtain ⟨ba, oa, rfl, hca⟩ := (Ha.out.later hB).at (by omega)
      have hcai := hca i hlt
      have hxw := atw_lt Ha.out.ok i
      obtain ⟨x, hxx⟩ : ∃ x, x = atw A i := ⟨_, rfl⟩
      rw [← hxx] at hxw hcai
      have Hx := Lib.hid hxx
      clear hca hxx
      go_wp2
      go_loopw [8, 30] (fun sv jv wr => ∃ (j c : Nat) (P : List Nat), j ≤ m ∧ jv = .int .i64 (j : Int) ∧ sv = .int .u32 (c : Int) ∧ c < 4294967296 ∧ Hid (CellAt A B P m i j c) ∧ Hid (Own wr w.heap.size w.heap.size N N P) ∧ Below w.heap.size w wr) (fun _ jv _ => m - (intOf jv).toNat)
      case atStart => exact ⟨0, 0, P, by omega, rfl, rfl, by omega, Lib.hid (cell_start HR.out), HO, hB⟩
      case round =>
        clear HO hB HR hcai
        obtain ⟨j, c, P, hjm, rfl, rfl, hc, HC, HO, hB⟩ := hrel
        by_cases hjl : j < m
        · have hji : (j : Int) < (m : Int) := by omega
          obtain ⟨bb, ob, rfl, hcb⟩ := (Hb.out.later hB).at (by omega)
          have hcbj := hcb j hjl
          have hyw := atw_lt Hb.out.ok j
          obtain ⟨y, hyy⟩ : ∃ y, y = atw B j := ⟨_, rfl⟩
          rw [← hyy] at hyw hcbj
          have Hy := Lib.hid hyy
          obtain ⟨q, hq⟩ : ∃ q : Nat, (i : Int) + (j : Int) = (q : Int) := ⟨i + j, by omega⟩
          have Hq : Hid (q = i + j) := Lib.hid (by omega)
          have hqN : q < N := by have := HN.out; omega
          have hqi : (q : Int) < (N : Int) := by omega
          have hcell := HO.out.cell (k := q) hqN
          have hfro := HO.out.1.frozenAt q
          have huw := atw_lt HO.out.2 q
          obtain ⟨u, huu⟩ : ∃ u, u = atw P q := ⟨_, rfl⟩
          rw [← huu] at huw hcell
          have Hu := Lib.hid huu
          have hb := HO.out.base
          clear hcb hyy huu
          go_wp2_with fail
          refine (limb_mul_nat4 x y u c _ hxw hyw huw hc).mono ?_
          rintro e w' ⟨z, r, rfl, hz, hr, Hs, rfl⟩
          have HOs := Lib.hid (HO.out.set q r hr)
          have HBs := Lib.hid (hB.setCell (p := ⟨w.heap.size, q, none⟩) hb.1 (.int .u32 (r : Int)))
          go_wp2
          go_roundw
          case rel =>
            exact ⟨j + 1, z, P.set q r, by omega, by go_num, rfl, hz, Lib.hid (by
              have h1 := HC.out
              have h2 := HN.out
              have h3 := HO.out.len
              obtain rfl := Hq.out
              exact cell_step h1 hjl (by omega) (by rw [← Hx.out, ← Hy.out, ← Hu.out]; exact Hs.out)), HOs, HBs.out⟩
          case measure => simp [intOf]; omega
        · obtain rfl : j = m := by omega
          obtain ⟨q, hq⟩ : ∃ q : Nat, (i : Int) + (j : Int) = (q : Int) := ⟨i + j, by omega⟩
          have Hq : Hid (q = i + j) := Lib.hid (by omega)
          have hqN : q < N := by have := HN.out; omega
          have hqi : (q : Int) < (N : Int) := by omega
          have hcell := HO.out.cell (k := q) hqN
          have hfro := HO.out.1.frozenAt q
          generalize atw P q = u at hcell
          have hb := HO.out.base
          have HOs := Lib.hid (HO.out.set q c hc)
          have HBs := Lib.hid (hB.setCell (p := ⟨w.heap.size, q, none⟩) hb.1 (.int .u32 (c : Int)))
          go_wp2
          go_roundw
          case rel =>
            exact ⟨i + 1, P.set q c, by omega, by go_num, Lib.hid (by
              have h1 := HC.out
              have h2 := HN.out
              have h3 := HO.out.len
              obtain rfl := Hq.out
              exact row_next h1 Hb.out.len (by omega)), HOs, HBs.out⟩
          case measure => simp [intOf]; omega
    · obtain rfl : i = n := by omega
      have Hw : Hid (val P = val la * val lb) := Lib.hid (by rw [← Hv.out]; exact row_end HR.out Ha.out.len)
      go_wp2_with fail
      refine (natSaid.norm _ _ _ _ _ HO.out.wd (by omega)).mono ?_
      rintro e w' ⟨a', n', c', rfl, hwd, hbel⟩
      rw [Hw.out] at hwd
      have HWD := Lib.hid hwd
      clear hwd
      go_wp2
      go_ret
      exact ⟨_, _, _, rfl, HWD.out, below_then HB0.out (below_then hB hbel)⟩
end Go.Proofs.Ytipcgehcineblaa

/-
  The contracts of the document's answer for layer 8: Add, Mul.
-/
namespace Go.Proofs.Ytipcgehcineblaa
open Go.RowKit

/-- Three boxes of a call. -/
theorem boxes3_at (w : World) (x y z : Array Value) (t s r : TypeId) :
    (((w.alloc (.cells x t)).alloc (.cells y s)).alloc (.cells z r)).heap[w.heap.size]? = some (.cells x t (0, 0)) ∧ (((w.alloc (.cells x t)).alloc (.cells y s)).alloc (.cells z r)).heap[w.heap.size + 1]? = some (.cells y s (0, 0)) ∧ (((w.alloc (.cells x t)).alloc (.cells y s)).alloc (.cells z r)).heap[w.heap.size + 1 + 1]? = some (.cells z r (0, 0)) := by
  obtain ⟨h1, h2⟩ := boxes_at w (((w.alloc (.cells x t)).alloc (.cells y s)).alloc (.cells z r)) x y t s (below_alloc _ _)
  refine ⟨h1, h2, ?_⟩
  have h3 := blk_new ((w.alloc (.cells x t)).alloc (.cells y s)) z r
  rw [blk_size, blk_size] at h3
  exact h3
theorem four_cells {w : World} {A B : Nat} {x y z u : Value} {t s : TypeId} (h1 : w.heap[A]? = some (.cells #[x, y] t (0, 0))) (h2 : w.heap[B]? = some (.cells #[z, u] s (0, 0))) :
    w.cell? ⟨A, 0, none⟩ = some x ∧ w.cell? ⟨A, 1, none⟩ = some y ∧ w.cell? ⟨B, 0, none⟩ = some z ∧ w.cell? ⟨B, 1, none⟩ = some u := ⟨blk_cell h1 0, blk_cell h1 1, blk_cell h2 0, blk_cell h2 1⟩
theorem blk_apart {w : World} {A g : Nat} {o : Obj} (h : w.heap[A]? = some o) (hne : A ≠ g) (i : Nat) (u : Value) : (w.setCell ⟨g, i, none⟩ u).heap[A]? = some o := (Below.heap_setCell w ⟨g, i, none⟩ u A hne).trans h
theorem four_stored {w : World} {A B g : Nat} {x y z u : Value} {t s : TypeId} (h1 : w.heap[A]? = some (.cells #[x, y] t (0, 0))) (h2 : w.heap[B]? = some (.cells #[z, u] s (0, 0))) (hA : A ≠ g) (hB : B ≠ g) (p q : Value) :
    ((w.setCell ⟨g, 0, none⟩ p).setCell ⟨g, 1, none⟩ q).cell? ⟨A, 0, none⟩ = some x ∧ ((w.setCell ⟨g, 0, none⟩ p).setCell ⟨g, 1, none⟩ q).cell? ⟨A, 1, none⟩ = some y ∧ ((w.setCell ⟨g, 0, none⟩ p).setCell ⟨g, 1, none⟩ q).cell? ⟨B, 0, none⟩ = some z ∧ ((w.setCell ⟨g, 0, none⟩ p).setCell ⟨g, 1, none⟩ q).cell? ⟨B, 1, none⟩ = some u :=
  four_cells (blk_apart (blk_apart h1 hA 0 p) hA 1 q) (blk_apart (blk_apart h2 hB 0 p) hB 1 q)
theorem zval_add_same (neg : Bool) (u v : Nat) : zval neg (u + v) = zval neg u + zval neg v := by unfold zval; cases neg <;> simp <;> omega
theorem zval_add_less {na nb : Bool} {u v : Nat} (hne : na ≠ nb) (h : u < v) : zval nb (v - u) = zval na u + zval nb v := by
  unfold zval; cases na <;> cases nb <;> simp at hne ⊢ <;> omega
theorem zval_add_more {na nb : Bool} {u v : Nat} (hne : na ≠ nb) (h : v ≤ u) : zval na (u - v) = zval na u + zval nb v := by
  unfold zval; cases na <;> cases nb <;> simp at hne ⊢ <;> omega
theorem zval_mul (na nb : Bool) (u v : Nat) : zval (!(na == nb)) (u * v) = zval na u * zval nb v := by
  unfold zval; cases na <;> cases nb <;> simp [Int.neg_mul, Int.mul_neg]
end Go.Proofs.Ytipcgehcineblaa
