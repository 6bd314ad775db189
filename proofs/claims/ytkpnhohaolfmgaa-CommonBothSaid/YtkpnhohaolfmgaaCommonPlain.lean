/-
  Plain mathematics: the common divisor by Euclid's way from the heads of two numbers. Nothing of the program.
-/
import Derived.Test.YtkpnhohaolfmgaaQuotPlain
namespace Go.Proofs.Ytkpnhohaolfmgaa

/-- By how much so many times the one and so many times the other differ. -/
def gapOf (A B x z : Nat) : Nat := x * A - z * B + (z * B - x * A)
theorem gapOf_one (A B : Nat) : gapOf A B 1 0 = A := by unfold gapOf; omega
theorem gapOf_two (A B : Nat) : gapOf A B 0 1 = B := by unfold gapOf; omega
/-- Counts on the way from α and β: a and b are the last two rests. -/
structure Way (α β a b ya yb na nb : Nat) : Prop where
  side : (ya * α = a + yb * β ∧ nb * β = b + na * α ∧ ya * nb = yb * na + 1) ∨ (yb * β = a + ya * α ∧ na * α = b + nb * β ∧ yb * na = ya * nb + 1)
  sum : nb * a + yb * b = α
  le : na ≤ nb
  les : ya + na ≤ yb + nb
  pos : 1 ≤ nb
  ord : b ≤ a
theorem way_start {α β : Nat} (h : β ≤ α) : Way α β α β 1 0 0 1 := ⟨.inl ⟨by omega, by omega, by omega⟩, by omega, by omega, by omega, by omega, h⟩
theorem way_step {α β a b ya yb na nb : Nat} (h : Way α β a b ya yb na nb) (hb : nb ≤ b) : Way α β b (a % b) na nb (ya + a / b * na) (yb + a / b * nb) := by
  have h0 : 0 < b := by have := h.pos; omega
  have hq := Nat.div_add_mod a b
  have hr := Nat.mod_lt a h0
  have hq1 : 1 ≤ a / b := (Nat.le_div_iff_mul_le h0).2 (by have := h.ord; omega)
  generalize a / b = q at *
  generalize a % b = r at *
  subst hq
  have e1 : b * q * nb = q * nb * b := by rw [Nat.mul_comm b q, Nat.mul_assoc, Nat.mul_comm b nb, ← Nat.mul_assoc]
  refine ⟨?_, ?_, ?_, ?_, ?_, by omega⟩
  · have p1 : ∀ z : Nat, q * na * z = q * (na * z) := fun z => Nat.mul_assoc _ _ _
    have p2 : ∀ z : Nat, q * nb * z = q * (nb * z) := fun z => Nat.mul_assoc _ _ _
    have p3 : nb * (q * na) = q * (nb * na) := by rw [Nat.mul_left_comm]
    have p4 : na * (q * nb) = q * (nb * na) := by rw [Nat.mul_left_comm, Nat.mul_comm na nb]
    have p5 : b * q = q * b := Nat.mul_comm _ _
    have p6 : na * yb = yb * na := Nat.mul_comm _ _
    have p7 : nb * ya = ya * nb := Nat.mul_comm _ _
    rcases h.side with ⟨h1, h2, h3⟩ | ⟨h1, h2, h3⟩
    · have h4 : q * (nb * β) = q * b + q * (na * α) := by rw [h2, Nat.mul_add]
      right
      refine ⟨by omega, ?_, ?_⟩
      · rw [Nat.add_mul, Nat.add_mul, p1, p2]; omega
      · rw [Nat.mul_add, Nat.mul_add, p3, p4]; omega
    · have h4 : q * (na * α) = q * b + q * (nb * β) := by rw [h2, Nat.mul_add]
      left
      refine ⟨by omega, ?_, ?_⟩
      · rw [Nat.add_mul, Nat.add_mul, p1, p2]; omega
      · rw [Nat.mul_add, Nat.mul_add, p3, p4]; omega
  · have h1 := h.sum
    rw [Nat.add_mul, ← h1, Nat.mul_add nb, show nb * (b * q) = q * nb * b by rw [← e1, Nat.mul_comm]]
    omega
  · obtain ⟨k, rfl⟩ : ∃ k, q = k + 1 := ⟨q - 1, by omega⟩
    have h1 : k * na ≤ k * nb := Nat.mul_le_mul_left _ h.le
    have h2 := h.les
    rw [Nat.add_mul, Nat.add_mul]; omega
  · have h1 : q * na ≤ q * nb := Nat.mul_le_mul_left _ h.le
    have h2 := h.les
    have h3 := h.le
    omega
  · have h1 : 1 * nb ≤ q * nb := Nat.mul_le_mul_right _ hq1
    have h2 := h.pos
    omega
/-- Where Collins' condition holds, the numbers behind the heads go the same way. -/
theorem way_true {A B M a b ya yb na nb : Nat} (hM : 0 < M) (h : Way (A / M) (B / M) a b ya yb na nb) (hb : nb ≤ b) (hab : yb + nb ≤ a - b) :
    gapOf A B na nb < gapOf A B ya yb ∧ Nat.gcd (gapOf A B ya yb) (gapOf A B na nb) = Nat.gcd A B := by
  have hA := Nat.div_add_mod A M
  have hB := Nat.div_add_mod B M
  have hA0 := Nat.mod_lt A hM
  have hB0 := Nat.mod_lt B hM
  generalize A / M = α at *
  generalize B / M = β at *
  generalize A % M = A0 at *
  generalize B % M = B0 at *
  obtain ⟨d, rfl⟩ : ∃ d, a = b + d := ⟨a - b, by have := h.ord; omega⟩
  have hd : yb + nb ≤ d := by omega
  have hle := h.le
  have hles := h.les
  have hpos := h.pos
  -- what stands behind the heads weighs less than a step of theirs
  have k1 : na * A0 ≤ b * M := Nat.mul_le_mul (by omega) (by omega)
  have k2 : nb * B0 ≤ b * M := Nat.mul_le_mul (by omega) (by omega)
  have k3 : (yb + nb) * M ≤ d * M := Nat.mul_le_mul_right _ hd
  have k4 : (yb + nb) * B0 < (yb + nb) * M := Nat.mul_lt_mul_of_pos_left hB0 (by omega)
  have k5 : (ya + na) * A0 ≤ (yb + nb) * A0 := Nat.mul_le_mul_right _ hles
  have k6 : (yb + nb) * A0 < (yb + nb) * M := Nat.mul_lt_mul_of_pos_left hA0 (by omega)
  simp only [Nat.add_mul] at k3 k4 k5 k6
  have x1 : ∀ z : Nat, z * (M * α + A0) = M * (z * α) + z * A0 := fun z => by rw [Nat.mul_add, Nat.mul_left_comm]
  have x2 : ∀ z : Nat, z * (M * β + B0) = M * (z * β) + z * B0 := fun z => by rw [Nat.mul_add, Nat.mul_left_comm]
  have y1 := x1 ya
  have y2 := x2 yb
  have y3 := x1 na
  have y4 := x2 nb
  rw [hA] at y1 y3
  rw [hB] at y2 y4
  have hbM : b * M = M * b := Nat.mul_comm _ _
  have hdM : d * M = M * d := Nat.mul_comm _ _
  rcases h.side with ⟨h1, h2, h3⟩ | ⟨h1, h2, h3⟩
  · have z1 : M * (ya * α) = M * b + M * d + M * (yb * β) := by rw [h1, Nat.mul_add, Nat.mul_add]
    have z2 : M * (nb * β) = M * b + M * (na * α) := by rw [h2, Nat.mul_add]
    have g1 : yb * B ≤ ya * A := by omega
    have g2 : na * A ≤ nb * B := by omega
    have r1 : gapOf A B ya yb = ya * A - yb * B := by unfold gapOf; omega
    have r2 : gapOf A B na nb = nb * B - na * A := by unfold gapOf; omega
    rw [r1, r2]
    refine ⟨by omega, ?_⟩
    obtain ⟨R, hR⟩ : ∃ R, ya * A = R + yb * B := ⟨ya * A - yb * B, by omega⟩
    obtain ⟨S, hS⟩ : ∃ S, nb * B = S + na * A := ⟨nb * B - na * A, by omega⟩
    rw [hR, hS, Nat.add_sub_cancel, Nat.add_sub_cancel]
    have eA : A = nb * R + yb * S := by
      have e1 : nb * (ya * A) = nb * R + nb * (yb * B) := by rw [hR, Nat.mul_add]
      have e2 : yb * (nb * B) = yb * S + yb * (na * A) := by rw [hS, Nat.mul_add]
      have e3 : nb * (yb * B) = yb * (nb * B) := Nat.mul_left_comm _ _ _
      have e4 : nb * (ya * A) = yb * (na * A) + A := by rw [← Nat.mul_assoc, Nat.mul_comm nb ya, h3, Nat.add_mul, Nat.mul_assoc, Nat.one_mul]
      omega
    have eB : B = na * R + ya * S := by
      have e1 : na * (ya * A) = na * R + na * (yb * B) := by rw [hR, Nat.mul_add]
      have e2 : ya * (nb * B) = ya * S + ya * (na * A) := by rw [hS, Nat.mul_add]
      have e3 : na * (ya * A) = ya * (na * A) := Nat.mul_left_comm _ _ _
      have e4 : ya * (nb * B) = na * (yb * B) + B := by rw [← Nat.mul_assoc, h3, Nat.add_mul, Nat.one_mul, Nat.mul_comm yb na, Nat.mul_assoc]
      omega
    apply Nat.dvd_antisymm
    · have d1 := Nat.gcd_dvd_left R S
      have d2 := Nat.gcd_dvd_right R S
      refine Nat.dvd_gcd ?_ ?_
      · conv => rhs; rw [eA]
        exact Nat.dvd_add (Nat.dvd_mul_left_of_dvd d1 _) (Nat.dvd_mul_left_of_dvd d2 _)
      · conv => rhs; rw [eB]
        exact Nat.dvd_add (Nat.dvd_mul_left_of_dvd d1 _) (Nat.dvd_mul_left_of_dvd d2 _)
    · have d1 := Nat.gcd_dvd_left A B
      have d2 := Nat.gcd_dvd_right A B
      refine Nat.dvd_gcd ?_ ?_
      · exact (Nat.dvd_add_iff_left (Nat.dvd_mul_left_of_dvd d2 yb)).2 (hR ▸ Nat.dvd_mul_left_of_dvd d1 ya)
      · exact (Nat.dvd_add_iff_left (Nat.dvd_mul_left_of_dvd d1 na)).2 (hS ▸ Nat.dvd_mul_left_of_dvd d2 nb)
  · have z1 : M * (yb * β) = M * b + M * d + M * (ya * α) := by rw [h1, Nat.mul_add, Nat.mul_add]
    have z2 : M * (na * α) = M * b + M * (nb * β) := by rw [h2, Nat.mul_add]
    have g1 : ya * A ≤ yb * B := by omega
    have g2 : nb * B ≤ na * A := by omega
    have r1 : gapOf A B ya yb = yb * B - ya * A := by unfold gapOf; omega
    have r2 : gapOf A B na nb = na * A - nb * B := by unfold gapOf; omega
    rw [r1, r2]
    refine ⟨by omega, ?_⟩
    obtain ⟨R, hR⟩ : ∃ R, yb * B = R + ya * A := ⟨yb * B - ya * A, by omega⟩
    obtain ⟨S, hS⟩ : ∃ S, na * A = S + nb * B := ⟨na * A - nb * B, by omega⟩
    rw [hR, hS, Nat.add_sub_cancel, Nat.add_sub_cancel]
    have eA : A = nb * R + yb * S := by
      have e1 : nb * (yb * B) = nb * R + nb * (ya * A) := by rw [hR, Nat.mul_add]
      have e2 : yb * (na * A) = yb * S + yb * (nb * B) := by rw [hS, Nat.mul_add]
      have e3 : nb * (yb * B) = yb * (nb * B) := Nat.mul_left_comm _ _ _
      have e4 : yb * (na * A) = nb * (ya * A) + A := by rw [← Nat.mul_assoc, h3, Nat.add_mul, Nat.one_mul, Nat.mul_comm ya nb, Nat.mul_assoc]
      omega
    have eB : B = na * R + ya * S := by
      have e1 : na * (yb * B) = na * R + na * (ya * A) := by rw [hR, Nat.mul_add]
      have e2 : ya * (na * A) = ya * S + ya * (nb * B) := by rw [hS, Nat.mul_add]
      have e3 : na * (ya * A) = ya * (na * A) := Nat.mul_left_comm _ _ _
      have e4 : na * (yb * B) = ya * (nb * B) + B := by rw [← Nat.mul_assoc, Nat.mul_comm na yb, h3, Nat.add_mul, Nat.mul_assoc, Nat.one_mul]
      omega
    apply Nat.dvd_antisymm
    · have d1 := Nat.gcd_dvd_left R S
      have d2 := Nat.gcd_dvd_right R S
      refine Nat.dvd_gcd ?_ ?_
      · conv => rhs; rw [eA]
        exact Nat.dvd_add (Nat.dvd_mul_left_of_dvd d1 _) (Nat.dvd_mul_left_of_dvd d2 _)
      · conv => rhs; rw [eB]
        exact Nat.dvd_add (Nat.dvd_mul_left_of_dvd d1 _) (Nat.dvd_mul_left_of_dvd d2 _)
    · have d1 := Nat.gcd_dvd_left A B
      have d2 := Nat.gcd_dvd_right A B
      refine Nat.dvd_gcd ?_ ?_
      · exact (Nat.dvd_add_iff_left (Nat.dvd_mul_left_of_dvd d1 ya)).2 (hR ▸ Nat.dvd_mul_left_of_dvd d2 yb)
      · exact (Nat.dvd_add_iff_left (Nat.dvd_mul_left_of_dvd d2 nb)).2 (hS ▸ Nat.dvd_mul_left_of_dvd d1 na)
/-- Counts with which the two numbers become two others with the same common divisor: lesser ones, unless xb is 0. -/
structure Good (A B xa xb ya yb : Nat) : Prop where
  lt : gapOf A B ya yb < gapOf A B xa xb
  gcd : Nat.gcd (gapOf A B xa xb) (gapOf A B ya yb) = Nat.gcd A B
  second : gapOf A B ya yb ≤ B
  first : xb = 0 ∨ gapOf A B xa xb ≤ B
/-- What stands at the head of the loop. -/
structure Heads (A B M a b xa xb ya yb na nb : Nat) : Prop where
  way : Way (A / M) (B / M) a b ya yb na nb
  wx : xa < 4294967296 ∧ xb < 4294967296
  wy : ya < 4294967296 ∧ yb < 4294967296
  wn : na < 18446744073709551616 ∧ nb < 18446744073709551616
  here : (xb = 0 ∧ ya = 1 ∧ yb = 0 ∧ na = 0 ∧ nb = 1) ∨ Good A B xa xb ya yb
theorem heads_start {A B M : Nat} (h : B ≤ A) : Heads A B M (A / M) (B / M) 0 0 1 0 0 1 := ⟨way_start (Nat.div_le_div_right h), by omega, by omega, by omega, .inl ⟨rfl, rfl, rfl, rfl, rfl⟩⟩
theorem heads_small {A B M a b xa xb ya yb na nb : Nat} (h : Heads A B M a b xa xb ya yb na nb) (hα : A / M < 18446744073709551616) (hb : nb ≤ b) : na < 4294967296 ∧ nb < 4294967296 := by
  have h1 := h.way.sum
  have h2 := h.way.le
  have h3 := h.way.ord
  have h4 : nb * nb ≤ nb * a := Nat.mul_le_mul_left _ (by omega)
  have h5 : nb < 4294967296 := by
    rcases Nat.lt_or_ge nb 4294967296 with h6 | h6
    · exact h6
    · have h7 : 4294967296 * 4294967296 ≤ nb * nb := Nat.mul_le_mul h6 h6
      omega
  omega
/-- What the step makes stays within 64 bits. -/
theorem heads_room {A B M a b xa xb ya yb na nb : Nat} (h : Heads A B M a b xa xb ya yb na nb) (hα : A / M < 18446744073709551616) (hb : nb ≤ b) :
    a / b * na < 18446744073709551616 ∧ a / b * nb < 18446744073709551616 ∧ ya + a / b * na < 18446744073709551616 ∧ yb + a / b * nb < 18446744073709551616 := by
  have h1 := way_step h.way hb
  have h2 := h1.sum
  have h3 := h1.le
  have h4 := h.way.pos
  have h5 : (yb + a / b * nb) * 1 ≤ (yb + a / b * nb) * b := Nat.mul_le_mul_left _ (by omega)
  omega
theorem heads_step {A B M a b xa xb ya yb na nb : Nat} (hM : 0 < M) (h : Heads A B M a b xa xb ya yb na nb) (hα : A / M < 18446744073709551616) (hb : nb ≤ b) (hab : yb + nb ≤ a - b) :
    Heads A B M b (a % b) ya yb na nb (ya + a / b * na) (yb + a / b * nb) := by
  obtain ⟨_, _, r3, r4⟩ := heads_room h hα hb
  obtain ⟨t1, t2⟩ := way_true hM h.way hb hab
  refine ⟨way_step h.way hb, h.wy, heads_small h hα hb, ⟨r3, r4⟩, .inr ⟨t1, t2, ?_, ?_⟩⟩
  · rcases h.here with ⟨_, rfl, rfl, rfl, rfl⟩ | g
    · rw [gapOf_two]; exact Nat.le_refl _
    · have := g.second; omega
  · rcases h.here with ⟨_, rfl, rfl, rfl, rfl⟩ | g
    · exact .inl rfl
    · exact .inr g.second
/-- The head of a list: its highest places, as many as 64 bits hold. -/
theorem head_word {l : List Nat} {k s : Nat} (ho : okw l) (hs : s ≤ 31) (hv : val l < 2 ^ (32 * (k + 3) - s)) :
    atw l (k + 2) * 4294967296 + atw l (k + 1) < 2 ^ (64 - s) ∧ atw l k / 2 ^ (32 - s) < 2 ^ s ∧ (atw l (k + 2) * 4294967296 + atw l (k + 1)) * 2 ^ s + atw l k / 2 ^ (32 - s) = val l / 2 ^ (32 * k + (32 - s)) := by
  have e1 : val l / 2 ^ (32 * k) = top l k := (top_div ho k).symm
  have e2 : top l k < 2 ^ (96 - s) := by
    rw [← e1]
    rw [Nat.div_lt_iff_lt_mul (Nat.two_pow_pos _), ← Nat.pow_add, show 96 - s + 32 * k = 32 * (k + 3) - s by omega]
    exact hv
  have h1 : top l k = atw l k + 4294967296 * top l (k + 1) := top_succ l k
  have h2 : top l (k + 1) = atw l (k + 1) + 4294967296 * top l (k + 2) := top_succ l (k + 1)
  have h3 : top l (k + 2) = atw l (k + 2) + 4294967296 * top l (k + 3) := top_succ l (k + 2)
  have h4 : 2 ^ (96 - s) ≤ (79228162514264337593543950336 : Nat) := by
    rw [show (79228162514264337593543950336 : Nat) = 2 ^ 96 by decide]
    exact Nat.pow_le_pow_right (by decide) (by omega)
  have hw := atw_lt ho k
  have hP : 2 ^ s * 2 ^ (32 - s) = (4294967296 : Nat) := by rw [← Nat.pow_add, show s + (32 - s) = 32 by omega]
  have hQ : 2 ^ (64 - s) * 4294967296 = 2 ^ (96 - s) := by rw [show (4294967296 : Nat) = 2 ^ 32 by decide, ← Nat.pow_add, show 64 - s + 32 = 96 - s by omega]
  have e5 : val l / 2 ^ (32 * k + (32 - s)) = top l k / 2 ^ (32 - s) := by rw [Nat.pow_add, ← Nat.div_div_eq_div_mul, e1]
  have hp := Nat.two_pow_pos (32 - s)
  rw [e5]
  clear e1 e5 hv
  generalize 2 ^ (32 - s) = P at *
  generalize 2 ^ (96 - s) = Q at *
  generalize 2 ^ (64 - s) = R at *
  generalize 2 ^ s = S at *
  generalize atw l k = x0 at *
  generalize atw l (k + 1) = x1 at *
  generalize atw l (k + 2) = x2 at *
  generalize top l (k + 3) = t3 at *
  generalize top l (k + 2) = t2 at *
  generalize top l (k + 1) = t1 at *
  generalize top l k = t0 at *
  have e3 : t3 = 0 := by omega
  have e4 : t0 = (x2 * 4294967296 + x1) * 4294967296 + x0 := by omega
  refine ⟨by omega, ?_, ?_⟩
  · rw [Nat.div_lt_iff_lt_mul hp, hP]; exact hw
  · have e6 : (x2 * 4294967296 + x1) * 4294967296 = P * ((x2 * 4294967296 + x1) * S) := by
      rw [← hP]
      generalize x2 * (S * P) + x1 = H
      rw [Nat.mul_comm S P, Nat.mul_left_comm]
    rw [e4, e6, Nat.mul_add_div hp]
/-- A number with so many noughts ahead of its first bit. -/
theorem head_room {l : List Nat} {n : Nat} (ho : okw l) (hl : l.length = n) (hn : 3 ≤ n) (h0 : atw l (n - 1) ≠ 0) : val l < 2 ^ (32 * n - (32 - blen (atw l (n - 1)))) := by
  obtain ⟨i, rfl⟩ : ∃ i, n = i + 1 := ⟨n - 1, by omega⟩
  rw [Nat.add_sub_cancel] at h0 ⊢
  have h1 := blen_top ho (i := i) (by rw [top_ge (by omega)]) h0
  have h2 := lt_blen (val l)
  have h3 : blen (atw l i) ≤ 32 := blen_le.2 (atw_lt ho i)
  rw [h1] at h2
  rw [show 32 * (i + 1) - (32 - blen (atw l i)) = 32 * i + blen (atw l i) by omega]
  exact h2
/-- Euclid's step. -/
theorem gcd_rest {X Y : Nat} (h : Y ≠ 0) : Nat.gcd Y (X % Y) = Nat.gcd X Y ∧ X % Y < Y := by
  refine ⟨?_, Nat.mod_lt _ (Nat.pos_of_ne_zero h)⟩
  rw [Nat.gcd_comm X Y, Nat.gcd_rec Y X, Nat.gcd_comm]
end Go.Proofs.Ytkpnhohaolfmgaa
