/-
  Several texts of this claim as one, group 6.
-/
import Derived.Test.YtipcgehcineblaaG3
import Derived.Test.YtipcgehcineblaaG2
import Derived.Test.YtipcgehcineblaaG5
import Derived.BigRegion
import Derived.Deep.RegionHeld3
/-
  Plain mathematics: the common divisor by Euclid's way from the heads of two numbers. Nothing of the program.
-/
namespace Go.Proofs.Ytipcgehcineblaa

/-- By how much so many times the one and so many times the other differ. -/
def gapOf (A B x z : Nat) : Nat := x * A - z * B + (z * B - x * A)
theorem gapOf_two (A B : Nat) : gapOf A B 0 1 = B := by unfold gapOf; omega
/-- Counts on the way from α and β: a and b are the last two rests. -/
structure Way (α β a b ya yb na nb : Nat) : Prop where
  side : (ya * α = a + yb * β ∧ nb * β = b + na * α ∧ ya * nb = yb * na + 1) ∨ (yb * β = a + ya * α ∧ na * α = b + nb * β ∧ yb * na = ya * nb + 1)
  sum : nb * a + yb * b = α
  le : na ≤ nb
  les : ya + na ≤ yb + nb
  pos : 1 ≤ nb
  ord : b ≤ a
theorem way_start {α β : Nat} (h : β ≤ α) : Way α β α β 1 0 0 1 := ⟨.inl ⟨by omega, by omega, by omega⟩, by omega, by omega, by omega, by omega, h⟩
theorem way_step {α β a b ya yb na nb : Nat} (h : Way α β a b ya yb na nb) (hb : nb ≤ b) : Way α β b (a % b) na nb (ya + a / b * na) (yb + a / b * nb) := by
  have h0 : 0 < b := by have := h.pos; omega
  have hq := Nat.div_add_mod a b
  have hr := Nat.mod_lt a h0
  have hq1 : 1 ≤ a / b := (Nat.le_div_iff_mul_le h0).2 (by have := h.ord; omega)
  generalize a / b = q at *
  generalize a % b = r at *
  subst hq
  have e1 : b * q * nb = q * nb * b := by rw [Nat.mul_comm b q, Nat.mul_assoc, Nat.mul_comm b nb, ← Nat.mul_assoc]
  refine ⟨?_, ?_, ?_, ?_, ?_, by omega⟩
  · have p1 : ∀ z : Nat, q * na * z = q * (na * z) := fun z => Nat.mul_assoc _ _ _
    have p2 : ∀ z : Nat, q * nb * z = q * (nb * z) := fun z => Nat.mul_assoc _ _ _
    have p3 : nb * (q * na) = q * (nb * na) := by rw [Nat.mul_left_comm]
    have p4 : na * (q * nb) = q * (nb * na) := by rw [Nat.mul_left_comm, Nat.mul_comm na nb]
    have p5 : b * q = q * b := Nat.mul_comm _ _
    have p6 : na * yb = yb * na := Nat.mul_comm _ _
    have p7 : nb * ya = ya * nb := Nat.mul_comm _ _
    rcases h.side with ⟨h1, h2, h3⟩ | ⟨h1, h2, h3⟩
    · have h4 : q * (nb * β) = q * b + q * (na * α) := by rw [h2, Nat.mul_add]
      right
      refine ⟨by omega, ?_, ?_⟩
      · rw [Nat.add_mul, Nat.add_mul, p1, p2]; omega
      · rw [Nat.mul_add, Nat.mul_add, p3, p4]; omega
    · have h4 : q * (na * α) = q * b + q * (nb * β) := by rw [h2, Nat.mul_add]
      left
      refine ⟨by omega, ?_, ?_⟩
      · rw [Nat.add_mul, Nat.add_mul, p1, p2]; omega
      · rw [Nat.mul_add, Nat.mul_add, p3, p4]; omega
  · have h1 := h.sum
    rw [Nat.add_mul, ← h1, Nat.mul_add nb, show nb * (b * q) = q * nb * b by rw [← e1, Nat.mul_comm]]
    omega
  · obtain ⟨k, rfl⟩ : ∃ k, q = k + 1 := ⟨q - 1, by omega⟩
    have h1 : k * na ≤ k * nb := Nat.mul_le_mul_left _ h.le
    have h2 := h.les
    rw [Nat.add_mul, Nat.add_mul]; omega
  · have h1 : q * na ≤ q * nb := Nat.mul_le_mul_left _ h.le
    have h2 := h.les
    have h3 := h.le
    omega
  · have h1 : 1 * nb ≤ q * nb := Nat.mul_le_mul_right _ hq1
    have h2 := h.pos
    omega
/-- Where Collins' condition holds, the numbers behind the heads go the same way. -/
theorem way_true {A B M a b ya yb na nb : Nat} (hM : 0 < M) (h : Way (A / M) (B / M) a b ya yb na nb) (hb : nb ≤ b) (hab : yb + nb ≤ a - b) :
    gapOf A B na nb < gapOf A B ya yb ∧ Nat.gcd (gapOf A B ya yb) (gapOf A B na nb) = Nat.gcd A B := by
  have hA := Nat.div_add_mod A M
  have hB := Nat.div_add_mod B M
  have hA0 := Nat.mod_lt A hM
  have hB0 := Nat.mod_lt B hM
  generalize A / M = α at *
  generalize B / M = β at *
  generalize A % M = A0 at *
  generalize B % M = B0 at *
  obtain ⟨d, rfl⟩ : ∃ d, a = b + d := ⟨a - b, by have := h.ord; omega⟩
  have hd : yb + nb ≤ d := by omega
  have hle := h.le
  have hles := h.les
  have hpos := h.pos
  -- what stands behind the heads weighs less than a step of theirs
  have k1 : na * A0 ≤ b * M := Nat.mul_le_mul (by omega) (by omega)
  have k2 : nb * B0 ≤ b * M := Nat.mul_le_mul (by omega) (by omega)
  have k3 : (yb + nb) * M ≤ d * M := Nat.mul_le_mul_right _ hd
  have k4 : (yb + nb) * B0 < (yb + nb) * M := Nat.mul_lt_mul_of_pos_left hB0 (by omega)
  have k5 : (ya + na) * A0 ≤ (yb + nb) * A0 := Nat.mul_le_mul_right _ hles
  have k6 : (yb + nb) * A0 < (yb + nb) * M := Nat.mul_lt_mul_of_pos_left hA0 (by omega)
  simp only [Nat.add_mul] at k3 k4 k5 k6
  have x1 : ∀ z : Nat, z * (M * α + A0) = M * (z * α) + z * A0 := fun z => by rw [Nat.mul_add, Nat.mul_left_comm]
  have x2 : ∀ z : Nat, z * (M * β + B0) = M * (z * β) + z * B0 := fun z => by rw [Nat.mul_add, Nat.mul_left_comm]
  have y1 := x1 ya
  have y2 := x2 yb
  have y3 := x1 na
  have y4 := x2 nb
  rw [hA] at y1 y3
  rw [hB] at y2 y4
  have hbM : b * M = M * b := Nat.mul_comm _ _
  have hdM : d * M = M * d := Nat.mul_comm _ _
  rcases h.side with ⟨h1, h2, h3⟩ | ⟨h1, h2, h3⟩
  · have z1 : M * (ya * α) = M * b + M * d + M * (yb * β) := by rw [h1, Nat.mul_add, Nat.mul_add]
    have z2 : M * (nb * β) = M * b + M * (na * α) := by rw [h2, Nat.mul_add]
    have g1 : yb * B ≤ ya * A := by omega
    have g2 : na * A ≤ nb * B := by omega
    have r1 : gapOf A B ya yb = ya * A - yb * B := by unfold gapOf; omega
    have r2 : gapOf A B na nb = nb * B - na * A := by unfold gapOf; omega
    rw [r1, r2]
    refine ⟨by omega, ?_⟩
    obtain ⟨R, hR⟩ : ∃ R, ya * A = R + yb * B := ⟨ya * A - yb * B, by omega⟩
    obtain ⟨S, hS⟩ : ∃ S, nb * B = S + na * A := ⟨nb * B - na * A, by omega⟩
    rw [hR, hS, Nat.add_sub_cancel, Nat.add_sub_cancel]
    have eA : A = nb * R + yb * S := by
      have e1 : nb * (ya * A) = nb * R + nb * (yb * B) := by rw [hR, Nat.mul_add]
      have e2 : yb * (nb * B) = yb * S + yb * (na * A) := by rw [hS, Nat.mul_add]
      have e3 : nb * (yb * B) = yb * (nb * B) := Nat.mul_left_comm _ _ _
      have e4 : nb * (ya * A) = yb * (na * A) + A := by rw [← Nat.mul_assoc, Nat.mul_comm nb ya, h3, Nat.add_mul, Nat.mul_assoc, Nat.one_mul]
      omega
    have eB : B = na * R + ya * S := by
      have e1 : na * (ya * A) = na * R + na * (yb * B) := by rw [hR, Nat.mul_add]
      have e2 : ya * (nb * B) = ya * S + ya * (na * A) := by rw [hS, Nat.mul_add]
      have e3 : na * (ya * A) = ya * (na * A) := Nat.mul_left_comm _ _ _
      have e4 : ya * (nb * B) = na * (yb * B) + B := by rw [← Nat.mul_assoc, h3, Nat.add_mul, Nat.one_mul, Nat.mul_comm yb na, Nat.mul_assoc]
      omega
    apply Nat.dvd_antisymm
    · have d1 := Nat.gcd_dvd_left R S
      have d2 := Nat.gcd_dvd_right R S
      refine Nat.dvd_gcd ?_ ?_
      · conv => rhs; rw [eA]
        exact Nat.dvd_add (Nat.dvd_mul_left_of_dvd d1 _) (Nat.dvd_mul_left_of_dvd d2 _)
      · conv => rhs; rw [eB]
        exact Nat.dvd_add (Nat.dvd_mul_left_of_dvd d1 _) (Nat.dvd_mul_left_of_dvd d2 _)
    · have d1 := Nat.gcd_dvd_left A B
      have d2 := Nat.gcd_dvd_right A B
      refine Nat.dvd_gcd ?_ ?_
      · exact (Nat.dvd_add_iff_left (Nat.dvd_mul_left_of_dvd d2 yb)).2 (hR ▸ Nat.dvd_mul_left_of_dvd d1 ya)
      · exact (Nat.dvd_add_iff_left (Nat.dvd_mul_left_of_dvd d1 na)).2 (hS ▸ Nat.dvd_mul_left_of_dvd d2 nb)
  · have z1 : M * (yb * β) = M * b + M * d + M * (ya * α) := by rw [h1, Nat.mul_add, Nat.mul_add]
    have z2 : M * (na * α) = M * b + M * (nb * β) := by rw [h2, Nat.mul_add]
    have g1 : ya * A ≤ yb * B := by omega
    have g2 : nb * B ≤ na * A := by omega
    have r1 : gapOf A B ya yb = yb * B - ya * A := by unfold gapOf; omega
    have r2 : gapOf A B na nb = na * A - nb * B := by unfold gapOf; omega
    rw [r1, r2]
    refine ⟨by omega, ?_⟩
    obtain ⟨R, hR⟩ : ∃ R, yb * B = R + ya * A := ⟨yb * B - ya * A, by omega⟩
    obtain ⟨S, hS⟩ : ∃ S, na * A = S + nb * B := ⟨na * A - nb * B, by omega⟩
    rw [hR, hS, Nat.add_sub_cancel, Nat.add_sub_cancel]
    have eA : A = nb * R + yb * S := by
      have e1 : nb * (yb * B) = nb * R + nb * (ya * A) := by rw [hR, Nat.mul_add]
      have e2 : yb * (na * A) = yb * S + yb * (nb * B) := by rw [hS, Nat.mul_add]
      have e3 : nb * (yb * B) = yb * (nb * B) := Nat.mul_left_comm _ _ _
      have e4 : yb * (na * A) = nb * (ya * A) + A := by rw [← Nat.mul_assoc, h3, Nat.add_mul, Nat.one_mul, Nat.mul_comm ya nb, Nat.mul_assoc]
      omega
    have eB : B = na * R + ya * S := by
      have e1 : na * (yb * B) = na * R + na * (ya * A) := by rw [hR, Nat.mul_add]
      have e2 : ya * (na * A) = ya * S + ya * (nb * B) := by rw [hS, Nat.mul_add]
      have e3 : na * (ya * A) = ya * (na * A) := Nat.mul_left_comm _ _ _
      have e4 : na * (yb * B) = ya * (nb * B) + B := by rw [← Nat.mul_assoc, Nat.mul_comm na yb, h3, Nat.add_mul, Nat.mul_assoc, Nat.one_mul]
      omega
    apply Nat.dvd_antisymm
    · have d1 := Nat.gcd_dvd_left R S
      have d2 := Nat.gcd_dvd_right R S
      refine Nat.dvd_gcd ?_ ?_
      · conv => rhs; rw [eA]
        exact Nat.dvd_add (Nat.dvd_mul_left_of_dvd d1 _) (Nat.dvd_mul_left_of_dvd d2 _)
      · conv => rhs; rw [eB]
        exact Nat.dvd_add (Nat.dvd_mul_left_of_dvd d1 _) (Nat.dvd_mul_left_of_dvd d2 _)
    · have d1 := Nat.gcd_dvd_left A B
      have d2 := Nat.gcd_dvd_right A B
      refine Nat.dvd_gcd ?_ ?_
      · exact (Nat.dvd_add_iff_left (Nat.dvd_mul_left_of_dvd d1 ya)).2 (hR ▸ Nat.dvd_mul_left_of_dvd d2 yb)
      · exact (Nat.dvd_add_iff_left (Nat.dvd_mul_left_of_dvd d2 nb)).2 (hS ▸ Nat.dvd_mul_left_of_dvd d1 na)
/-- Counts with which the two numbers become two others with the same common divisor: lesser ones, unless xb is 0. -/
structure Good (A B xa xb ya yb : Nat) : Prop where
  lt : gapOf A B ya yb < gapOf A B xa xb
  gcd : Nat.gcd (gapOf A B xa xb) (gapOf A B ya yb) = Nat.gcd A B
  second : gapOf A B ya yb ≤ B
  first : xb = 0 ∨ gapOf A B xa xb ≤ B
/-- What stands at the head of the loop. -/
structure Heads (A B M a b xa xb ya yb na nb : Nat) : Prop where
  way : Way (A / M) (B / M) a b ya yb na nb
  wx : xa < 4294967296 ∧ xb < 4294967296
  wy : ya < 4294967296 ∧ yb < 4294967296
  wn : na < 18446744073709551616 ∧ nb < 18446744073709551616
  here : (xb = 0 ∧ ya = 1 ∧ yb = 0 ∧ na = 0 ∧ nb = 1) ∨ Good A B xa xb ya yb
theorem heads_start {A B M : Nat} (h : B ≤ A) : Heads A B M (A / M) (B / M) 0 0 1 0 0 1 := ⟨way_start (Nat.div_le_div_right h), by omega, by omega, by omega, .inl ⟨rfl, rfl, rfl, rfl, rfl⟩⟩
theorem heads_small {A B M a b xa xb ya yb na nb : Nat} (h : Heads A B M a b xa xb ya yb na nb) (hα : A / M < 18446744073709551616) (hb : nb ≤ b) : na < 4294967296 ∧ nb < 4294967296 := by
  have h1 := h.way.sum
  have h2 := h.way.le
  have h3 := h.way.ord
  have h4 : nb * nb ≤ nb * a := Nat.mul_le_mul_left _ (by omega)
  have h5 : nb < 4294967296 := by
    rcases Nat.lt_or_ge nb 4294967296 with h6 | h6
    · exact h6
    · have h7 : 4294967296 * 4294967296 ≤ nb * nb := Nat.mul_le_mul h6 h6
      omega
  omega
/-- What the step makes stays within 64 bits. -/
theorem heads_room {A B M a b xa xb ya yb na nb : Nat} (h : Heads A B M a b xa xb ya yb na nb) (hα : A / M < 18446744073709551616) (hb : nb ≤ b) :
    a / b * na < 18446744073709551616 ∧ a / b * nb < 18446744073709551616 ∧ ya + a / b * na < 18446744073709551616 ∧ yb + a / b * nb < 18446744073709551616 := by
  have h1 := way_step h.way hb
  have h2 := h1.sum
  have h3 := h1.le
  have h4 := h.way.pos
  have h5 : (yb + a / b * nb) * 1 ≤ (yb + a / b * nb) * b := Nat.mul_le_mul_left _ (by omega)
  omega
theorem heads_step {A B M a b xa xb ya yb na nb : Nat} (hM : 0 < M) (h : Heads A B M a b xa xb ya yb na nb) (hα : A / M < 18446744073709551616) (hb : nb ≤ b) (hab : yb + nb ≤ a - b) :
    Heads A B M b (a % b) ya yb na nb (ya + a / b * na) (yb + a / b * nb) := by
  obtain ⟨_, _, r3, r4⟩ := heads_room h hα hb
  obtain ⟨t1, t2⟩ := way_true hM h.way hb hab
  refine ⟨way_step h.way hb, h.wy, heads_small h hα hb, ⟨r3, r4⟩, .inr ⟨t1, t2, ?_, ?_⟩⟩
  · rcases h.here with ⟨_, rfl, rfl, rfl, rfl⟩ | g
    · rw [gapOf_two]; exact Nat.le_refl _
    · have := g.second; omega
  · rcases h.here with ⟨_, rfl, rfl, rfl, rfl⟩ | g
    · exact .inl rfl
    · exact .inr g.second
/-- The head of a list: its highest places, as many as 64 bits hold. -/
theorem head_word {l : List Nat} {k s : Nat} (ho : okw l) (hs : s ≤ 31) (hv : val l < 2 ^ (32 * (k + 3) - s)) :
    atw l (k + 2) * 4294967296 + atw l (k + 1) < 2 ^ (64 - s) ∧ atw l k / 2 ^ (32 - s) < 2 ^ s ∧ (atw l (k + 2) * 4294967296 + atw l (k + 1)) * 2 ^ s + atw l k / 2 ^ (32 - s) = val l / 2 ^ (32 * k + (32 - s)) := by
  have e1 : val l / 2 ^ (32 * k) = top l k := (top_div ho k).symm
  have e2 : top l k < 2 ^ (96 - s) := by
    rw [← e1]
    rw [Nat.div_lt_iff_lt_mul (Nat.two_pow_pos _), ← Nat.pow_add, show 96 - s + 32 * k = 32 * (k + 3) - s by omega]
    exact hv
  have h1 : top l k = atw l k + 4294967296 * top l (k + 1) := top_succ l k
  have h2 : top l (k + 1) = atw l (k + 1) + 4294967296 * top l (k + 2) := top_succ l (k + 1)
  have h3 : top l (k + 2) = atw l (k + 2) + 4294967296 * top l (k + 3) := top_succ l (k + 2)
  have h4 : 2 ^ (96 - s) ≤ (79228162514264337593543950336 : Nat) := by
    rw [show (79228162514264337593543950336 : Nat) = 2 ^ 96 by decide]
    exact Nat.pow_le_pow_right (by decide) (by omega)
  have hw := atw_lt ho k
  have hP : 2 ^ s * 2 ^ (32 - s) = (4294967296 : Nat) := by rw [← Nat.pow_add, show s + (32 - s) = 32 by omega]
  have hQ : 2 ^ (64 - s) * 4294967296 = 2 ^ (96 - s) := by rw [show (4294967296 : Nat) = 2 ^ 32 by decide, ← Nat.pow_add, show 64 - s + 32 = 96 - s by omega]
  have e5 : val l / 2 ^ (32 * k + (32 - s)) = top l k / 2 ^ (32 - s) := by rw [Nat.pow_add, ← Nat.div_div_eq_div_mul, e1]
  have hp := Nat.two_pow_pos (32 - s)
  rw [e5]
  clear e1 e5 hv
  generalize 2 ^ (32 - s) = P at *
  generalize 2 ^ (96 - s) = Q at *
  generalize 2 ^ (64 - s) = R at *
  generalize 2 ^ s = S at *
  generalize atw l k = x0 at *
  generalize atw l (k + 1) = x1 at *
  generalize atw l (k + 2) = x2 at *
  generalize top l (k + 3) = t3 at *
  generalize top l (k + 2) = t2 at *
  generalize top l (k + 1) = t1 at *
  generalize top l k = t0 at *
  have e3 : t3 = 0 := by omega
  have e4 : t0 = (x2 * 4294967296 + x1) * 4294967296 + x0 := by omega
  refine ⟨by omega, ?_, ?_⟩
  · rw [Nat.div_lt_iff_lt_mul hp, hP]; exact hw
  · have e6 : (x2 * 4294967296 + x1) * 4294967296 = P * ((x2 * 4294967296 + x1) * S) := by
      rw [← hP]
      generalize x2 * (S * P) + x1 = H
      rw [Nat.mul_comm S P, Nat.mul_left_comm]
    rw [e4, e6, Nat.mul_add_div hp]
/-- A number with so many noughts ahead of its first bit. -/
theorem head_room {l : List Nat} {n : Nat} (ho : okw l) (hl : l.length = n) (hn : 3 ≤ n) (h0 : atw l (n - 1) ≠ 0) : val l < 2 ^ (32 * n - (32 - blen (atw l (n - 1)))) := by
  obtain ⟨i, rfl⟩ : ∃ i, n = i + 1 := ⟨n - 1, by omega⟩
  rw [Nat.add_sub_cancel] at h0 ⊢
  have h1 := blen_top ho (i := i) (by rw [top_ge (by omega)]) h0
  have h2 := lt_blen (val l)
  have h3 : blen (atw l i) ≤ 32 := blen_le.2 (atw_lt ho i)
  rw [h1] at h2
  rw [show 32 * (i + 1) - (32 - blen (atw l i)) = 32 * i + blen (atw l i) by omega]
  exact h2
/-- Euclid's step. -/
theorem gcd_rest {X Y : Nat} (h : Y ≠ 0) : Nat.gcd Y (X % Y) = Nat.gcd X Y ∧ X % Y < Y := by
  refine ⟨?_, Nat.mod_lt _ (Nat.pos_of_ne_zero h)⟩
  rw [Nat.gcd_comm X Y, Nat.gcd_rec Y X, Nat.gcd_comm]
end Go.Proofs.Ytipcgehcineblaa

/-
  The contracts of package common (layer 6) at this seat: a word of a list, the noughts ahead of a word, the head of a list.
-/
namespace Go.Proofs.Ytipcgehcineblaa
open Go.RowKit

theorem or_u64_nat (x y : Nat) (hx : x < 18446744073709551616) (hy : y < 18446744073709551616) : bits .or .u64 (x : Int) (y : Int) = ((x ||| y : Nat) : Int) := by
  have h1 : (BitVec.ofInt 64 (x : Int)).toNat = x := by rw [BitVec.ofInt_natCast, BitVec.toNat_ofNat]; exact Nat.mod_eq_of_lt (by omega)
  have h2 : (BitVec.ofInt 64 (y : Int)).toNat = y := by rw [BitVec.ofInt_natCast, BitVec.toNat_ofNat]; exact Nat.mod_eq_of_lt (by omega)
  have h3 : x ||| y < 2 ^ 64 := Nat.or_lt_two_pow (by omega) (by omega)
  show IntKind.u64.wrap ((BitVec.ofInt 64 (x : Int) ||| BitVec.ofInt 64 (y : Int)).toNat : Int) = _
  rw [BitVec.toNat_or, h1, h2, IntKind.wrap_u64]
  omega
theorem or_high {h s y : Nat} (hh : h * 2 ^ s < 18446744073709551616) (hy : y < 2 ^ s) (hs : s ≤ 64) : bits .or .u64 ((h * 2 ^ s : Nat) : Int) (y : Int) = ((h * 2 ^ s + y : Nat) : Int) := by
  have hy2 : y < 18446744073709551616 := Nat.lt_of_lt_of_le hy (show 2 ^ s ≤ 2 ^ 64 from Nat.pow_le_pow_right (by decide) hs)
  rw [or_u64_nat _ _ hh hy2]
  have := Nat.two_pow_add_eq_or_of_lt hy h
  rw [Nat.mul_comm h, this]

theorem common_word (a : Option Addr) (n cap k x : Nat) (l : List Nat) (w : World) (h : Wd w a n cap l) (hk : k ≤ 9223372036854775807) (hx : Hid (x = atw l k)) :
    Calls Try.prog 86 #[.slice a n cap, .int .i64 (k : Int)] w fun e w' => e = .returned (.int .u64 (x : Int)) ∧ w = w' := by
  obtain ⟨hb1, hb2⟩ := h.bound
  by_cases hlt : k < n
  · obtain ⟨b, off, rfl, hc⟩ := h.at (by omega)
    have hck := hc k hlt
    have hw := atw_lt h.ok k
    rw [← hx.out] at hck hw
    clear hc h
    go_enter Try.func86, Try.ntmps86
    go_wp2
    go_ret
    exact ⟨rfl, rfl⟩
  · have ha : x = 0 := by rw [hx.out]; exact atw_ge (by have := h.len; omega)
    subst ha
    clear h
    go_enter Try.func86, Try.ntmps86
    go_wp2
    go_ret
    exact ⟨rfl, rfl⟩
theorem bits_lz32 (x : Nat) (w : World) (h1 : x < 4294967296) :
    Calls Try.prog 77 #[.int .u32 (x : Int)] w fun e w' => e = .returned (.int .i64 ((32 - blen x : Nat) : Int)) ∧ w = w' := by
  have hb : blen x ≤ 32 := blen_le.2 (by omega)
  have Hb := Lib.hid (bitLen_blen (x := x) (by omega))
  obtain ⟨y, hy⟩ : ∃ y, y = blen x := ⟨_, rfl⟩
  rw [← hy] at hb Hb ⊢
  obtain ⟨z, hz⟩ : ∃ z : Nat, 32 - (y : Int) = (z : Int) := ⟨32 - y, by omega⟩
  have Hz : Hid (z = 32 - y) := Lib.hid (by omega)
  clear hy
  go_enter Try.func77, Try.ntmps77
  go_wp2_with fail
  refine (bits_len32 (x : Int) _ (by omega) (by omega)).mono ?_
  rintro e w' ⟨rfl, rfl⟩
  rw [Int.toNat_natCast, Hb.out]
  go_wp2
  go_ret
  exact ⟨ret_i64 (by rw [← Hz.out]), rfl⟩
set_option maxRecDepth 4096 in
set_option maxHeartbeats 2000000 in
theorem common_head (a : Option Addr) (n cap k s : Nat) (l : List Nat) (w : World) (h : Wd w a n cap l) (hk : k ≤ 1048576000000) (hs : s ≤ 31) (hv : Hid (val l < 2 ^ (32 * (k + 3) - s))) :
    Calls Try.prog 79 #[.slice a n cap, .int .i64 ((k + 3 : Nat) : Int), .int .i64 (s : Int)] w fun e w' => e = .returned (.int .u64 ((val l / 2 ^ (32 * k + (32 - s)) : Nat) : Int)) ∧ ∃ q, w' = w.drewN q := by
  obtain ⟨t1, t2, t3⟩ := head_word h.ok hs hv.out
  have hx0 := atw_lt h.ok k
  have hx1 := atw_lt h.ok (k + 1)
  have hx2 := atw_lt h.ok (k + 2)
  have Hw := Lib.hid h
  obtain ⟨p1, e1⟩ : ∃ p1 : Nat, ((k + 3 : Nat) : Int) - 1 = (p1 : Int) := ⟨k + 2, by omega⟩
  obtain ⟨p2, e2⟩ : ∃ p2 : Nat, ((k + 3 : Nat) : Int) - 2 = (p2 : Int) := ⟨k + 1, by omega⟩
  obtain ⟨p3, e3⟩ : ∃ p3 : Nat, ((k + 3 : Nat) : Int) - 3 = (p3 : Int) := ⟨k, by omega⟩
  obtain rfl : p3 = k := by omega
  have f1 : p1 = p3 + 2 := by omega
  have f2 : p2 = p3 + 1 := by omega
  have hp1 : p1 ≤ 9223372036854775807 := by omega
  have hp2 : p2 ≤ 9223372036854775807 := by omega
  have hp3 : p3 ≤ 9223372036854775807 := by omega
  rw [← f1, ← f2] at t1 t3
  rw [← f1] at hx2
  rw [← f2] at hx1
  obtain ⟨n3, hn3⟩ : ∃ n3 : Nat, n3 = p3 + 3 := ⟨_, rfl⟩
  rw [← hn3] at e1 e2 e3 ⊢
  have hn3b : n3 ≤ 1048576000003 := by omega
  clear f1 f2 h hv hn3 hk
  obtain ⟨x0, y0⟩ : ∃ x, x = atw l p3 := ⟨_, rfl⟩
  obtain ⟨x1, y1⟩ : ∃ x, x = atw l p2 := ⟨_, rfl⟩
  obtain ⟨x2, y2⟩ : ∃ x, x = atw l p1 := ⟨_, rfl⟩
  rw [← y0] at hx0 t2 t3
  rw [← y1] at hx1 t1 t3
  rw [← y2] at hx2 t1 t3
  have Y0 := Lib.hid y0
  have Y1 := Lib.hid y1
  have Y2 := Lib.hid y2
  clear y0 y1 y2
  have o1 : bits .or .u64 ((x2 : Int) * 4294967296) (x1 : Int) = (x2 : Int) * 4294967296 + (x1 : Int) := or_words (by omega) (by omega) (by omega) (by omega)
  obtain ⟨hi, hhi⟩ : ∃ hi : Nat, (x2 : Int) * 4294967296 + (x1 : Int) = (hi : Int) := ⟨x2 * 4294967296 + x1, by omega⟩
  rw [hhi] at o1
  have f3 : x2 * 4294967296 + x1 = hi := by omega
  rw [f3] at t1 t3
  have hhb : hi < 18446744073709551616 := by omega
  obtain ⟨r, hr⟩ : ∃ r : Nat, (32 : Int) - (s : Int) = (r : Int) := ⟨32 - s, by omega⟩
  have hre : 32 - s = r := by omega
  rw [hre] at t2 t3 ⊢
  have hrb : r ≤ 32 := by omega
  obtain ⟨z, hz⟩ : ∃ z : Nat, (x0 : Int) / 2 ^ r = (z : Int) := ⟨x0 / 2 ^ r, div_pow_int x0 r⟩
  have hze : x0 / 2 ^ r = z := by have := div_pow_int x0 r; omega
  rw [hze] at t2 t3
  have hzb : z < 4294967296 := by rw [← hze]; exact div_pow_lt hx0 r
  have t4 : hi * 2 ^ s < 18446744073709551616 := by
    have h1 : hi * 2 ^ s < 2 ^ (64 - s) * 2 ^ s := Nat.mul_lt_mul_of_pos_right t1 (Nat.two_pow_pos s)
    rw [← Nat.pow_add, show 64 - s + s = 64 by omega] at h1
    exact h1
  have o2 := or_high t4 t2 (by omega)
  rw [t3] at o2
  have t5 : (hi : Int) * 2 ^ s = ((hi * 2 ^ s : Nat) : Int) := mul_pow_int hi s
  obtain ⟨g, hg⟩ : ∃ g, g = hi * 2 ^ s := ⟨_, rfl⟩
  rw [← hg] at t4 t5 o2
  have t6 : (hi : Int) * 2 ^ s % 18446744073709551616 = (g : Int) := by rw [t5]; omega
  obtain ⟨v, hv⟩ : ∃ v, v = val l / 2 ^ (32 * p3 + r) := ⟨_, rfl⟩
  rw [← hv] at o2 ⊢
  clear hv hg t3 hze hre f3 t1 t2
  go_enter Try.func79, Try.ntmps79
  go_wp2_with fail
  refine (common_word _ _ _ p1 x2 _ _ Hw.out hp1 Y2).mono ?_
  rintro e w' ⟨rfl, rfl⟩
  go_wp2_with fail
  refine (common_word _ _ _ p2 x1 _ _ Hw.out hp2 Y1).mono ?_
  rintro e w' ⟨rfl, rfl⟩
  go_wp2
  go_quiet ((go_at_call 86; exact quiet_here (common_word _ _ _ p3 x0 _ _ (Hw.out.later (below_draws _ _)) hp3 Y0) ⟨_, rfl⟩))
  go_wp2
  go_ret
  exact ⟨rfl, _, rfl⟩
end Go.Proofs.Ytipcgehcineblaa

/-
  The contracts of package common (layer 6) at this seat: a rest from its counts, and Euclid's way from two heads.
-/
namespace Go.Proofs.Ytipcgehcineblaa
open Go.RowKit

theorem two_cells6 {w : World} {A : Nat} {x y : Value} {t : TypeId} (h1 : w.heap[A]? = some (.cells #[x, y] t (0, 0))) : w.cell? ⟨A, 0, none⟩ = some x ∧ w.cell? ⟨A, 1, none⟩ = some y := ⟨blk_cell h1 0, blk_cell h1 1⟩
theorem gapOf_vals (A B x z : Nat) : val (dg (A * x + 0)) - val (dg (B * z + 0)) + (val (dg (B * z + 0)) - val (dg (A * x + 0))) = gapOf A B x z := by
  rw [val_dg, val_dg, Nat.add_zero, Nat.add_zero, Nat.mul_comm A, Nat.mul_comm B]; rfl
theorem dg_word_length {x : Nat} (h : x < 4294967296) : (dg x).length ≤ 1 := dg_length_le (by simpa using h)
theorem results_cell_cell {P : Program} {fn : Func} {p q : Tmp} {ty : TypeId} (h : fn.results = #[.cell p ty, .cell q ty]) (tmps : Array Value) (w : World) (g g' : Nat) (t : TypeId) (cs ds : Array Value) (fr : Nat × Nat) (d : TypeDesc)
    (hp : tmps.getD p undef = .pointer (some ⟨g, 0, none⟩)) (hq : tmps.getD q undef = .pointer (some ⟨g', 0, none⟩)) (hg : w.heap[g]? = some (.cells cs t fr)) (hg' : w.heap[g']? = some (.cells ds t fr))
    (hu : P.underlying ty = some d) (hd : (match d with | .struct _ | .array _ _ => true | _ => false) = true) (hi : (P.info? ty).map (·.size) = some cs.size) (hi' : (P.info? ty).map (·.size) = some ds.size) :
    (results fn tmps).run P w = .ok (.tuple #[.agg cs, .agg ds]) w := by
  have hp' : tmps[p]?.getD undef = .pointer (some ⟨g, 0, none⟩) := by simpa using hp
  have hq' : tmps[q]?.getD undef = .pointer (some ⟨g', 0, none⟩) := by simpa using hq
  simp [results, h, hp', hq', asAddr, run_loadVar_row w g t ty cs fr d hg hu hd hi, run_loadVar_row w g' t ty ds fr d hg' hu hd hi', Sem.run_bind, Result.andThen]
/-- Counts, as a value. -/
def cntV (x z : Nat) : Value := .agg #[.int .u64 (x : Int), .int .u64 (z : Int)]
set_option maxRecDepth 4096 in
set_option maxHeartbeats 4000000 in
theorem common_of (x z : Nat) (a : Option Addr) (n cap : Nat) (la : List Nat) (b : Option Addr) (m cap' : Nat) (lb : List Nat) (w : World) (ha : Wd w a n cap la) (hb : Wd w b m cap' lb) (hn : n ≤ 104857600000) (hm : m ≤ 104857600000) (hx : x < 4294967296) (hz : z < 4294967296) :
    Calls Try.prog 80 #[cntV x z, .slice a n cap, .slice b m cap'] w (Lst (dg (gapOf (val la) (val lb) x z)) w) := by
  have hB0 : Below w.heap.size w (w.alloc (.cells #[.int .u64 (x : Int), .int .u64 (z : Int)] 102)) := below_alloc _ _
  have Ha := Lib.hid (ha.later hB0)
  have Hb := Lib.hid (hb.later hB0)
  have HB := Lib.hid hB0
  have hN := blk_new w #[.int .u64 (x : Int), .int .u64 (z : Int)] 102
  have Hl1 : Hid ((dg (val la * x + 0)).length ≤ 104857600001) := Lib.hid (by
    have h1 := dg_mul_length (val la) x
    have h2 := ha.trim_le
    have h3 := dg_word_length hx
    rw [Nat.add_zero]; omega)
  have Hl2 : Hid ((dg (val lb * z + 0)).length ≤ 104857600001) := Lib.hid (by
    have h1 := dg_mul_length (val lb) z
    have h2 := hb.trim_le
    have h3 := dg_word_length hz
    rw [Nat.add_zero]; omega)
  have HX := Lib.hid hx
  have HZ := Lib.hid hz
  have HWx : Hid (IntKind.u32.wrap (x : Int) = (x : Int)) := Lib.hid (by rw [wrapu32]; omega)
  have HWz : Hid (IntKind.u32.wrap (z : Int) = (z : Int)) := Lib.hid (by rw [wrapu32]; omega)
  clear ha hb hB0
  go_enter Try.func80, Try.ntmps80
  unfold cntV
  go_wp2
  generalize w.alloc (.cells #[.int .u64 (x : Int), .int .u64 (z : Int)] 102) = W at *
  have hNd : W.drew.heap[w.heap.size]? = some (.cells #[.int .u64 (x : Int), .int .u64 (z : Int)] 102 (0, 0)) := hN
  have Hd : Below W.heap.size W W.drew := (Below.refl _ _).drew
  have HN := Lib.hid hNd
  have Sd := two_cells6 hNd
  clear hN hNd
  go_region_held3 (fun w' => w'.cell? ⟨w.heap.size, 0, none⟩ = some (.int .u64 (x : Int)) ∧ w'.cell? ⟨w.heap.size, 1, none⟩ = some (.int .u64 (z : Int))) (first | exact Sd | exact S1 | exact S2 | exact S3)
    (first
    | (go_at_call 87; (first
      | (have S0 := S1; rw [HWz.out]; (refine (prod_word b m cap' lb z 0 _ ((Hb.out.later Hd).later b1) ?q3 HZ.out ?q4).mono ?_); (case q3 => omega); (case q4 => omega); rintro e w2 ⟨a2, n2, c2, rfl, h2, b2⟩; have S2 := two_cells6 (blk_later (blk_later HN.out b1) b2))
      | (rw [HWx.out]; (refine (prod_word a n cap la x 0 _ (Ha.out.later Hd) ?q1 HX.out ?q2).mono ?_); (case q1 => omega); (case q2 => omega); rintro e w1 ⟨a1, n1, c1, rfl, h1, b1⟩; have S1 := two_cells6 (blk_later HN.out b1))))
    | (go_at_call 59; (refine (natSaid.gap a1 n1 c1 _ a2 n2 c2 _ _ (h1.later b2) h2 ?q5 ?q6).mono ?_); (case q5 => have := h1.len; have := Hl1.out; omega); (case q6 => have := h2.len; have := Hl2.out; omega); rintro e w3 ⟨a3, n3, c3, rfl, h3, b3⟩; have S3 := two_cells6 (blk_later (blk_later (blk_later HN.out b1) b2) b3)))
  go_wp2
  go_ret
  rw [gapOf_vals] at h3
  exact ⟨a3, n3, c3, rfl, h3, below_then HB.out (below_then Hd (below_then b1 (below_then b2 b3)))⟩
end Go.Proofs.Ytipcgehcineblaa

/-
  The contracts of package common (layer 6) at this seat: Euclid's way from two heads.
-/
namespace Go.Proofs.Ytipcgehcineblaa
open Go.RowKit

/-- Three boxes of counts, side by side. -/
def Boxes (w : World) (g xa xb ya yb na nb : Nat) : Prop :=
  w.heap[g]? = some (.cells #[.int .u64 (xa : Int), .int .u64 (xb : Int)] 102 (0, 0)) ∧ w.heap[g + 1]? = some (.cells #[.int .u64 (ya : Int), .int .u64 (yb : Int)] 102 (0, 0)) ∧ w.heap[g + 1 + 1]? = some (.cells #[.int .u64 (na : Int), .int .u64 (nb : Int)] 102 (0, 0))
theorem three_boxes (w : World) (xa xb ya yb na nb : Nat) : Boxes (((w.alloc (.cells #[.int .u64 (xa : Int), .int .u64 (xb : Int)] 102)).alloc (.cells #[.int .u64 (ya : Int), .int .u64 (yb : Int)] 102)).alloc (.cells #[.int .u64 (na : Int), .int .u64 (nb : Int)] 102)) w.heap.size xa xb ya yb na nb := by
  obtain ⟨h1, h2⟩ := boxes_at w (((w.alloc (.cells #[.int .u64 (xa : Int), .int .u64 (xb : Int)] 102)).alloc (.cells #[.int .u64 (ya : Int), .int .u64 (yb : Int)] 102)).alloc (.cells #[.int .u64 (na : Int), .int .u64 (nb : Int)] 102)) _ _ _ _ (below_alloc _ _)
  refine ⟨h1, h2, ?_⟩
  have h3 := blk_new ((w.alloc (.cells #[.int .u64 (xa : Int), .int .u64 (xb : Int)] 102)).alloc (.cells #[.int .u64 (ya : Int), .int .u64 (yb : Int)] 102)) #[.int .u64 (na : Int), .int .u64 (nb : Int)] 102
  rw [blk_size, blk_size] at h3
  exact h3
theorem blk_other {w : World} {A g : Nat} {o : Obj} (h : w.heap[A]? = some o) (hne : A ≠ g) (u v : Value) : ((w.setCell ⟨g, 0, none⟩ u).setCell ⟨g, 1, none⟩ v).heap[A]? = some o :=
  (Below.heap_setCell (w.setCell ⟨g, 0, none⟩ u) ⟨g, 1, none⟩ v A hne).trans ((Below.heap_setCell w ⟨g, 0, none⟩ u A hne).trans h)
theorem boxes_set4 {w : World} {g xa xb ya yb na nb : Nat} (h : Boxes w g xa xb ya yb na nb) (x y z u : Nat) :
    Boxes ((((w.setCell ⟨g, 0, none⟩ (.int .u64 (x : Int))).setCell ⟨g, 1, none⟩ (.int .u64 (y : Int))).setCell ⟨g + 1, 0, none⟩ (.int .u64 (z : Int))).setCell ⟨g + 1, 1, none⟩ (.int .u64 (u : Int))) g x y z u na nb := by
  have h1 := blk_set2 h.1 (.int .u64 (x : Int)) (.int .u64 (y : Int))
  have h2 := blk_other h.2.1 (show g + 1 ≠ g by omega) (.int .u64 (x : Int)) (.int .u64 (y : Int))
  have h3 := blk_other h.2.2 (show g + 1 + 1 ≠ g by omega) (.int .u64 (x : Int)) (.int .u64 (y : Int))
  exact ⟨blk_other h1 (show g ≠ g + 1 by omega) _ _, blk_set2 h2 _ _, blk_other h3 (show g + 1 + 1 ≠ g + 1 by omega) _ _⟩
theorem boxes_set6 {w : World} {g xa xb ya yb na nb : Nat} (h : Boxes w g xa xb ya yb na nb) (x y z u v t : Nat) :
    Boxes ((((((w.setCell ⟨g, 0, none⟩ (.int .u64 (x : Int))).setCell ⟨g, 1, none⟩ (.int .u64 (y : Int))).setCell ⟨g + 1, 0, none⟩ (.int .u64 (z : Int))).setCell ⟨g + 1, 1, none⟩ (.int .u64 (u : Int))).setCell ⟨g + 1 + 1, 0, none⟩ (.int .u64 (v : Int))).setCell ⟨g + 1 + 1, 1, none⟩ (.int .u64 (t : Int))) g x y z u v t := by
  have h1 := boxes_set4 h x y z u
  exact ⟨blk_other h1.1 (show g ≠ g + 1 + 1 by omega) _ _, blk_other h1.2.1 (show g + 1 ≠ g + 1 + 1 by omega) _ _, blk_set2 h1.2.2 _ _⟩
theorem boxes_drew {w : World} {g xa xb ya yb na nb : Nat} (h : Boxes w g xa xb ya yb na nb) : Boxes w.drew g xa xb ya yb na nb := h
def SurelyPost (A B : Nat) (w : World) (e : Ending) (w' : World) : Prop :=
  ∃ xa xb ya yb : Nat, e = .returned (.tuple #[cntV xa xb, cntV ya yb]) ∧ xa < 4294967296 ∧ xb < 4294967296 ∧ ya < 4294967296 ∧ yb < 4294967296 ∧ Hid (xb = 0 ∨ Good A B xa xb ya yb) ∧ Below w.heap.size w w'
set_option maxRecDepth 4096 in
set_option maxHeartbeats 4000000 in
theorem common_surely (A B M p q : Nat) (w : World) (hM : Hid (0 < M)) (hBA : Hid (B ≤ A)) (hp : Hid (p = A / M)) (hq : Hid (q = B / M)) (hα : p < 18446744073709551616) :
    Calls Try.prog 78 #[.int .u64 (p : Int), .int .u64 (q : Int)] w (SurelyPost A B w) := by
  have HA : Hid (A / M < 18446744073709551616) := Lib.hid (by rw [← hp.out]; exact hα)
  have hqp : q ≤ p := by rw [hp.out, hq.out]; exact Nat.div_le_div_right hBA.out
  have HS : Hid (Heads A B M p q 0 0 1 0 0 1) := Lib.hid (by rw [hp.out, hq.out]; exact heads_start hBA.out)
  go_enter Try.func78, Try.ntmps78
  go_wp2
  go_loopw [0, 1, 7] (fun av bv qv wr => ∃ a b xa xb ya yb na nb : Nat, av = .int .u64 (a : Int) ∧ bv = .int .u64 (b : Int) ∧ a < 18446744073709551616 ∧ b ≤ a ∧ Hid (Heads A B M a b xa xb ya yb na nb) ∧ Hid (Boxes wr w.heap.size xa xb ya yb na nb) ∧ Hid (Below w.heap.size w wr)) (fun _ bv _ _ => (intOf bv).toNat)
  case atStart => exact ⟨p, q, 0, 0, 1, 0, 0, 1, rfl, rfl, hα, hqp, HS, Lib.hid (three_boxes w _ _ _ _ _ _), Lib.hid (below_then (below_then (below_alloc _ _) (below_alloc _ _)) (below_alloc _ _))⟩
  case round =>
    obtain ⟨a, b, xa, xb, ya, yb, na, nb, rfl, rfl, ha64, hba, HH, HX, HBw⟩ := hrel
    have hn64 := HH.out.wn
    have hy32 := HH.out.wy
    have hx32 := HH.out.wx
    have hpos := HH.out.way.pos
    obtain ⟨hn1, hn2⟩ := hn64
    obtain ⟨hy1, hy2⟩ := hy32
    obtain ⟨hx1, hx2⟩ := hx32
    obtain ⟨c1, c2⟩ := two_cells6 HX.out.1
    obtain ⟨c3, c4⟩ := two_cells6 HX.out.2.1
    obtain ⟨c5, c6⟩ := two_cells6 HX.out.2.2
    by_cases hb : nb ≤ b
    · have hs := heads_small HH.out HA.out hb
      obtain ⟨hs1, hs2⟩ := hs
      obtain ⟨e, he⟩ : ∃ e : Nat, (yb : Int) + (nb : Int) = (e : Int) := ⟨yb + nb, by omega⟩
      obtain ⟨d, hd⟩ : ∃ d : Nat, (a : Int) - (b : Int) = (d : Int) := ⟨a - b, by omega⟩
      have he64 : e < 18446744073709551616 := by omega
      have hd64 : d < 18446744073709551616 := by omega
      by_cases hab : e ≤ d
      · have hb0 : (0 : Int) < (b : Int) := by omega
        have Hstep := Lib.hid (heads_step hM.out HH.out HA.out hb (by omega))
        obtain ⟨r1, r2, r3, r4⟩ := heads_room HH.out HA.out hb
        have hr : a % b < b := Nat.mod_lt _ (by omega)
        obtain ⟨q, hq⟩ : ∃ q : Nat, (a : Int) / (b : Int) = (q : Int) := ⟨a / b, by rw [Int.natCast_ediv]⟩
        obtain ⟨r, hrr⟩ : ∃ r : Nat, (a : Int) % (b : Int) = (r : Int) := ⟨a % b, by rw [Int.natCast_emod]⟩
        have hqe : a / b = q := by have := Int.natCast_ediv a b; omega
        have hre : a % b = r := by have := Int.natCast_emod a b; omega
        rw [hqe] at r1 r2 r3 r4 Hstep
        rw [hre] at hr Hstep
        have hq64 : q ≤ a := by rw [← hqe]; exact Nat.div_le_self _ _
        obtain ⟨m1, hm1⟩ : ∃ m1 : Nat, (q : Int) * (na : Int) = (m1 : Int) := ⟨q * na, by rw [Int.natCast_mul]⟩
        obtain ⟨m2, hm2⟩ : ∃ m2 : Nat, (q : Int) * (nb : Int) = (m2 : Int) := ⟨q * nb, by rw [Int.natCast_mul]⟩
        have hm1e : q * na = m1 := by have := Int.natCast_mul q na; omega
        have hm2e : q * nb = m2 := by have := Int.natCast_mul q nb; omega
        rw [hm1e] at r1 r3 Hstep
        rw [hm2e] at r2 r4 Hstep
        clear hqe hre hm1e hm2e
        go_wp2
        go_quiet (fail)
        have HXd : Hid (Boxes (wr.drewN nq) w.heap.size xa xb ya yb na nb) := Lib.hid HX.out
        have HBd : Hid (Below w.heap.size w (wr.drewN nq)) := Lib.hid (below_drewN HBw.out nq)
        rw [hrr]
        clear HX HBw c1 c2 c3 c4 c5 c6 hrr
        generalize wr.drewN nq = wq at *
        have HXq : Boxes wq w.heap.size xa xb ya yb na nb := HXd.out
        obtain ⟨c1, c2⟩ := two_cells6 HXq.1
        obtain ⟨c3, c4⟩ := two_cells6 HXq.2.1
        obtain ⟨c5, c6⟩ := two_cells6 HXq.2.2
        have f1 := blk_free HXq.1 0
        have f2 := blk_free HXq.1 1
        have f3 := blk_free HXq.2.1 0
        have f4 := blk_free HXq.2.1 1
        have f5 := blk_free HXq.2.2 0
        have f6 := blk_free HXq.2.2 1
        clear HXq
        obtain ⟨ka, hka⟩ : ∃ ka : Nat, (ya : Int) + (m1 : Int) = (ka : Int) := ⟨ya + m1, by omega⟩
        obtain ⟨kb, hkb⟩ : ∃ kb : Nat, (yb : Int) + (m2 : Int) = (kb : Int) := ⟨yb + m2, by omega⟩
        have hkae : ya + m1 = ka := by omega
        have hkbe : yb + m2 = kb := by omega
        rw [hkae] at r3 Hstep
        rw [hkbe] at r4 Hstep
        have hb64 : b < 18446744073709551616 := by omega
        clear hkae hkbe hb hba hab hs1 hs2 he hd he64 hd64
        go_wp2
        go_region
        have HXn := Lib.hid (boxes_set6 HXd.out ya yb na nb ka kb)
        have HBn := Lib.hid (below_set2 (below_set2 (below_set2 HBd.out (Nat.le_refl _) (.int .u64 (ya : Int)) (.int .u64 (yb : Int))) (show w.heap.size ≤ w.heap.size + 1 by omega) (.int .u64 (na : Int)) (.int .u64 (nb : Int))) (show w.heap.size ≤ w.heap.size + 1 + 1 by omega) (.int .u64 (ka : Int)) (.int .u64 (kb : Int)))
        clear c1 c2 c3 c4 c5 c6 f1 f2 f3 f4 f5 f6
        go_wp2
        go_roundw
        case rel => exact ⟨b, r, ya, yb, na, nb, ka, kb, rfl, rfl, hb64, by omega, Hstep, Lib.hid (boxes_drew HXn.out), Lib.hid HBn.out.drew⟩
        case measure => simp [intOf]; omega
      · clear c1 c2 c3 c4 c5 c6
        have HXq : Boxes wr w.heap.size xa xb ya yb na nb := HX.out
        have f1 := blk_free HXq.1 0
        have f2 := blk_free HXq.1 1
        have f3 := blk_free HXq.2.1 0
        have f4 := blk_free HXq.2.1 1
        obtain ⟨c1, c2⟩ := two_cells6 HXq.1
        obtain ⟨c3, c4⟩ := two_cells6 HXq.2.1
        obtain ⟨c5, c6⟩ := two_cells6 HXq.2.2
        have HE := Lib.hid (boxes_set4 HXq xa xb ya yb)
        have HBe := Lib.hid (below_set2 (below_set2 HBw.out (Nat.le_refl _) (.int .u64 (xa : Int)) (.int .u64 (xb : Int))) (show w.heap.size ≤ w.heap.size + 1 by omega) (.int .u64 (ya : Int)) (.int .u64 (yb : Int)))
        have HG : Hid (xb = 0 ∨ Good A B xa xb ya yb) := Lib.hid (HH.out.here.imp (fun h => h.1) id)
        clear HXq HX HBw
        go_wp2
        go_region
        go_wp2
        refine bodyPost_ret (results_cell_cell Try.results78 _ _ w.heap.size (w.heap.size + 1) 102 #[.int .u64 (xa : Int), .int .u64 (xb : Int)] #[.int .u64 (ya : Int), .int .u64 (yb : Int)] (0, 0) _ rfl rfl (boxes_drew HE.out).1 (boxes_drew HE.out).2.1 Try.underlying102 rfl (by kernel_rfl) (by kernel_rfl)) rfl ?_
        exact ⟨xa, xb, ya, yb, rfl, hx1, hx2, hy1, hy2, HG, HBe.out.drew⟩
    · clear c1 c2 c3 c4 c5 c6
      have HXq : Boxes wr w.heap.size xa xb ya yb na nb := HX.out
      have f1 := blk_free HXq.1 0
      have f2 := blk_free HXq.1 1
      have f3 := blk_free HXq.2.1 0
      have f4 := blk_free HXq.2.1 1
      obtain ⟨c1, c2⟩ := two_cells6 HXq.1
      obtain ⟨c3, c4⟩ := two_cells6 HXq.2.1
      obtain ⟨c5, c6⟩ := two_cells6 HXq.2.2
      have HE := Lib.hid (boxes_set4 HXq xa xb ya yb)
      have HBe := Lib.hid (below_set2 (below_set2 HBw.out (Nat.le_refl _) (.int .u64 (xa : Int)) (.int .u64 (xb : Int))) (show w.heap.size ≤ w.heap.size + 1 by omega) (.int .u64 (ya : Int)) (.int .u64 (yb : Int)))
      have HG : Hid (xb = 0 ∨ Good A B xa xb ya yb) := Lib.hid (HH.out.here.imp (fun h => h.1) id)
      clear HXq HX HBw
      go_wp2
      go_region
      go_wp2
      refine bodyPost_ret (results_cell_cell Try.results78 _ _ w.heap.size (w.heap.size + 1) 102 #[.int .u64 (xa : Int), .int .u64 (xb : Int)] #[.int .u64 (ya : Int), .int .u64 (yb : Int)] (0, 0) _ rfl rfl (boxes_drew HE.out).1 (boxes_drew HE.out).2.1 Try.underlying102 rfl (by kernel_rfl) (by kernel_rfl)) rfl ?_
      exact ⟨xa, xb, ya, yb, rfl, hx1, hx2, hy1, hy2, HG, HBe.out.drew⟩
end Go.Proofs.Ytipcgehcineblaa

/-
  The contracts of package common (layer 6) at this seat: many steps of Euclid's way at once.
-/
namespace Go.Proofs.Ytipcgehcineblaa
open Go.RowKit

/-- Two numbers that follow on Euclid's way. -/
def LehmerPost (X Y : Nat) (w : World) (e : Ending) (w' : World) : Prop :=
  ∃ (a : Option Addr) (n cap : Nat) (b : Option Addr) (m cap' : Nat) (X' Y' : Nat), e = .returned (.tuple #[.slice a n cap, .slice b m cap']) ∧ Wd w' a n cap (dg X') ∧ Wd w' b m cap' (dg Y') ∧ Hid (X' ≤ Y ∧ Y' < Y ∧ Y' ≤ X' ∧ Nat.gcd X' Y' = Nat.gcd X Y) ∧ Below w.heap.size w w'
theorem lehmer_of {X Y xa xb ya yb : Nat} (hxb : xb ≠ 0) (h : Good X Y xa xb ya yb) : gapOf X Y xa xb ≤ Y ∧ gapOf X Y ya yb < Y ∧ gapOf X Y ya yb ≤ gapOf X Y xa xb ∧ Nat.gcd (gapOf X Y xa xb) (gapOf X Y ya yb) = Nat.gcd X Y := by
  have h1 := h.first
  have h2 := h.lt
  rcases h1 with h1 | h1
  · exact absurd h1 hxb
  · exact ⟨h1, by omega, by omega, h.gcd⟩
theorem box_pair (w : World) (x y z u : Value) (t : TypeId) :
    ((w.alloc (.cells #[x, y] t)).alloc (.cells #[z, u] t)).heap[w.heap.size]? = some (.cells #[x, y] t (0, 0)) ∧ ((w.alloc (.cells #[x, y] t)).alloc (.cells #[z, u] t)).heap[w.heap.size + 1]? = some (.cells #[z, u] t (0, 0)) := by
  refine ⟨blk_later (blk_new w #[x, y] t) (below_alloc _ _), ?_⟩
  have h2 := blk_new (w.alloc (.cells #[x, y] t)) #[z, u] t
  rw [blk_size] at h2
  exact h2
theorem four_at {w : World} {A B : Nat} {x y z u : Value} {t : TypeId} (h1 : w.heap[A]? = some (.cells #[x, y] t (0, 0))) (h2 : w.heap[B]? = some (.cells #[z, u] t (0, 0))) :
    w.cell? ⟨A, 0, none⟩ = some x ∧ w.cell? ⟨A, 1, none⟩ = some y ∧ w.cell? ⟨B, 0, none⟩ = some z ∧ w.cell? ⟨B, 1, none⟩ = some u := ⟨blk_cell h1 0, blk_cell h1 1, blk_cell h2 0, blk_cell h2 1⟩
theorem common_head_at (a : Option Addr) (n cap k s n3 p : Nat) (l : List Nat) (w : World) (h : Wd w a n cap l) (hn : Hid (n3 = k + 3)) (hp : Hid (p = val l / 2 ^ (32 * k + (32 - s)))) (hk : k ≤ 1048576000000) (hs : s ≤ 31) (hv : Hid (val l < 2 ^ (32 * (k + 3) - s))) :
    Calls Try.prog 79 #[.slice a n cap, .int .i64 (n3 : Int), .int .i64 (s : Int)] w fun e w' => e = .returned (.int .u64 (p : Int)) ∧ ∃ q, w' = w.drewN q := by
  rw [hn.out, hp.out]
  exact common_head a n cap k s l w h hk hs hv
set_option maxRecDepth 4096 in
set_option maxHeartbeats 4000000 in
theorem common_lessen (a : Option Addr) (k cap : Nat) (b : Option Addr) (m cap' : Nat) (X Y : Nat) (w : World) (ha : Wd w a (k + 3) cap (dg X)) (hb : Wd w b m cap' (dg Y)) (hk : k ≤ 94371840000) (hm : m ≤ 94371840000) (hYX : Hid (Y ≤ X)) (hY : Hid (Y ≠ 0)) :
    Calls Try.prog 69 #[.slice a (k + 3) cap, .slice b m cap'] w (LehmerPost X Y w) := by
  obtain ⟨hb1, hb2⟩ := ha.bound
  obtain ⟨n3, hn3⟩ : ∃ n3 : Nat, n3 = k + 3 := ⟨_, rfl⟩
  have Hn3 := Lib.hid hn3
  obtain ⟨p1, e1⟩ : ∃ p1 : Nat, (n3 : Int) - 1 = (p1 : Int) := ⟨k + 2, by omega⟩
  have hp1 : p1 = n3 - 1 := by omega
  have hp1n : p1 < n3 := by omega
  have h0 : atw (dg X) (n3 - 1) ≠ 0 := by
    have h1 := atw_dg (l := dg X) (okw_dg X)
    rw [val_dg, ha.len, ← hn3] at h1
    rcases h1 with h1 | h1
    · omega
    · exact h1
  have hroom := head_room (l := dg X) (n := n3) (okw_dg X) (by rw [ha.len, hn3]) (by omega) h0
  rw [← hp1] at h0 hroom
  have hxw := atw_lt (okw_dg X) p1
  rw [← hn3] at ha hb1 ⊢
  obtain ⟨ba, oa, rfl, hca⟩ := ha.at (by omega)
  have hck := hca p1 hp1n
  obtain ⟨x, hx⟩ : ∃ x, x = atw (dg X) p1 := ⟨_, rfl⟩
  rw [← hx] at h0 hroom hxw hck
  have hbl : blen x ≤ 32 := blen_le.2 (by omega)
  have hbl1 : 0 < blen x := blen_pos h0
  obtain ⟨s, hs⟩ : ∃ s, s = 32 - blen x := ⟨_, rfl⟩
  have Hs := Lib.hid hs
  have hs31 : s ≤ 31 := by omega
  rw [← hs, hn3, val_dg] at hroom
  have HrA : Hid (val (dg X) < 2 ^ (32 * (k + 3) - s)) := Lib.hid (by rw [val_dg]; exact hroom)
  have HrB : Hid (val (dg Y) < 2 ^ (32 * (k + 3) - s)) := Lib.hid (by rw [val_dg]; exact Nat.lt_of_le_of_lt hYX.out hroom)
  have Hp : Hid (X / 2 ^ (32 * k + (32 - s)) < 18446744073709551616) := Lib.hid (by
    rw [Nat.div_lt_iff_lt_mul (Nat.two_pow_pos _), show (18446744073709551616 : Nat) = 2 ^ 64 by decide, ← Nat.pow_add, show 64 + (32 * k + (32 - s)) = 32 * (k + 3) - s by omega]
    exact hroom)
  have Ha := Lib.hid ha
  have Hb := Lib.hid hb
  have HvX : Hid (val (dg X) = X) := Lib.hid (val_dg X)
  have HvY : Hid (val (dg Y) = Y) := Lib.hid (val_dg Y)
  have hn3b : n3 ≤ 94371840003 := by omega
  obtain ⟨M, hM⟩ : ∃ M, M = 2 ^ (32 * k + (32 - s)) := ⟨_, rfl⟩
  obtain ⟨p, hp⟩ : ∃ p, p = X / M := ⟨_, rfl⟩
  obtain ⟨q, hq⟩ : ∃ q, q = Y / M := ⟨_, rfl⟩
  have HPM := Lib.hid hp
  have HQM := Lib.hid hq
  have HP : Hid (p = val (dg X) / 2 ^ (32 * k + (32 - s))) := Lib.hid (by rw [val_dg, ← hM]; exact hp)
  have HQ : Hid (q = val (dg Y) / 2 ^ (32 * k + (32 - s))) := Lib.hid (by rw [val_dg, ← hM]; exact hq)
  have HM := Lib.hid hM
  have HM0 : Hid (0 < M) := Lib.hid (by rw [hM]; exact Nat.two_pow_pos _)
  have hp64 : p < 18446744073709551616 := by rw [hp, hM]; exact Hp.out
  clear Hp hp hq
  clear hca ha hb hroom hbl hbl1 hs hp1 hx h0 hM hn3
  go_enter Try.func69, Try.ntmps69
  go_wp2_with fail
  refine (bits_lz32 x _ hxw).mono ?_
  rintro e w' ⟨rfl, rfl⟩
  rw [← Hs.out]
  go_wp2_with fail
  refine (common_head_at _ _ _ k s n3 p (dg X) _ Ha.out Hn3 HP (by omega) hs31 HrA).mono ?_
  rintro e w1 ⟨rfl, q1, rfl⟩
  go_wp2_with fail
  refine (common_head_at _ _ _ k s n3 q (dg Y) _ (Hb.out.later (below_draws _ _)) Hn3 HQ (by omega) hs31 HrB).mono ?_
  rintro e w1 ⟨rfl, q2, rfl⟩
  go_wp2_with fail
  refine (common_surely X Y M p q _ HM0 hYX HPM HQM hp64).mono ?_
  rintro e w2 ⟨xa, xb, ya, yb, rfl, hxa, hxb, hya, hyb, HG, hB2⟩
  have hB2' : Below w.heap.size w w2 := below_then (below_draws w (q1 + q2)) hB2
  have hBW := below_then hB2' (below_then (below_alloc w2 (.cells #[.int .u64 (xa : Int), .int .u64 (xb : Int)] 102)) (below_alloc _ (.cells #[.int .u64 (ya : Int), .int .u64 (yb : Int)] 102)))
  have HA2 := Lib.hid (Ha.out.later hBW)
  have HC2 := Lib.hid (Hb.out.later hBW)
  have HB2 := Lib.hid hBW
  obtain ⟨hN1, hN2⟩ := box_pair w2 (.int .u64 (xa : Int)) (.int .u64 (xb : Int)) (.int .u64 (ya : Int)) (.int .u64 (yb : Int)) 102
  clear hB2 hB2' hBW Ha Hb HrA HrB HP HQ HPM HQM HM HM0 hck e1 hp1n hxw Hs
  unfold cntV
  by_cases h0 : xb = 0
  · have hx0 : ((xb : Int) == 0) = true := by rw [h0]; rfl
    clear hN1 hN2 h0 HG
    go_wp2_with fail
    refine (quot_div _ _ _ _ _ _ _ _ _ HA2.out HC2.out (by omega) (by omega) (by rw [HvY.out]; exact hY)).mono ?_
    rintro e w3 ⟨a3, n4, c3, b3, m3, d3, rfl, h3, k3, hB3⟩
    rw [HvX.out, HvY.out] at k3
    have K3 := Lib.hid k3
    have C3 := Lib.hid (HC2.out.later hB3)
    clear h3 k3
    go_wp2
    go_ret2
    exact ⟨b, m, cap', b3, m3, d3, Y, X % Y, rfl, C3.out, K3.out, Lib.hid ⟨Nat.le_refl _, (gcd_rest hY.out).2, Nat.le_of_lt (gcd_rest hY.out).2, (gcd_rest hY.out).1⟩, below_then HB2.out hB3⟩
  · have hx0 : ((xb : Int) == 0) = false := by simp [h0]
    have HL := Lib.hid (lehmer_of h0 (HG.out.resolve_left h0))
    clear h0 HG
    go_wp2
    generalize (w2.alloc (.cells #[.int .u64 (xa : Int), .int .u64 (xb : Int)] 102)).alloc (.cells #[.int .u64 (ya : Int), .int .u64 (yb : Int)] 102) = W at *
    generalize w2.heap.size = g at *
    have hNd1 : W.drew.heap[g]? = some (.cells #[.int .u64 (xa : Int), .int .u64 (xb : Int)] 102 (0, 0)) := hN1
    have hNd2 : W.drew.heap[g + 1]? = some (.cells #[.int .u64 (ya : Int), .int .u64 (yb : Int)] 102 (0, 0)) := hN2
    have Hd : Below W.heap.size W W.drew := (Below.refl _ _).drew
    have HN1 := Lib.hid hNd1
    have HN2 := Lib.hid hNd2
    have Sd := four_at hNd1 hNd2
    have hnb : n3 ≤ 104857600000 := by omega
    have hmb : m ≤ 104857600000 := by omega
    clear hN1 hN2 hNd1 hNd2 hx0
    go_region_held3 (fun w' => w'.cell? ⟨g, 0, none⟩ = some (.int .u64 (xa : Int)) ∧ w'.cell? ⟨g, 1, none⟩ = some (.int .u64 (xb : Int)) ∧ w'.cell? ⟨g + 1, 0, none⟩ = some (.int .u64 (ya : Int)) ∧ w'.cell? ⟨g + 1, 1, none⟩ = some (.int .u64 (yb : Int))) (first | exact Sd | exact S1 | exact S2)
      (first
      | (go_at_call 80; (first
        | (have S0 := S1; (refine (common_of ya yb _ n3 cap (dg X) b m cap' (dg Y) _ ((HA2.out.later Hd).later b1) ((HC2.out.later Hd).later b1) hnb hmb hya hyb).mono ?_); rintro e w4 ⟨a2, n2, c2, rfl, h2, b2⟩; have S2 := four_at (blk_later (blk_later HN1.out b1) b2) (blk_later (blk_later HN2.out b1) b2))
        | ((refine (common_of xa xb _ n3 cap (dg X) b m cap' (dg Y) _ (HA2.out.later Hd) (HC2.out.later Hd) hnb hmb hxa hxb).mono ?_); rintro e w3 ⟨a1, n1, c1, rfl, h1, b1⟩; have S1 := four_at (blk_later HN1.out b1) (blk_later HN2.out b1)))))
    rw [HvX.out, HvY.out] at h1 h2
    have H1 := Lib.hid (h1.later b2)
    have H2 := Lib.hid h2
    clear h1 h2
    go_wp2
    go_ret2
    exact ⟨_, _, _, _, _, _, _, _, rfl, H1.out, H2.out, HL, below_then HB2.out (below_then Hd (below_then b1 b2))⟩
end Go.Proofs.Ytipcgehcineblaa
