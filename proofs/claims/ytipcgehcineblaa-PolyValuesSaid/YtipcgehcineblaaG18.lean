/-
  Several texts of this claim as one, group 18.
-/
import Derived.Test.YtipcgehcineblaaG12
import Derived.Test.YtipcgehcineblaaG13
import Derived.Test.YtipcgehcineblaaG8
import Derived.Deep.RegionHeld3
import Derived.Deep.CutRange
import Derived.Test.YtipcgehcineblaaG17
/-
  Whole-numbered polynomials of which nothing but 1 divides all coefficients; how they are made; Euclid's way up to factors. Of no program.
-/
namespace Go.Proofs.Ytipcgehcineblaa

def isZ (q : Rat) : Prop := ∃ z : Int, q = (z : Rat)
theorem isZ.mul {p q : Rat} (h : isZ p) (k : isZ q) : isZ (p * q) := by
  obtain ⟨y, rfl⟩ := h
  obtain ⟨z, rfl⟩ := k
  exact ⟨y * z, by rw [Rat.intCast_mul]⟩
theorem isZ.nat (n : Nat) : isZ ((n : Nat) : Rat) := ⟨(n : Int), by rw [Rat.intCast_natCast]⟩
theorem isZ_one : isZ 1 := ⟨1, rfl⟩
theorem isZ_zero : isZ 0 := ⟨0, rfl⟩
theorem isZ_of_ints {a : List Rat} {H : Nat} (h : Ints a H) (i : Nat) : isZ (co a i) := by
  obtain ⟨z, h1, _⟩ := h i
  exact ⟨z, h1⟩
/-- Whole-numbered, and nothing but 1 divides all. -/
structure Prim (y : List Rat) : Prop where
  ints : ∀ i, isZ (co y i)
  one : ∀ l : Rat, (∀ i, isZ (l * co y i)) → isZ l
theorem Prim.congr {a b : List Rat} (h : Prim a) (e : peq a b) : Prim b := ⟨fun i => by rw [← e i]; exact h.ints i, fun l hl => h.one l fun i => by rw [e i]; exact hl i⟩
theorem Prim.small {y a : List Rat} {c k : Rat} {H : Nat} (h : Prim y) (hy : peq y (rscale c a)) (hc : c ≠ 0) (hk : k ≠ 0) (hI : Ints (rscale k a) H) : Ints y H := fun i => by
  have hcc : k / c * c = k := Rat.div_mul_cancel hc
  have e : ∀ i, k / c * co y i = co (rscale k a) i := fun i => by
    rw [hy i, co_rscale, co_rscale]
    generalize k / c = x at *
    rw [← hcc]; grind
  obtain ⟨z, hz⟩ := h.one (k / c) fun i => by rw [e i]; exact isZ_of_ints hI i
  have hz0 : z ≠ 0 := fun e0 => by
    rw [hz, e0] at hcc
    exact hk (hcc.symm.trans (Rat.zero_mul c))
  obtain ⟨u, hu⟩ := h.ints i
  obtain ⟨v, hv, hvH⟩ := hI i
  refine ⟨u, hu, ?_⟩
  have e1 := e i
  rw [hz, hu, hv, ← Rat.intCast_mul] at e1
  have e2 : z * u = v := Rat.intCast_inj.1 e1
  have e3 : v.natAbs = z.natAbs * u.natAbs := by rw [← e2, Int.natAbs_mul]
  have e4 : 1 ≤ z.natAbs := by omega
  have e5 : 1 * u.natAbs ≤ z.natAbs * u.natAbs := Nat.mul_le_mul_right _ e4
  omega
/-- If a number times q's numerator over its denominator is whole, the denominator divides it. -/
theorem den_divides {q : Rat} {m : Int} (h : isZ (((m : Rat)) / ((q.den : Nat) : Rat) * (q.num : Rat))) : isZ ((m : Rat) / ((q.den : Nat) : Rat)) := by
  have hd0 : ((q.den : Nat) : Rat) ≠ 0 := fun e => q.den_nz (Rat.natCast_inj.1 e)
  obtain ⟨z, hz⟩ := h
  have e1 : (m : Rat) / ((q.den : Nat) : Rat) * ((q.den : Nat) : Rat) = (m : Rat) := Rat.div_mul_cancel hd0
  have e2 : (m : Rat) * (q.num : Rat) = (z : Rat) * ((q.den : Nat) : Rat) := by
    rw [← hz]
    generalize (m : Rat) / ((q.den : Nat) : Rat) = x at *
    rw [← e1]; grind
  rw [← Rat.intCast_natCast, ← Rat.intCast_mul, ← Rat.intCast_mul] at e2
  have e3 : m * q.num = z * (q.den : Int) := Rat.intCast_inj.1 e2
  have e4 : q.den ∣ m.natAbs * q.num.natAbs := ⟨z.natAbs, by rw [← Int.natAbs_mul, e3, Int.natAbs_mul, Int.natAbs_natCast, Nat.mul_comm]⟩
  have e5 : q.den ∣ m.natAbs := Nat.Coprime.dvd_of_dvd_mul_right (Nat.Coprime.symm q.reduced) e4
  obtain ⟨x, hx⟩ := e5
  have e6 : (q.den : Int) ∣ m := Int.ofNat_dvd_left.2 ⟨x, hx⟩
  obtain ⟨y, hy⟩ := e6
  refine ⟨y, ?_⟩
  rw [hy, Rat.intCast_mul, Rat.intCast_natCast] at e1 ⊢
  generalize ((q.den : Nat) : Rat) = D at *
  have e7 : D * (D * (y : Rat) / D - (y : Rat)) = 0 := by grind
  rcases Rat.mul_eq_zero.1 e7 with g | g
  · exact absurd g hd0
  · grind
/-- What the loop has: with this unit the first j coefficients and the last one are whole, and nothing but 1 divides them. -/
structure PlainS (T : List Rat) (j : Nat) (u : Rat) : Prop where
  nz : u ≠ 0
  ints : ∀ t, (t < j ∨ t = T.length - 1) → isZ (co T t / u)
  one : ∀ l : Rat, (∀ t, (t < j ∨ t = T.length - 1) → isZ (l * (co T t / u))) → isZ l
theorem self_div {u : Rat} (h : u ≠ 0) : u / u = 1 := by rw [Rat.div_def]; exact Rat.mul_inv_cancel _ h
theorem PlainS.start {T : List Rat} (h : co T (T.length - 1) ≠ 0) : PlainS T 0 (co T (T.length - 1)) where
  nz := h
  ints := fun t ht => by
    obtain rfl : t = T.length - 1 := by omega
    rw [self_div h]; exact isZ_one
  one := fun l hl => by
    have h1 := hl (T.length - 1) (.inr rfl)
    rwa [self_div h, Rat.mul_one] at h1
theorem div_unit {x u D : Rat} (hu : u ≠ 0) (hD : D ≠ 0) : x / (u * (1 / D)) = D * (x / u) := by
  have h1 : x / u * u = x := Rat.div_mul_cancel hu
  have h2 : 1 / D * D = 1 := Rat.div_mul_cancel hD
  have h4 : u * (1 / D) ≠ 0 := fun e => by
    rcases Rat.mul_eq_zero.1 e with g | g
    · exact hu g
    · rw [g, Rat.zero_mul] at h2; exact absurd h2 (by decide)
  have h3 : x / (u * (1 / D)) * (u * (1 / D)) = x := Rat.div_mul_cancel h4
  generalize x / u = y at *
  generalize 1 / D = E at *
  generalize x / (u * E) = z at *
  have h5 : (u * E) * (z - D * y) = 0 := by grind
  rcases Rat.mul_eq_zero.1 h5 with g | g
  · exact absurd g h4
  · grind
theorem PlainS.step {T : List Rat} {j : Nat} {u q : Rat} (h : PlainS T j u) (hq : q = co T j / u) : PlainS T (j + 1) (u * (1 / ((q.den : Nat) : Rat))) := by
  have hd0 : ((q.den : Nat) : Rat) ≠ 0 := fun e => q.den_nz (Rat.natCast_inj.1 e)
  have hdm := den_mul q
  refine ⟨fun e => ?_, fun t ht => ?_, fun l hl => ?_⟩
  · have h2 : 1 / ((q.den : Nat) : Rat) * ((q.den : Nat) : Rat) = 1 := Rat.div_mul_cancel hd0
    rcases Rat.mul_eq_zero.1 e with g | g
    · exact h.nz g
    · rw [g, Rat.zero_mul] at h2; exact absurd h2 (by decide)
  · rw [div_unit h.nz hd0]
    by_cases htj : t = j
    · rw [htj, ← hq, hdm]; exact ⟨q.num, rfl⟩
    · exact (isZ.nat _).mul (h.ints t (by omega))
  · have h1 : isZ (l * ((q.den : Nat) : Rat)) := h.one _ fun t ht => by
      have h3 := hl t (by omega)
      rw [div_unit h.nz hd0] at h3
      rwa [Rat.mul_assoc]
    have h2 := hl j (.inl (by omega))
    rw [div_unit h.nz hd0, ← hq, hdm] at h2
    obtain ⟨m, hm⟩ := h1
    have h3 : l = (m : Rat) / ((q.den : Nat) : Rat) := by
      have h4 : (m : Rat) / ((q.den : Nat) : Rat) * ((q.den : Nat) : Rat) = (m : Rat) := Rat.div_mul_cancel hd0
      generalize (m : Rat) / ((q.den : Nat) : Rat) = x at *
      have h5 : ((q.den : Nat) : Rat) * (l - x) = 0 := by grind
      rcases Rat.mul_eq_zero.1 h5 with g | g
      · exact absurd g hd0
      · grind
    rw [h3] at h2 ⊢
    exact den_divides h2
theorem PlainS.done {T : List Rat} {u : Rat} (h : PlainS T T.length u) : Prim (rscale (1 / u) T) := by
  have e : ∀ i, co (rscale (1 / u) T) i = co T i / u := fun i => by rw [co_rscale, Rat.div_def, Rat.div_def]; grind
  refine ⟨fun i => ?_, fun l hl => h.one l fun t ht => by rw [← e t]; exact hl t⟩
  rw [e i]
  rcases Nat.lt_or_ge i T.length with h1 | h1
  · exact h.ints i (.inl h1)
  · rw [co_far h1, Rat.div_def, Rat.zero_mul]; exact isZ_zero
theorem qlen_z {z : Int} {S : Nat} (h : z.natAbs ≤ pw S) : qlen (z : Rat) ≤ S + 2 := by
  have g2 := qlen_ratio (z := z) (y := 1) (t := S) h (by have := pw_pos S; omega)
  have g3 : (z : Rat) / ((1 : Int) : Rat) = (z : Rat) := by
    have : ((1 : Int) : Rat) = 1 := rfl
    rw [this, Rat.div_def, Rat.inv_eq_of_mul_eq_one (Rat.mul_one 1), Rat.mul_one]
  rwa [g3] at g2
/-- How long the loop's numbers are. -/
theorem PlainS.size {T : List Rat} {j : Nat} {u k : Rat} {S : Nat} (h : PlainS T j u) (ht : co T (T.length - 1) ≠ 0) (hk : k ≠ 0) (hI : Ints (rscale k T) (pw S)) : qlen u ≤ qlen (1 / k) + S + 3 ∧ (∀ i, qlen (co T i / u) ≤ S + 2) ∧ ∃ m : Int, m ≠ 0 ∧ k * u = (m : Rat) ∧ m.natAbs ≤ pw S := by
  have hc : ∀ t, k * u * (co T t / u) = co (rscale k T) t := fun t => by
    have h1 : co T t / u * u = co T t := Rat.div_mul_cancel h.nz
    rw [co_rscale]
    generalize co T t / u = x at *
    rw [← h1]; grind
  obtain ⟨m, hm⟩ := h.one (k * u) fun t _ => by rw [hc t]; exact isZ_of_ints hI t
  have hm0 : m ≠ 0 := fun e => by
    rw [e] at hm
    rcases Rat.mul_eq_zero.1 (hm.trans rfl) with g | g
    · exact hk g
    · exact h.nz g
  have hmS : m.natAbs ≤ pw S := by
    obtain ⟨x, hx⟩ := h.ints (T.length - 1) (.inr rfl)
    obtain ⟨v, hv, hvS⟩ := hI (T.length - 1)
    have h2 := hc (T.length - 1)
    rw [hm, hx, hv, ← Rat.intCast_mul] at h2
    have h3 : m * x = v := Rat.intCast_inj.1 h2
    have hx0 : x ≠ 0 := fun e => by
      rw [e] at hx
      have h4 : co T (T.length - 1) / u * u = co T (T.length - 1) := Rat.div_mul_cancel h.nz
      rw [hx] at h4
      exact ht (h4.symm.trans (Rat.zero_mul u))
    have h5 : v.natAbs = m.natAbs * x.natAbs := by rw [← h3, Int.natAbs_mul]
    have h6 : m.natAbs * 1 ≤ m.natAbs * x.natAbs := Nat.mul_le_mul_left _ (by omega)
    omega
  refine ⟨?_, fun i => ?_, m, hm0, hm, hmS⟩
  · have h1 : u = 1 / k * (m : Rat) := by
      have h2 : 1 / k * k = 1 := Rat.div_mul_cancel hk
      rw [← hm]
      generalize 1 / k = x at *
      rw [← Rat.mul_assoc, h2, Rat.one_mul]
    have h3 := qlen_mul (1 / k) (m : Rat)
    have h4 := qlen_z hmS
    rw [← h1] at h3
    omega
  · obtain ⟨v, hv, hvS⟩ := hI i
    have h2 := hc i
    rw [hm, hv] at h2
    have h3 : co T i / u = (v : Rat) / (m : Rat) := by
      have h4 : (v : Rat) / (m : Rat) * (m : Rat) = (v : Rat) := Rat.div_mul_cancel (zcast_nz hm0)
      generalize (v : Rat) / (m : Rat) = x at *
      generalize co T i / u = y at *
      have h5 : (m : Rat) * (y - x) = 0 := by grind
      rcases Rat.mul_eq_zero.1 h5 with g | g
      · exact absurd g (zcast_nz hm0)
      · grind
    rw [h3]
    exact qlen_ratio hvS hmS
/-- Divisors, up to factors. -/
theorem common_left {c : Rat} {a b g : List Rat} (hc : c ≠ 0) (h : common (rscale c a) b g) : common a b g := by
  obtain ⟨⟨k, hk⟩, hl, u, v, huv⟩ := h
  refine ⟨⟨rscale (1 / c) k, ?_⟩, hl, rscale c u, v, ?_⟩
  · refine (rscale_back hc a).trans (peq.trans ?_ (pmul_rscale (1 / c) k g).symm)
    exact rscale_congr _ hk
  · exact huv.trans (padd_congr ((rscale_pmul c u a).trans (pmul_rscale c u a).symm) (peq.refl _))
theorem common_right {c : Rat} {a b g : List Rat} (hc : c ≠ 0) (h : common a (rscale c b) g) : common a b g := by
  obtain ⟨hl, ⟨k, hk⟩, u, v, huv⟩ := h
  refine ⟨hl, ⟨rscale (1 / c) k, ?_⟩, u, rscale c v, ?_⟩
  · refine (rscale_back hc b).trans (peq.trans ?_ (pmul_rscale (1 / c) k g).symm)
    exact rscale_congr _ hk
  · exact huv.trans (padd_congr (peq.refl _) ((rscale_pmul c v b).trans (pmul_rscale c v b).symm))
/-- The state of Euclid's way, both up to factors. -/
structure GcdP (A B x y : List Rat) : Prop where
  way : ∀ g, common x y g → common A B g
  eu : ∃ (X Y : List Rat) (c d : Rat), c ≠ 0 ∧ d ≠ 0 ∧ EuS A B X Y ∧ peq x (rscale c X) ∧ peq y (rscale d Y)
theorem GcdP.start {A B x y : List Rat} {c d : Rat} (hc : c ≠ 0) (hd : d ≠ 0) (hx : peq x (rscale c A)) (hy : peq y (rscale d B)) : GcdP A B x y where
  way := fun g hg => common_left hc (common_right hd (hg.of hx hy (peq.refl g)))
  eu := ⟨A, B, c, d, hc, hd, .inl ⟨peq.refl _, peq.refl _⟩, hx, hy⟩
theorem GcdP.step {A B x y q r r' : List Rat} {f e : Rat} (h : GcdP A B x y) (hf : f ≠ 0) (he : e ≠ 0) (hd : isDiv (rscale f x) y q r) (hr : peq r' (rscale e r)) : GcdP A B y r' := by
  refine ⟨fun g hg => h.way g ?_, ?_⟩
  · exact common_left hf (common.step hd.1 (common_right he (hg.of (peq.refl y) hr (peq.refl g))))
  · obtain ⟨X, Y, c, d, hc, hd0, hE, hx, hy⟩ := h.eu
    have hfc : f * c ≠ 0 := fun e0 => by rcases Rat.mul_eq_zero.1 e0 with g | g; exact hf g; exact hc g
    have h2 : 1 / (f * c) * (f * c) = 1 := Rat.div_mul_cancel hfc
    have hdv : isDiv X Y (rscale (1 / (f * c) * d) q) (rscale (1 / (f * c)) r) := by
      refine ⟨fun i => ?_, ?_⟩
      · have e1 := hd.1 i
        rw [co_rscale, hx i, co_rscale, co_padd, (pmul_congr (peq.refl q) hy) i, rscale_pmul d q Y i, co_rscale] at e1
        rw [co_padd, pmul_rscale (1 / (f * c) * d) q Y i, co_rscale, co_rscale]
        generalize 1 / (f * c) = w at *
        generalize co (pmul q Y) i = s at *
        have e2 : co X i = w * (f * (c * co X i)) := by grind
        rw [e2, e1]; grind
      · refine Nat.lt_of_le_of_lt (plen_rscale _ _) ?_
        have e1 := hd.2
        rw [plen_congr hy, plen_rscale_eq hd0] at e1
        exact e1
    refine ⟨Y, rscale (1 / (f * c)) r, d, e * (f * c), hd0, fun e0 => by rcases Rat.mul_eq_zero.1 e0 with g | g; exact he g; exact hfc g, hE.step hdv, hy, hr.trans fun i => ?_⟩
    rw [co_rscale, co_rscale, co_rscale]
    generalize 1 / (f * c) = w at *
    have e2 : e * (f * c) * (w * co r i) = e * ((w * (f * c)) * co r i) := by grind
    rw [e2, h2, Rat.one_mul]
theorem GcdP.small {A B x y : List Rat} {c : Rat} {s : Nat} (h : GcdP A B x y) (hc : c ≠ 0) (hA : Ints (rscale c A) (pw s)) (hB : Ints (rscale c B) (pw s)) (hn : 2 * (plen A + plen B) + 1 ≤ 4294967296) : ∃ k : Rat, k ≠ 0 ∧ Ints (rscale k y) (pw ((s + 1) * (plen A + plen B + 1))) := by
  obtain ⟨X, Y, e, d, he, hd0, hE, hx, hy⟩ := h.eu
  obtain ⟨k, hk, hI⟩ := hE.small hc hA hB hn
  have h2 : 1 / d * d = 1 := Rat.div_mul_cancel hd0
  refine ⟨k * (1 / d), fun e0 => ?_, hI.congr fun i => ?_⟩
  · rcases Rat.mul_eq_zero.1 e0 with g | g
    · exact hk g
    · rw [g, Rat.zero_mul] at h2; exact absurd h2 (by decide)
  · rw [co_rscale, co_rscale, hy i, co_rscale]
    generalize 1 / d = w at *
    have e2 : k * w * (d * co Y i) = k * ((w * d) * co Y i) := by grind
    rw [e2, h2, Rat.one_mul]
/-- The length of 1 / k by the last coefficient. -/
theorem back_len {T : List Rat} {k : Rat} {S N : Nat} (ht : co T (T.length - 1) ≠ 0) (hk : k ≠ 0) (hI : Ints (rscale k T) (pw S)) (hN : qlen (co T (T.length - 1)) ≤ N) : qlen (1 / k) ≤ N + S + 3 := by
  obtain ⟨v, hv, hvS⟩ := hI (T.length - 1)
  rw [co_rscale] at hv
  have hv0 : (v : Rat) ≠ 0 := fun e => by
    rw [e] at hv
    rcases Rat.mul_eq_zero.1 hv with g | g
    · exact hk g
    · exact ht g
  have h1 : 1 / k = co T (T.length - 1) / (v : Rat) := by
    have h2 : 1 / k * k = 1 := Rat.div_mul_cancel hk
    have h3 : co T (T.length - 1) / (v : Rat) * (v : Rat) = co T (T.length - 1) := Rat.div_mul_cancel hv0
    generalize co T (T.length - 1) = t at *
    generalize t / (v : Rat) = x at *
    generalize 1 / k = y at *
    have h5 : (v : Rat) * (y - x) = 0 := by rw [← hv]; grind
    rcases Rat.mul_eq_zero.1 h5 with g | g
    · exact absurd g hv0
    · grind
  rw [h1]
  have h4 := qlen_div (co T (T.length - 1)) (v : Rat)
  have h5 := qlen_z hvS
  omega
end Go.Proofs.Ytipcgehcineblaa

/-
  Package poly at this seat: plain.
-/
namespace Go.Proofs.Ytipcgehcineblaa
open Go.RowKit

theorem part_val (v : Nat) : qval (zneg ((1 : Int) : Rat).num) (val (dg ((1 : Int) : Rat).num.natAbs)) (val (dg v)) = 1 / ((v : Nat) : Rat) := by
  unfold qval
  rw [val_dg, val_dg, zval_of, show ((1 : Int) : Rat).num = 1 from rfl, Rat.mkRat_eq_div]; rfl
set_option maxRecDepth 4096 in
set_option maxHeartbeats 8000000 in
theorem poly_plain (a : Option Addr) (n c : Nat) (L : List Fx) (k : Rat) (S : Nat) (w : World) (h : Fxs w a n c L) (hn : n ≤ 300) (ht : thin 2000000000 L) (hk : k ≠ 0) (hI : Ints (rscale k (pnorm (fqs L))) (pw S)) (hb : qlen (1 / k) + S + 8 ≤ 2000000000) :
    Calls Try.prog 38 #[.slice a n c] w (fun e w' => ∃ (a' : Option Addr) (n' c' : Nat) (Y : List Rat), e = .returned (.slice a' n' c') ∧ Rw w' a' n' c' Y ∧ Y.length = plen (fqs L) ∧ (∃ l : Rat, l ≠ 0 ∧ Y = rscale l (pnorm (fqs L))) ∧ (plen (fqs L) ≠ 0 → Prim Y) ∧ Below w.heap.size w w') := by
  have hbd := h.bound
  have hk1 := plen_fqs_le h
  have HU : Hid (Calls Try.prog 22 #[.slice a n c] w (Gives (.slice a (plen (fqs L)) c) w)) := Lib.hid (poly_used a n c L w h (by omega) (ht.mono (by decide)))
  have HA := Lib.hid (h.take hk1)
  have TA := Lib.hid (thin_take ht (plen (fqs L)))
  have QA : fqs (L.take (plen (fqs L))) = pnorm (fqs L) := fqs_used L
  obtain ⟨T, hT⟩ : ∃ T, pnorm (fqs L) = T := ⟨_, rfl⟩
  have hTl : T.length = plen (fqs L) := by rw [← hT]; rfl
  have hTn : pnorm T = T := by rw [← hT]; exact pnorm_pnorm _
  rw [hT] at QA hI
  obtain ⟨k1, hke⟩ : ∃ k1, plen (fqs L) = k1 := ⟨_, rfl⟩
  obtain ⟨L1, hL1⟩ : ∃ L1, L.take k1 = L1 := ⟨_, rfl⟩
  simp only [hke, hL1, hT] at HU HA TA QA hk1 hTl ⊢
  have HQA := Lib.hid QA
  have HTL := Lib.hid hTl
  have HAL := Lib.hid HA.out.len
  clear h ht QA hT hke hL1
  by_cases h0 : k1 = 0
  · subst h0
    have HT0 : Hid (T = []) := Lib.hid (List.eq_nil_of_length_eq_zero hTl)
    clear hTl hTn hI hb HA TA
    go_enter Try.func38, Try.ntmps38
    go_wp2_with fail
    refine HU.out.mono ?_
    rintro e w1 ⟨rfl, bw⟩
    have HB := Lib.hid bw
    clear bw HU
    go_wp2
    go_ret
    exact ⟨none, 0, 0, [], rfl, Rw.nil _, rfl, ⟨1, by decide, by rw [HT0.out]; rfl⟩, fun h9 => absurd rfl h9, HB.out⟩
  · obtain ⟨e, rfl⟩ : ∃ e, k1 = e + 1 := ⟨k1 - 1, by omega⟩
    have htop : co T (T.length - 1) ≠ 0 := top_nz hTn (by omega)
    have HSZ : Hid (∀ (j : Nat) (u : Rat), PlainS T j u → qlen u ≤ 2000000000 ∧ ∀ i, qlen (co T i / u) ≤ 2000000000) := Lib.hid (fun j u h9 => by
      obtain ⟨h1, h2, _⟩ := h9.size htop hk hI
      exact ⟨by omega, fun i => Nat.le_trans (h2 i) (by omega)⟩)
    have HP0 : Hid (PlainS T 0 (co T e)) := Lib.hid (by
      have h9 := PlainS.start htop
      rwa [HTL.out, show e + 1 - 1 = e by omega] at h9)
    have HTC : Hid (∀ j, j < e + 1 → co T j = (L1.getD j Fx.zero).q) := Lib.hid (fun j hj => by rw [← HQA.out]; exact co_fqs (by rw [HAL.out]; exact hj))
    obtain ⟨aa, ha⟩ : ∃ aa, a = some aa := by
      rcases HA.out.2.2.2.2.2 with h9 | ⟨b9, o9, e9, _⟩
      · omega
      · exact ⟨_, e9⟩
    subst ha
    have hz1 : ((e : Int) + 1 == 0) = false := by simp; omega
    have hze : ((e + 1 : Nat) : Int) - 1 = (e : Int) := by omega
    have heb : (e : Int) < ((e + 1 : Nat) : Int) := by omega
    have he0 : (0 : Int) ≤ (e : Int) := by omega
    obtain ⟨z1, hz9⟩ : ∃ z : Rat, ((1 : Int) : Rat) = z := ⟨_, rfl⟩
    have HO1 : ∀ w' : World, Calls Try.prog 21 #[.int .i64 1] w' (LstQ z1 w') := fun w' => hz9 ▸ frac_of 1 w' (by decide)
    have HZL : Hid (qlen z1 ≤ 2) := Lib.hid (hz9 ▸ qlen_int (by decide))
    have HPV : Hid (∀ v : Nat, qval (zneg z1.num) (val (dg z1.num.natAbs)) (val (dg v)) = 1 / ((v : Nat) : Rat)) := Lib.hid (hz9 ▸ part_val)
    have HZ1 : Hid (z1 = 1) := Lib.hid (by rw [← hz9]; rfl)
    clear hTl hTn hI hb hk h0 hz9
    go_enter Try.func38, Try.ntmps38
    go_wp2_with fail
    refine HU.out.mono ?_
    rintro ed w1 ⟨rfl, bw⟩
    have HB1 := Lib.hid bw
    clear bw HU
    obtain ⟨bt, offt, hbt, t0, t1, t2, hokt⟩ := (HA.out.later HB1.out).at (j := e) (by omega)
    have htht := TA.out _ (fx_mem (L := L1) (k := e) (by rw [HAL.out]; omega))
    have hct := HTC.out e (by omega)
    rw [hct] at HP0
    generalize L1.getD e Fx.zero = y at *
    obtain ⟨us, ua, un, uc, ula, ub, um, ud, ulb⟩ := y
    simp only at t0 t1 t2 htht
    obtain ⟨hua, hub⟩ := hokt
    obtain ⟨hun, hum⟩ := htht
    simp only at hua hub hun hum
    have hne9 := hbt
    simp only [Option.some.injEq] at hbt
    subst hbt
    have ba := below_alloc w1 (.cells #[.bool us, .slice ua un uc, .slice ub um ud] 34)
    have U0 := Lib.hid (blk_new w1 #[.bool us, .slice ua un uc, .slice ub um ud] 34)
    have UA := Lib.hid (hua.later ba)
    have UD := Lib.hid (hub.later ba)
    have HB2 := Lib.hid (below_then HB1.out ba)
    have hszu : w1.heap.size < (w1.alloc (.cells #[.bool us, .slice ua un uc, .slice ub um ud] 34)).heap.size := by rw [blk_size]; omega
    clear ba hua hub hct hne9
    go_wp2
    go_loopw [24] (fun iv wr => ∃ (j : Nat) (u : Rat) (us : Bool) (ua : Option Addr) (un uc : Nat) (ula : List Nat) (ub : Option Addr) (um ud : Nat) (ulb : List Nat), j ≤ e + 1 ∧ iv = .int .i64 (j : Int) ∧ un ≤ 2000000000 ∧ um ≤ 2000000000 ∧ Hid (PlainS T j u) ∧ Hid (qval us (val ula) (val ulb) = u) ∧ Hid (wr.heap[w1.heap.size]? = some (.cells #[.bool us, .slice ua un uc, .slice ub um ud] 34 (0, 0))) ∧ Hid (Wd wr ua un uc ula) ∧ Hid (Wd wr ub um ud ulb) ∧ Hid (Below w.heap.size w wr) ∧ w1.heap.size < wr.heap.size) (fun iv _ => e + 1 - (intOf iv).toNat)
    case atStart => exact ⟨0, _, us, ua, un, uc, ula, ub, um, ud, ulb, by omega, rfl, hun, hum, HP0, Lib.hid rfl, U0, UA, UD, HB2, hszu⟩
    case round =>
      clear U0 UA UD HB2 hszu HP0 hun hum t0 t1 t2
      obtain ⟨j, u, us, ua, un, uc, ula, ub, um, ud, ulb, hj, rfl, hun, hum, HP, HV, U0, UA, UD, HB, hsz⟩ := hrel
      by_cases hlt : j < e + 1
      · obtain ⟨by_, offy, hby, e0, e1, e2, hoky⟩ := (HA.out.later HB.out).at (j := j) (by omega)
        have hthy := TA.out _ (fx_mem (L := L1) (k := j) (by rw [HAL.out]; omega))
        have hcy := HTC.out j hlt
        generalize L1.getD j Fx.zero = y at *
        obtain ⟨ys, ya, yn, yc, yla, yb, ym, yd, ylb⟩ := y
        simp only at e0 e1 e2 hthy
        obtain ⟨hya, hyb⟩ := hoky
        obtain ⟨hyn, hym⟩ := hthy
        simp only at hya hyb hyn hym
        have hcy' : co T j = qval ys (val yla) (val ylb) := hcy
        simp only [Option.some.injEq] at hby
        cases hby
        obtain ⟨q, hq⟩ : ∃ q, co T j / u = q := ⟨_, rfl⟩
        have hP2 := HP.out.step hq.symm
        have hql : qlen q ≤ 2000000000 := by rw [← hq]; exact (HSZ.out j u HP.out).2 j
        have hu2l := (HSZ.out _ _ hP2).1
        obtain ⟨u2, hu2⟩ : ∃ u2, u * (1 / ((q.den : Nat) : Rat)) = u2 := ⟨_, rfl⟩
        rw [hu2] at hP2 hu2l
        have HP2 := Lib.hid hP2
        have HQL := Lib.hid hql
        have HU2L := Lib.hid hu2l
        have HQU : Hid (∀ w' : World, Wd w' ya yn yc yla → Wd w' yb ym yd ylb → Wd w' ua un uc ula → Wd w' ub um ud ulb → Calls Try.prog 40 #[.agg #[.bool ys, .slice ya yn yc, .slice yb ym yd], .agg #[.bool us, .slice ua un uc, .slice ub um ud]] w' (LstQV q (.bool true) w')) := Lib.hid (fun w' k1 k2 k3 k4 => by
          have h8 := fracSaid.quo (frV ys ya yn yc yb ym yd) (frV us ua un uc ub um ud) (co T j) u w' (Fr.of k1 k2 (by omega) (by omega) hcy'.symm) (Fr.of k3 k4 (by omega) (by omega) HV.out)
          rw [decide_eq_true HP.out.nz, hq] at h8
          exact h8)
        have HMU : Hid (∀ (w' : World) (a4 : Option Addr) (n4 c4 : Nat) (b4 : Option Addr) (m4 d4 : Nat), Wd w' ua un uc ula → Wd w' ub um ud ulb → Wd w' a4 n4 c4 (dg z1.num.natAbs) → Wd w' b4 m4 d4 (dg q.den) → Calls Try.prog 13 #[.agg #[.bool us, .slice ua un uc, .slice ub um ud], .agg #[.bool (zneg z1.num), .slice a4 n4 c4, .slice b4 m4 d4]] w' (LstQ u2 w')) := Lib.hid (fun w' a4 n4 c4 b4 m4 d4 k1 k2 k3 k4 => by
          have h8 := fracSaid.mul (frV us ua un uc ub um ud) (frV (zneg z1.num) a4 n4 c4 b4 m4 d4) u (1 / ((q.den : Nat) : Rat)) w' (Fr.of k1 k2 (by omega) (by omega) HV.out) (Fr.of k3 k4 (by rw [← k3.len]; exact Nat.le_trans (qlen_num _) (Nat.le_trans HZL.out (by decide))) (by rw [← k4.len]; exact Nat.le_trans (qlen_den _) (by have := HQL.out; omega)) (HPV.out _))
          rw [hu2] at h8
          exact h8)
        have YA := Lib.hid hya
        have YD := Lib.hid hyb
        have hji : (j : Int) < ((e + 1 : Nat) : Int) := by omega
        have hj0 : (0 : Int) ≤ (j : Int) := by omega
        clear hcy hcy' hq hP2 hql hu2l hu2 hya hyb HP HV
        obtain ⟨x0, x1, x2⟩ := fcells_3 U0.out
        have bc := below_alloc wr (.cells #[.bool ys, .slice ya yn yc, .slice yb ym yd] 34)
        have HBc := Lib.hid (below_then HB.out bc)
        have U1 := Lib.hid (blk_later U0.out bc)
        have UA1 := Lib.hid (UA.out.later bc)
        have UD1 := Lib.hid (UD.out.later bc)
        have HC1 := Lib.hid (HQU.out _ (YA.out.later bc) (YD.out.later bc) UA1.out UD1.out)
        clear bc HQU YA YD UA UD
        go_wp2_with fail
        refine HC1.out.mono ?_
        rintro ed w3 ⟨a3, n3, c3, b3, m3, d3, rfl, h3, g3, bw⟩
        clear x0 x1 x2 e0 e1 e2 HB HC1
        unfold frV
        have ba := below_alloc w3 (.cells #[.bool (zneg q.num), .slice a3 n3 c3, .slice b3 m3 d3] 34)
        have bb := below_then bw ba
        have T3 := Lib.hid (blk_new w3 #[.bool (zneg q.num), .slice a3 n3 c3, .slice b3 m3 d3] 34)
        have TD := Lib.hid (g3.later ba)
        replace HBc := Lib.hid (below_then HBc.out bb)
        replace U1 := Lib.hid (blk_later U1.out bb)
        replace UA1 := Lib.hid (UA1.out.later bb)
        replace UD1 := Lib.hid (UD1.out.later bb)
        have hsz3 : wr.heap.size < w3.heap.size := by have h9 := bw.size; rw [blk_size] at h9; omega
        clear ba bb bw h3 g3 U0
        go_wp2_with fail
        refine (HO1 _).mono ?_
        rintro ed w4 ⟨a4, n4, c4, b4, m4, d4, rfl, h4, g4, bw⟩
        unfold frV
        have ba := below_alloc w4 (.cells #[.bool (zneg z1.num), .slice a4 n4 c4, .slice b3 m3 d3] 34)
        have ba2 := below_alloc w4 (.cells #[.bool (zneg z1.num), .slice a4 n4 c4, .slice b4 m4 d4] 34)
        have T4 := Lib.hid (blk_later (blk_later T3.out bw) ba2)
        have hsz4 : w3.heap.size < w4.heap.size := by have h9 := bw.size; rw [blk_size] at h9; omega
        have bb := below_then bw ba
        have N4 := Lib.hid (h4.later ba)
        replace TD := Lib.hid (TD.out.later bb)
        replace HBc := Lib.hid (below_then HBc.out bb)
        replace U1 := Lib.hid (blk_later U1.out bb)
        replace UA1 := Lib.hid (UA1.out.later bb)
        replace UD1 := Lib.hid (UD1.out.later bb)
        clear ba ba2 bb bw h4 g4 T3
        obtain ⟨x0, x1, x2⟩ := fcells_3 U1.out
        obtain ⟨y0, y1, y2⟩ := fcells_3 T4.out
        have HC2 := Lib.hid (HMU.out _ a4 n4 c4 b3 m3 d3 UA1.out UD1.out N4.out TD.out)
        clear N4 TD UA1 UD1 HMU
        go_wp2_with fail
        refine HC2.out.mono ?_
        rintro ed w5 ⟨a5, n5, c5, b5, m5, d5, rfl, h5, g5, bw⟩
        clear x0 x1 x2 y0 y1 y2 T4 HC2
        unfold frV
        replace HBc := Lib.hid (below_then HBc.out bw)
        replace U1 := Lib.hid (blk_later U1.out bw)
        have hsz5 : w1.heap.size < w5.heap.size := by have h9 := bw.size; rw [blk_size] at h9; omega
        obtain ⟨x0, x1, x2⟩ := fcells_3 U1.out
        have f0 := blk_free U1.out 0
        have f1 := blk_free U1.out 1
        have f2 := blk_free U1.out 2
        have U9 := Lib.hid (blk_set3 U1.out (.bool (zneg u2.num)) (.slice a5 n5 c5) (.slice b5 m5 d5))
        have UA9 := Lib.hid (h5.stored3 U1.out (zneg u2.num) a5 n5 c5 (.slice b5 m5 d5))
        have UD9 := Lib.hid (g5.stored3 U1.out (zneg u2.num) a5 n5 c5 (.slice b5 m5 d5))
        have HB9 := Lib.hid (below_set3 HBc.out (show w.heap.size ≤ w1.heap.size from HB1.out.size) (.bool (zneg u2.num)) (.slice a5 n5 c5) (.slice b5 m5 d5))
        have ln5 : n5 ≤ 2000000000 := by rw [← h5.len]; exact Nat.le_trans (qlen_num _) HU2L.out
        have lm5 : m5 ≤ 2000000000 := by rw [← g5.len]; exact Nat.le_trans (qlen_den _) HU2L.out
        have HV9 := Lib.hid (qval_dg u2)
        clear bw h5 g5 HBc U1
        go_wp2
        go_roundw
        case rel => exact ⟨j + 1, u2, zneg u2.num, a5, n5, c5, _, b5, m5, d5, _, by omega, by go_num, ln5, lm5, HP2, HV9, U9, UA9, UD9, HB9, (by simpa using hsz5)⟩
        case measure => simp [intOf]; omega
      · obtain rfl : j = e + 1 := by omega
        have HPR : Hid (Prim (rscale (1 / u) T)) := Lib.hid (PlainS.done (by have h9 := HP.out; rwa [← HTL.out] at h9))
        have hu0 := HP.out.nz
        obtain ⟨per, hper⟩ : ∃ p, 1 / u = p := ⟨_, rfl⟩
        have hper0 : per ≠ 0 := fun e9 => by
          have h9 : 1 / u * u = 1 := Rat.div_mul_cancel hu0
          rw [hper, e9, Rat.zero_mul] at h9
          exact absurd h9 (by decide)
        have hperl : qlen per ≤ 2000000000 := by
          rw [← hper, Rat.div_def, Rat.one_mul]
          exact Nat.le_trans (qlen_inv u) (HSZ.out _ u HP.out).1
        rw [hper] at HPR
        have HQ1 : ∀ (w' : World) (a4 : Option Addr) (n4 c4 : Nat) (b4 : Option Addr) (m4 d4 : Nat), Wd w' a4 n4 c4 (dg z1.num.natAbs) → Wd w' b4 m4 d4 (dg z1.den) → Below wr.heap.size wr w' → Calls Try.prog 40 #[.agg #[.bool (zneg z1.num), .slice a4 n4 c4, .slice b4 m4 d4], .agg #[.bool us, .slice ua un uc, .slice ub um ud]] w' (LstQV per (.bool true) w') := fun w' a4 n4 c4 b4 m4 d4 k1 k2 k3 => by
          have h8 := fracSaid.quo (frV (zneg z1.num) a4 n4 c4 b4 m4 d4) (frV us ua un uc ub um ud) z1 u w' (Fr.right k1 k2 (by rw [← k1.len]; exact Nat.le_trans (qlen_num _) (Nat.le_trans HZL.out (by decide))) (by rw [← k2.len]; exact Nat.le_trans (qlen_den _) (Nat.le_trans HZL.out (by decide)))) (Fr.of (UA.out.later k3) (UD.out.later k3) (by omega) (by omega) HV.out)
          rw [decide_eq_true hu0, HZ1.out, hper] at h8
          rw [HZ1.out]
          exact h8
        have HSC : ∀ (w' : World) (v : Value), Fr w' v per 2097152000 → Below w.heap.size w w' → Calls Try.prog 41 #[v, .slice (some ⟨bt, offt, none⟩) (e + 1) c] w' (LstRw (rscale per T) w') := fun w' v k1 k2 => by
          have h9 := row_scale v per _ (e + 1) c L1 w' k1 (HA.out.later k2) (by omega) (TA.out.mono (by decide))
          rwa [HQA.out] at h9
        have SU := Lib.hid (show wr.cell? ⟨w1.heap.size, 0, none⟩ = some (.bool us) ∧ wr.cell? ⟨w1.heap.size, 1, none⟩ = some (.slice ua un uc) ∧ wr.cell? ⟨w1.heap.size, 2, none⟩ = some (.slice ub um ud) from fcells_3 U0.out)
        have HPL := Lib.hid hperl
        have HP9 := Lib.hid hper0
        have hni : ¬ ((e + 1 : Nat) : Int) < ((e + 1 : Nat) : Int) := by omega
        clear hu0 hper hper0 hperl HP HV UA UD U0
        go_upto_region 13 with fail
        go_cut [9, 10] from 42 to 47 (fun cv ov wx => ∃ (g : Nat) (a5 : Option Addr) (n5 c5 : Nat) (b5 : Option Addr) (m5 d5 : Nat), cv = .pointer (some ⟨g, 0, none⟩) ∧ ov = .bool true ∧ Hid (wx.heap[g]? = some (.cells #[.bool (zneg per.num), .slice a5 n5 c5, .slice b5 m5 d5] 34 (0, 0))) ∧ Hid (Wd wx a5 n5 c5 (dg per.num.natAbs)) ∧ Hid (Wd wx b5 m5 d5 (dg per.den)) ∧ Hid (Below wr.heap.size wr wx))
        case first =>
          obtain ⟨s0, s1, s2⟩ := three_on SU.out (Below.refl wr.heap.size wr)
          go_wp2
          clear s0 s1 s2
          have G1 : Below wr.heap.size wr wr.drew := (Below.refl _ _).drew
          have G2 : ∀ o, Below wr.heap.size wr (wr.alloc o).drew := fun o => (below_alloc wr o).drew
          have qS := three_on SU.out G1
          have qA := fun o => three_on SU.out (G2 o)
          go_region_held3 (fun w' => w'.cell? ⟨w1.heap.size, 0, none⟩ = some (.bool us) ∧ w'.cell? ⟨w1.heap.size, 1, none⟩ = some (.slice ua un uc) ∧ w'.cell? ⟨w1.heap.size, 2, none⟩ = some (.slice ub um ud)) (first | with_reducible exact qS | with_reducible exact qA _ | with_reducible exact qC)
            (first
            | (go_at_call 21; refine (HO1 _).mono ?_; rintro ed w4 ⟨a4, n4, c4, b4, m4, d4, rfl, h4, g4, bw⟩; unfold frV; (first
              | (have bw1 : Below wr.drew.heap.size wr.drew w4 := (by with_reducible exact bw); have BB := Lib.hid (below_then G1 bw1); have A4 := Lib.hid h4; have D4 := Lib.hid g4; have M1 := True.intro; clear h4 g4 bw bw1 qS qA; have qS := three_on SU.out BB.out; have qA := fun o => three_on SU.out (below_then BB.out (below_alloc w4 o)))
              | (have bw1 : Below (wr.alloc (.cells #[.bool false, .slice none 0 0, .slice none 0 0] 34)).drew.heap.size (wr.alloc (.cells #[.bool false, .slice none 0 0, .slice none 0 0] 34)).drew w4 := (by with_reducible exact bw); have BB := Lib.hid (below_then (G2 _) bw1); have Z4 := Lib.hid (blk_later (w := (wr.alloc (.cells #[.bool false, .slice none 0 0, .slice none 0 0] 34)).drew) (blk_new wr #[.bool false, .slice none 0 0, .slice none 0 0] 34) bw1); have A4 := Lib.hid h4; have D4 := Lib.hid g4; clear h4 g4 bw bw1 qS qA; have qS := three_on SU.out BB.out; have qA := fun o => three_on SU.out (below_then BB.out (below_alloc w4 o)))))
            | (go_at_call 40; (first
              | (have Y4 := Z4; (with_reducible refine (HQ1 w4 _ _ _ _ _ _ A4.out D4.out BB.out).mono ?_); rintro ed w5 ⟨a5, n5, c5, b5, m5, d5, rfl, h5, g5, bw⟩; have BC := Lib.hid (below_then BB.out bw); have Z5 := Lib.hid (blk_later Z4.out bw); have hzb : wr.heap.size ≤ wr.heap.size := Nat.le_refl _; have A5 := Lib.hid h5; have D5 := Lib.hid g5; clear h5 g5 bw Y4 qS qA; unfold frV; obtain ⟨z0, z1, z2⟩ := fcells_3 Z5.out; have f0 := blk_free Z5.out 0; have f1 := blk_free Z5.out 1; have f2 := blk_free Z5.out 2; have qS := three_on SU.out BC.out; have qA := fun o => three_on SU.out (below_then BC.out (below_alloc w5 o)); have qC := three_on SU.out (below_set3 BC.out hzb (.bool (zneg per.num)) (.slice a5 n5 c5) (.slice b5 m5 d5)))
              | ((with_reducible refine (HQ1 w4 _ _ _ _ _ _ A4.out D4.out BB.out).mono ?_); rintro ed w5 ⟨a5, n5, c5, b5, m5, d5, rfl, h5, g5, bw⟩; have BC := Lib.hid (below_then BB.out bw); have A5 := Lib.hid h5; have D5 := Lib.hid g5; clear h5 g5 bw qS qA; unfold frV; have qS := three_on SU.out BC.out; have qA := fun o => three_on SU.out (below_then BC.out (below_alloc w5 o)))
              | (have ba := below_alloc w4 (.cells #[.bool false, .slice none 0 0, .slice none 0 0] 34); (with_reducible refine (HQ1 (w4.alloc (.cells #[.bool false, .slice none 0 0, .slice none 0 0] 34)) _ _ _ _ _ _ (A4.out.later ba) (D4.out.later ba) (below_then BB.out ba)).mono ?_); rintro ed w5 ⟨a5, n5, c5, b5, m5, d5, rfl, h5, g5, bw⟩; have BC := Lib.hid (below_then (below_then BB.out ba) bw); have Z5 := Lib.hid (blk_later (blk_new w4 #[.bool false, .slice none 0 0, .slice none 0 0] 34) bw); have hzb : wr.heap.size ≤ w4.heap.size := BB.out.size; have A5 := Lib.hid h5; have D5 := Lib.hid g5; clear h5 g5 bw ba qS qA; unfold frV; obtain ⟨z0, z1, z2⟩ := fcells_3 Z5.out; have f0 := blk_free Z5.out 0; have f1 := blk_free Z5.out 1; have f2 := blk_free Z5.out 2; have qS := three_on SU.out BC.out; have qA := fun o => three_on SU.out (below_then BC.out (below_alloc w5 o)); have qC := three_on SU.out (below_set3 BC.out hzb (.bool (zneg per.num)) (.slice a5 n5 c5) (.slice b5 m5 d5))))))
          all_goals (
            go_wp2
            go_meet
            (first
              | exact ⟨_, a5, n5, c5, b5, m5, d5, rfl, rfl, Lib.hid (blk_set3 Z5.out (.bool (zneg per.num)) (.slice a5 n5 c5) (.slice b5 m5 d5)), Lib.hid (A5.out.stored3 Z5.out (zneg per.num) a5 n5 c5 (.slice b5 m5 d5)), Lib.hid (D5.out.stored3 Z5.out (zneg per.num) a5 n5 c5 (.slice b5 m5 d5)), Lib.hid (below_set3 BC.out hzb (.bool (zneg per.num)) (.slice a5 n5 c5) (.slice b5 m5 d5))⟩
              | exact ⟨w5.heap.size, a5, n5, c5, b5, m5, d5, rfl, rfl, Lib.hid (blk_new w5 _ 34), Lib.hid (A5.out.later (below_alloc w5 _)), Lib.hid (D5.out.later (below_alloc w5 _)), Lib.hid (below_then BC.out (below_alloc w5 _))⟩))
        case rest =>
          obtain ⟨g9, a9, n9, c9, b9, m9, d9, rfl, rfl, PB, PA, PD, HBc⟩ := hcut
          have HB9 := Lib.hid (below_then HB.out HBc.out)
          obtain ⟨x0, x1, x2⟩ := fcells_3 PB.out
          have HC3 := Lib.hid (HSC wc (frV (zneg per.num) a9 n9 c9 b9 m9 d9) (Fr.right PA.out PD.out (by rw [← PA.out.len]; exact Nat.le_trans (qlen_num _) (Nat.le_trans HPL.out (by decide))) (by rw [← PD.out.len]; exact Nat.le_trans (qlen_den _) (Nat.le_trans HPL.out (by decide)))) HB9.out)
          unfold frV at HC3
          clear PA PD HSC HBc HB SU HQ1
          go_wp2_with fail
          refine HC3.out.mono ?_
          rintro ed w7 ⟨a7, n7, c7, rfl, h7, bw⟩
          have R7 := Lib.hid h7
          have HB7 := Lib.hid (below_then HB9.out bw)
          clear bw h7 HC3 x0 x1 x2
          go_wp2
          go_ret
          exact ⟨a7, n7, c7, rscale per T, rfl, R7.out, by rw [rscale_length]; exact HTL.out, ⟨per, HP9.out, rfl⟩, fun _ => HPR.out, HB7.out⟩
end Go.Proofs.Ytipcgehcineblaa

/-
  Package poly at this seat: rest.
-/
namespace Go.Proofs.Ytipcgehcineblaa
open Go.RowKit

theorem ints_len {X : List Rat} {S : Nat} (h : Ints X (pw S)) : ∀ q ∈ X, qlen q ≤ S + 2 := qlen_list fun i => by
  obtain ⟨z, h1, h2⟩ := h i
  rw [h1]
  exact qlen_z h2
theorem fpow_len {x : Rat} {X : Nat} (hx : qlen x ≤ X) : ∀ j : Nat, qlen (x ^ j) ≤ 2 + j * (X + 1)
  | 0 => by
    rw [Rat.pow_zero]
    have h1 : qlen 1 ≤ 2 := qlen_int (z := 1) (by decide)
    omega
  | j + 1 => by
    have h1 := fpow_len hx j
    have h2 := qlen_mul (x ^ j) x
    rw [Rat.pow_succ, Nat.add_mul, Nat.one_mul]
    omega
theorem fpow_nz {x : Rat} (hx : x ≠ 0) : ∀ j : Nat, x ^ j ≠ 0
  | 0 => by rw [Rat.pow_zero]; decide
  | j + 1 => fun e => by
    rw [Rat.pow_succ] at e
    rcases Rat.mul_eq_zero.1 e with g | g
    · exact fpow_nz hx j g
    · exact hx g
set_option maxRecDepth 4096 in
set_option maxHeartbeats 8000000 in
theorem poly_rest (a : Option Addr) (n c : Nat) (X : List Rat) (b : Option Addr) (m d : Nat) (Y : List Rat) (S h9 : Nat) (w : World) (h : Rw w a n c X) (k : Rw w b m d Y) (hn : n ≤ h9) (hm : m ≤ h9) (hh : h9 ≤ 300) (hY : pnorm Y = Y) (h0 : 0 < Y.length) (hIX : Ints X (pw S)) (hIY : Ints Y (pw S)) (hb : (2 * h9 + 8) * (S + 3) ≤ 1900000000) :
    Calls Try.prog 39 #[.slice a n c, .slice b m d] w (fun e w' => ∃ (a' : Option Addr) (n' c' : Nat) (f : Rat) (q r : List Rat), e = .returned (.slice a' n' c') ∧ Rw w' a' n' c' r ∧ f ≠ 0 ∧ isDiv (rscale f X) Y q r ∧ pnorm r = r ∧ (∀ x ∈ r, qlen x ≤ (2 * h9 + 8) * (S + 3)) ∧ Below w.heap.size w w') := by
  have hbd := h.bound
  have hbd2 := k.bound
  have hl1 := h.len
  have hl2 := k.len
  obtain ⟨e, rfl⟩ : ∃ e, m = e + 1 := ⟨m - 1, by omega⟩
  obtain ⟨y, hy⟩ : ∃ y, Y.getD e 0 = y := ⟨_, rfl⟩
  have hy0 : y ≠ 0 := by
    have h8 := top_nz hY h0
    rw [hl2, show e + 1 - 1 = e by omega, hy] at h8
    exact h8
  have hXq := ints_len hIX
  have hYq := ints_len hIY
  have hyl : qlen y ≤ S + 2 := by rw [← hy]; exact hYq _ (q_mem (by omega))
  have hS9 : (n + 1) * (S + 3) ≤ (h9 + 1) * (S + 3) := Nat.mul_le_mul_right _ (by omega)
  have hS8 : (2 * h9 + 8) * (S + 3) = (h9 + 1) * (S + 3) + (h9 + 1) * (S + 3) + 6 * (S + 3) := by rw [← Nat.add_mul, ← Nat.add_mul]; congr 1; omega
  have hFL : ∀ j, j ≤ n + 1 → qlen (y ^ j) ≤ 2 + (h9 + 1) * (S + 3) := fun j hj => by
    have h8 := fpow_len hyl j
    have h7 : j * (S + 2 + 1) ≤ (h9 + 1) * (S + 3) := Nat.mul_le_mul (by omega) (by omega)
    omega
  have HFL : Hid (∀ j, j ≤ n + 1 → qlen (y ^ j) ≤ 1900000000) := Lib.hid (fun j hj => by have h8 := hFL j hj; omega)
  have HDV : ∀ (w' : World) (a' : Option Addr) (n' c' : Nat) (f : Rat), f ≠ 0 → qlen f ≤ 2 + (h9 + 1) * (S + 3) → Rw w' a' n' c' (rscale f X) → Rw w' b (e + 1) d Y → Calls Try.prog 20 #[.slice a' n' c', .slice b (e + 1) d] w' (fun ed w'' => ∃ (a1 : Option Addr) (n1 c1 : Nat) (a2 : Option Addr) (n2 c2 : Nat) (q r : List Rat), ed = .returned (.tuple #[.slice a1 n1 c1, .slice a2 n2 c2, .bool true]) ∧ Rw w'' a2 n2 c2 r ∧ isDiv (rscale f X) Y q r ∧ pnorm r = r ∧ (∀ x ∈ r, qlen x ≤ (2 * h9 + 8) * (S + 3)) ∧ Below w'.heap.size w' w'') := fun w' a' n' c' f hf hfl k1 k2 => by
    have hq1 : ∀ q ∈ rscale f X, qlen q ≤ 2000000000 := fun q hq => by
      have h8 := qlen_rscale hfl hXq q hq
      omega
    obtain ⟨L1, l1, l2, l3⟩ := k1.thin hq1
    obtain ⟨M1, m1, m2, m3⟩ := k2.thin (N := 2000000000) (fun q hq => Nat.le_trans (hYq q hq) (by omega))
    obtain ⟨z, hz⟩ := DivL.of hY h0 hIY (l := 1) (fun i => by rw [co_rscale, Rat.one_mul])
    have h1l : qlen 1 ≤ 2 := qlen_int (z := 1) (by decide)
    have hrl : (pnorm (rscale f X)).length ≤ n := Nat.le_trans (pnorm_length_le _) (by rw [rscale_length, hl1]; exact Nat.le_refl _)
    have hmul : (n + 1 - Y.length) * (S + 1) ≤ (n + 1) * (S + 3) := Nat.mul_le_mul (by omega) (by omega)
    have hW := DivWay.new (A := rscale f X) (K := S + 2) (n := n) (s := S) (k := f) (T := (2 * h9 + 8) * (S + 3)) hz hrl hIX (peq.refl _) (Nat.le_refl _) (by omega)
    have hn' : n' = n := by rw [← k1.len, rscale_length, hl1]
    have h8 := poly_div_by a' n' c' L1 b (e + 1) d M1 (S + 2) ((2 * h9 + 8) * (S + 3)) _ w' l1 m1 (by omega) (by omega) l3 m3 (by rw [m2, hY]; exact hYq) (by rw [m2, plen_right hY]; omega) (by rw [l2, m2, hY]; exact hW) (by omega) (by omega)
    refine h8.mono fun ed w'' h7 => ?_
    obtain ⟨a1, n1, c1, q, a2, n2, c2, r, g1, g2, g3, g4, g5, g6, ⟨Q, g7, g8⟩, g9⟩ := h7
    rw [l2, m2, hY] at g4
    exact ⟨a1, n1, c1, a2, n2, c2, q, r, g1, g3, g4, g6, (hW.room g8).1, g9⟩
  have HSC : ∀ (w' : World) (v : Value) (f : Rat), Fr w' v f 2097152000 → Rw w' a n c X → Calls Try.prog 41 #[v, .slice a n c] w' (LstRw (rscale f X) w') := fun w' v f k1 k2 => by
    obtain ⟨L1, l1, l2, l3⟩ := k2.thin hXq
    have h8 := row_scale v f a n c L1 w' k1 l1 (by omega) (l3.mono (by omega))
    rwa [l2] at h8
  have HF2 : Hid (∀ j, j ≤ n + 1 → qlen (y ^ j) ≤ 2 + (h9 + 1) * (S + 3)) := Lib.hid hFL
  obtain ⟨K9, hK9⟩ : ∃ K9, (2 * h9 + 8) * (S + 3) = K9 := ⟨_, rfl⟩
  obtain ⟨K8, hK8⟩ : ∃ K8, 2 + (h9 + 1) * (S + 3) = K8 := ⟨_, rfl⟩
  have HFN : Hid (∀ j, y ^ j ≠ 0) := Lib.hid (fpow_nz hy0)
  simp only [hK9, hK8] at HDV HF2 hb ⊢
  have hyl9 : qlen y ≤ 1900000000 := by omega
  have HYL := Lib.hid hyl9
  have HX := Lib.hid h
  have HYR := Lib.hid k
  have HY9 := Lib.hid hy
  obtain ⟨z1, hz9⟩ : ∃ z : Rat, ((1 : Int) : Rat) = z := ⟨_, rfl⟩
  have HO1 : ∀ w' : World, Calls Try.prog 21 #[.int .i64 1] w' (LstQ z1 w') := fun w' => hz9 ▸ frac_of 1 w' (by decide)
  have HZ0 : Hid (z1 = y ^ 0) := Lib.hid (by rw [← hz9, Rat.pow_zero]; rfl)
  obtain ⟨ct, hct⟩ : ∃ ct : Int, (n : Int) - ((e + 1 : Nat) : Int) + 1 = ct := ⟨_, rfl⟩
  obtain ⟨N8, hN8⟩ : ∃ N8 : Nat, N8 = ct.toNat := ⟨_, rfl⟩
  have hN8n : N8 ≤ n + 1 := by omega
  have hct' : (n : Int) - ((e : Int) + 1) + 1 = ct := by omega
  clear h k hXq hYq hFL hIX hIY hY h0 hy hy0 hyl hyl9 hK9 hK8 hz9 hl1 hl2 hS8 hS9
  go_enter Try.func39, Try.ntmps39
  go_wp2_with fail
  refine (HO1 _).mono ?_
  rintro ed w1 ⟨a1, n1, c1, b1, m1, d1, rfl, h1, g1, bw⟩
  unfold frV
  have ba := below_alloc w1 (.cells #[.bool (zneg z1.num), .slice a1 n1 c1, .slice b1 m1 d1] 34)
  have S0 := Lib.hid (blk_new w1 #[.bool (zneg z1.num), .slice a1 n1 c1, .slice b1 m1 d1] 34)
  have SA := Lib.hid (h1.later ba)
  have SD := Lib.hid (g1.later ba)
  have HB0 := Lib.hid (below_then bw ba)
  have hsz1 : w.heap.size ≤ w1.heap.size := bw.size
  clear bw ba h1 g1 HO1
  go_wp2
  go_loopw [16] (fun iv wr => ∃ (j : Nat) (f : Rat) (a1 : Option Addr) (n1 c1 : Nat) (b1 : Option Addr) (m1 d1 : Nat), j ≤ N8 ∧ iv = .int .i64 (j : Int) ∧ Hid (f = y ^ j) ∧ Hid (wr.heap[w1.heap.size]? = some (.cells #[.bool (zneg f.num), .slice a1 n1 c1, .slice b1 m1 d1] 34 (0, 0))) ∧ Hid (Wd wr a1 n1 c1 (dg f.num.natAbs)) ∧ Hid (Wd wr b1 m1 d1 (dg f.den)) ∧ Hid (Below w.heap.size w wr)) (fun iv _ => N8 - (intOf iv).toNat)
  case atStart => exact ⟨0, z1, a1, n1, c1, b1, m1, d1, by omega, rfl, HZ0, S0, SA, SD, HB0⟩
  case round =>
    clear S0 SA SD HB0 HZ0
    obtain ⟨j, f, a1, n1, c1, b1, m1, d1, hj, rfl, HE, S0, SA, SD, HB⟩ := hrel
    have hfl := HFL.out j (by omega)
    have hfl8 := HF2.out j (by omega)
    have hfn := HFN.out j
    rw [← HE.out] at hfl hfl8 hfn
    have ln1 : n1 ≤ 1900000000 := by rw [← SA.out.len]; exact Nat.le_trans (qlen_num _) hfl
    have lm1 : m1 ≤ 1900000000 := by rw [← SD.out.len]; exact Nat.le_trans (qlen_den _) hfl
    by_cases hlt : (j : Int) < ct
    · obtain ⟨bb, off, rfl, a3, n3, c3, b3, m3, d3, he, hA, hD⟩ := HYR.out.at (j := e) (by omega)
      rw [HY9.out] at he hA hD
      have ln3 : n3 ≤ 1900000000 := by rw [← hA.len]; exact Nat.le_trans (qlen_num _) HYL.out
      have lm3 : m3 ≤ 1900000000 := by rw [← hD.len]; exact Nat.le_trans (qlen_den _) HYL.out
      obtain ⟨fz, hf2⟩ : ∃ z, f * y = z := ⟨_, rfl⟩
      have HE2 : Hid (fz = y ^ (j + 1)) := Lib.hid (by rw [← hf2, Rat.pow_succ, HE.out])
      have E2 := Lib.hid hf2
      have HEE := Lib.hid he
      have QA := Lib.hid hA
      have QD := Lib.hid hD
      have hei : (e : Int) < (e : Int) + 1 := by omega
      have he0 : (0 : Int) ≤ (e : Int) := by omega
      have hee : ((e + 1 : Nat) : Int) - 1 = (e : Int) := by omega
      have hwe : IntKind.i64.wrap (e : Int) = (e : Int) := by rw [IntKind.wrap_i64]; omega
      clear he hA hD hf2 HE hfl hfl8 hfn
      obtain ⟨e0, e1, e2⟩ := three_on HEE.out HB.out; obtain ⟨x0, x1, x2⟩ := fcells_3 S0.out
      go_wp2
      have b0 : Below wr.heap.size wr wr.drew := (Below.refl _ _).drew
      replace HB := Lib.hid (below_then HB.out b0)
      replace S0 := Lib.hid (blk_later S0.out b0)
      replace SA := Lib.hid (SA.out.later b0)
      replace SD := Lib.hid (SD.out.later b0)
      clear e0 e1 e2 x0 x1 x2 b0
      obtain ⟨e0, e1, e2⟩ := three_on HEE.out HB.out; obtain ⟨x0, x1, x2⟩ := fcells_3 S0.out
      go_region_law (first
        | (go_simp; go_at_call 13; refine (fracSaid.mul _ _ f y _ (Fr.right SA.out SD.out (by omega) (by omega)) (Fr.right (QA.out.later HB.out) (QD.out.later HB.out) (by omega) (by omega))).mono ?_; rintro ed w4 ⟨a4, n4, c4, b4, m4, d4, rfl, h4, g4, bw⟩; rw [E2.out] at h4 g4 ⊢; clear e0 e1 e2 x0 x1 x2; replace HB := Lib.hid (below_then HB.out bw); replace S0 := Lib.hid (blk_later S0.out bw); have A4 := Lib.hid h4; have D4 := Lib.hid g4; clear bw h4 g4 SA SD; unfold frV; obtain ⟨x0, x1, x2⟩ := fcells_3 S0.out; have f0 := blk_free S0.out 0; have f1 := blk_free S0.out 1; have f2 := blk_free S0.out 2))
      all_goals (
        have S9 := Lib.hid (blk_set3 S0.out (.bool (zneg fz.num)) (.slice a4 n4 c4) (.slice b4 m4 d4))
        have SA9 := Lib.hid (A4.out.stored3 S0.out (zneg fz.num) a4 n4 c4 (.slice b4 m4 d4))
        have SD9 := Lib.hid (D4.out.stored3 S0.out (zneg fz.num) a4 n4 c4 (.slice b4 m4 d4))
        have B9 := Lib.hid (below_set3 HB.out hsz1 (.bool (zneg fz.num)) (.slice a4 n4 c4) (.slice b4 m4 d4))
        clear S0 HB A4 D4
        go_wp2
        go_roundw
        case rel => exact ⟨j + 1, _, a4, n4, c4, b4, m4, d4, by omega, by go_num, HE2, S9, SA9, SD9, B9⟩
        case measure => simp [intOf]; omega)
    · obtain ⟨x0, x1, x2⟩ := fcells_3 S0.out
      have HC1 := Lib.hid (HSC wr (frV (zneg f.num) a1 n1 c1 b1 m1 d1) f (Fr.right SA.out SD.out (by omega) (by omega)) (HX.out.later HB.out))
      have HD1 := Lib.hid (fun (w' : World) (a' : Option Addr) (n' c' : Nat) => HDV w' a' n' c' f hfn hfl8)
      have HFZ := Lib.hid hfn
      unfold frV at HC1
      clear hfl hfl8 hfn HSC HDV SA SD HE
      go_wp2_with fail
      refine HC1.out.mono ?_
      rintro ed w5 ⟨a5, n5, c5, rfl, h5, bw⟩
      replace HB := Lib.hid (below_then HB.out bw)
      have R5 := Lib.hid h5
      clear bw h5 HC1 x0 x1 x2
      go_wp2_with fail
      refine (HD1.out _ a5 n5 c5 R5.out (HYR.out.later HB.out)).mono ?_
      rintro ed w6 ⟨a6, n6, c6, a7, n7, c7, q, r, rfl, h7, g2, g3, g4, bw⟩
      replace HB := Lib.hid (below_then HB.out bw)
      have R7 := Lib.hid h7
      have G2 := Lib.hid g2
      have G3 := Lib.hid g3
      have G4 := Lib.hid g4
      clear bw h7 g2 g3 g4 HD1 R5
      go_wp2
      go_ret
      exact ⟨a7, n7, c7, f, q, r, rfl, R7.out, HFZ.out, G2.out, G3.out, G4.out, HB.out⟩
end Go.Proofs.Ytipcgehcineblaa
