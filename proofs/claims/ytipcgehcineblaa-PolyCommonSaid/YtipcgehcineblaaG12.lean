/-
  Several texts of this claim as one, group 12.
-/
import Derived.Test.YtipcgehcineblaaG11
import Derived.Test.YtipcgehcineblaaG9
import Derived.Test.YtipcgehcineblaaG10
import Derived.Laws.MakeOwn
import Derived.OwnWalk
import Derived.Test.YtipcgehcineblaaRows
import Derived.Lib.LaidTab
import Derived.Test.YtipcgehcineblaaG7
import Derived.Test.YtipcgehcineblaaG8
import Derived.Deep.RegionHeld3
import Derived.Deep.RegionLaw
/-
  Long division and Euclid's way, as what a walk wants of them: states, and that all numbers on the way are short enough. Of no program.
-/
namespace Go.Proofs.Ytipcgehcineblaa
open Go.RowKit

/-- What a walk through a long division wants: a state, and how long the numbers are. -/
structure DivWay (A B : List Rat) (K T : Nat) (I : List Rat → List Rat → Prop) : Prop where
  start : I [] (pnorm A)
  step : ∀ {Q R Q' X R' : List Rat} {c : Rat}, I Q R → pnorm R = R → B.length ≤ R.length → c = R.getD (R.length - 1) 0 / B.getD (B.length - 1) 0 → peq Q' (padd Q (shot (R.length - B.length) c)) → peq X (pmul (shot (R.length - B.length) c) B) → peq R' (psub R X) → pnorm R' = R' → I Q' R'
  room : ∀ {Q R : List Rat}, I Q R → (∀ q ∈ R, qlen q ≤ T) ∧ ∀ q ∈ Q, qlen q ≤ T
  top : ∀ {Q R : List Rat}, I Q R → pnorm R = R → B.length ≤ R.length → qlen (R.getD (R.length - 1) 0 / B.getD (B.length - 1) 0) + K + 5 ≤ T
/-- What a walk through Euclid's way wants. -/
structure GcdWay (A B : List Rat) (T E : Nat) (J : List Rat → List Rat → Prop) : Prop where
  start : J (pnorm A) (pnorm B)
  div : ∀ {x y : List Rat}, J x y → pnorm x = x → pnorm y = y → 0 < y.length → ∃ K I, (∀ q ∈ y, qlen q ≤ K) ∧ (∀ q ∈ x, qlen q ≤ T) ∧ DivWay x y K T I
  step : ∀ {x y q r : List Rat}, J x y → pnorm x = x → pnorm y = y → 0 < y.length → isDiv x y q r → pnorm r = r → J y r
  over : ∀ {x : List Rat}, J x [] → pnorm x = x → 0 < x.length → qlen (1 / x.getD (x.length - 1) 0) ≤ T ∧ (∀ q ∈ x, qlen q ≤ T) ∧ (∀ q ∈ pnorm (rscale (1 / x.getD (x.length - 1) 0) x), qlen q ≤ E) ∧ ∃ z : Int, z ≠ 0 ∧ z.natAbs ≤ pw E ∧ Ints (rscale (z : Rat) (pnorm (rscale (1 / x.getD (x.length - 1) 0) x))) (pw E)
theorem DivWay.old {A B : List Rat} {n N K S T : Nat} (hB : pnorm B = B) (h0 : 0 < B.length) (hb : ∀ q ∈ B, qlen q ≤ K) (hn : A.length ≤ n) (hA : ∀ q ∈ A, qlen q ≤ N) (hS : N + (K + K + 6) = S) (hT : 2 ^ (n + 1 - B.length) * S ≤ T) :
    DivWay A B K T (fun Q R => ∃ t, Divs A B Q R n K S t) where
  start := ⟨0, Divs.start rfl (Nat.le_trans (pnorm_length_le A) hn) (fun q hq => hA q (pnorm_mem hq)) hS⟩
  step := fun ⟨t, h⟩ _ hl hc hQ hX hR hr => ⟨t + 1, (h.step hB h0 hl hb hc hQ hX hR hr).1⟩
  room := fun ⟨t, h⟩ => by
    have hp : 2 ^ t * S ≤ T := Nat.le_trans (pow_mul_mono h.most S) hT
    exact ⟨fun q hq => by have := h.rlen q hq; omega, fun q hq => by have := h.qlen q hq; omega⟩
  top := fun ⟨t, h⟩ _ hl => (h.room h0 hl hb hT).2.2.2
theorem DivWay.new {A B P Z : List Rat} {k l : Rat} {z : Int} {n s S K M T : Nat} (hl : DivL B Z l z S) (hn : (pnorm A).length ≤ n) (hP : Ints P (pw s)) (hA : peq A (rscale k P)) (hM : qlen k + qlen l + (s + (n + 1 - B.length) * (S + 1)) + 4 ≤ M) (hT : M + K + 5 ≤ T) :
    DivWay A B K T (fun Q R => ∃ t, DivZ A B Q R k n s S M t) where
  start := ⟨0, DivZ.start rfl hn hP hA⟩
  step := fun ⟨t, h⟩ _ hle hc hQ hX hR hr => ⟨t + 1, (h.step hl hle hM hc hQ hX hR hr).1⟩
  room := fun ⟨t, h⟩ => by
    have hp : t * (S + 1) ≤ (n + 1 - B.length) * (S + 1) := Nat.mul_le_mul_right _ h.most
    exact ⟨fun q hq => by have := h.rlen q hq; omega, fun q hq => by have := h.qs q hq; omega⟩
  top := fun ⟨t, h⟩ _ hle => by
    have hw := h.way
    have h0 := hl.pos
    have h1 := h.clen hl
    have hp : (t + 1) * (S + 1) ≤ (n + 1 - B.length) * (S + 1) := Nat.mul_le_mul_right _ (by omega)
    omega
theorem divz_exists {A B Z : List Rat} {k l : Rat} {z : Int} {n s S M : Nat} (hl : DivL B Z l z S) (hM : qlen k + qlen l + (s + (n + 1 - B.length) * (S + 1)) + 4 ≤ M) :
    ∀ (N : Nat) (Q R : List Rat) (t : Nat), R.length ≤ N → DivZ A B Q R k n s S M t → ∃ Q' R' t', DivZ A B Q' R' k n s S M t' ∧ R'.length < B.length
  | 0, Q, R, t, hN, h => ⟨Q, R, t, h, by have := hl.pos; omega⟩
  | N + 1, Q, R, t, hN, h => by
    by_cases hle : B.length ≤ R.length
    · obtain ⟨g1, g2⟩ := h.step hl hle hM rfl (peq.refl _) (peq.refl _) (pnorm_co _) (pnorm_pnorm _)
      exact divz_exists hl hM N _ _ _ (by omega) g1
    · exact ⟨Q, R, t, h, by omega⟩
theorem Eu.congr {A B x y x' y' : List Rat} (h : Eu A B x y) (hx : peq x x') (hy : peq y y') : Eu A B x' y' := by
  obtain ⟨⟨ux, vx, uy, vy, e, he, h1, h2, h3, h4, h5, h6, h7⟩, hl, hs, hm⟩ := h
  have ex := plen_congr hx
  have ey := plen_congr hy
  exact ⟨⟨ux, vx, uy, vy, e, he, hx.symm.trans h1, hy.symm.trans h2, h3, by omega, by omega, by omega, by omega⟩, by omega, by omega, hm⟩
/-- Where one is on Euclid's way. -/
def EuS (A B x y : List Rat) : Prop := (peq x A ∧ peq y B) ∨ (peq x B ∧ peq y A ∧ plen A < plen B) ∨ Eu A B x y ∨ Eu B A x y
theorem EuS.step {A B x y q r : List Rat} (h : EuS A B x y) (hd : isDiv x y q r) : EuS A B y r := by
  rcases h with ⟨hx, hy⟩ | ⟨hx, hy, hl⟩ | h | h
  · have hd' := hd.of hx hy (peq.refl q) (peq.refl r)
    by_cases hl : plen B ≤ plen A
    · exact .inr (.inr (.inl ((Eu.start hd' hl).congr hy.symm (peq.refl r))))
    · have h0 : isDiv A B [] A := ⟨fun i => by rw [co_padd, pmul, co_nil]; grind, by omega⟩
      exact .inr (.inl ⟨hy, (hd'.same h0).2, by omega⟩)
  · have hd' := hd.of hx hy (peq.refl q) (peq.refl r)
    exact .inr (.inr (.inr ((Eu.start hd' (by omega)).congr hy.symm (peq.refl r))))
  · exact .inr (.inr (.inl (h.step hd)))
  · exact .inr (.inr (.inr (h.step hd)))
theorem size_pw {s nn : Nat} (hn : 2 * nn + 1 ≤ 4294967296) : nn * ((2 * (nn * pw s) + 1) ^ nn * pw s) ≤ pw ((s + 1) * (nn + 1)) := by
  have h1 : 2 * (nn * pw s) + 1 ≤ pw (s + 1) := by
    have h2 := pw_pos s
    have h3 : (2 * nn + 1) * pw s ≤ pw 1 * pw s := Nat.mul_le_mul_right _ (by rw [pw_one]; exact hn)
    rw [← pw_add, Nat.add_comm 1 s, Nat.add_mul, Nat.mul_assoc, Nat.one_mul] at h3
    omega
  have h4 : (2 * (nn * pw s) + 1) ^ nn ≤ pw ((s + 1) * nn) := by
    have h5 : pw ((s + 1) * nn) = pw (s + 1) ^ nn := Nat.pow_mul _ _ _
    rw [h5]
    exact Nat.pow_le_pow_left h1 nn
  have h6 : nn ≤ pw 1 := by rw [pw_one]; omega
  refine Nat.le_trans (Nat.mul_le_mul h6 (Nat.mul_le_mul_right _ h4)) ?_
  rw [← pw_add, ← pw_add]
  exact pw_mono (by rw [Nat.mul_add]; omega)
theorem EuS.small {A B x y : List Rat} {c : Rat} {s : Nat} (h : EuS A B x y) (hc : c ≠ 0) (hA : Ints (rscale c A) (pw s)) (hB : Ints (rscale c B) (pw s)) (hn : 2 * (plen A + plen B) + 1 ≤ 4294967296) :
    ∃ k : Rat, k ≠ 0 ∧ Ints (rscale k y) (pw ((s + 1) * (plen A + plen B + 1))) := by
  have hs : pw s ≤ pw ((s + 1) * (plen A + plen B + 1)) := pw_mono (by rw [Nat.mul_add]; omega)
  rcases h with ⟨_, hy⟩ | ⟨_, hy, _⟩ | h | h
  · exact ⟨c, hc, (hB.mono hs).congr (rscale_congr c hy.symm)⟩
  · exact ⟨c, hc, (hA.mono hs).congr (rscale_congr c hy.symm)⟩
  · obtain ⟨k, h1, h2⟩ := h.size hc hA hB
    exact ⟨k, h1, h2.mono (size_pw hn)⟩
  · obtain ⟨k, h1, h2⟩ := h.size hc hB hA
    rw [Nat.add_comm (plen B) (plen A)] at h2
    exact ⟨k, h1, h2.mono (size_pw hn)⟩
/-- Euclid's way, with how long the numbers are. -/
structure GcdZ (A B x y : List Rat) (S E : Nat) : Prop where
  st : EuS A B x y
  xf : ∃ (k : Rat) (P : List Rat), k ≠ 0 ∧ Ints P (pw S) ∧ peq x (rscale k P) ∧ qlen k + (x.length + y.length) * (S + 3) ≤ E
  yf : ∃ (l : Rat) (Z : List Rat), l ≠ 0 ∧ Ints Z (pw S) ∧ peq y (rscale l Z) ∧ qlen l + 2 * y.length * (S + 3) ≤ E
theorem rscale_back {c : Rat} (hc : c ≠ 0) (a : List Rat) : peq a (rscale (1 / c) (rscale c a)) := fun i => by
  rw [co_rscale, co_rscale]
  have : 1 / c * c = 1 := Rat.div_mul_cancel hc
  grind
theorem GcdZ.start {A B : List Rat} {c s S E : Nat} (hc : 0 < c) (hcs : c ≤ pw s) (hA : Ints (rscale ((c : Nat) : Rat) A) (pw s)) (hB : Ints (rscale ((c : Nat) : Rat) B) (pw s)) (hS : s ≤ S) {n : Nat} (hnA : plen A ≤ n) (hnB : plen B ≤ n) (hE : s + 2 + 2 * n * (S + 3) ≤ E) : GcdZ A B (pnorm A) (pnorm B) S E := by
  have hc0 : ((c : Nat) : Rat) ≠ 0 := fun e => by have h9 : c = 0 := Rat.natCast_inj.1 (e.trans rfl); omega
  have hq : qlen (1 / ((c : Nat) : Rat)) ≤ s + 2 := qlen_nat_ratio (z := 1) (t := s) (by have := pw_pos s; omega) hcs
  have hk0 : 1 / ((c : Nat) : Rat) ≠ 0 := fun e => by
    have h1 : 1 / ((c : Nat) : Rat) * ((c : Nat) : Rat) = 1 := Rat.div_mul_cancel hc0
    rw [e, Rat.zero_mul] at h1
    exact absurd h1 (by decide)
  have e1 : (pnorm A).length = plen A := rfl
  have e2 : (pnorm B).length = plen B := rfl
  refine ⟨.inl ⟨pnorm_co A, pnorm_co B⟩, ⟨_, _, hk0, hA.mono (pw_mono hS), (pnorm_co A).trans (rscale_back hc0 A), ?_⟩, ⟨_, _, hk0, hB.mono (pw_mono hS), (pnorm_co B).trans (rscale_back hc0 B), ?_⟩⟩
  · rw [e1, e2]
    have : (plen A + plen B) * (S + 3) ≤ 2 * n * (S + 3) := Nat.mul_le_mul_right _ (by omega)
    omega
  · rw [e2]
    have : 2 * plen B * (S + 3) ≤ 2 * n * (S + 3) := Nat.mul_le_mul_right _ (by omega)
    omega
theorem GcdZ.step {A B x y q r : List Rat} {c : Rat} {s S E : Nat} (h : GcdZ A B x y S E) (hc : c ≠ 0) (hA : Ints (rscale c A) (pw s)) (hB : Ints (rscale c B) (pw s)) (hn : 2 * (plen A + plen B) + 1 ≤ 4294967296) (hS : (s + 1) * (plen A + plen B + 1) = S)
    (hx : pnorm x = x) (hy : pnorm y = y) (h0 : 0 < y.length) (hd : isDiv x y q r) (hr : pnorm r = r) : GcdZ A B y r S E := by
  obtain ⟨k, P, k0, kP, kx, kE⟩ := h.xf
  obtain ⟨l, Z, l0, lZ, ly, lE⟩ := h.yf
  obtain ⟨z, hl⟩ := DivL.of hy h0 lZ ly
  have hst := h.st.step hd
  have hm : r.length < y.length := by
    have := hd.2
    rwa [plen_right hr, plen_right hy] at this
  have hyE : qlen l + (y.length + r.length) * (S + 3) ≤ E := by
    have : (y.length + r.length) * (S + 3) ≤ 2 * y.length * (S + 3) := Nat.mul_le_mul_right _ (by omega)
    omega
  refine ⟨hst, ⟨l, Z, l0, lZ, ly, hyE⟩, ?_⟩
  by_cases hr0 : r.length = 0
  · refine ⟨1, [], by decide, fun i => ⟨0, rfl, Nat.zero_le _⟩, fun i => ?_, ?_⟩
    · rw [List.eq_nil_of_length_eq_zero hr0]; rfl
    · have h1 : qlen 1 ≤ 2 := qlen_int (z := 1) (by decide)
      have h2 : 1 * (S + 3) ≤ 2 * y.length * (S + 3) := Nat.mul_le_mul_right _ (by omega)
      rw [hr0]
      omega
  · obtain ⟨Q', R', t, hf, hlt⟩ := divz_exists (A := x) (n := x.length) (s := S) (k := k) hl (Nat.le_refl _) x.length [] (pnorm x) 0 (by rw [hx]; exact Nat.le_refl _) (DivZ.start rfl (by rw [hx]; exact Nat.le_refl _) kP kx)
    have hdv : isDiv x y Q' R' := ⟨hf.sum, by rw [plen_right hf.right, plen_right hy]; exact hlt⟩
    have hrR : r = R' := by rw [← hr, ← hf.right]; exact pnorm_congr (hd.same hdv).2
    subst hrR
    obtain ⟨m, m0, mI⟩ := hst.small hc hA hB hn
    rw [hS] at mI
    obtain ⟨w, w1, w2⟩ := mI (r.length - 1)
    obtain ⟨y0, T, y1, y2, y3, y4⟩ := hf.form
    obtain ⟨v, v1, v2⟩ := y3 (r.length - 1)
    have e1 := y4 (r.length - 1)
    rw [co_rscale, co_rscale, v1] at e1
    rw [co_rscale] at w1
    have hrt := top_nz hr (by omega)
    have hco : co r (r.length - 1) = r.getD (r.length - 1) 0 := rfl
    rw [hco] at e1 w1
    have w0 : w ≠ 0 := fun e => by
      rw [e] at w1
      rcases Rat.mul_eq_zero.1 (w1.trans rfl) with g | g
      · exact m0 g
      · exact hrt g
    have yw : y0 * w ≠ 0 := fun e => by rcases Int.mul_eq_zero.1 e with g | g; exact y1 g; exact w0 g
    have em : 1 / m = k * ((v : Rat) / ((y0 * w : Int) : Rat)) := by
      have f1 : 1 / m * m = 1 := Rat.div_mul_cancel m0
      have f2 : (v : Rat) / ((y0 * w : Int) : Rat) * ((y0 * w : Int) : Rat) = (v : Rat) := Rat.div_mul_cancel (zcast_nz yw)
      generalize (v : Rat) / ((y0 * w : Int) : Rat) = f at *
      rw [Rat.intCast_mul] at f2
      generalize 1 / m = g at *
      generalize r.getD (r.length - 1) 0 = rt at *
      have f3 : (y0 : Rat) * (w : Rat) * (g - k * f) = 0 := by grind
      rcases Rat.mul_eq_zero.1 f3 with a | a
      · rcases Rat.mul_eq_zero.1 a with a | a
        · exact absurd a (zcast_nz y1)
        · exact absurd a (zcast_nz w0)
      · grind
    have hq : qlen (1 / m) ≤ qlen k + (S + t * (S + 1)) + 3 := by
      rw [em]
      have q1 := qlen_mul k ((v : Rat) / ((y0 * w : Int) : Rat))
      have q2 := qlen_ratio (z := v) (y := y0 * w) (t := S + t * (S + 1)) v2 (by
        rw [Int.natAbs_mul]
        refine Nat.le_trans (Nat.mul_le_mul y2 w2) ?_
        rw [← pw_add]
        exact pw_mono (by rw [Nat.mul_add]; omega))
      omega
    refine ⟨1 / m, rscale m r, fun e => ?_, mI, rscale_back m0 r, ?_⟩
    · have f1 : 1 / m * m = 1 := Rat.div_mul_cancel m0
      rw [e, Rat.zero_mul] at f1
      exact absurd f1 (by decide)
    · have hw := hf.way
      have p1 : S + t * (S + 1) + 3 ≤ (t + 1) * (S + 3) := by
        rw [Nat.add_mul, Nat.one_mul]
        have : t * (S + 1) ≤ t * (S + 3) := Nat.mul_le_mul_left t (by omega)
        omega
      have p2 : (t + 1) * (S + 3) + 2 * r.length * (S + 3) ≤ (x.length + y.length) * (S + 3) := by
        rw [← Nat.add_mul]
        exact Nat.mul_le_mul_right _ (by omega)
      omega
theorem GcdWay.new {A B : List Rat} {c s S E : Nat} (hc : 0 < c) (hcs : c ≤ pw s) (hA : Ints (rscale ((c : Nat) : Rat) A) (pw s)) (hB : Ints (rscale ((c : Nat) : Rat) B) (pw s)) (hn : 2 * (plen A + plen B) + 1 ≤ 4294967296) (hS : (s + 1) * (plen A + plen B + 1) = S) {n : Nat} (hnA : plen A ≤ n) (hnB : plen B ≤ n) (hE : s + 2 + 2 * n * (S + 3) ≤ E) :
    GcdWay A B (3 * E) (S + 2) (fun x y => GcdZ A B x y S E) where
  start := GcdZ.start hc hcs hA hB (by rw [← hS, Nat.mul_add]; omega) hnA hnB hE
  div := fun {x y} h hx hy h0 => by
    obtain ⟨k, P, k0, kP, kx, kE⟩ := h.xf
    obtain ⟨l, Z, l0, lZ, ly, lE⟩ := h.yf
    obtain ⟨z, hl⟩ := DivL.of hy h0 lZ ly
    have a1 : x.length * (S + 3) + y.length * (S + 3) = (x.length + y.length) * (S + 3) := (Nat.add_mul _ _ _).symm
    have a2 : 1 * (S + 3) ≤ y.length * (S + 3) := Nat.mul_le_mul_right _ h0
    have a3 : 2 * y.length * (S + 3) = y.length * (S + 3) + y.length * (S + 3) := by rw [Nat.mul_assoc]; omega
    have a4 : (x.length + 1 - y.length) * (S + 1) ≤ x.length * (S + 3) := Nat.mul_le_mul (by omega) (by omega)
    have hint : ∀ {k : Rat} {P : List Rat}, Ints P (pw S) → ∀ i, qlen (co (rscale k P) i) ≤ qlen k + S + 3 := fun {k P} hP i => by
      obtain ⟨u, u1, u2⟩ := hP i
      rw [co_rscale, u1]
      have g1 := qlen_mul k (u : Rat)
      have g2 := qlen_ratio (z := u) (y := 1) (t := S) u2 (by have := pw_pos S; omega)
      have g3 : (u : Rat) / ((1 : Int) : Rat) = (u : Rat) := by
        have : ((1 : Int) : Rat) = 1 := rfl
        rw [this, Rat.div_def, Rat.inv_eq_of_mul_eq_one (Rat.mul_one 1), Rat.mul_one]
      rw [g3] at g2
      omega
    refine ⟨qlen l + S + 3, _, qlen_list fun i => by rw [ly i]; exact hint lZ i, qlen_list fun i => ?_, DivWay.new (n := x.length) (s := S) hl (by rw [hx]; exact Nat.le_refl _) kP kx (Nat.le_refl _) ?_⟩
    · rw [kx i]
      have := hint (k := k) kP i
      omega
    · omega
  step := fun {x y q r} h hx hy h0 hd hr => by
    have hc0 : ((c : Nat) : Rat) ≠ 0 := fun e => by have h9 : c = 0 := Rat.natCast_inj.1 (e.trans rfl); omega
    exact h.step hc0 hA hB hn hS hx hy h0 hd hr
  over := fun {x} h hx h0 => by
    obtain ⟨k, P, k0, kP, kx, kE⟩ := h.xf
    have a1 : 1 * (S + 3) ≤ (x.length + ([] : List Rat).length) * (S + 3) := Nat.mul_le_mul_right _ (by simp; omega)
    obtain ⟨w, w1, w2⟩ := kP (x.length - 1)
    have e1 := kx (x.length - 1)
    rw [co_rscale, w1] at e1
    have hxt := top_nz hx h0
    have ht : x.getD (x.length - 1) 0 = k * (w : Rat) := e1
    have w0 : w ≠ 0 := fun e => by
      rw [e] at ht
      exact hxt (ht.trans (Rat.mul_zero k))
    have hw := zcast_nz w0
    have f0 : k * (w : Rat) ≠ 0 := fun e => by rcases Rat.mul_eq_zero.1 e with g | g; exact k0 g; exact hw g
    have hone : ∀ {u : Int}, u.natAbs ≤ pw S → qlen (k * (u : Rat)) ≤ qlen k + S + 3 := fun {u} u2 => by
      have g1 := qlen_mul k (u : Rat)
      have g2 := qlen_ratio (z := u) (y := 1) (t := S) u2 (by have := pw_pos S; omega)
      have g3 : (u : Rat) / ((1 : Int) : Rat) = (u : Rat) := by
        have : ((1 : Int) : Rat) = 1 := rfl
        rw [this, Rat.div_def, Rat.inv_eq_of_mul_eq_one (Rat.mul_one 1), Rat.mul_one]
      rw [g3] at g2
      omega
    rw [ht]
    have hfi : ∀ (i : Nat) (u : Int), co P i = (u : Rat) → co (pnorm (rscale (1 / (k * (w : Rat))) x)) i = (u : Rat) / (w : Rat) := fun i u u1 => by
      rw [co_pnorm, co_rscale, kx i, co_rscale, u1]
      have f1 : 1 / (k * (w : Rat)) * (k * (w : Rat)) = 1 := Rat.div_mul_cancel f0
      have f2 : (u : Rat) / (w : Rat) * (w : Rat) = (u : Rat) := Rat.div_mul_cancel hw
      generalize 1 / (k * (w : Rat)) = a at *
      generalize (u : Rat) / (w : Rat) = b at *
      have f4 : (w : Rat) * (a * (k * (u : Rat)) - b) = 0 := by grind
      rcases Rat.mul_eq_zero.1 f4 with g | g
      · exact absurd g hw
      · grind
    refine ⟨?_, qlen_list fun i => ?_, qlen_list fun i => ?_, w, w0, Nat.le_trans w2 (pw_mono (by omega)), fun i => ?_⟩
    · have g1 := qlen_inv (k * (w : Rat))
      rw [Rat.div_def, Rat.one_mul]
      have g2 := hone w2
      omega
    · obtain ⟨u, u1, u2⟩ := kP i
      rw [kx i, co_rscale, u1]
      have := hone u2
      omega
    · obtain ⟨u, u1, u2⟩ := kP i
      rw [hfi i u u1]
      exact qlen_ratio u2 w2
    · obtain ⟨u, u1, u2⟩ := kP i
      refine ⟨u, ?_, Nat.le_trans u2 (pw_mono (by omega))⟩
      rw [co_rscale, hfi i u u1, Rat.mul_comm]
      exact Rat.div_mul_cancel hw
/-- What Gcd hands back, with a whole-numbered form of it. -/
def LstGcdI (A B : List Rat) (K : Nat) (w : World) (e : Ending) (w' : World) : Prop := ∃ (a : Option Addr) (n c : Nat) (g : List Rat), e = .returned (.slice a n c) ∧ Rw w' a n c g ∧ isGcd A B g ∧ pnorm g = g ∧ (∀ x ∈ g, qlen x ≤ K) ∧ (∃ z : Int, z ≠ 0 ∧ z.natAbs ≤ pw K ∧ Ints (rscale (z : Rat) g) (pw K)) ∧ Below w.heap.size w w'
end Go.Proofs.Ytipcgehcineblaa

/-
  What package poly's functions owe (layer 14), as one hypothesis; how long the coefficients become.
-/
namespace Go.Proofs.Ytipcgehcineblaa
open Go.RowKit

structure PolySaid : Prop where
  norm : ∀ (a : Option Addr) (n c : Nat) (L : List Fx) (w : World), Fxs w a n c L → n ≤ 300 → thin 2000000000 L → Calls Try.prog 31 #[.slice a n c] w (LstRw (pnorm (fqs L)) w)
  degree : ∀ (a : Option Addr) (n c : Nat) (L : List Fx) (w : World), Fxs w a n c L → n ≤ 300 → thin 2000000000 L → Calls Try.prog 19 #[.slice a n c] w (Gives (.int .i64 ((plen (fqs L) : Int) - 1)) w)
  same : ∀ (a : Option Addr) (n c : Nat) (L : List Fx) (b : Option Addr) (m d : Nat) (M : List Fx) (w : World), Fxs w a n c L → Fxs w b m d M → n ≤ 300 → m ≤ 300 → thin 1900000000 L → thin 1900000000 M → Calls Try.prog 16 #[.slice a n c, .slice b m d] w (Gives (.bool (decide (pnorm (fqs L) = pnorm (fqs M)))) w)
  add : ∀ (a : Option Addr) (n c : Nat) (L : List Fx) (b : Option Addr) (m d : Nat) (M : List Fx) (w : World), Fxs w a n c L → Fxs w b m d M → n ≤ 300 → m ≤ 300 → thin 900000000 L → thin 900000000 M → Calls Try.prog 14 #[.slice a n c, .slice b m d] w (LstRw (pnorm (padd (fqs L) (fqs M))) w)
  mul : ∀ (a : Option Addr) (n c : Nat) (L : List Fx) (b : Option Addr) (m d : Nat) (M : List Fx) (N K : Nat) (w : World), Fxs w a n c L → Fxs w b m d M → n ≤ 100 → m ≤ 100 → thin N L → thin K M → (n + 1) * (N + K + 8) ≤ 1900000000 → Calls Try.prog 10 #[.slice a n c, .slice b m d] w (LstRw (pnorm (pmul (fqs L) (fqs M))) w)
  eval : ∀ (a : Option Addr) (n c : Nat) (L : List Fx) (v : Value) (q : Rat) (N X : Nat) (w : World), Fxs w a n c L → Fr w v q X → n ≤ 100 → thin N L → (n + 1) * ((n + 1) * (X + 8) + N + 8) ≤ 1900000000 → Calls Try.prog 12 #[.slice a n c, v] w (LstQ (peval q (fqs L)) w)
  diff : ∀ (a : Option Addr) (n c : Nat) (L : List Fx) (w : World), Fxs w a n c L → n ≤ 300 → thin 1900000000 L → Calls Try.prog 17 #[.slice a n c] w (LstRw (pnorm (pdiff (fqs L))) w)
  div_yes : ∀ (a : Option Addr) (n c : Nat) (L : List Fx) (b : Option Addr) (m d : Nat) (M : List Fx) (N K : Nat) (w : World), Fxs w a n c L → Fxs w b m d M → n ≤ 60 → m ≤ 60 → thin N L → thin K M → 2 ^ (n + 1) * (N + K + K + 12) ≤ 1900000000 → Hid (plen (fqs M) ≠ 0) → Calls Try.prog 20 #[.slice a n c, .slice b m d] w (LstDiv (fqs L) (fqs M) (2 ^ (n + 1) * (N + K + K + 12)) w)
  div_more : ∀ (a : Option Addr) (n c : Nat) (L : List Fx) (b : Option Addr) (m d : Nat) (M : List Fx) (k l : Rat) (P Z : List Rat) (S T : Nat) (w : World), Fxs w a n c L → Fxs w b m d M → n ≤ 60 → m ≤ 60 → thin 1900000000 L → thin 1900000000 M → Ints P (pw S) → Ints Z (pw S) → peq (fqs L) (rscale k P) → peq (fqs M) (rscale l Z) → 4 * (qlen k + qlen l + (n + 4) * (S + 3)) ≤ T → T ≤ 1900000000 → Hid (plen (fqs M) ≠ 0) → Calls Try.prog 20 #[.slice a n c, .slice b m d] w (LstDiv (fqs L) (fqs M) T w)
  div_no : ∀ (a : Option Addr) (n c : Nat) (L : List Fx) (b : Option Addr) (m d : Nat) (M : List Fx) (w : World), Fxs w a n c L → Fxs w b m d M → n ≤ 60 → m ≤ 60 → thin 1900000000 L → thin 1900000000 M → Hid (plen (fqs M) = 0) → Calls Try.prog 20 #[.slice a n c, .slice b m d] w (fun e w' => e = .returned (.tuple #[.slice none 0 0, .slice none 0 0, .bool false]) ∧ Below w.heap.size w w')
  gcd : ∀ (a : Option Addr) (n c : Nat) (L : List Fx) (b : Option Addr) (m d : Nat) (M : List Fx) (N K h B : Nat) (w : World), Fxs w a n c L → Fxs w b m d M → n ≤ h → m ≤ h → h ≤ 300 → thin N L → thin K M → N ≤ 1900000000 → K ≤ 1900000000 → ((N + 1) * n + (K + 1) * m + 1) * (n + m + 1) ≤ B → (2 * h + 20) * (B + 3) ≤ 1900000000 → Calls Try.prog 18 #[.slice a n c, .slice b m d] w (LstGcd (fqs L) (fqs M) (B + 2) w)
  gcd_more : ∀ (a : Option Addr) (n c : Nat) (L : List Fx) (b : Option Addr) (m d : Nat) (M : List Fx) (g s S h : Nat) (w : World), Fxs w a n c L → Fxs w b m d M → n ≤ h → m ≤ h → h ≤ 300 → thin 1900000000 L → thin 1900000000 M → 0 < g → g ≤ pw s → Ints (rscale ((g : Nat) : Rat) (fqs L)) (pw s) → Ints (rscale ((g : Nat) : Rat) (fqs M)) (pw s) → (s + 1) * (plen (fqs L) + plen (fqs M) + 1) = S → (2 * h + 20) * (S + 3) ≤ 1900000000 → Calls Try.prog 18 #[.slice a n c, .slice b m d] w (LstGcdI (fqs L) (fqs M) (S + 2) w)
end Go.Proofs.Ytipcgehcineblaa

/-
  A made row of fractions that is filled place by place: the fractions so far, noughts (empty ones) behind. Of no program.
-/
namespace Go.Proofs.Ytipcgehcineblaa
open Go.RowKit

def zcells : Array Value := #[.bool false, .slice none 0 0, .slice none 0 0]
theorem flat_zeros : ∀ n : Nat, (madeCells zcells (n * 3)).toList = (List.replicate n Fx.zero).flatMap Fx.cells := by
  intro n
  refine List.ext_getElem? fun j => ?_
  have hf := flat_length (List.replicate n Fx.zero)
  rw [List.length_replicate] at hf
  by_cases hj : j < n * 3
  · obtain ⟨q, r, rfl, hr⟩ : ∃ q r, j = q * 3 + r ∧ r < 3 := ⟨j / 3, j % 3, by omega, by omega⟩
    have hq : q < n := by omega
    obtain ⟨c0, c1, c2⟩ := flat_at (List.replicate n Fx.zero) q (by rw [List.length_replicate]; exact hq)
    have hz : (List.replicate n Fx.zero).getD q Fx.zero = Fx.zero := by
      rw [List.getD_eq_getElem?_getD, List.getElem?_replicate]; split <;> rfl
    rw [hz] at c0 c1 c2
    have hl : (madeCells zcells (n * 3)).toList[q * 3 + r]? = some (zcells[r]!) := by
      have h3 : (q * 3 + r) % zcells.size = r := by
        show (q * 3 + r) % 3 = r
        omega
      simp only [madeCells, Array.toList_map, Array.toList_range, List.getElem?_map, List.getElem?_range hj, Option.map_some, h3]
    rw [hl]
    match r, hr with
    | 0, _ => exact c0.symm
    | 1, _ => exact c1.symm
    | 2, _ => exact c2.symm
  · rw [List.getElem?_eq_none (by rw [Array.length_toList, size_madeCells]; omega), List.getElem?_eq_none (by omega)]
/-- A made row: the fractions L so far, r empty ones behind. -/
def HalfC (w : World) (base : Nat) (e : TypeId) (v : Value) (L : List Fx) (r : Nat) : Prop := OwnC w base e v (L ++ List.replicate r Fx.zero) ∧ ∀ x ∈ L, x.ok w
theorem HalfC.later {w w' : World} {base : Nat} {e : TypeId} {v : Value} {L : List Fx} {r : Nat} (h : HalfC w base e v L r) (hb : Below w.heap.size w w') : HalfC w' base e v L r := ⟨h.1.later hb, fun x hx => (h.2 x hx).later hb⟩
theorem HalfC.done {w : World} {base : Nat} {e : TypeId} {v : Value} {L : List Fx} (h : HalfC w base e v L 0) : Cop w base e v L := by
  obtain ⟨h1, h2⟩ := h
  rw [List.replicate_zero, List.append_nil] at h1
  exact ⟨h1, h2⟩
theorem halfC_made (w : World) (base : Nat) (e : TypeId) (n : Nat) (hn : n ≤ maxLen) (hb : base ≤ w.heap.size) :
    HalfC (w.alloc (.cells (madeCells zcells (n * 3)) e)) base e (.slice (some ⟨w.heap.size, 0, none⟩) n n) [] n := by
  have hh := heap_alloc_new w (.cells (madeCells zcells (n * 3)) e)
  have hf := flat_length (List.replicate n Fx.zero)
  rw [List.length_replicate] at hf
  refine ⟨⟨?_, clean_block hh ?_⟩, fun x hx => by simp at hx⟩
  · rw [List.nil_append, List.length_replicate]
    refine ⟨hf, .inr ⟨w.heap.size, n, madeCells zcells (n * 3), rfl, hb, hh, Nat.le_refl _, hn, size_madeCells _ _, ?_⟩⟩
    rw [flat_zeros, List.take_of_length_le (Nat.le_of_eq hf)]
  · rw [flat_zeros]
    exact noWords_flat _
theorem wpList_make_fracs {P : Program} (w : World) {ops : Array Oper} {rest : List Oper} {o : Oper} {a : Act} {Q : Exit → Act → World → Prop}
    (hg : o.guard = none) (l c : Operand) (t : TypeId) (hop : o.op = Op.makeSlice t l c)
    (base : Nat) (e : TypeId) (i : TypeInfo) (h1 : P.underlying t = some (.slice e)) (h2 : P.info? e = some i) (h3 : i.zero = some (.agg #[.bool false, .slice none 0 0, .slice none 0 0])) (h4 : i.size = 3) (h5 : i.bytes = 56)
    (kl kc : IntKind) (L C : Int) (n : Nat) (hl : a.eval l = .int kl L) (hc : a.eval c = .int kc C) (hL : L = (n : Int)) (hC : C = (n : Int)) (b3 : n ≤ 1000000) (b4 : base ≤ w.heap.size)
    (hK : ∀ w', HalfC w' base e (.slice (some ⟨w.heap.size, 0, none⟩) n n) [] n → w.grownBy w' none → w'.heap.size = w.heap.size + 1 → wpList P ops Q rest (a.put o.dst (.slice (some ⟨w.heap.size, 0, none⟩) n n)) w') :
    wpList P ops Q (o :: rest) a w := by
  refine wpList_plain hg fun K hK' => ?_
  have hb' : (i.bytes : Int) * (n : Int) ≤ 281474976710656 := by rw [h5]; omega
  have hrun := run_make (P := P) w t e i _ h1 h2 h3 kl kc n n (by omega) (by omega) hb' (by omega)
  simp only [Int.toNat_natCast, h4] at hrun
  subst hL
  subst hC
  unfold Oper.wp
  simp [execOp, hop, hl, hc, hrun, Result.andThen]
  exact hK' _ _ (hK _ (halfC_made w base e n (by unfold maxLen; omega) b4) (World.grownBy_alloc w _ none) (World.size_alloc _ _))
theorem owns_len {w : World} {base : Nat} {e : TypeId} {g n cap K : Nat} {xs : List Value} (h1 : w.ownsRow base e 3 (.slice (some ⟨g, 0, none⟩) n cap) K xs) : n = K := by
  rcases h1.2 with ⟨e1, e2⟩ | ⟨g', cap', cur, e1, _⟩
  · cases e1
  · simp only [Value.slice.injEq] at e1
    exact e1.2.1
theorem half_cell {w : World} {base : Nat} {e : TypeId} {g n cap : Nat} {L : List Fx} {r : Nat} (h : HalfC w base e (.slice (some ⟨g, 0, none⟩) n cap) L (r + 1)) {k : Nat} (hk : k = L.length) :
    (w.cell? ⟨g, k * 3, none⟩ = some (.bool false) ∧ w.cell? ⟨g, k * 3 + 1, none⟩ = some (.slice none 0 0) ∧ w.cell? ⟨g, k * 3 + 2, none⟩ = some (.slice none 0 0)) ∧ w.frozen? ⟨g, k * 3, none⟩ = false ∧ w.frozen? ⟨g, k * 3 + 1, none⟩ = false ∧ w.frozen? ⟨g, k * 3 + 2, none⟩ = false := by
  obtain ⟨⟨h1, _⟩, _⟩ := h
  subst hk
  obtain rfl := owns_len h1
  have hl : (L ++ List.replicate (r + 1) Fx.zero).length = L.length + (r + 1) := by rw [List.length_append, List.length_replicate]
  have hz : (L ++ List.replicate (r + 1) Fx.zero).getD L.length Fx.zero = Fx.zero := by
    rw [List.getD_eq_getElem?_getD, List.getElem?_append_right (Nat.le_refl _), Nat.sub_self]; rfl
  obtain ⟨c0, c1, c2⟩ := flat_at (L ++ List.replicate (r + 1) Fx.zero) L.length (by omega)
  rw [hz] at c0 c1 c2
  have hf := flat_length (L ++ List.replicate (r + 1) Fx.zero)
  have p0 := h1.cellAt (L.length * 3) (by omega)
  have p1 := h1.cellAt (L.length * 3 + 1) (by omega)
  have p2 := h1.cellAt (L.length * 3 + 2) (by omega)
  rw [c0] at p0; rw [c1] at p1; rw [c2] at p2
  exact ⟨⟨p0, p1, p2⟩, h1.frozenAt _, h1.frozenAt _, h1.frozenAt _⟩
/-- The next fraction put at its place. -/
theorem HalfC.stored {w : World} {base : Nat} {e : TypeId} {g n cap : Nat} {L : List Fx} {r : Nat} (h : HalfC w base e (.slice (some ⟨g, 0, none⟩) n cap) L (r + 1)) {k : Nat} (hk : k = L.length) (x : Fx) (hx : x.ok w) :
    HalfC (((w.setCell ⟨g, k * 3, none⟩ (.bool x.s)).setCell ⟨g, k * 3 + 1, none⟩ (.slice x.a x.n x.c)).setCell ⟨g, k * 3 + 2, none⟩ (.slice x.b x.m x.d)) base e (.slice (some ⟨g, 0, none⟩) n cap) (L ++ [x]) r ∧
    w.grownBy (((w.setCell ⟨g, k * 3, none⟩ (.bool x.s)).setCell ⟨g, k * 3 + 1, none⟩ (.slice x.a x.n x.c)).setCell ⟨g, k * 3 + 2, none⟩ (.slice x.b x.m x.d)) (some g) := by
  obtain ⟨⟨p0, p1, p2⟩, -⟩ := half_cell h hk
  obtain ⟨⟨h1, h2⟩, h4⟩ := h
  subst hk
  have hl : (L ++ List.replicate (r + 1) Fx.zero).length = L.length + (r + 1) := by rw [List.length_append, List.length_replicate]
  obtain rfl := owns_len h1
  have hset : (L ++ List.replicate (r + 1) Fx.zero).set L.length x = (L ++ [x]) ++ List.replicate r Fx.zero := by
    rw [List.set_append_right _ _ (Nat.le_refl _), Nat.sub_self, List.replicate_succ, List.set_cons_zero, List.append_assoc]; rfl
  obtain ⟨s0, g0⟩ := h1.stored (L.length * 3) (.bool x.s)
  obtain ⟨s1, g1⟩ := s0.stored (L.length * 3 + 1) (.slice x.a x.n x.c)
  obtain ⟨s2, g2⟩ := s1.stored (L.length * 3 + 2) (.slice x.b x.m x.d)
  have l0 := clean_store (j := L.length * 3) (u := .bool x.s) h2 p0 (fun y e => by cases e)
  have l1 := clean_store (j := L.length * 3 + 1) (u := .slice x.a x.n x.c) l0 ((World.cell?_setCell_other _ ⟨g, L.length * 3, none⟩ ⟨g, L.length * 3 + 1, none⟩ _ (fun e => by simp at e)).trans p1) (fun y e => by cases e)
  have l2 := clean_store (j := L.length * 3 + 2) (u := .slice x.b x.m x.d) l1 (((World.cell?_setCell_other _ ⟨g, L.length * 3 + 1, none⟩ ⟨g, L.length * 3 + 2, none⟩ _ (fun e => by simp at e)).trans (World.cell?_setCell_other _ ⟨g, L.length * 3, none⟩ ⟨g, L.length * 3 + 2, none⟩ _ (fun e => by simp at e))).trans p2) (fun y e => by cases e)
  have hg := (g0.trans g1).trans g2
  refine ⟨⟨⟨?_, l2⟩, fun y hy => ?_⟩, hg⟩
  · rw [← hset, fr_flat_set _ _ _ (by omega), List.length_set]
    exact s2
  · rcases List.mem_append.1 hy with hy | hy
    · exact Fx.aside (h4 y hy) h2 hg
    · rw [List.mem_singleton.1 hy]
      exact Fx.aside hx h2 hg
/-- A made row: right fractions so far. -/
def Half (w : World) (base : Nat) (e : TypeId) (v : Value) (qs : List Rat) (r : Nat) : Prop := ∃ L, HalfC w base e v L r ∧ L.map Fx.q = qs ∧ ∀ x ∈ L, x.right
theorem Half.later {w w' : World} {base : Nat} {e : TypeId} {v : Value} {qs : List Rat} {r : Nat} (h : Half w base e v qs r) (hb : Below w.heap.size w w') : Half w' base e v qs r := by
  obtain ⟨L, h1, h2, h3⟩ := h
  exact ⟨L, h1.later hb, h2, h3⟩
theorem Half.start {w : World} {base : Nat} {e : TypeId} {v : Value} {r : Nat} (h : HalfC w base e v [] r) : Half w base e v [] r := ⟨[], h, rfl, fun x hx => by simp at hx⟩
theorem Half.done {w : World} {base : Nat} {e : TypeId} {v : Value} {qs : List Rat} (h : Half w base e v qs 0) : Row w base e v qs := by
  obtain ⟨L, h1, h2, h3⟩ := h
  exact ⟨L, h1.done.1, h2, fun x hx => ⟨h1.done.2 x hx, h3 x hx⟩⟩
theorem Half.cell {w : World} {base : Nat} {e : TypeId} {g n cap : Nat} {qs : List Rat} {r : Nat} (h : Half w base e (.slice (some ⟨g, 0, none⟩) n cap) qs (r + 1)) {k : Nat} (hk : k = qs.length) :
    (w.cell? ⟨g, k * 3, none⟩ = some (.bool false) ∧ w.cell? ⟨g, k * 3 + 1, none⟩ = some (.slice none 0 0) ∧ w.cell? ⟨g, k * 3 + 2, none⟩ = some (.slice none 0 0)) ∧ w.frozen? ⟨g, k * 3, none⟩ = false ∧ w.frozen? ⟨g, k * 3 + 1, none⟩ = false ∧ w.frozen? ⟨g, k * 3 + 2, none⟩ = false := by
  obtain ⟨L, h1, h2, h3⟩ := h
  exact half_cell h1 (by rw [hk, ← h2, List.length_map])
theorem Half.stored {w : World} {base : Nat} {e : TypeId} {g n cap : Nat} {qs : List Rat} {r : Nat} (h : Half w base e (.slice (some ⟨g, 0, none⟩) n cap) qs (r + 1)) {k : Nat} (hk : k = qs.length) (q : Rat) (a : Option Addr) (m c : Nat) (b : Option Addr) (l d : Nat) (ha : Wd w a m c (dg q.num.natAbs)) (hb : Wd w b l d (dg q.den)) :
    Half (((w.setCell ⟨g, k * 3, none⟩ (.bool (zneg q.num))).setCell ⟨g, k * 3 + 1, none⟩ (.slice a m c)).setCell ⟨g, k * 3 + 2, none⟩ (.slice b l d)) base e (.slice (some ⟨g, 0, none⟩) n cap) (qs ++ [q]) r ∧
    w.grownBy (((w.setCell ⟨g, k * 3, none⟩ (.bool (zneg q.num))).setCell ⟨g, k * 3 + 1, none⟩ (.slice a m c)).setCell ⟨g, k * 3 + 2, none⟩ (.slice b l d)) (some g) := by
  obtain ⟨L, h1, h2, h3⟩ := h
  obtain ⟨h5, h6⟩ := h1.stored (k := k) (by rw [hk, ← h2, List.length_map]) (rx q a m c b l d) ⟨ha, hb⟩
  refine ⟨⟨L ++ [rx q a m c b l d], h5, by rw [List.map_append, h2]; simp [rx_q], fun y hy => ?_⟩, h6⟩
  rcases List.mem_append.1 hy with hy | hy
  · exact h3 y hy
  · rw [List.mem_singleton.1 hy]
    exact rx_right _ _ _ _ _ _ _
theorem Half.whole {w : World} {base : Nat} {e : TypeId} {v : Value} {T : List Rat} {k r : Nat} (h : Half w base e v (T.take k) r) (hk : T.length = k) (hr : r = 0) : Row w base e v T := by
  subst hr
  exact h.done.whole hk
end Go.Proofs.Ytipcgehcineblaa

/-
  What a row lists of the library's tables, wherever it stands on the list. Of no program.
-/
namespace Go.Proofs.Ytipcgehcineblaa

end Go.Proofs.Ytipcgehcineblaa

/-
  Package row at this seat: Zero, Unit.
-/
namespace Go.Proofs.Ytipcgehcineblaa
open Go.RowKit

theorem infoFracR : (Try.prog.info? 34).map (fun i => (i.zero, i.size, i.bytes)) = some (some (.agg #[.bool false, .slice none 0 0, .slice none 0 0]), 3, 56) := by kernel_rfl
end Go.Proofs.Ytipcgehcineblaa

/-
  Package row at this seat: allOf, column.
-/
namespace Go.Proofs.Ytipcgehcineblaa
open Go.RowKit

theorem lens_take {α : Type} {LL : List (List α)} {k : Nat} (h : k < LL.length) (c : Int) : (∀ M ∈ LL.take (k + 1), (M.length : Int) = c) ↔ (∀ M ∈ LL.take k, (M.length : Int) = c) ∧ ((LL.getD k []).length : Int) = c := by
  have h1 : LL.take (k + 1) = LL.take k ++ [LL.getD k []] := by
    rw [List.take_succ_eq_append_getElem h, List.getD_eq_getElem?_getD, List.getElem?_eq_getElem h]; rfl
  rw [h1]
  constructor
  · intro h2
    exact ⟨fun M hM => h2 M (List.mem_append_left _ hM), h2 _ (List.mem_append_right _ (List.mem_singleton.2 rfl))⟩
  · rintro ⟨h2, h3⟩ M hM
    rcases List.mem_append.1 hM with hM | hM
    · exact h2 M hM
    · rw [List.mem_singleton.1 hM]; exact h3
theorem ll_mem {α : Type} {LL : List (List α)} {k : Nat} (h : k < LL.length) : LL.getD k [] ∈ LL := by
  rw [List.getD_eq_getElem?_getD, List.getElem?_eq_getElem h]; exact List.getElem_mem h
set_option maxRecDepth 4096 in
set_option maxHeartbeats 4000000 in
theorem row_allOf (a : Option Addr) (n c : Nat) (LL : List (List Fx)) (z : Int) (r : Bool) (w : World) (h : Fxss w a n c LL) (hr : Hid (r = true ↔ ∀ M ∈ LL, (M.length : Int) = z)) : Calls Try.prog 50 #[.slice a n c, .int .i64 z] w (fun e w' => e = .returned (.bool r) ∧ w = w') := by
  have HK := Lib.hid h
  have HLl := Lib.hid h.len
  have hbd := h.bound
  clear h
  go_enter Try.func50, Try.ntmps50
  go_wp2
  go_loopw [8] (fun iv wr => Hid (wr = w) ∧ ∃ k : Nat, k ≤ n ∧ iv = .int .i64 (k : Int) ∧ Hid (∀ M ∈ LL.take k, (M.length : Int) = z)) (fun iv _ => n - (intOf iv).toNat)
  case atStart => exact ⟨Lib.hid rfl, 0, by omega, rfl, Lib.hid (fun M hM => by simp at hM)⟩
  case round =>
    obtain ⟨HWE, k, hk, rfl, HA⟩ := hrel
    obtain rfl := HWE.out
    by_cases hlt : k < n
    · obtain ⟨bb, off, rfl, a', n', c', e0, h1⟩ := HK.out.at hlt
      have hl1 := h1.len
      have hbd1 := h1.bound
      have HT := Lib.hid (lens_take (show k < LL.length by rw [HLl.out]; exact hlt) z)
      have HM : Hid (LL.getD k [] ∈ LL) := Lib.hid (ll_mem (by rw [HLl.out]; exact hlt))
      have hki : (k : Int) < (n : Int) := by omega
      have HL1 : Hid ((LL.getD k []).length = n') := Lib.hid hl1
      clear h1 hl1
      by_cases hnz : (n' : Int) = z
      · have HA9 : Hid (∀ M ∈ LL.take (k + 1), (M.length : Int) = z) := Lib.hid (HT.out.2 ⟨HA.out, by rw [HL1.out]; exact hnz⟩)
        have hq : ((n' : Int) == z) = true := by simp [hnz]
        clear hnz HA HT HM HL1
        go_wp2
        go_roundw
        case rel => exact ⟨Lib.hid trivial, k + 1, by omega, by go_num, HA9⟩
        case measure => simp [intOf]; omega
      · have hrf : r = false := by
          cases r with
          | false => rfl
          | true => exact absurd (hr.out.1 rfl _ HM.out) (by rw [HL1.out]; exact hnz)
        subst hrf
        have hq : ((n' : Int) == z) = false := by simp [hnz]
        clear HA HT HM HL1
        go_wp2
        go_ret
        exact ⟨rfl, rfl⟩
    · obtain rfl : k = n := by omega
      have hrt : r = true := hr.out.2 (fun M hM => HA.out M (by rw [List.take_of_length_le (by rw [HLl.out]; exact Nat.le_refl _)]; exact hM))
      subst hrt
      go_wp2
      go_ret
      exact ⟨rfl, rfl⟩
/-- What the rows have at a place. -/
def colF (LL : List (List Fx)) (i : Nat) : List Fx := LL.map (fun L => L.getD i Fx.zero)
theorem colF_length (LL : List (List Fx)) (i : Nat) : (colF LL i).length = LL.length := List.length_map _
theorem colF_at {LL : List (List Fx)} {i k : Nat} (h : k < LL.length) : (colF LL i).getD k Fx.zero = (LL.getD k []).getD i Fx.zero := by
  unfold colF
  rw [List.getD_eq_getElem?_getD, List.getElem?_map, List.getD_eq_getElem?_getD (l := LL), List.getElem?_eq_getElem h]; rfl
set_option maxRecDepth 4096 in
set_option maxHeartbeats 4000000 in
theorem row_column (a : Option Addr) (n c : Nat) (LL : List (List Fx)) (i : Nat) (w : World) (h : Fxss w a n c LL) (hn : n ≤ 1000) (hi9 : ∀ M ∈ LL, i < M.length) : Calls Try.prog 51 #[.slice a n c, .int .i64 (i : Int)] w (fun e w' => ∃ (a' : Option Addr) (c' : Nat), e = .returned (.slice a' n c') ∧ Fxs w' a' n c' (colF LL i) ∧ Below w.heap.size w w') := by
  have HK := Lib.hid h
  have HLl := Lib.hid h.len
  have hbd := h.bound
  have HI := Lib.hid hi9
  clear h hi9
  obtain ⟨T, hT⟩ : ∃ T, colF LL i = T := ⟨_, rfl⟩
  have HTL : Hid (T.length = n) := Lib.hid (by rw [← hT, colF_length, HLl.out])
  have HTA : Hid (∀ k, k < n → T.getD k Fx.zero = (LL.getD k []).getD i Fx.zero) := Lib.hid (fun k hk => hT ▸ colF_at (by rw [HLl.out]; exact hk))
  rw [hT]
  clear hT
  obtain ⟨i0, hi, hz0, hz1, hz2⟩ := info_parts infoFracR
  go_enter Try.func51, Try.ntmps51
  go_wp2_with (at_make; refine wpList_make_fracs _ rfl _ _ 29 rfl (w.heap.size) 34 i0 Try.underlying29 hi hz0 hz1 hz2 _ _ _ _ n rfl rfl (by omega) (by omega) (by omega) (by simp) ?_; intro wm hmade hgm hszm)
  have HO0 := Lib.hid hmade
  have HB0 : Hid (Below w.heap.size w wm) := Lib.hid ((Below.refl _ _).grown hgm (Nat.le_refl _) (fun k hk => by cases hk))
  clear hmade hgm
  go_loopw [12] (fun iv wr => ∃ k r : Nat, k + r = n ∧ iv = .int .i64 (k : Int) ∧ Hid (HalfC wr w.heap.size 34 (.slice (some ⟨w.heap.size, 0, none⟩) n n) (T.take k) r) ∧ Hid (Below w.heap.size w wr) ∧ w.heap.size < wr.heap.size) (fun iv _ => n - (intOf iv).toNat)
  case atStart => exact ⟨0, n, by omega, rfl, HO0, HB0, by omega⟩
  case round =>
    clear HO0 HB0
    obtain ⟨k, r, hk, rfl, HO, HB, hsz⟩ := hrel
    by_cases hlt : k < n
    · have hkT : k < T.length := by rw [HTL.out]; exact hlt
      obtain ⟨r, rfl⟩ : ∃ r', r = r' + 1 := ⟨r - 1, by omega⟩
      have HT : Hid (T.take (k + 1) = T.take k ++ [T.getD k Fx.zero]) := Lib.hid (fx_more hkT)
      obtain ⟨bb, off, rfl, a', n', c', e0, h1⟩ := HK.out.at hlt
      have e0' := cell_later HB.out e0
      have hin : i < n' := by rw [← h1.len]; exact HI.out _ (ll_mem (by rw [HLl.out]; exact hlt))
      have hbd1 := h1.bound
      obtain ⟨b2, off2, rfl, q0, q1, q2, hok⟩ := h1.at hin
      rw [← HTA.out k hlt] at q0 q1 q2 hok
      generalize T.getD k Fx.zero = x at *
      obtain ⟨sx, ax, nx, cx, lax, bx, mx, dx, lbx⟩ := x
      simp only at q0 q1 q2
      obtain ⟨q0, q1, q2⟩ := three_on ⟨q0, q1, q2⟩ HB.out
      have HX := Lib.hid (hok.later HB.out)
      have hki : (k : Int) < (n : Int) := by omega
      have hii : (i : Int) < (n' : Int) := by omega
      obtain ⟨⟨p0, p1, p2⟩, f0, f1, f2⟩ := half_cell HO.out (k := k) (by rw [take_len (Nat.le_of_lt hkT)])
      obtain ⟨hst, hgr⟩ := HO.out.stored (k := k) (by rw [take_len (Nat.le_of_lt hkT)]) _ HX.out
      rw [← HT.out] at hst
      have HS := Lib.hid hst
      have HB5 := Lib.hid (HB.out.grown hgr HB.out.size (fun g' hg' => by simp at hg'; omega))
      have hsz5 := Nat.lt_of_lt_of_le hsz hgr.size
      clear hst hgr HO HB HT h1 hok e0 HX
      go_wp2
      go_roundw
      case rel => exact ⟨k + 1, r, by omega, by go_num, HS, HB5, hsz5⟩
      case measure => simp [intOf]; omega
    · obtain rfl : k = n := by omega
      obtain rfl : r = 0 := by omega
      have HF := Lib.hid (HO.out.done.whole HTL.out)
      obtain ⟨a9, c9, e9, h9⟩ := HF.out.out
      rw [HTL.out] at e9 h9
      cases e9
      have HF9 := Lib.hid h9
      clear HO h9 HF
      go_wp2
      go_ret
      exact ⟨_, _, rfl, HF9.out, HB.out⟩
end Go.Proofs.Ytipcgehcineblaa

/-
  The walks of the laws of layer 9: To, Of, Is, alike.
-/
namespace Go.Proofs.Ytipcgehcineblaa
open Go.RowKit

set_option maxHeartbeats 1000000 in
theorem law09_to (neg : Bool) (a : Option Addr) (n cap : Nat) (b : Option Addr) (m cap' : Nat) (w : World) : Calls Try.prog 9 #[frV neg a n cap b m cap'] w (Gives (frV neg a n cap b m cap') w) := by
  have HG : Hid (((w.alloc (.cells #[.bool neg, .slice a n cap, .slice b m cap'] 25)).alloc (.cells #[.bool neg, .slice a n cap, .slice b m cap'] 34)).heap[w.heap.size + 1]? = some (.cells #[.bool neg, .slice a n cap, .slice b m cap'] 34 (0, 0))) := Lib.hid (boxes_at w ((w.alloc (.cells #[.bool neg, .slice a n cap, .slice b m cap'] 25)).alloc (.cells #[.bool neg, .slice a n cap, .slice b m cap'] 34)) _ _ _ _ (Below.refl _ _)).2
  have HB := Lib.hid (below_then (below_alloc w (.cells #[.bool neg, .slice a n cap, .slice b m cap'] 25)) (below_alloc _ (.cells #[.bool neg, .slice a n cap, .slice b m cap'] 34)))
  go_enter Try.func9, Try.ntmps9
  unfold frV
  go_wp2
  refine bodyPost_ret (results_cell_row Try.results9 _ _ (w.heap.size + 1) 34 #[.bool neg, .slice a n cap, .slice b m cap'] (0, 0) _ rfl HG.out Try.underlying34 rfl (by kernel_rfl)) rfl ?_
  exact ⟨rfl, HB.out⟩
end Go.Proofs.Ytipcgehcineblaa

/-
  One more fraction behind a row of the call's own, at a step of a region that draws its order. Of no program.
-/
namespace Go.Proofs.Ytipcgehcineblaa
open Go.RowKit

end Go.Proofs.Ytipcgehcineblaa

/-
  The document's answer of layer 11: rows made place by place; the law's own To and Of. Written by genref11.py.
-/
namespace Go.Proofs.Ytipcgehcineblaa
open Go.RowKit

theorem rscale_getD {c : Rat} {l : List Rat} {k : Nat} (h : k < l.length) : (rscale c l).getD k 0 = c * l.getD k 0 := by
  unfold rscale
  rw [List.getD_eq_getElem?_getD, List.getD_eq_getElem?_getD, List.getElem?_map, List.getElem?_eq_getElem h]; rfl
theorem radd_getD : ∀ {l m : List Rat} {k : Nat}, k < l.length → k < m.length → (radd l m).getD k 0 = l.getD k 0 + m.getD k 0
  | [], _, _, h, _ => by simp at h
  | _ :: _, [], _, _, h => by simp at h
  | x :: l, y :: m, 0, _, _ => rfl
  | x :: l, y :: m, k + 1, h, h' => by
    have := radd_getD (l := l) (m := m) (k := k) (by simpa using h) (by simpa using h')
    simpa [radd] using this
theorem infoFrac11p : (Try.prog.info? 34).map (fun i => (i.zero, i.size, i.bytes)) = some (some (.agg #[.bool false, .slice none 0 0, .slice none 0 0]), 3, 56) := by kernel_rfl
set_option maxRecDepth 4096 in
set_option maxHeartbeats 4000000 in
theorem law11_to (a : Option Addr) (n c : Nat) (L : List Fx) (w : World) (h : Fxs w a n c L) (hn : n ≤ 1000) :
    Calls Try.prog 8 #[.slice a n c] w (fun e w' => ∃ (a' : Option Addr) (c' : Nat), e = .returned (.slice a' n c') ∧ Fxs w' a' n c' L ∧ Below w.heap.size w w') := by
  have HK := Lib.hid h
  have HLl := Lib.hid h.len
  have hbd := h.bound
  clear h
  obtain ⟨i0, hi, hz0, hz1, hz2⟩ := info_parts infoFrac11p
  go_enter Try.func8, Try.ntmps8
  go_wp2
  go_loopw [3, 4] (fun mv iv wr => ∃ k : Nat, k ≤ n ∧ iv = .int .i64 (k : Int) ∧ Hid (Cop wr w.heap.size 34 mv (L.take k)) ∧ Hid (Below w.heap.size w wr) ∧ w.heap.size ≤ wr.heap.size) (fun _ iv _ => n - (intOf iv).toNat)
  case atStart => exact ⟨0, by omega, rfl, Lib.hid (Cop.nil _ _ _), Lib.hid (Below.refl _ _), by omega⟩
  case round =>
    obtain ⟨k, hk, rfl, HO, HB, hsz⟩ := hrel
    by_cases hlt : k < n
    · obtain ⟨bb, off, rfl, e0, e1, e2, hok⟩ := HK.out.at hlt
      have HT : Hid (L.take (k + 1) = L.take k ++ [L.getD k Fx.zero]) := Lib.hid (fx_more (by rw [HLl.out]; exact hlt))
      have hkL : (L.take k).length ≤ 1000000 := by rw [take_len (by rw [HLl.out]; exact hk)]; omega
      generalize L.getD k Fx.zero = xk at *
      obtain ⟨sk, ak, nk, ck, lak, bk, mk, dk, lbk⟩ := xk
      simp only at e0 e1 e2
      have HY := Lib.hid hok
      have HE : Hid (w.cell? ⟨bb, off + k * 3, none⟩ = some (.bool sk) ∧ w.cell? ⟨bb, off + k * 3 + 1, none⟩ = some (.slice ak nk ck) ∧ w.cell? ⟨bb, off + k * 3 + 2, none⟩ = some (.slice bk mk dk)) := Lib.hid ⟨e0, e1, e2⟩
      clear hok e0 e1 e2
      have hki : (k : Int) < (n : Int) := by omega
      obtain ⟨e0, e1, e2⟩ := three_on HE.out HB.out
      go_wp2_with fail
      refine (law09_to sk ak nk ck bk mk dk _).mono ?_
      rintro e w4 ⟨rfl, b4⟩
      clear e0 e1 e2
      replace HB := Lib.hid (below_then HB.out b4)
      replace HO := Lib.hid (HO.out.later b4)
      have hsz4 : w.heap.size ≤ w4.heap.size := Nat.le_trans hsz b4.size
      clear b4 hsz
      unfold frV
      have ba := below_alloc w4 (.cells #[.bool sk, .slice ak nk ck, .slice bk mk dk] 34)
      have HOa := Lib.hid (HO.out.later ba)
      have HBa := Lib.hid (below_then HB.out ba)
      have HYa := Lib.hid (HY.out.later HBa.out)
      clear ba HO HB
      go_wp2_with (at_builtin; refine wpList_append_cop _ rfl _ _ 29 rfl w.heap.size 34 i0 Try.underlying29 hi hz0 hz1 hz2 _ (L.take k) rfl HOa.out ⟨w4.heap.size, 0, none⟩ ⟨sk, ak, nk, ck, lak, bk, mk, dk, lbk⟩ rfl (cells_news _ _ _) HYa.out hkL (by rw [blk_size]; omega) ?_)
      intro mv5 w5 hrow hgrow hbase hcl
      have HO5 : Hid (Cop w5 w.heap.size 34 mv5 (L.take (k + 1))) := Lib.hid (by rw [HT.out]; exact hrow)
      have HB5 := Lib.hid (HBa.out.grown hgrow (by rw [blk_size]; omega) hbase)
      have hsz5 : w.heap.size ≤ w5.heap.size := Nat.le_trans (by rw [blk_size]; omega) hgrow.size
      clear hrow hgrow hbase hcl HOa HBa HYa HT HE HY hsz4
      go_wp2
      go_roundw
      case rel => exact ⟨k + 1, by omega, by go_num, HO5, HB5, hsz5⟩
      case measure => simp [intOf]; omega
    · obtain rfl : k = n := by omega
      have HF := Lib.hid (HO.out.whole HLl.out)
      obtain ⟨a9, c9, rfl, h9⟩ := HF.out.out
      rw [HLl.out] at h9 ⊢
      have HF9 := Lib.hid h9
      clear h9 HF HO
      go_wp2
      go_ret
      exact ⟨a9, c9, rfl, HF9.out, HB.out⟩
end Go.Proofs.Ytipcgehcineblaa
