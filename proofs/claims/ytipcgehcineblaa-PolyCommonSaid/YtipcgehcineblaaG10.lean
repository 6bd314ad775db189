/-
  Several texts of this claim as one, group 10.
-/
import Derived.Test.YtipcgehcineblaaG9
import Derived.Test.YtipcgehcineblaaG8
import Derived.Deep.AppendLies
import Derived.Test.YtipcgehcineblaaG7
/-
  Plain mathematics of layer 14: polynomials as rows of rational numbers, up to noughts behind: sums, products, derivatives, division, common divisors. Of no program.
-/
namespace Go.Proofs.Ytipcgehcineblaa

/-- The coefficient at a place. -/
def co (p : List Rat) (i : Nat) : Rat := p.getD i 0
theorem co_nil (i : Nat) : co [] i = 0 := rfl
theorem co_zero (x : Rat) (l : List Rat) : co (x :: l) 0 = x := rfl
theorem co_succ (x : Rat) (l : List Rat) (i : Nat) : co (x :: l) (i + 1) = co l i := by
  unfold co
  rw [List.getD_eq_getElem?_getD, List.getD_eq_getElem?_getD, List.getElem?_cons_succ]
theorem co_far {l : List Rat} {i : Nat} (h : l.length ≤ i) : co l i = 0 := by
  unfold co
  rw [List.getD_eq_getElem?_getD, List.getElem?_eq_none h]; rfl
/-- They mean the same. -/
def peq (a b : List Rat) : Prop := ∀ i, co a i = co b i
theorem peq.refl (a : List Rat) : peq a a := fun _ => rfl
theorem peq.symm {a b : List Rat} (h : peq a b) : peq b a := fun i => (h i).symm
theorem peq.trans {a b c : List Rat} (h : peq a b) (k : peq b c) : peq a c := fun i => (h i).trans (k i)
/-- Without the noughts behind. -/
def pnorm : List Rat → List Rat
  | [] => []
  | x :: l => if pnorm l = [] ∧ x = 0 then [] else x :: pnorm l
theorem pnorm_co : ∀ p : List Rat, peq (pnorm p) p
  | [], _ => rfl
  | x :: l, i => by
    have ih := pnorm_co l
    rw [pnorm]
    split
    · rename_i h
      obtain ⟨h1, h2⟩ := h
      rw [h1] at ih
      cases i with
      | zero => rw [co_zero, h2]; rfl
      | succ i => rw [co_succ, ← ih i]; rfl
    · cases i with
      | zero => rfl
      | succ i => rw [co_succ, co_succ]; exact ih i
theorem pnorm_none : ∀ {p : List Rat}, (∀ i, co p i = 0) → pnorm p = []
  | [], _ => rfl
  | x :: l, h => by
    have h1 := pnorm_none (p := l) (fun i => by have := h (i + 1); rwa [co_succ] at this)
    rw [pnorm, if_pos ⟨h1, h 0⟩]
theorem pnorm_congr : ∀ {a b : List Rat}, peq a b → pnorm a = pnorm b
  | [], b, h => (pnorm_none (fun i => (h i).symm)).symm
  | x :: a, [], h => pnorm_none (fun i => h i)
  | x :: a, y :: b, h => by
    have h0 : x = y := h 0
    have h1 := pnorm_congr (a := a) (b := b) (fun i => by have := h (i + 1); rwa [co_succ, co_succ] at this)
    rw [pnorm, pnorm, h0, h1]
theorem pnorm_pnorm (a : List Rat) : pnorm (pnorm a) = pnorm a := pnorm_congr (pnorm_co a)
theorem pnorm_length_le : ∀ a : List Rat, (pnorm a).length ≤ a.length
  | [] => Nat.le_refl _
  | x :: l => by
    have := pnorm_length_le l
    rw [pnorm]
    split
    · simp
    · simp only [List.length_cons]; omega
theorem pnorm_take : ∀ a : List Rat, pnorm a = a.take (pnorm a).length
  | [] => rfl
  | x :: l => by
    have ih := pnorm_take l
    rw [pnorm]
    split
    · rfl
    · rw [List.length_cons, List.take_succ_cons, ← ih]
theorem pnorm_mem {a : List Rat} {q : Rat} (h : q ∈ pnorm a) : q ∈ a := by
  rw [pnorm_take] at h
  exact List.mem_of_mem_take h
/-- How many coefficients up to the last one that isn't 0. -/
def plen (a : List Rat) : Nat := (pnorm a).length
theorem plen_congr {a b : List Rat} (h : peq a b) : plen a = plen b := by unfold plen; rw [pnorm_congr h]
theorem plen_le_length (a : List Rat) : plen a ≤ a.length := pnorm_length_le a
theorem co_beyond {a : List Rat} {i : Nat} (h : plen a ≤ i) : co a i = 0 := by rw [← pnorm_co a i]; exact co_far h
theorem plen_top : ∀ {a : List Rat} {n : Nat}, plen a = n + 1 → co a n ≠ 0
  | [], n, h => by simp [plen, pnorm] at h
  | x :: l, n, h => by
    unfold plen at h
    rw [pnorm] at h
    split at h
    · simp at h
    · rename_i hc
      rw [List.length_cons] at h
      cases n with
      | zero =>
        have h1 : pnorm l = [] := List.eq_nil_of_length_eq_zero (by omega)
        rw [co_zero]
        exact fun h2 => hc ⟨h1, h2⟩
      | succ n =>
        rw [co_succ]
        exact plen_top (a := l) (by unfold plen; omega)
theorem plen_le {a : List Rat} {n : Nat} (h : ∀ i, n ≤ i → co a i = 0) : plen a ≤ n := by
  rcases Nat.lt_or_ge n (plen a) with h1 | h1
  · exact absurd (h (plen a - 1) (by omega)) (plen_top (a := a) (n := plen a - 1) (by omega))
  · exact h1
theorem plen_ge {a : List Rat} {n : Nat} (h : co a n ≠ 0) : n < plen a := by
  rcases Nat.lt_or_ge n (plen a) with h1 | h1
  · exact h1
  · exact absurd (co_beyond h1) h
theorem plen_zero {a : List Rat} : plen a = 0 ↔ ∀ i, co a i = 0 := ⟨fun h i => co_beyond (by omega), fun h => by have := plen_le (a := a) (n := 0) (fun i _ => h i); omega⟩
theorem plen_nil : plen [] = 0 := rfl
theorem peq_nil {a : List Rat} (h : plen a = 0) : peq a [] := fun i => plen_zero.1 h i
/-- The sum, with noughts behind the shorter one; the product; the derivative; the value. -/
def padd : List Rat → List Rat → List Rat
  | [], b => b
  | a, [] => a
  | x :: a, y :: b => (x + y) :: padd a b
theorem co_padd : ∀ (a b : List Rat) (i : Nat), co (padd a b) i = co a i + co b i
  | [], b, i => by rw [padd, co_nil]; grind
  | x :: a, [], i => by
    rw [padd, co_nil]
    · grind
    · simp
  | x :: a, y :: b, 0 => rfl
  | x :: a, y :: b, i + 1 => by rw [padd, co_succ, co_succ, co_succ]; exact co_padd a b i
theorem co_rscale (c : Rat) : ∀ (a : List Rat) (i : Nat), co (rscale c a) i = c * co a i
  | [], i => by show (0 : Rat) = c * 0; grind
  | x :: a, 0 => rfl
  | x :: a, i + 1 => by
    show co (c * x :: rscale c a) (i + 1) = _
    rw [co_succ, co_succ]; exact co_rscale c a i
def pmul : List Rat → List Rat → List Rat
  | [], _ => []
  | x :: a, b => padd (rscale x b) (0 :: pmul a b)
theorem co_pmul : ∀ (a b : List Rat) (n : Nat), co (pmul a b) n = sumTo (n + 1) (fun i => co a i * co b (n - i))
  | [], b, n => by
    rw [pmul, co_nil, sumTo_congr (g := fun _ => 0) (fun k _ => by rw [co_nil]; grind), sumTo_zero]
  | x :: a, b, 0 => by
    rw [pmul, co_padd, co_rscale, co_zero]
    show _ = (0 : Rat) + co (x :: a) 0 * co b 0
    rw [co_zero]; grind
  | x :: a, b, n + 1 => by
    rw [pmul, co_padd, co_rscale, co_succ, co_pmul a b n, sumTo_first (n + 1)]
    rw [sumTo_congr (n := n + 1) (f := fun k => co (x :: a) (k + 1) * co b (n + 1 - (k + 1))) (g := fun i => co a i * co b (n - i)) (fun k _ => by rw [co_succ, Nat.add_sub_add_right])]
    rw [co_zero, Nat.sub_zero]
theorem pmul_congr {a a' b b' : List Rat} (h : peq a a') (k : peq b b') : peq (pmul a b) (pmul a' b') := fun n => by
  rw [co_pmul, co_pmul]
  exact sumTo_congr fun i _ => by rw [h i, k (n - i)]
theorem padd_congr {a a' b b' : List Rat} (h : peq a a') (k : peq b b') : peq (padd a b) (padd a' b') := fun n => by rw [co_padd, co_padd, h n, k n]
theorem rscale_congr (c : Rat) {a a' : List Rat} (h : peq a a') : peq (rscale c a) (rscale c a') := fun n => by rw [co_rscale, co_rscale, h n]
theorem pmul_padd (a b c : List Rat) : peq (pmul (padd a b) c) (padd (pmul a c) (pmul b c)) := fun n => by
  rw [co_padd, co_pmul, co_pmul, co_pmul, ← sumTo_add]
  exact sumTo_congr fun i _ => by rw [co_padd]; grind
theorem padd_pmul (a b c : List Rat) : peq (pmul a (padd b c)) (padd (pmul a b) (pmul a c)) := fun n => by
  rw [co_padd, co_pmul, co_pmul, co_pmul, ← sumTo_add]
  exact sumTo_congr fun i _ => by rw [co_padd]; grind
theorem pmul_rscale (k : Rat) (a b : List Rat) : peq (pmul (rscale k a) b) (rscale k (pmul a b)) := fun n => by
  rw [co_rscale, co_pmul, co_pmul, ← sumTo_mul]
  exact sumTo_congr fun i _ => by rw [co_rscale]; grind
theorem rscale_pmul (k : Rat) (a b : List Rat) : peq (pmul a (rscale k b)) (rscale k (pmul a b)) := fun n => by
  rw [co_rscale, co_pmul, co_pmul, ← sumTo_mul]
  exact sumTo_congr fun i _ => by rw [co_rscale]; grind
theorem pmul_shift (p c : List Rat) : peq (pmul (0 :: p) c) (0 :: pmul p c) := fun n => by
  rw [pmul, co_padd, co_rscale]; grind
theorem pmul_assoc : ∀ a b c : List Rat, peq (pmul (pmul a b) c) (pmul a (pmul b c))
  | [], b, c => peq.refl _
  | x :: a, b, c => by
    have h1 : peq (pmul (padd (rscale x b) (0 :: pmul a b)) c) (padd (pmul (rscale x b) c) (pmul (0 :: pmul a b) c)) := pmul_padd _ _ _
    refine h1.trans (padd_congr (pmul_rscale x b c) ((pmul_shift _ c).trans fun n => ?_))
    cases n with
    | zero => rfl
    | succ n => rw [co_succ, co_succ]; exact pmul_assoc a b c n
theorem pmul_nil (a : List Rat) : peq (pmul a []) [] := fun n => by
  rw [co_pmul, sumTo_congr (g := fun _ => 0) (fun k _ => by rw [co_nil]; grind), sumTo_zero]; rfl
/-- The first place at which a sum has more than nought. -/
theorem sumTo_only {n k : Nat} {f : Nat → Rat} (hk : k < n) (h : ∀ i, i < n → i ≠ k → f i = 0) : sumTo n f = f k := by
  induction n with
  | zero => omega
  | succ n ih =>
    show sumTo n f + f n = f k
    by_cases hkn : k = n
    · subst hkn
      rw [sumTo_congr (g := fun _ => 0) (fun i hi => h i (by omega) (by omega)), sumTo_zero]; grind
    · rw [ih (by omega) (fun i hi hne => h i (by omega) hne), h n (by omega) (by omega)]; grind
theorem pmul_top {a b : List Rat} {m n : Nat} (ha : plen a = m + 1) (hb : plen b = n + 1) : plen (pmul a b) = m + n + 1 ∧ co (pmul a b) (m + n) = co a m * co b n := by
  have e : co (pmul a b) (m + n) = co a m * co b n := by
    rw [co_pmul, sumTo_only (k := m) (by omega) (fun i hi hne => ?_), Nat.add_sub_cancel_left]
    rcases Nat.lt_or_ge m i with h | h
    · rw [co_beyond (a := a) (by omega)]; grind
    · rw [co_beyond (a := b) (i := m + n - i) (by omega)]; grind
  have h1 := plen_top ha
  have h2 := plen_top hb
  have h3 : co (pmul a b) (m + n) ≠ 0 := by
    rw [e]
    intro h
    rcases Rat.mul_eq_zero.1 h with h | h
    · exact h1 h
    · exact h2 h
  have h4 := plen_ge h3
  have h5 : plen (pmul a b) ≤ m + n + 1 := plen_le fun i hi => by
    rw [co_pmul, sumTo_congr (g := fun _ => 0) (fun k hk => ?_), sumTo_zero]
    rcases Nat.lt_or_ge m k with h | h
    · rw [co_beyond (a := a) (by omega)]; grind
    · rw [co_beyond (a := b) (i := i - k) (by omega)]; grind
  exact ⟨by omega, e⟩
theorem plen_padd (a b : List Rat) : plen (padd a b) ≤ max (plen a) (plen b) := plen_le fun i hi => by
  rw [co_padd, co_beyond (a := a) (by omega), co_beyond (a := b) (by omega)]; grind
theorem plen_rscale (c : Rat) (a : List Rat) : plen (rscale c a) ≤ plen a := plen_le fun i hi => by rw [co_rscale, co_beyond hi]; grind
theorem plen_rscale_eq {c : Rat} (hc : c ≠ 0) (a : List Rat) : plen (rscale c a) = plen a := by
  refine Nat.le_antisymm (plen_rscale c a) (plen_le fun i hi => ?_)
  have h := co_beyond hi
  rw [co_rscale] at h
  rcases Rat.mul_eq_zero.1 h with h | h
  · exact absurd h hc
  · exact h
/-- One less another one. -/
def psub (a b : List Rat) : List Rat := padd a (rscale (-1) b)
theorem co_psub (a b : List Rat) (i : Nat) : co (psub a b) i = co a i - co b i := by
  unfold psub
  rw [co_padd, co_rscale]; grind
/-- DIVISION: a is q times b, and r, which is shorter. -/
def isDiv (a b q r : List Rat) : Prop := peq a (padd (pmul q b) r) ∧ plen r < plen b
theorem isDiv.same {a b q r q' r' : List Rat} (h : isDiv a b q r) (k : isDiv a b q' r') : peq q q' ∧ peq r r' := by
  obtain ⟨h1, h2⟩ := h
  obtain ⟨k1, k2⟩ := k
  have e : ∀ i, co (pmul (psub q q') b) i = co (psub r' r) i := fun i => by
    have x1 := h1 i
    have x2 := k1 i
    rw [co_padd] at x1 x2
    have x3 := pmul_padd q (rscale (-1) q') b i
    rw [co_padd, pmul_rscale (-1) q' b i, co_rscale] at x3
    unfold psub
    rw [x3, ← psub, co_psub]; grind
  have hq : plen (psub q q') = 0 := by
    rcases Nat.eq_zero_or_pos (plen (psub q q')) with h0 | h0
    · exact h0
    · have t := (pmul_top (a := psub q q') (b := b) (m := plen (psub q q') - 1) (n := plen b - 1) (by omega) (by omega)).1
      have u := plen_congr e
      have v : plen (psub r' r) ≤ max (plen r') (plen (rscale (-1) r)) := plen_padd r' (rscale (-1) r)
      have w := plen_rscale (-1) r
      omega
  have hq2 : peq q q' := fun i => by
    have x := plen_zero.1 hq i
    rw [co_psub] at x
    grind
  refine ⟨hq2, fun i => ?_⟩
  have x1 := h1 i
  have x2 := k1 i
  rw [co_padd] at x1 x2
  have x3 := pmul_congr hq2 (peq.refl b) i
  grind
theorem isDiv.of {a a' b b' q q' r r' : List Rat} (h : isDiv a b q r) (ha : peq a a') (hb : peq b b') (hq : peq q q') (hr : peq r r') : isDiv a' b' q' r' :=
  ⟨(ha.symm.trans h.1).trans (padd_congr (pmul_congr hq hb) hr), by rw [← plen_congr hr, ← plen_congr hb]; exact h.2⟩
/-- It divides. -/
def pdvd (b a : List Rat) : Prop := ∃ k, peq a (pmul k b)
theorem pdvd.rest {a b q r : List Rat} (h : pdvd b a) (k : isDiv a b q r) : plen r = 0 := by
  obtain ⟨c, hc⟩ := h
  have h1 : isDiv a b c [] := ⟨hc.trans fun i => by rw [co_padd, co_nil]; grind, by have := k.2; rw [plen_nil]; omega⟩
  have := (k.same h1).2
  rw [plen_congr this, plen_nil]
/-- A common divisor that is made of both. -/
def common (a b g : List Rat) : Prop := pdvd g a ∧ pdvd g b ∧ ∃ u v, peq g (padd (pmul u a) (pmul v b))
theorem common.of {a a' b b' g g' : List Rat} (h : common a b g) (ha : peq a a') (hb : peq b b') (hg : peq g g') : common a' b' g' := by
  obtain ⟨⟨k, hk⟩, ⟨l, hl⟩, u, v, huv⟩ := h
  exact ⟨⟨k, (ha.symm.trans hk).trans (pmul_congr (peq.refl _) hg)⟩, ⟨l, (hb.symm.trans hl).trans (pmul_congr (peq.refl _) hg)⟩, u, v, (hg.symm.trans huv).trans (padd_congr (pmul_congr (peq.refl _) ha) (pmul_congr (peq.refl _) hb))⟩
/-- By EUCLID: what both have in common has the divisor with the rest. -/
theorem common.step {a b q r g : List Rat} (hd : peq a (padd (pmul q b) r)) (h : common b r g) : common a b g := by
  obtain ⟨⟨k, hk⟩, ⟨l, hl⟩, u, v, huv⟩ := h
  refine ⟨⟨padd (pmul q k) l, ?_⟩, ⟨k, hk⟩, v, psub u (pmul v q), ?_⟩
  · refine hd.trans ?_
    refine (padd_congr ((pmul_congr (peq.refl q) hk).trans (pmul_assoc q k g).symm) hl).trans ?_
    exact (pmul_padd _ _ _).symm
  · refine huv.trans fun i => ?_
    have e1 := padd_pmul v (pmul q b) r i
    have e2 := pmul_congr (peq.refl v) hd i
    have e3 := pmul_assoc v q b i
    have e4 := pmul_padd u (rscale (-1) (pmul v q)) b i
    have e5 := pmul_rscale (-1) (pmul v q) b i
    rw [co_padd] at e1 e4
    rw [co_rscale] at e5
    rw [co_padd, co_padd]
    show _ = _ + co (pmul (padd u (rscale (-1) (pmul v q))) b) i
    rw [e4, e5, e2, e1, e3]; grind
theorem pmul_one (c : Rat) (a : List Rat) : peq (pmul [c] a) (rscale c a) := fun i => by
  rw [pmul, co_padd]
  show _ + co (0 :: []) i = _
  cases i with
  | zero => rw [co_zero]; grind
  | succ i => rw [co_succ, co_nil]; grind
theorem common.none (a : List Rat) : common a [] a := ⟨⟨[1], fun i => by rw [pmul_one 1 a i, co_rscale]; grind⟩, ⟨[], fun i => rfl⟩, [1], [], fun i => by
    rw [co_padd, pmul_one 1 a i, co_rscale]
    show _ = _ + (0 : Rat)
    grind⟩
theorem common.scale {a b g : List Rat} (h : common a b g) {c : Rat} (hc : c ≠ 0) : common a b (rscale c g) := by
  obtain ⟨⟨k, hk⟩, ⟨l, hl⟩, u, v, huv⟩ := h
  have e : ∀ x : List Rat, peq (pmul (rscale c⁻¹ x) (rscale c g)) (pmul x g) := fun x i => by
    rw [pmul_rscale c⁻¹ x (rscale c g) i, co_rscale, rscale_pmul c x g i, co_rscale, ← Rat.mul_assoc, Rat.inv_mul_cancel c hc]; grind
  refine ⟨⟨rscale c⁻¹ k, hk.trans (e k).symm⟩, ⟨rscale c⁻¹ l, hl.trans (e l).symm⟩, rscale c u, rscale c v, fun i => ?_⟩
  rw [co_padd, pmul_rscale c u a i, pmul_rscale c v b i, co_rscale, co_rscale, co_rscale, huv i, co_padd]; grind
/-- THE COMMON DIVISOR: its last coefficient is 1; nothing, if both are nothing. -/
def isGcd (a b g : List Rat) : Prop := common a b g ∧ ∀ n, plen g = n + 1 → co g n = 1
theorem pdvd.len {a b : List Rat} (h : pdvd b a) (ha : plen a ≠ 0) : plen b ≠ 0 ∧ plen b ≤ plen a := by
  obtain ⟨k, hk⟩ := h
  have e := plen_congr hk
  have hk0 : plen k ≠ 0 := fun h0 => ha (by
    rw [e]
    have := plen_congr (pmul_congr (peq_nil h0) (peq.refl b))
    rw [this]; rfl)
  have hb0 : plen b ≠ 0 := fun h0 => ha (by
    rw [e]
    have := plen_congr ((pmul_congr (peq.refl k) (peq_nil h0)).trans (pmul_nil k))
    rw [this]; rfl)
  have := (pmul_top (a := k) (b := b) (m := plen k - 1) (n := plen b - 1) (by omega) (by omega)).1
  exact ⟨hb0, by omega⟩
/-- What divides both divides what is made of them. -/
theorem pdvd.made {d a b g u v : List Rat} (h : pdvd d a) (k : pdvd d b) (hg : peq g (padd (pmul u a) (pmul v b))) : pdvd d g := by
  obtain ⟨x, hx⟩ := h
  obtain ⟨y, hy⟩ := k
  refine ⟨padd (pmul u x) (pmul v y), hg.trans ?_⟩
  refine (padd_congr ((pmul_congr (peq.refl u) hx).trans (pmul_assoc u x d).symm) ((pmul_congr (peq.refl v) hy).trans (pmul_assoc v y d).symm)).trans ?_
  exact (pmul_padd _ _ _).symm
theorem isGcd.same {a b g h : List Rat} (hg : isGcd a b g) (hh : isGcd a b h) : peq g h := by
  obtain ⟨⟨g1, g2, u, v, g3⟩, g4⟩ := hg
  obtain ⟨⟨h1, h2, u', v', h3⟩, h4⟩ := hh
  have d1 : pdvd g h := g1.made g2 h3
  have d2 : pdvd h g := h1.made h2 g3
  rcases Nat.eq_zero_or_pos (plen g) with h0 | h0
  · rcases Nat.eq_zero_or_pos (plen h) with k0 | k0
    · exact (peq_nil h0).trans (peq_nil k0).symm
    · exact absurd h0 (d1.len (by omega)).1
  · have l1 := d2.len (by omega)
    have l2 := d1.len (by omega)
    obtain ⟨k, hk⟩ := d2
    have e := plen_congr hk
    have hk0 : plen k ≠ 0 := fun z => by
      have := plen_congr (pmul_congr (peq_nil z) (peq.refl h))
      rw [this] at e
      have : plen (pmul [] h) = 0 := rfl
      omega
    obtain ⟨t1, t2⟩ := pmul_top (a := k) (b := h) (m := plen k - 1) (n := plen h - 1) (by omega) (by omega)
    have hk1 : plen k = 1 := by omega
    have ek : peq k [co k 0] := fun i => by
      cases i with
      | zero => rfl
      | succ i => rw [co_succ, co_nil]; exact co_beyond (by omega)
    have eg : peq g (rscale (co k 0) h) := (hk.trans (pmul_congr ek (peq.refl h))).trans (pmul_one _ _)
    have x1 := g4 (plen g - 1) (by omega)
    have x2 := h4 (plen h - 1) (by omega)
    have x3 := eg (plen g - 1)
    rw [co_rscale, x1, show plen g - 1 = plen h - 1 by omega, x2] at x3
    refine eg.trans fun i => ?_
    rw [co_rscale]
    grind
/-- BEHIND A PRODUCT WITH A THIRD ONE. -/
theorem common.times {a b g : List Rat} (h : common a b g) (z : List Rat) : common (pmul a z) (pmul b z) (pmul g z) := by
  obtain ⟨⟨k, hk⟩, ⟨l, hl⟩, u, v, huv⟩ := h
  refine ⟨⟨k, (pmul_congr hk (peq.refl z)).trans (pmul_assoc k g z)⟩, ⟨l, (pmul_congr hl (peq.refl z)).trans (pmul_assoc l g z)⟩, u, v, ?_⟩
  refine (pmul_congr huv (peq.refl z)).trans ((pmul_padd _ _ _).trans ?_)
  exact padd_congr (pmul_assoc u a z) (pmul_assoc v b z)
theorem pdvd.trans {a b c : List Rat} (h : pdvd a b) (k : pdvd b c) : pdvd a c := by
  obtain ⟨x, hx⟩ := h
  obtain ⟨y, hy⟩ := k
  exact ⟨pmul y x, (hy.trans (pmul_congr (peq.refl y) hx)).trans (pmul_assoc y x a).symm⟩
theorem common.chain {a b g w : List Rat} (h : common a b g) (k : common g [] w) : common a b w := by
  obtain ⟨h1, h2, u, v, huv⟩ := h
  obtain ⟨k1, _, x, y, hxy⟩ := k
  refine ⟨k1.trans h1, k1.trans h2, pmul x u, pmul x v, hxy.trans ?_⟩
  refine (padd_congr (pmul_congr (peq.refl x) huv) (pmul_nil y)).trans fun i => ?_
  have e := padd_pmul x (pmul u a) (pmul v b) i
  rw [co_padd] at e
  rw [co_padd, e, co_nil, co_padd, pmul_assoc x u a i, pmul_assoc x v b i]; grind
theorem gcd_times {a b g z more want : List Rat} (hg : isGcd a b g) (hm : isGcd (pmul a z) (pmul b z) more) (hw : isGcd (pmul g z) [] want) : peq more want :=
  hm.same ⟨(hg.1.times z).chain hw.1, hw.2⟩
/-- The derivative, from a place on. -/
def pdiffFrom : Nat → List Rat → List Rat
  | _, [] => []
  | k, x :: l => ((k : Nat) : Rat) * x :: pdiffFrom (k + 1) l
def pdiff (a : List Rat) : List Rat := pdiffFrom 1 a.tail
theorem co_pdiffFrom : ∀ (l : List Rat) (k i : Nat), co (pdiffFrom k l) i = ((k + i : Nat) : Rat) * co l i
  | [], k, i => by rw [pdiffFrom, co_nil]; grind
  | x :: l, k, 0 => rfl
  | x :: l, k, i + 1 => by rw [pdiffFrom, co_succ, co_succ, co_pdiffFrom l (k + 1) i, show k + 1 + i = k + (i + 1) by omega]
theorem co_pdiff (a : List Rat) (i : Nat) : co (pdiff a) i = ((i + 1 : Nat) : Rat) * co a (i + 1) := by
  unfold pdiff
  rw [co_pdiffFrom, Nat.add_comm 1 i]
  cases a with
  | nil => rfl
  | cons x l => rw [co_succ]; rfl
theorem pdiff_congr {a b : List Rat} (h : peq a b) : peq (pdiff a) (pdiff b) := fun i => by rw [co_pdiff, co_pdiff, h (i + 1)]
theorem pdiff_shift (x : Rat) (l : List Rat) : peq (pdiff (x :: l)) (padd l (0 :: pdiff l)) := fun i => by
  rw [co_pdiff, co_succ, co_padd]
  cases i with
  | zero => rw [co_zero]; show ((1 : Nat) : Rat) * _ = _; grind
  | succ i =>
    rw [co_succ, co_pdiff]
    have : ((i + 1 + 1 : Nat) : Rat) = ((i + 1 : Nat) : Rat) + 1 := by push_cast; rfl
    rw [this]; grind
theorem pdiff_padd (a b : List Rat) : peq (pdiff (padd a b)) (padd (pdiff a) (pdiff b)) := fun i => by
  rw [co_padd, co_pdiff, co_pdiff, co_pdiff, co_padd]; grind
theorem pdiff_rscale (c : Rat) (a : List Rat) : peq (pdiff (rscale c a)) (rscale c (pdiff a)) := fun i => by
  rw [co_rscale, co_pdiff, co_pdiff, co_rscale]; grind
/-- SHARED OUT, as Leibniz has it. -/
theorem leibniz : ∀ a b : List Rat, peq (pdiff (pmul a b)) (padd (pmul (pdiff a) b) (pmul a (pdiff b)))
  | [], b => fun i => rfl
  | x :: a, b => by
    have ih := leibniz a b
    intro i
    have e1 := pdiff_padd (rscale x b) (0 :: pmul a b) i
    rw [co_padd, pdiff_rscale x b i, co_rscale, pdiff_shift 0 (pmul a b) i, co_padd] at e1
    have e2 := pmul_congr (pdiff_shift x a) (peq.refl b) i
    rw [pmul_padd a (0 :: pdiff a) b i, co_padd, pmul_shift (pdiff a) b i] at e2
    show co (pdiff (padd (rscale x b) (0 :: pmul a b))) i = _
    rw [e1, co_padd, e2, pmul, co_padd, co_rscale]
    cases i with
    | zero => rw [co_zero, co_zero, co_zero]; grind
    | succ i =>
      rw [co_succ, co_succ, co_succ, ih i, co_padd]; grind
def peval (x : Rat) : List Rat → Rat
  | [] => 0
  | c :: l => c + x * peval x l
theorem peval_none (x : Rat) : ∀ {l : List Rat}, (∀ i, co l i = 0) → peval x l = 0
  | [], _ => rfl
  | c :: l, h => by
    rw [peval, peval_none x (fun i => by have := h (i + 1); rwa [co_succ] at this), show c = 0 from h 0]; grind
theorem peval_congr (x : Rat) : ∀ {a b : List Rat}, peq a b → peval x a = peval x b
  | [], b, h => (peval_none x (fun i => (h i).symm)).symm
  | c :: a, [], h => peval_none x (fun i => h i)
  | c :: a, d :: b, h => by
    rw [peval, peval, peval_congr x (a := a) (b := b) (fun i => by have := h (i + 1); rwa [co_succ, co_succ] at this), show c = d from h 0]
theorem peval_padd (x : Rat) : ∀ a b : List Rat, peval x (padd a b) = peval x a + peval x b
  | [], b => by rw [padd, peval]; grind
  | c :: a, [] => by
    rw [padd]
    · show _ = _ + (0 : Rat)
      grind
    · simp
  | c :: a, d :: b => by rw [padd, peval, peval, peval, peval_padd x a b]; grind
theorem peval_rscale (x k : Rat) : ∀ a : List Rat, peval x (rscale k a) = k * peval x a
  | [] => by show (0 : Rat) = k * 0; grind
  | c :: a => by
    show k * c + x * peval x (rscale k a) = k * (c + x * peval x a)
    rw [peval_rscale x k a]; grind
theorem peval_pmul (x : Rat) : ∀ a b : List Rat, peval x (pmul a b) = peval x a * peval x b
  | [], b => by show (0 : Rat) = 0 * _; grind
  | c :: a, b => by
    rw [pmul, peval_padd, peval_rscale, peval, peval, peval_pmul x a b]; grind
end Go.Proofs.Ytipcgehcineblaa

/-
  Plain mathematics: how long what is reckoned of rows becomes. Of no program.
-/
namespace Go.Proofs.Ytipcgehcineblaa
open Go.RowKit

theorem qlen_rscale {A B : Nat} {c : Rat} {l : List Rat} (hc : qlen c ≤ B) (hl : ∀ q ∈ l, qlen q ≤ A) : ∀ q ∈ rscale c l, qlen q ≤ A + B + 1 := fun q hq => by
  obtain ⟨x, hx, rfl⟩ := List.mem_map.1 hq
  have h1 := hl x hx
  have h2 := qlen_mul c x
  omega
end Go.Proofs.Ytipcgehcineblaa

/-
  Rows of fractions: what lies at a place; a row's first so many; copies of fractions that are any. Of no program.
-/
namespace Go.Proofs.Ytipcgehcineblaa
open Go.RowKit

theorem fx_mem {L : List Fx} {k : Nat} (h : k < L.length) : L.getD k Fx.zero ∈ L := by
  rw [List.getD_eq_getElem?_getD, List.getElem?_eq_getElem h]; exact List.getElem_mem h
theorem fx_more {L : List Fx} {k : Nat} (h : k < L.length) : L.take (k + 1) = L.take k ++ [L.getD k Fx.zero] := by
  rw [List.take_succ_eq_append_getElem h, List.getD_eq_getElem?_getD, List.getElem?_eq_getElem h]; rfl
theorem q_mem {L : List Rat} {k : Nat} (h : k < L.length) : L.getD k 0 ∈ L := by
  rw [List.getD_eq_getElem?_getD, List.getElem?_eq_getElem h]; exact List.getElem_mem h
theorem q_more {L : List Rat} {k : Nat} (h : k < L.length) : L.take (k + 1) = L.take k ++ [L.getD k 0] := by
  rw [List.take_succ_eq_append_getElem h, List.getD_eq_getElem?_getD, List.getElem?_eq_getElem h]; rfl
theorem fqs_getD {L : List Fx} {k : Nat} (h : k < L.length) : (fqs L).getD k 0 = (L.getD k Fx.zero).q := by
  rw [List.getD_eq_getElem?_getD, fqs_at L k h]; rfl
theorem take_len {α : Type} {L : List α} {k : Nat} (h : k ≤ L.length) : (L.take k).length = k := by rw [List.length_take]; omega
theorem three_on {w w' : World} {p q r : Addr} {x y z : Value} (h : w.cell? p = some x ∧ w.cell? q = some y ∧ w.cell? r = some z) (hb : Below w.heap.size w w') : w'.cell? p = some x ∧ w'.cell? q = some y ∧ w'.cell? r = some z := ⟨cell_later hb h.1, cell_later hb h.2.1, cell_later hb h.2.2⟩
/-- What lies at a place of a row of right fractions. -/
theorem Rw.at {w : World} {a : Option Addr} {n cap : Nat} {qs : List Rat} (h : Rw w a n cap qs) {j : Nat} (hj : j < n) : ∃ b off, a = some ⟨b, off, none⟩ ∧ ∃ (a' : Option Addr) (n' c' : Nat) (b' : Option Addr) (m' d' : Nat),
    (w.cell? ⟨b, off + j * 3, none⟩ = some (.bool (zneg (qs.getD j 0).num)) ∧ w.cell? ⟨b, off + j * 3 + 1, none⟩ = some (.slice a' n' c') ∧ w.cell? ⟨b, off + j * 3 + 2, none⟩ = some (.slice b' m' d')) ∧
    Wd w a' n' c' (dg (qs.getD j 0).num.natAbs) ∧ Wd w b' m' d' (dg (qs.getD j 0).den) := by
  obtain ⟨L, h1, h2, h3⟩ := h
  obtain ⟨b, off, rfl, e0, e1, e2, hok⟩ := h1.at hj
  have hl : j < L.length := by rw [h1.len]; exact hj
  have hq : qs.getD j 0 = (L.getD j Fx.zero).q := by rw [← h2]; exact fqs_getD hl
  obtain ⟨r1, r2, r3⟩ := h3 _ (fx_mem hl)
  rw [hq, ← r1, ← r2, ← r3]
  exact ⟨b, off, rfl, _, _, _, _, _, _, ⟨e0, e1, e2⟩, hok.1, hok.2⟩
theorem Rw.bound {w : World} {a : Option Addr} {n cap : Nat} {qs : List Rat} (h : Rw w a n cap qs) : n ≤ cap ∧ cap ≤ 9223372036854775807 := by
  obtain ⟨L, h1, _⟩ := h
  exact h1.bound
theorem Rw.nil (w : World) : Rw w none 0 0 [] := ⟨[], ⟨rfl, Nat.le_refl _, by omega, fun _ => rfl, fun x hx => by (simp at hx), .inl rfl⟩, rfl, fun x hx => by simp at hx⟩
/-- Copies of fractions, side by side in a row of the call's own. -/
def Cop (w : World) (base : Nat) (e : TypeId) (v : Value) (L : List Fx) : Prop := OwnC w base e v L ∧ ∀ x ∈ L, x.ok w
theorem Cop.nil (w : World) (base : Nat) (e : TypeId) : Cop w base e (.slice none 0 0) [] := ⟨OwnC.nil _ _ _, fun x hx => by simp at hx⟩
theorem Cop.later {w w' : World} {base : Nat} {e : TypeId} {v : Value} {L : List Fx} (h : Cop w base e v L) (hb : Below w.heap.size w w') : Cop w' base e v L := ⟨h.1.later hb, fun x hx => (h.2 x hx).later hb⟩
theorem Cop.out {w : World} {base : Nat} {e : TypeId} {v : Value} {L : List Fx} (h : Cop w base e v L) : ∃ (a : Option Addr) (cap : Nat), v = .slice a L.length cap ∧ Fxs w a L.length cap L := h.1.slice h.2
theorem wpList_append_cop {P : Program} (w : World) {ops : Array Oper} {rest : List Oper} {o : Oper} {act : Act} {Q : Exit → Act → World → Prop} (hgd : o.guard = none) (s x : Operand) (t : TypeId)
    (ho : o.op = .call { callee := .builtin .append, args := #[s, x], argTypes := #[t, t] })
    (base : Nat) (e : TypeId) (i : TypeInfo) (ht : P.underlying t = some (.slice e)) (hi : P.info? e = some i) (hz : i.zero = some (.agg #[.bool false, .slice none 0 0, .slice none 0 0]))
    (hsize : i.size = 3) (hby : i.bytes = 56) (v : Value) (L : List Fx) (hs : act.eval s = v) (hrow : Cop w base e v L)
    (ad : Addr) (y : Fx) (hx : act.eval x = .slice (some ad) 1 1)
    (hnews : ∀ j u, y.cells[j]? = some u → w.cell? (ad.add j) = some u) (hy : y.ok w)
    (hlen : L.length ≤ 1000000) (hbase : base ≤ w.heap.size)
    (h : ∀ v' w', Cop w' base e v' (L ++ [y]) → w.grownBy w' v.ownBlock → (∀ k, v.ownBlock = some k → base ≤ k) → clean w v → wpList P ops Q rest (act.put o.dst v') w') : wpList P ops Q (o :: rest) act w := by
  obtain ⟨h1, h3⟩ := hrow
  have hzw : noWords (Value.agg #[.bool false, .slice none 0 0, .slice none 0 0]).cells.toList := by
    intro u hu k
    simp [Value.cells] at hu
    rcases hu with rfl | rfl <;> simp
  refine wpList_append_clean w hgd s x t ho base e i (.agg #[.bool false, .slice none 0 0, .slice none 0 0]) 3 56 ht hi hz hsize hby rfl (by decide) v L.length (L.flatMap Fx.cells) hs h1.1 ad 1 1 y.cells hx rfl hnews (cells_one _) (by unfold maxLen; omega) (by omega) hbase (by decide) h1.2 hzw (noWords_cells _) (noWords_flat _) ?_
  intro v' w' hown hgrow hcl
  refine h v' w' ⟨⟨by simpa [List.flatMap_append] using hown, hcl⟩, fun z hz => ?_⟩ hgrow (fun k hk => h1.base k hk) h1.2
  rcases List.mem_append.1 hz with hz | hz
  · exact Fx.aside (h3 z hz) h1.2 hgrow
  · rw [List.mem_singleton.1 hz]
    exact Fx.aside hy h1.2 hgrow
theorem clean_store {w : World} {g k cap j : Nat} {u x : Value} (h : clean w (.slice (some ⟨g, 0, none⟩) k cap)) (hx : w.cell? ⟨g, j, none⟩ = some x) (hu : ∀ y : Int, u ≠ .int .u32 y) : clean (w.setCell ⟨g, j, none⟩ u) (.slice (some ⟨g, 0, none⟩) k cap) := by
  intro g' hg' i y hc
  have h2 := h g' hg' i y
  simp [Value.ownBlock] at hg'
  subst hg'
  by_cases hij : i = j
  · subst hij
    rw [World.cell?_setCell_same _ _ _ hx] at hc
    exact hu y (Option.some.inj hc)
  · rw [World.cell?_setCell_other _ ⟨g, j, none⟩ ⟨g, i, none⟩ _ (fun e => hij (congrArg Addr.off e).symm)] at hc
    exact h2 hc
theorem fr_flat_set : ∀ (L : List Fx) (i : Nat) (x : Fx), i < L.length → (L.set i x).flatMap Fx.cells = (((L.flatMap Fx.cells).set (i * 3) (.bool x.s)).set (i * 3 + 1) (.slice x.a x.n x.c)).set (i * 3 + 2) (.slice x.b x.m x.d)
  | [], _, _, h => by simp at h
  | y :: L, 0, x, _ => by simp [Fx.cells]
  | y :: L, i + 1, x, h => by
    have h1 := fr_flat_set L i x (by simpa using h)
    have h2 : (y :: L).flatMap Fx.cells = .bool y.s :: .slice y.a y.n y.c :: .slice y.b y.m y.d :: L.flatMap Fx.cells := by simp [Fx.cells]
    rw [h2, List.set_cons_succ, List.flatMap_cons, h1]
    have e0 : (i + 1) * 3 = i * 3 + 1 + 1 + 1 := by omega
    rw [e0]
    simp [Fx.cells]
/-- A fraction put at a place of a row of the call's own. -/
theorem Row.stored {w : World} {base : Nat} {e : TypeId} {g k cap : Nat} {qs : List Rat} (h : Row w base e (.slice (some ⟨g, 0, none⟩) k cap) qs) (hk : k = qs.length) {i : Nat} (hi : i < qs.length) (q : Rat) (a : Option Addr) (n c : Nat) (b : Option Addr) (m d : Nat) (ha : Wd w a n c (dg q.num.natAbs)) (hb : Wd w b m d (dg q.den)) :
    Row (((w.setCell ⟨g, i * 3, none⟩ (.bool (zneg q.num))).setCell ⟨g, i * 3 + 1, none⟩ (.slice a n c)).setCell ⟨g, i * 3 + 2, none⟩ (.slice b m d)) base e (.slice (some ⟨g, 0, none⟩) k cap) (qs.set i q) ∧
    w.grownBy (((w.setCell ⟨g, i * 3, none⟩ (.bool (zneg q.num))).setCell ⟨g, i * 3 + 1, none⟩ (.slice a n c)).setCell ⟨g, i * 3 + 2, none⟩ (.slice b m d)) (some g) := by
  obtain ⟨L, ⟨h1, h2⟩, h3, h4⟩ := h
  have hL : L.length = qs.length := by rw [← h3, List.length_map]
  have hkL : k = L.length := hk.trans hL.symm
  subst hkL
  have hf := flat_length L
  obtain ⟨c0, c1, c2⟩ := flat_at L i (by omega)
  have p0 := h1.cellAt (i * 3) (by omega)
  have p1 := h1.cellAt (i * 3 + 1) (by omega)
  have p2 := h1.cellAt (i * 3 + 2) (by omega)
  rw [c0] at p0; rw [c1] at p1; rw [c2] at p2
  obtain ⟨s0, g0⟩ := h1.stored (i * 3) (.bool (zneg q.num))
  obtain ⟨s1, g1⟩ := s0.stored (i * 3 + 1) (.slice a n c)
  obtain ⟨s2, g2⟩ := s1.stored (i * 3 + 2) (.slice b m d)
  have l0 := clean_store (j := i * 3) (u := .bool (zneg q.num)) h2 p0 (fun y e => by cases e)
  have l1 := clean_store (j := i * 3 + 1) (u := .slice a n c) l0 ((World.cell?_setCell_other _ ⟨g, i * 3, none⟩ ⟨g, i * 3 + 1, none⟩ _ (fun e => by simp at e)).trans p1) (fun y e => by cases e)
  have l2 := clean_store (j := i * 3 + 2) (u := .slice b m d) l1 (((World.cell?_setCell_other _ ⟨g, i * 3 + 1, none⟩ ⟨g, i * 3 + 2, none⟩ _ (fun e => by simp at e)).trans (World.cell?_setCell_other _ ⟨g, i * 3, none⟩ ⟨g, i * 3 + 2, none⟩ _ (fun e => by simp at e))).trans p2) (fun y e => by cases e)
  have hg := (g0.trans g1).trans g2
  refine ⟨⟨L.set i (rx q a n c b m d), ⟨?_, l2⟩, ?_, fun x hx => ?_⟩, hg⟩
  · rw [fr_flat_set L i _ (by omega), List.length_set]
    exact s2
  · rw [List.map_set, rx_q, h3]
  · rcases List.mem_or_eq_of_mem_set hx with hx | rfl
    · exact ⟨Fx.aside (h4 x hx).1 h2 hg, (h4 x hx).2⟩
    · exact ⟨⟨ha.aside h2 hg, hb.aside h2 hg⟩, rx_right _ _ _ _ _ _ _⟩
theorem Row.block {w : World} {base : Nat} {e : TypeId} {v : Value} {qs : List Rat} (h : Row w base e v qs) : ∀ k, v.ownBlock = some k → base ≤ k ∧ k < w.heap.size := by
  obtain ⟨L, h1, _⟩ := h
  exact h1.1.lt
/-- A row that nobody else holds comes back. -/
def LstRow (e9 : TypeId) (qs : List Rat) (w : World) (e : Ending) (w' : World) : Prop := ∃ v, e = .returned v ∧ Row w' w.heap.size e9 v qs ∧ Below w.heap.size w w'
theorem LstRow.out {e9 : TypeId} {qs : List Rat} {w w' : World} {e : Ending} (h : LstRow e9 qs w e w') : LstRw qs w e w' := by
  obtain ⟨v, rfl, h, hb⟩ := h
  obtain ⟨a, cap, rfl, h9⟩ := h.out
  exact ⟨a, _, cap, rfl, h9, hb⟩
def thinI (N : Int) (L : List Fx) : Prop := ∀ x ∈ L, (x.n : Int) ≤ N ∧ (x.m : Int) ≤ N
theorem thinI.out {N : Nat} {L : List Fx} (h : thinI (N : Int) L) : thin N L := fun x hx => by
  have := h x hx
  omega
theorem Row.whole {w : World} {base : Nat} {e : TypeId} {v : Value} {T : List Rat} {k : Nat} (h : Row w base e v (T.take k)) (hk : T.length = k) : Row w base e v T := by
  rwa [List.take_of_length_le (Nat.le_of_eq hk)] at h
theorem Cop.whole {w : World} {base : Nat} {e : TypeId} {v : Value} {T : List Fx} {k : Nat} (h : Cop w base e v (T.take k)) (hk : T.length = k) : Cop w base e v T := by
  rwa [List.take_of_length_le (Nat.le_of_eq hk)] at h
theorem Row.form {w : World} {base : Nat} {e : TypeId} {v : Value} {qs : List Rat} (h : Row w base e v qs) (hn : 0 < qs.length) : ∃ g cap, v = .slice (some ⟨g, 0, none⟩) qs.length cap ∧ base ≤ g ∧ g < w.heap.size := by
  obtain ⟨L, ⟨h1, _⟩, h3, _⟩ := h
  have hL : L.length = qs.length := by rw [← h3, List.length_map]
  obtain ⟨g, cap, h5, h6, h7⟩ := h1.form (by omega)
  exact ⟨g, cap, by rw [h5, hL], h6, h7⟩
/-- The cells of a row of the call's own can be written. -/
theorem Row.free {w : World} {base : Nat} {e : TypeId} {g k cap : Nat} {qs : List Rat} (h : Row w base e (.slice (some ⟨g, 0, none⟩) k cap) qs) (hk : k = qs.length) {i : Nat} (hi : i < qs.length) :
    ∃ x y z, (w.cell? ⟨g, i * 3, none⟩ = some x ∧ w.cell? ⟨g, i * 3 + 1, none⟩ = some y ∧ w.cell? ⟨g, i * 3 + 2, none⟩ = some z) ∧ w.frozen? ⟨g, i * 3, none⟩ = false ∧ w.frozen? ⟨g, i * 3 + 1, none⟩ = false ∧ w.frozen? ⟨g, i * 3 + 2, none⟩ = false := by
  obtain ⟨L, ⟨h1, _⟩, h3, _⟩ := h
  have hL : L.length = qs.length := by rw [← h3, List.length_map]
  have hkL : k = L.length := hk.trans hL.symm
  subst hkL
  obtain ⟨c0, c1, c2⟩ := flat_at L i (by omega)
  have p0 := h1.cellAt (i * 3) (by omega)
  have p1 := h1.cellAt (i * 3 + 1) (by omega)
  have p2 := h1.cellAt (i * 3 + 2) (by omega)
  rw [c0] at p0; rw [c1] at p1; rw [c2] at p2
  exact ⟨_, _, _, ⟨p0, p1, p2⟩, h1.frozenAt _, h1.frozenAt _, h1.frozenAt _⟩
theorem row_weak {w : World} {b b' : Nat} {e : TypeId} {v : Value} {qs : List Rat} (h : Row w b e v qs) (hb : b' ≤ b) : Row w b' e v qs := by
  obtain ⟨L, ⟨⟨h1, h2⟩, h3⟩, h4⟩ := h
  refine ⟨L, ⟨⟨h1, ?_⟩, h3⟩, h4⟩
  rcases h2 with h2 | ⟨g, cap, cur, e1, hg, h5⟩
  · exact .inl h2
  · exact .inr ⟨g, cap, cur, e1, Nat.le_trans hb hg, h5⟩
end Go.Proofs.Ytipcgehcineblaa

/-
  Polynomials: how long sums, products, derivatives become; how many coefficients they have. Of no program.
-/
namespace Go.Proofs.Ytipcgehcineblaa
open Go.RowKit

theorem qlen_sumTo {T : Nat} : ∀ (n : Nat) (f : Nat → Rat), (∀ i, i < n → qlen (f i) ≤ T) → qlen (sumTo n f) ≤ 1 + n * (T + 2)
  | 0, _, _ => by
    show qlen 0 ≤ _
    rw [qlen_nought]; omega
  | n + 1, f, h => by
    have h1 := qlen_sumTo n f (fun i hi => h i (by omega))
    have h2 := h n (by omega)
    have h3 := qlen_add (sumTo n f) (f n)
    show qlen (sumTo n f + f n) ≤ _
    rw [Nat.add_mul]; omega
theorem sumTo_none {n m : Nat} {f : Nat → Rat} (hm : m ≤ n) (h : ∀ i, m ≤ i → i < n → f i = 0) : sumTo n f = sumTo m f := by
  induction n with
  | zero => rw [show m = 0 by omega]
  | succ n ih =>
    by_cases hmn : m = n + 1
    · rw [hmn]
    · show sumTo n f + f n = _
      rw [ih (by omega) (fun i h1 h2 => h i h1 (by omega)), h n (by omega) (by omega)]; grind
theorem sumTo_turn : ∀ (n : Nat) (f : Nat → Rat), sumTo (n + 1) f = sumTo (n + 1) (fun i => f (n - i))
  | 0, f => rfl
  | n + 1, f => by
    rw [sumTo_first (n + 1) (fun i => f (n + 1 - i))]
    show sumTo (n + 1) f + f (n + 1) = f (n + 1 - 0) + _
    rw [sumTo_congr (n := n + 1) (f := fun k => f (n + 1 - (k + 1))) (g := fun k => f (n - k)) (fun k _ => by rw [Nat.add_sub_add_right]), ← sumTo_turn n f, Nat.sub_zero]; grind
theorem pmul_comm (a b : List Rat) : peq (pmul a b) (pmul b a) := fun n => by
  rw [co_pmul, co_pmul, sumTo_turn n (fun i => co b i * co a (n - i))]
  exact sumTo_congr fun i hi => by rw [show n - (n - i) = i by omega, Rat.mul_comm]
theorem qlen_co {A : Nat} {a : List Rat} (hA : 1 ≤ A) (h : ∀ q ∈ a, qlen q ≤ A) (i : Nat) : qlen (co a i) ≤ A := by
  rcases Nat.lt_or_ge i a.length with h1 | h1
  · exact h _ (q_mem h1)
  · rw [co_far h1, qlen_nought]; exact hA
theorem qlen_list {K : Nat} {a : List Rat} (h : ∀ i, qlen (co a i) ≤ K) : ∀ q ∈ a, qlen q ≤ K := fun q hq => by
  obtain ⟨i, hi, rfl⟩ := List.getElem_of_mem hq
  have := h i
  unfold co at this
  rwa [List.getD_eq_getElem?_getD, List.getElem?_eq_getElem hi] at this
theorem co_pnorm (a : List Rat) (i : Nat) : co (pnorm a) i = co a i := pnorm_co a i
theorem qlen_pmul {A B : Nat} {a b : List Rat} (hA : 1 ≤ A) (hB : 1 ≤ B) (ha : ∀ q ∈ a, qlen q ≤ A) (hb : ∀ q ∈ b, qlen q ≤ B) : ∀ q ∈ pnorm (pmul a b), qlen q ≤ 1 + a.length * (A + B + 3) := qlen_list fun i => by
  rw [co_pnorm, co_pmul]
  rcases Nat.lt_or_ge i a.length with h | h
  · refine Nat.le_trans (qlen_sumTo (T := A + B + 1) (i + 1) _ (fun k _ => Nat.le_trans (qlen_mul _ _) (Nat.add_le_add_right (Nat.add_le_add (qlen_co hA ha k) (qlen_co hB hb _)) 1))) ?_
    exact Nat.add_le_add_left (Nat.mul_le_mul_right _ h) 1
  · rw [sumTo_none (m := a.length) (by omega) (fun k h1 _ => by rw [co_far h1]; grind)]
    exact qlen_sumTo (T := A + B + 1) _ _ (fun k _ => Nat.le_trans (qlen_mul _ _) (Nat.add_le_add_right (Nat.add_le_add (qlen_co hA ha k) (qlen_co hB hb _)) 1))
theorem qlen_pmul2 {A B : Nat} {a b : List Rat} (hA : 1 ≤ A) (hB : 1 ≤ B) (ha : ∀ q ∈ a, qlen q ≤ A) (hb : ∀ q ∈ b, qlen q ≤ B) : ∀ q ∈ pnorm (pmul a b), qlen q ≤ 1 + b.length * (B + A + 3) := by
  rw [pnorm_congr (pmul_comm a b)]
  exact qlen_pmul hB hA hb ha
theorem qlen_padd {A B : Nat} {a b : List Rat} (hA : 1 ≤ A) (hB : 1 ≤ B) (ha : ∀ q ∈ a, qlen q ≤ A) (hb : ∀ q ∈ b, qlen q ≤ B) : ∀ q ∈ pnorm (padd a b), qlen q ≤ A + B + 2 := qlen_list fun i => by
  rw [co_pnorm, co_padd]
  exact Nat.le_trans (qlen_add _ _) (Nat.add_le_add_right (Nat.add_le_add (qlen_co hA ha i) (qlen_co hB hb i)) 2)
theorem qlen_pdiff {A : Nat} {a : List Rat} (hA : 1 ≤ A) (hl : a.length ≤ 1000000) (ha : ∀ q ∈ a, qlen q ≤ A) : ∀ q ∈ pnorm (pdiff a), qlen q ≤ A + 3 := qlen_list fun i => by
  rw [co_pnorm, co_pdiff]
  rcases Nat.lt_or_ge (i + 1) a.length with h | h
  · have h1 : qlen (((i + 1 : Nat) : Rat)) ≤ 2 := qlen_int (z := ((i + 1 : Nat) : Int)) (by unfold isInt; omega)
    have h2 := qlen_mul (((i + 1 : Nat) : Rat)) (co a (i + 1))
    have h3 := qlen_co hA ha (i + 1)
    omega
  · rw [co_far h, show ((i + 1 : Nat) : Rat) * 0 = 0 by grind, qlen_nought]; omega
theorem pmul_length : ∀ a b : List Rat, (pmul a b).length ≤ a.length + b.length
  | [], b => by rw [pmul]; simp
  | x :: a, b => by
    have h := pmul_length a b
    have h2 : ∀ c d : List Rat, (padd c d).length ≤ max c.length d.length := by
      intro c
      induction c with
      | nil => intro d; rw [padd]; simp
      | cons y c ih =>
        intro d
        cases d with
        | nil =>
          rw [padd]
          · simp
          · simp
        | cons z d =>
          have := ih d
          rw [padd, List.length_cons, List.length_cons, List.length_cons]; omega
    rw [pmul]
    refine Nat.le_trans (h2 _ _) ?_
    rw [rscale_length, List.length_cons, List.length_cons]; omega
theorem padd_length : ∀ c d : List Rat, (padd c d).length ≤ max c.length d.length := by
  intro c
  induction c with
  | nil => intro d; rw [padd]; simp
  | cons y c ih =>
    intro d
    cases d with
    | nil =>
      rw [padd]
      · simp
      · simp
    | cons z d =>
      have := ih d
      rw [padd, List.length_cons, List.length_cons, List.length_cons]; omega
theorem pdiff_length (a : List Rat) : (pdiff a).length ≤ a.length := by
  have h : ∀ (l : List Rat) (k : Nat), (pdiffFrom k l).length = l.length := by
    intro l
    induction l with
    | nil => intro k; rfl
    | cons x l ih => intro k; rw [pdiffFrom, List.length_cons, List.length_cons, ih]
  unfold pdiff
  rw [h]
  cases a with
  | nil => exact Nat.le_refl _
  | cons x l => simp
theorem plen_right {a : List Rat} (h : pnorm a = a) : plen a = a.length := by unfold plen; rw [h]
/-- Quotient and rest, right; with how long they are at most. -/
def LstDiv (A B : List Rat) (K : Nat) (w : World) (e : Ending) (w' : World) : Prop := ∃ (a : Option Addr) (n c : Nat) (q : List Rat) (b : Option Addr) (m d : Nat) (r : List Rat), e = .returned (.tuple #[.slice a n c, .slice b m d, .bool true]) ∧ Rw w' a n c q ∧ Rw w' b m d r ∧ isDiv A B q r ∧ pnorm q = q ∧ pnorm r = r ∧ (∀ x ∈ q, qlen x ≤ K) ∧ (∀ x ∈ r, qlen x ≤ K) ∧ Below w.heap.size w w'
def LstGcd (A B : List Rat) (K : Nat) (w : World) (e : Ending) (w' : World) : Prop := ∃ (a : Option Addr) (n c : Nat) (g : List Rat), e = .returned (.slice a n c) ∧ Rw w' a n c g ∧ isGcd A B g ∧ pnorm g = g ∧ (∀ x ∈ g, qlen x ≤ K) ∧ Below w.heap.size w w'
end Go.Proofs.Ytipcgehcineblaa

/-
  Linear equations in one unknown more than there are equations have a small solution in whole numbers (by counting). Of no program.
-/
namespace Go.Proofs.Ytipcgehcineblaa

/-- Of K + 1 numbers that are sent below K two are sent to the same place. -/
theorem pigeon : ∀ (K : Nat) (f : Nat → Nat), (∀ c, c ≤ K → f c < K) → ∃ c d, c < d ∧ d ≤ K ∧ f c = f d
  | 0, f, h => absurd (h 0 (Nat.le_refl 0)) (Nat.not_lt_zero _)
  | K + 1, f, h => by
    by_cases hx : ∃ c, c ≤ K ∧ f c = f (K + 1)
    · obtain ⟨c, h1, h2⟩ := hx
      exact ⟨c, K + 1, by omega, Nat.le_refl _, h2⟩
    · have hn : ∀ c, c ≤ K → f c ≠ f (K + 1) := fun c h1 h2 => hx ⟨c, h1, h2⟩
      have hl := h (K + 1) (Nat.le_refl _)
      obtain ⟨c, d, h1, h2, h3⟩ := pigeon K (fun c => if f c = K then f (K + 1) else f c) (fun c hc => by
        have h4 := h c (by omega)
        have h5 := hn c hc
        show (if f c = K then f (K + 1) else f c) < K
        split <;> omega)
      have e1 := hn c (by omega)
      have e2 := hn d h2
      refine ⟨c, d, h1, by omega, ?_⟩
      replace h3 : (if f c = K then f (K + 1) else f c) = (if f d = K then f (K + 1) else f d) := h3
      split at h3 <;> split at h3 <;> omega
/-- Numbers written behind each other, and taken out again. -/
def encN (b : Nat) : Nat → (Nat → Nat) → Nat
  | 0, _ => 0
  | n + 1, e => e 0 + b * encN b n (fun j => e (j + 1))
theorem encN_lt {b : Nat} : ∀ {n : Nat} {e : Nat → Nat}, (∀ j, j < n → e j < b) → encN b n e < b ^ n
  | 0, _, _ => Nat.one_pos
  | n + 1, e, h => by
    have h1 := h 0 (by omega)
    have h2 := encN_lt (b := b) (n := n) (e := fun j => e (j + 1)) (fun j hj => h (j + 1) (by omega))
    show e 0 + b * encN b n (fun j => e (j + 1)) < b ^ (n + 1)
    rw [Nat.pow_succ, Nat.mul_comm (b ^ n) b]
    have h3 : b * (encN b n (fun j => e (j + 1)) + 1) ≤ b * b ^ n := Nat.mul_le_mul_left b h2
    rw [Nat.mul_add, Nat.mul_one] at h3
    omega
theorem encN_inj {b : Nat} : ∀ {n : Nat} {e d : Nat → Nat}, (∀ j, j < n → e j < b) → (∀ j, j < n → d j < b) → encN b n e = encN b n d → ∀ j, j < n → e j = d j
  | 0, _, _, _, _, _, j, hj => absurd hj (Nat.not_lt_zero j)
  | n + 1, e, d, he, hd, h, j, hj => by
    have h1 := he 0 (by omega)
    have h2 := hd 0 (by omega)
    have h3 : e 0 + b * encN b n (fun j => e (j + 1)) = d 0 + b * encN b n (fun j => d (j + 1)) := h
    have h4 : e 0 = d 0 := by
      have := congrArg (· % b) h3
      simp only [Nat.add_mul_mod_self_left] at this
      rwa [Nat.mod_eq_of_lt h1, Nat.mod_eq_of_lt h2] at this
    have h5 : encN b n (fun j => e (j + 1)) = encN b n (fun j => d (j + 1)) := Nat.eq_of_mul_eq_mul_left (Nat.lt_of_le_of_lt (Nat.zero_le _) h1) (by omega)
    cases j with
    | zero => exact h4
    | succ j => exact encN_inj (fun j hj => he (j + 1) (by omega)) (fun j hj => hd (j + 1) (by omega)) h5 j (by omega)
theorem encN_congr {b : Nat} : ∀ {n : Nat} {e d : Nat → Nat}, (∀ j, j < n → e j = d j) → encN b n e = encN b n d
  | 0, _, _, _ => rfl
  | n + 1, e, d, h => by
    show e 0 + b * encN b n (fun j => e (j + 1)) = d 0 + b * encN b n (fun j => d (j + 1))
    rw [h 0 (by omega), encN_congr (n := n) (fun j hj => h (j + 1) (by omega))]
def digN (b c j : Nat) : Nat := c / b ^ j % b
theorem encN_dig {b : Nat} : ∀ (n c : Nat), c < b ^ n → encN b n (digN b c) = c
  | 0, c, h => by
    have : c = 0 := by simpa using h
    rw [this]; rfl
  | n + 1, c, h => by
    have hb : 0 < b := by
      rcases Nat.eq_zero_or_pos b with e | e
      · rw [e, Nat.pow_succ, Nat.mul_zero] at h; omega
      · exact e
    have h1 : c / b < b ^ n := by
      rw [Nat.div_lt_iff_lt_mul hb]
      rwa [Nat.pow_succ] at h
    have h2 := encN_dig n (c / b) h1
    have h3 : (fun j => digN b c (j + 1)) = digN b (c / b) := by
      funext j
      show c / b ^ (j + 1) % b = c / b / b ^ j % b
      rw [Nat.div_div_eq_div_mul, Nat.pow_succ, Nat.mul_comm]
    show digN b c 0 + b * encN b n (fun j => digN b c (j + 1)) = c
    rw [h3, h2]
    show c / b ^ 0 % b + b * (c / b) = c
    rw [Nat.pow_zero, Nat.div_one]
    exact Nat.mod_add_div c b
/-- Sums of whole numbers. -/
def isum : Nat → (Nat → Int) → Int
  | 0, _ => 0
  | n + 1, f => isum n f + f n
theorem isum_sub : ∀ (n : Nat) (f g : Nat → Int), isum n (fun j => f j - g j) = isum n f - isum n g
  | 0, _, _ => rfl
  | n + 1, f, g => by
    show isum n (fun j => f j - g j) + (f n - g n) = (isum n f + f n) - (isum n g + g n)
    rw [isum_sub n f g]; omega
theorem isum_le : ∀ {n : Nat} {f : Nat → Int} {B : Nat}, (∀ j, j < n → (f j).natAbs ≤ B) → (isum n f).natAbs ≤ n * B
  | 0, _, _, _ => by show (0 : Int).natAbs ≤ _; simp
  | n + 1, f, B, h => by
    have h1 := isum_le (n := n) (f := f) (B := B) (fun j hj => h j (by omega))
    have h2 := h n (by omega)
    have h3 : (isum n f + f n).natAbs ≤ (isum n f).natAbs + (f n).natAbs := Int.natAbs_add_le _ _
    show (isum n f + f n).natAbs ≤ (n + 1) * B
    rw [Nat.add_mul]; omega
theorem isum_congr : ∀ {n : Nat} {f g : Nat → Int}, (∀ j, j < n → f j = g j) → isum n f = isum n g
  | 0, _, _, _ => rfl
  | n + 1, f, g, h => by
    show isum n f + f n = isum n g + g n
    rw [isum_congr (n := n) (fun j hj => h j (by omega)), h n (by omega)]
theorem siegel_room (Y X c M : Nat) (hX : c ^ M ≤ X) (hY : Y ≤ c * (X + 1)) : Y ^ M < (X + 1) ^ (M + 1) := by
  have h1 : Y ^ M ≤ (c * (X + 1)) ^ M := Nat.pow_le_pow_left hY M
  rw [Nat.mul_pow] at h1
  have h2 : c ^ M * (X + 1) ^ M ≤ X * (X + 1) ^ M := Nat.mul_le_mul_right _ hX
  have h3 : X * (X + 1) ^ M < (X + 1) ^ (M + 1) := by
    rw [Nat.pow_succ, Nat.mul_comm ((X + 1) ^ M)]
    exact Nat.mul_lt_mul_of_pos_right (Nat.lt_succ_self X) (Nat.pow_pos (Nat.succ_pos X))
  omega
theorem siegel (M H : Nat) (a : Nat → Nat → Int) (ha : ∀ i j, i < M → j < M + 1 → (a i j).natAbs ≤ H) :
    ∃ x : Nat → Int, (∃ j, j < M + 1 ∧ x j ≠ 0) ∧ (∀ j, j < M + 1 → (x j).natAbs ≤ (2 * ((M + 1) * H) + 1) ^ M) ∧ ∀ i, i < M → isum (M + 1) (fun j => a i j * x j) = 0 := by
  obtain ⟨X, hX⟩ : ∃ X, (2 * ((M + 1) * H) + 1) ^ M = X := ⟨_, rfl⟩
  obtain ⟨U, hU⟩ : ∃ U, (M + 1) * (H * X) = U := ⟨_, rfl⟩
  have hY : 2 * U + 1 ≤ (2 * ((M + 1) * H) + 1) * (X + 1) := by
    have h1 : 2 * U = 2 * ((M + 1) * H) * X := by rw [← hU, Nat.mul_assoc, Nat.mul_assoc]
    rw [Nat.add_mul, Nat.mul_add, Nat.mul_one, Nat.one_mul]
    omega
  have hroom := siegel_room (2 * U + 1) X _ M (Nat.le_of_eq hX) hY
  have hd : ∀ c j, digN (X + 1) c j ≤ X := fun c j => Nat.le_of_lt_succ (Nat.mod_lt _ (Nat.succ_pos X))
  let v : Nat → Nat → Int := fun c i => isum (M + 1) (fun j => a i j * (digN (X + 1) c j : Int))
  have hv : ∀ c i, i < M → (v c i).natAbs ≤ U := fun c i hi => by
    rw [← hU]
    refine isum_le (fun j hj => ?_)
    rw [Int.natAbs_mul, Int.natAbs_natCast]
    exact Nat.mul_le_mul (ha i j hi hj) (hd c j)
  let e : Nat → Nat → Nat := fun c i => (v c i + (U : Int)).toNat
  have he : ∀ c i, i < M → e c i < 2 * U + 1 := fun c i hi => by
    have := hv c i hi
    show (v c i + (U : Int)).toNat < _
    omega
  obtain ⟨c, d, h1, h2, h3⟩ := pigeon ((2 * U + 1) ^ M) (fun c => encN (2 * U + 1) M (e c)) (fun c _ => encN_lt (he c))
  have h4 := encN_inj (he c) (he d) h3
  have h5 : ∀ i, i < M → v c i = v d i := fun i hi => by
    have g1 := h4 i hi
    have g2 := hv c i hi
    have g3 := hv d i hi
    have g4 : (v c i + (U : Int)).toNat = (v d i + (U : Int)).toNat := g1
    omega
  refine ⟨fun j => (digN (X + 1) c j : Int) - (digN (X + 1) d j : Int), ?_, fun j _ => ?_, fun i hi => ?_⟩
  · by_cases hx : ∃ j, j < M + 1 ∧ (digN (X + 1) c j : Int) - (digN (X + 1) d j : Int) ≠ 0
    · exact hx
    · have h6 : ∀ j, j < M + 1 → digN (X + 1) c j = digN (X + 1) d j := fun j hj => by
        by_cases h7 : (digN (X + 1) c j : Int) - (digN (X + 1) d j : Int) = 0
        · omega
        · exact absurd ⟨j, hj, h7⟩ hx
      have h8 : encN (X + 1) (M + 1) (digN (X + 1) c) = encN (X + 1) (M + 1) (digN (X + 1) d) := encN_congr h6
      rw [encN_dig _ _ (by omega), encN_dig _ _ (by omega)] at h8
      omega
  · have := hd c j
    have := hd d j
    show ((digN (X + 1) c j : Int) - (digN (X + 1) d j : Int)).natAbs ≤ _
    rw [hX]; omega
  · have h6 := h5 i hi
    rw [isum_congr (g := fun j => a i j * (digN (X + 1) c j : Int) - a i j * (digN (X + 1) d j : Int)) (fun j _ => Int.mul_sub _ _ _), isum_sub]
    show v c i - v d i = 0
    omega
end Go.Proofs.Ytipcgehcineblaa
