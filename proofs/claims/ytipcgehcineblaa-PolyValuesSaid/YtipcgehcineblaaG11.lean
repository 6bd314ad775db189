/-
  Several texts of this claim as one, group 11.
-/
import Derived.Test.YtipcgehcineblaaG10
/-
  Polynomials that have the same values are the same; whole-numbered forms of polynomials; a pair with nothing in common that solves linear equations has a small whole-numbered form. Of no program.
-/
namespace Go.Proofs.Ytipcgehcineblaa

theorem nat_far : ∀ bad : List Rat, ∃ n : Nat, ∀ m : Nat, n ≤ m → ((m : Nat) : Rat) ∉ bad
  | [] => ⟨0, fun m _ => by simp⟩
  | b :: bad => by
    obtain ⟨n, hn⟩ := nat_far bad
    by_cases hb : ∃ k : Nat, ((k : Nat) : Rat) = b
    · obtain ⟨k, hk⟩ := hb
      refine ⟨max n (k + 1), fun m hm h => ?_⟩
      rcases List.mem_cons.1 h with h | h
      · have h2 : ((m : Nat) : Rat) = ((k : Nat) : Rat) := by rw [h, hk]
        have := Rat.natCast_inj.1 h2
        omega
      · exact hn m (by omega) h
    · refine ⟨n, fun m hm h => ?_⟩
      rcases List.mem_cons.1 h with h | h
      · exact hb ⟨m, h⟩
      · exact hn m hm h
def syn (a : Rat) : List Rat → List Rat
  | [] => []
  | _ :: l => padd l (rscale a (syn a l))
theorem syn_length (a : Rat) : ∀ l : List Rat, (syn a l).length ≤ l.length - 1
  | [] => Nat.le_refl _
  | c :: l => by
    have h := syn_length a l
    refine Nat.le_trans (padd_length _ _) ?_
    rw [rscale_length, List.length_cons]; omega
theorem syn_eval (a x : Rat) : ∀ l : List Rat, peval x l = peval a l + (x - a) * peval x (syn a l)
  | [] => by show (0 : Rat) = 0 + (x - a) * 0; grind
  | c :: l => by
    have h := syn_eval a x l
    show c + x * peval x l = c + a * peval a l + (x - a) * peval x (padd l (rscale a (syn a l)))
    rw [peval_padd, peval_rscale]
    grind
theorem zero_off : ∀ (n : Nat) (l bad : List Rat), l.length ≤ n → (∀ x, x ∉ bad → peval x l = 0) → ∀ x, peval x l = 0
  | 0, l, _, hl, _, x => by
    rw [List.eq_nil_of_length_eq_zero (Nat.le_zero.1 hl)]; rfl
  | n + 1, l, bad, hl, h, x => by
    obtain ⟨m, hm⟩ := nat_far bad
    have ha := hm m (Nat.le_refl m)
    have h0 := h _ ha
    have hs := zero_off n (syn ((m : Nat) : Rat) l) (((m : Nat) : Rat) :: bad) (by have := syn_length ((m : Nat) : Rat) l; omega) (fun y hy => by
      rw [List.mem_cons] at hy
      have h1 := syn_eval ((m : Nat) : Rat) y l
      rw [h0, h y (fun e => hy (.inr e))] at h1
      have h2 : y - ((m : Nat) : Rat) ≠ 0 := fun e => hy (.inl (by grind))
      have h3 : (y - ((m : Nat) : Rat)) * peval y (syn ((m : Nat) : Rat) l) = 0 := by grind
      rcases Rat.mul_eq_zero.1 h3 with h4 | h4
      · exact absurd h4 h2
      · exact h4)
    rw [syn_eval ((m : Nat) : Rat) x l, h0, hs x]; grind
theorem zero_co : ∀ (l : List Rat), (∀ x, peval x l = 0) → ∀ i, co l i = 0
  | [], _, i => rfl
  | c :: l, h, i => by
    have h0 : c = 0 := by
      have h1 : c + 0 * peval 0 l = 0 := h 0
      grind
    have hl := zero_off l.length l [0] (Nat.le_refl _) (fun x hx => by
      have hx0 : x ≠ 0 := fun e => hx (by rw [e]; exact List.mem_cons_self ..)
      have h1 : c + x * peval x l = 0 := h x
      have h2 : x * peval x l = 0 := by grind
      rcases Rat.mul_eq_zero.1 h2 with h3 | h3
      · exact absurd h3 hx0
      · exact h3)
    cases i with
    | zero => exact h0
    | succ i => rw [co_succ]; exact zero_co l hl i
theorem peval_psub (x : Rat) (a b : List Rat) : peval x (psub a b) = peval x a - peval x b := by
  unfold psub
  rw [peval_padd, peval_rscale]; grind
theorem peq_of_eval {a b : List Rat} (h : ∀ x, peval x a = peval x b) : peq a b := fun i => by
  have h1 := zero_co (psub a b) (fun x => by rw [peval_psub, h x]; grind) i
  rw [co_psub] at h1
  grind
theorem plen_mul {a b : List Rat} (ha : plen a ≠ 0) (hb : plen b ≠ 0) : plen (pmul a b) = plen a + plen b - 1 := by
  have := (pmul_top (a := a) (b := b) (m := plen a - 1) (n := plen b - 1) (by omega) (by omega)).1
  omega
theorem plen_mul_le (a b : List Rat) : plen (pmul a b) ≤ plen a + plen b - 1 := by
  by_cases ha : plen a = 0
  · have h : plen (pmul a b) = 0 := plen_congr (pmul_congr (peq_nil ha) (peq.refl b))
    omega
  · by_cases hb : plen b = 0
    · have h : plen (pmul a b) = 0 := plen_congr ((pmul_congr (peq.refl a) (peq_nil hb)).trans (pmul_nil a))
      omega
    · exact Nat.le_of_eq (plen_mul ha hb)
/-- A whole-numbered polynomial, of coefficients of at most H. -/
def Ints (a : List Rat) (H : Nat) : Prop := ∀ i, ∃ z : Int, co a i = (z : Rat) ∧ z.natAbs ≤ H
theorem Ints.congr {a b : List Rat} {H : Nat} (h : Ints a H) (e : peq a b) : Ints b H := fun i => by
  obtain ⟨z, h1, h2⟩ := h i
  exact ⟨z, by rw [← e i]; exact h1, h2⟩
theorem Ints.mono {a : List Rat} {H K : Nat} (h : Ints a H) (e : H ≤ K) : Ints a K := fun i => by
  obtain ⟨z, h1, h2⟩ := h i
  exact ⟨z, h1, Nat.le_trans h2 e⟩
theorem cast_isum : ∀ (n : Nat) (f : Nat → Int), ((isum n f : Int) : Rat) = sumTo n (fun j => ((f j : Int) : Rat))
  | 0, _ => rfl
  | n + 1, f => by
    show ((isum n f + f n : Int) : Rat) = sumTo n (fun j => ((f j : Int) : Rat)) + ((f n : Int) : Rat)
    rw [Rat.intCast_add, cast_isum n f]
theorem isum_split (p : Nat) : ∀ (q : Nat) (f : Nat → Int), isum (p + q) f = isum p f + isum q (fun j => f (p + j))
  | 0, f => by show isum p f = isum p f + 0; omega
  | q + 1, f => by
    show isum (p + q) f + f (p + q) = isum p f + (isum q (fun j => f (p + j)) + f (p + q))
    rw [isum_split p q f]; omega
theorem co_tab14 (n : Nat) (f : Nat → Rat) (i : Nat) : co ((List.range n).map f) i = if i < n then f i else 0 := by
  split
  · rename_i h
    unfold co
    rw [List.getD_eq_getElem?_getD, List.getElem?_map, List.getElem?_range h]; rfl
  · exact co_far (by simp; omega)
theorem co_tab_mul (p : Nat) (u : Nat → Rat) (F : List Rat) (k : Nat) : co (pmul ((List.range p).map u) F) k = sumTo p (fun j => if j ≤ k then u j * co F (k - j) else 0) := by
  rw [co_pmul]
  let f : Nat → Rat := fun j => if j ≤ k then co ((List.range p).map u) j * co F (k - j) else 0
  have h1 : sumTo (k + 1) (fun i => co ((List.range p).map u) i * co F (k - i)) = sumTo (k + 1) f := sumTo_congr fun i hi => by
    show _ = if i ≤ k then _ else _
    rw [if_pos (by omega)]
  have h2 : sumTo (max (k + 1) p) f = sumTo (k + 1) f := sumTo_none (by omega) fun i h3 _ => by
    show (if i ≤ k then _ else _) = _
    rw [if_neg (by omega)]
  have h3 : sumTo (max (k + 1) p) f = sumTo p f := sumTo_none (by omega) fun i h3 _ => by
    show (if i ≤ k then co ((List.range p).map u) i * co F (k - i) else 0) = _
    rw [co_tab14]
    split
    · rw [if_neg (by omega), Rat.zero_mul]
    · rfl
  rw [h1, ← h2, h3]
  refine sumTo_congr fun i hi => ?_
  show (if i ≤ k then co ((List.range p).map u) i * co F (k - i) else 0) = _
  rw [co_tab14, if_pos hi]
theorem small_pair {F E P Q : List Rat} {p q H D0 : Nat} (hF : Ints F H) (hE : Ints E H) (hdF : plen F ≤ D0 + (q + 1)) (hdE : plen E ≤ D0 + p) (hQ : plen Q = q + 1)
    (hcop : ∃ s t, peq (padd (pmul s P) (pmul t Q)) [1])
    (hC : ∀ U V : List Rat, U.length ≤ p → V.length ≤ q + 1 → (∀ k, D0 ≤ k → co (pmul U F) k + co (pmul V E) k = 0) → peq (pmul U Q) (pmul V P)) :
    ∃ (U V : List Rat) (k : Rat), k ≠ 0 ∧ Ints U ((2 * ((p + q + 1) * H) + 1) ^ (p + q)) ∧ Ints V ((2 * ((p + q + 1) * H) + 1) ^ (p + q)) ∧ peq U (rscale k P) ∧ peq V (rscale k Q) ∧ U.length ≤ p ∧ V.length ≤ q + 1 := by
  let fz : Nat → Int := fun i => Classical.choose (hF i)
  have hfz : ∀ i, co F i = (fz i : Rat) ∧ (fz i).natAbs ≤ H := fun i => Classical.choose_spec (hF i)
  let ez : Nat → Int := fun i => Classical.choose (hE i)
  have hez : ∀ i, co E i = (ez i : Rat) ∧ (ez i).natAbs ≤ H := fun i => Classical.choose_spec (hE i)
  obtain ⟨x, ⟨j0, hj0, hj1⟩, hxX, hx0⟩ := siegel (p + q) H (fun i j => if j < p then (if j ≤ D0 + i then fz (D0 + i - j) else 0) else (if j - p ≤ D0 + i then ez (D0 + i - (j - p)) else 0)) (fun i j _ _ => by
    split
    · split
      · exact (hfz _).2
      · exact Nat.zero_le _
    · split
      · exact (hez _).2
      · exact Nat.zero_le _)
  obtain ⟨U, hU⟩ : ∃ U, (List.range p).map (fun j => ((x j : Int) : Rat)) = U := ⟨_, rfl⟩
  obtain ⟨V, hV⟩ : ∃ V, (List.range (q + 1)).map (fun j => ((x (p + j) : Int) : Rat)) = V := ⟨_, rfl⟩
  have hUl : U.length ≤ p := by rw [← hU]; simp
  have hVl : V.length ≤ q + 1 := by rw [← hV]; simp
  have hUc : ∀ i, co U i = if i < p then ((x i : Int) : Rat) else 0 := fun i => by rw [← hU, co_tab14]
  have hVc : ∀ i, co V i = if i < q + 1 then ((x (p + i) : Int) : Rat) else 0 := fun i => by rw [← hV, co_tab14]
  have hUI : Ints U ((2 * ((p + q + 1) * H) + 1) ^ (p + q)) := fun i => by
    rw [hUc]
    by_cases hi : i < p
    · rw [if_pos hi]; exact ⟨x i, rfl, hxX i (by omega)⟩
    · rw [if_neg hi]; exact ⟨0, rfl, Nat.zero_le _⟩
  have hVI : Ints V ((2 * ((p + q + 1) * H) + 1) ^ (p + q)) := fun i => by
    rw [hVc]
    by_cases hi : i < q + 1
    · rw [if_pos hi]; exact ⟨x (p + i), rfl, hxX (p + i) (by omega)⟩
    · rw [if_neg hi]; exact ⟨0, rfl, Nat.zero_le _⟩
  have hvan : ∀ k, D0 ≤ k → co (pmul U F) k + co (pmul V E) k = 0 := fun k hk => by
    by_cases hM : k < D0 + (p + q)
    · obtain ⟨i, hi⟩ : ∃ i, D0 + i = k := ⟨k - D0, by omega⟩
      have h1 := hx0 i (by omega)
      have h2 : ((isum (p + q + 1) _ : Int) : Rat) = ((0 : Int) : Rat) := congrArg (fun z : Int => (z : Rat)) h1
      rw [show p + q + 1 = p + (q + 1) by omega, isum_split, Rat.intCast_add, cast_isum, cast_isum] at h2
      rw [← hU, ← hV, co_tab_mul, co_tab_mul]
      refine Eq.trans ?_ (h2.trans rfl)
      congr 1
      · refine sumTo_congr fun j hj => ?_
        rw [if_pos hj, hi]
        split
        · rw [(hfz (k - j)).1, Rat.intCast_mul, Rat.mul_comm]
        · rw [Int.zero_mul]; rfl
      · refine sumTo_congr fun j _ => ?_
        rw [if_neg (show ¬ p + j < p by omega), hi, Nat.add_sub_cancel_left]
        split
        · rw [(hez (k - j)).1, Rat.intCast_mul, Rat.mul_comm]
        · rw [Int.zero_mul]; rfl
    · have h1 := plen_mul_le U F
      have h2 := plen_mul_le V E
      have h3 := plen_le_length U
      have h4 := plen_le_length V
      rw [co_beyond (a := pmul U F) (by omega), co_beyond (a := pmul V E) (by omega)]; grind
  have hUV := hC U V hUl hVl hvan
  obtain ⟨s, t, hst⟩ := hcop
  obtain ⟨K, hK⟩ : ∃ K, padd (pmul s U) (pmul t V) = K := ⟨_, rfl⟩
  have hev : ∀ y, peval y s * peval y P + peval y t * peval y Q = 1 := fun y => by
    have h := peval_congr y hst
    rw [peval_padd, peval_pmul, peval_pmul] at h
    have h1 : peval y [1] = 1 := by show (1 : Rat) + y * 0 = 1; grind
    rw [h1] at h; exact h
  have hev2 : ∀ y, peval y U * peval y Q = peval y V * peval y P := fun y => by
    have h := peval_congr y hUV
    rwa [peval_pmul, peval_pmul] at h
  have hUK : peq U (pmul P K) := peq_of_eval fun y => by
    have h1 := hev y
    have h2 := hev2 y
    rw [← hK, peval_pmul, peval_padd, peval_pmul, peval_pmul]; grind
  have hVK : peq V (pmul Q K) := peq_of_eval fun y => by
    have h1 := hev y
    have h2 := hev2 y
    rw [← hK, peval_pmul, peval_padd, peval_pmul, peval_pmul]; grind
  have hK0 : plen K ≠ 0 := fun e => by
    have hz : ∀ i, co U i = 0 := fun i => by rw [hUK i, (pmul_congr (peq.refl P) (peq_nil e)) i, pmul_nil P i, co_nil]
    have hz2 : ∀ i, co V i = 0 := fun i => by rw [hVK i, (pmul_congr (peq.refl Q) (peq_nil e)) i, pmul_nil Q i, co_nil]
    by_cases hjp : j0 < p
    · have h1 := hz j0
      rw [hUc, if_pos hjp] at h1
      exact hj1 (Rat.intCast_inj.1 h1)
    · have h1 := hz2 (j0 - p)
      rw [hVc, if_pos (by omega), show p + (j0 - p) = j0 by omega] at h1
      exact hj1 (Rat.intCast_inj.1 h1)
  have hK1 : plen K = 1 := by
    have h1 := plen_congr hVK
    rw [plen_mul (by omega) hK0, hQ] at h1
    have h2 := plen_le_length V
    omega
  obtain ⟨k, hk⟩ : ∃ k, co K 0 = k := ⟨_, rfl⟩
  have hk0 : k ≠ 0 := hk ▸ plen_top hK1
  have hKk : peq K [k] := fun i => by
    cases i with
    | zero => exact hk
    | succ i => rw [co_beyond (a := K) (by omega), co_succ, co_nil]
  have hke : ∀ y, peval y K = k := fun y => by
    rw [peval_congr y hKk]
    show k + y * 0 = k
    grind
  refine ⟨U, V, k, hk0, hUI, hVI, hUK.trans (peq_of_eval fun y => ?_), hVK.trans (peq_of_eval fun y => ?_), hUl, hVl⟩
  · rw [peval_pmul, peval_rscale, hke]; grind
  · rw [peval_pmul, peval_rscale, hke]; grind
end Go.Proofs.Ytipcgehcineblaa

/-
  Euclid's way between polynomials: what each rest is made of, and how small its whole-numbered form is. Of no program.
-/
namespace Go.Proofs.Ytipcgehcineblaa

theorem plen_add_lt {a b : List Rat} (h : plen b < plen a) : plen (padd a b) = plen a := by
  have h1 := plen_padd a b
  have h2 := plen_top (a := a) (n := plen a - 1) (by omega)
  have h3 : co (padd a b) (plen a - 1) ≠ 0 := by
    rw [co_padd, co_beyond (a := b) (by omega), Rat.add_zero]; exact h2
  have := plen_ge h3
  omega
theorem plen_neg (a : List Rat) : plen (rscale (-1) a) = plen a := plen_rscale_eq (by decide) a
theorem plen_sub_lt {a b : List Rat} (h : plen a < plen b) : plen (psub a b) = plen b := by
  have e : peq (psub a b) (padd (rscale (-1) b) a) := fun i => by rw [co_psub, co_padd, co_rscale]; grind
  rw [plen_congr e, plen_add_lt (by rw [plen_neg]; exact h), plen_neg]
theorem div_len_q {x y q r : List Rat} (h : isDiv x y q r) (hl : plen y ≤ plen x) : plen q = plen x - plen y + 1 := by
  have h2 := h.2
  have hq : plen q ≠ 0 := fun e => by
    have h3 : plen x = plen r := plen_congr (h.1.trans (fun i => by rw [co_padd, (pmul_congr (peq_nil e) (peq.refl y)) i]; show (0 : Rat) + _ = _; grind))
    omega
  have h4 := plen_mul hq (b := y) (by omega)
  have h5 := plen_congr h.1
  rw [plen_add_lt (by omega), h4] at h5
  omega
/-- Two rests that follow each other, and what they are made of. -/
structure Eu (A B x y : List Rat) : Prop where
  some : ∃ (ux vx uy vy : List Rat) (e : Rat), e ≠ 0 ∧ peq x (padd (pmul ux A) (pmul vx B)) ∧ peq y (padd (pmul uy A) (pmul vy B)) ∧ peq (psub (pmul ux vy) (pmul uy vx)) [e] ∧
    plen vy + plen x = plen A + 1 ∧ plen uy + plen x = plen B + 1 ∧ plen vx + plen y ≤ plen A ∧ plen ux + plen y ≤ plen B
  less : plen y < plen x
  small : plen x ≤ plen B
  most : plen B ≤ plen A
theorem peval_one (c x : Rat) : peval x [c] = c := by show c + x * 0 = c; grind
theorem plen_one {c : Rat} (h : c ≠ 0) : plen [c] = 1 := by
  have h1 := plen_ge (a := [c]) (n := 0) h
  have h2 := plen_le_length [c]
  simp at h2; omega
theorem Eu.start {A B q r : List Rat} (hd : isDiv A B q r) (hl : plen B ≤ plen A) : Eu A B B r := by
  have h2 := hd.2
  have hq := div_len_q hd hl
  refine ⟨⟨[], [1], [1], rscale (-1) q, -1, by decide, peq_of_eval fun x => ?_, peq_of_eval fun x => ?_, peq_of_eval fun x => ?_, ?_, ?_, ?_, ?_⟩, h2, Nat.le_refl _, hl⟩
  · rw [peval_padd, peval_pmul, peval_pmul, peval_one]; show _ = 0 * _ + _; grind
  · have := peval_congr x hd.1
    rw [peval_padd, peval_pmul] at this
    rw [peval_padd, peval_pmul, peval_pmul, peval_one, peval_rscale, this]; grind
  · rw [peval_psub, peval_pmul, peval_pmul, peval_one, peval_one]; show 0 * _ - _ = _; grind
  · rw [plen_neg, hq]; omega
  · rw [plen_one (by decide)]; omega
  · rw [plen_one (by decide)]; omega
  · show 0 + _ ≤ _; omega
theorem Eu.step {A B x y q r : List Rat} (h : Eu A B x y) (hd : isDiv x y q r) : Eu A B y r := by
  obtain ⟨⟨ux, vx, uy, vy, e, he, h1, h2, h3, h4, h5, h6, h7⟩, hl, hs, hm⟩ := h
  have hr := hd.2
  have hq := div_len_q hd (by omega)
  have gv := plen_mul (a := q) (b := vy) (by omega) (by omega)
  have gu := plen_mul (a := q) (b := uy) (by omega) (by omega)
  have hv : plen (psub vx (pmul q vy)) = plen (pmul q vy) := plen_sub_lt (by omega)
  have hu : plen (psub ux (pmul q uy)) = plen (pmul q uy) := plen_sub_lt (by omega)
  refine ⟨⟨uy, vy, psub ux (pmul q uy), psub vx (pmul q vy), -e, by grind, h2, peq_of_eval fun z => ?_, peq_of_eval fun z => ?_, ?_, ?_, ?_, ?_⟩, hr, by omega, hm⟩
  · have e1 := peval_congr z h1
    have e2 := peval_congr z h2
    have e3 := peval_congr z hd.1
    rw [peval_padd, peval_pmul, peval_pmul] at e1 e2
    rw [peval_padd, peval_pmul] at e3
    rw [peval_padd, peval_pmul, peval_pmul, peval_psub, peval_psub, peval_pmul, peval_pmul]; grind
  · have e4 := peval_congr z h3
    rw [peval_psub, peval_pmul, peval_pmul, peval_one] at e4
    rw [peval_psub, peval_pmul, peval_pmul, peval_psub, peval_psub, peval_pmul, peval_pmul, peval_one]; grind
  · rw [hv, gv]; omega
  · rw [hu, gu]; omega
  · omega
  · omega
/-- Products and sums of whole-numbered polynomials. -/
theorem Ints.add {a b : List Rat} {H K : Nat} (h : Ints a H) (k : Ints b K) : Ints (padd a b) (H + K) := fun i => by
  obtain ⟨z, h1, h2⟩ := h i
  obtain ⟨y, k1, k2⟩ := k i
  refine ⟨z + y, by rw [co_padd, h1, k1, Rat.intCast_add], ?_⟩
  have := Int.natAbs_add_le z y
  omega
theorem Ints.scale {b : List Rat} {K X : Nat} {z : Int} (k : Ints b K) (h : z.natAbs ≤ X) : Ints (rscale (z : Rat) b) (X * K) := fun i => by
  obtain ⟨y, k1, k2⟩ := k i
  refine ⟨z * y, by rw [co_rscale, k1, Rat.intCast_mul], ?_⟩
  rw [Int.natAbs_mul]
  exact Nat.mul_le_mul h k2
theorem Ints.shift {a : List Rat} {H : Nat} (h : Ints a H) : Ints (0 :: a) H := fun i => by
  cases i with
  | zero => exact ⟨0, rfl, Nat.zero_le _⟩
  | succ i => rw [co_succ]; exact h i
theorem Ints.mul {b : List Rat} {K X : Nat} (k : Ints b K) : ∀ {a : List Rat}, Ints a X → Ints (pmul a b) (a.length * (X * K))
  | [], _ => fun i => ⟨0, by rw [pmul, co_nil]; rfl, Nat.zero_le _⟩
  | c :: l, h => by
    obtain ⟨z, h1, h2⟩ := h 0
    have hc : c = (z : Rat) := h1
    have hl : Ints l X := fun i => by
      have := h (i + 1)
      rwa [co_succ] at this
    have ih := Ints.mul k hl
    rw [pmul, List.length_cons, Nat.add_mul, Nat.one_mul, Nat.add_comm]
    refine Ints.add ?_ ih.shift
    rw [hc]
    exact k.scale h2
theorem Eu.size {A B x y : List Rat} {c : Rat} {H : Nat} (h : Eu A B x y) (hc : c ≠ 0) (hA : Ints (rscale c A) H) (hB : Ints (rscale c B) H) :
    ∃ k : Rat, k ≠ 0 ∧ Ints (rscale k y) ((plen A + plen B) * ((2 * ((plen A + plen B) * H) + 1) ^ (plen A + plen B) * H)) := by
  obtain ⟨⟨ux, vx, uy, vy, e, he, h1, h2, h3, h4, h5, h6, h7⟩, hl, hs, hm⟩ := h
  obtain ⟨q, hq⟩ : ∃ q, plen vy = q + 1 := ⟨plen vy - 1, by omega⟩
  have hcA : plen (rscale c A) = plen A := plen_rscale_eq hc A
  have hcB : plen (rscale c B) = plen B := plen_rscale_eq hc B
  obtain ⟨U, V, k, k0, hU, hV, eU, eV, lU, lV⟩ := small_pair (F := rscale c A) (E := rscale c B) (P := uy) (Q := vy) (p := plen uy) (q := q) (D0 := plen x - 1) hA hB (by omega) (by omega) hq
    ⟨rscale (-(1 / e)) vx, rscale (1 / e) ux, peq_of_eval fun z => by
      have e4 := peval_congr z h3
      rw [peval_psub, peval_pmul, peval_pmul, peval_one] at e4
      rw [peval_padd, peval_pmul, peval_pmul, peval_rscale, peval_rscale, peval_one]
      have e5 : 1 / e * e = 1 := Rat.div_mul_cancel he
      grind⟩
    (fun U V hU hV hvan => by
      obtain ⟨W, hW⟩ : ∃ W, psub (pmul U vy) (pmul V uy) = W := ⟨_, rfl⟩
      obtain ⟨w, hw⟩ : ∃ w, padd (pmul U (rscale c A)) (pmul V (rscale c B)) = w := ⟨_, rfl⟩
      have hwl : plen w ≤ plen x - 1 := plen_le fun i hi => by rw [← hw, co_padd]; exact hvan i hi
      have e1 : peq (pmul W (rscale c A)) (psub (pmul vy w) (rscale c (pmul V y))) := peq_of_eval fun z => by
        have e2 := peval_congr z h2
        rw [peval_padd, peval_pmul, peval_pmul] at e2
        rw [← hW, ← hw]
        simp only [peval_padd, peval_psub, peval_pmul, peval_rscale]
        rw [e2]; grind
      have hW0 : plen W = 0 := Classical.byContradiction fun hn => by
        have g1 := plen_mul hn (b := rscale c A) (by omega)
        have g2 := plen_congr e1
        have g3 := plen_padd (pmul vy w) (rscale (-1) (rscale c (pmul V y)))
        have g4 := plen_mul_le vy w
        have g5 := plen_mul_le V y
        have g6 := plen_le_length V
        have g7 := plen_rscale c (pmul V y)
        have g8 : plen (psub (pmul vy w) (rscale c (pmul V y))) ≤ max (plen (pmul vy w)) (plen (rscale (-1) (rscale c (pmul V y)))) := g3
        rw [plen_neg] at g8
        omega
      intro i
      have g1 := plen_zero.1 hW0 i
      rw [← hW, co_psub] at g1
      grind)
  have hn : plen uy + q + 1 ≤ plen A + plen B := by omega
  have hX : (2 * ((plen uy + q + 1) * H) + 1) ^ (plen uy + q) ≤ (2 * ((plen A + plen B) * H) + 1) ^ (plen A + plen B) :=
    Nat.le_trans (Nat.pow_le_pow_left (by have := Nat.mul_le_mul_right H hn; omega) _) (Nat.pow_le_pow_right (by omega) (by omega))
  refine ⟨k * c, fun e0 => ?_, ?_⟩
  · rcases Rat.mul_eq_zero.1 e0 with g | g
    · exact k0 g
    · exact hc g
  · have e5 : peq (padd (pmul U (rscale c A)) (pmul V (rscale c B))) (rscale (k * c) y) := peq_of_eval fun z => by
      have e2 := peval_congr z h2
      rw [peval_padd, peval_pmul, peval_pmul] at e2
      rw [peval_padd, peval_pmul, peval_pmul, peval_congr z eU, peval_congr z eV, peval_rscale, peval_rscale, peval_rscale, peval_rscale, peval_rscale, e2]; grind
    refine Ints.congr (Ints.mono ((hA.mul (hU.mono hX)).add (hB.mul (hV.mono hX))) ?_) e5
    rw [← Nat.add_mul]
    exact Nat.mul_le_mul_right _ (by omega)
end Go.Proofs.Ytipcgehcineblaa

/-
  Polynomials by coefficients: sums made place by place; one step of long division; one step of the common divisor; how long the coefficients become. Of no program.
-/
namespace Go.Proofs.Ytipcgehcineblaa
open Go.RowKit

theorem co_take (l : List Rat) (k i : Nat) : co (l.take k) i = if i < k then co l i else 0 := by
  unfold co
  rw [List.getD_eq_getElem?_getD, List.getElem?_take]
  split
  · rw [List.getD_eq_getElem?_getD]
  · rfl
/-- A list made place by place. -/
def tab (n : Nat) (f : Nat → Rat) : List Rat := (List.range n).map f
theorem tab_length (n : Nat) (f : Nat → Rat) : (tab n f).length = n := by unfold tab; simp
theorem tab_at {n k : Nat} {f : Nat → Rat} (h : k < n) : (tab n f).getD k 0 = f k := by
  unfold tab
  rw [List.getD_eq_getElem?_getD, List.getElem?_map, List.getElem?_range h]; rfl
theorem co_tab (n : Nat) (f : Nat → Rat) (i : Nat) : co (tab n f) i = if i < n then f i else 0 := by
  split
  · exact tab_at ‹_›
  · exact co_far (by rw [tab_length]; omega)
def pterm (a b : List Rat) (k i : Nat) : Rat := co a i * co b (k - i)
/-- A power of the unknown, taken c times. -/
def shot (d : Nat) (c : Rat) : List Rat := List.replicate d 0 ++ [c]
theorem co_shot (d : Nat) (c : Rat) (i : Nat) : co (shot d c) i = if i = d then c else 0 := by
  unfold co shot
  rw [List.getD_eq_getElem?_getD]
  by_cases h1 : i < d
  · rw [List.getElem?_append_left (by simpa using h1), List.getElem?_replicate, if_pos h1, if_neg (by omega)]; rfl
  · rw [List.getElem?_append_right (by simpa using Nat.le_of_not_lt h1), List.length_replicate]
    by_cases h2 : i = d
    · rw [if_pos h2, h2, Nat.sub_self]; rfl
    · rw [if_neg h2, List.getElem?_eq_none (by simp; omega)]; rfl
theorem shot_sum {d : Nat} {c : Rat} (b : List Rat) (k i : Nat) : sumTo i (pterm (shot d c) b k) = if d < i then c * co b (k - d) else 0 := by
  split
  · rename_i h
    rw [sumTo_only (k := d) h (fun j _ h2 => by unfold pterm; rw [co_shot, if_neg h2, Rat.zero_mul])]
    unfold pterm
    rw [co_shot, if_pos rfl]
  · rename_i h
    rw [sumTo_congr (g := fun _ => 0) (fun j h2 => by unfold pterm; rw [co_shot, if_neg (by omega), Rat.zero_mul])]
    exact sumTo_zero i
theorem co_pmul_shot (d : Nat) (c : Rat) (b : List Rat) (k : Nat) : co (pmul (shot d c) b) k = if d ≤ k then c * co b (k - d) else 0 := by
  rw [co_pmul]
  have h := shot_sum (d := d) (c := c) b k (k + 1)
  unfold pterm at h
  rw [h]
  by_cases h1 : d ≤ k
  · rw [if_pos h1, if_pos (by omega)]
  · rw [if_neg h1, if_neg (by omega)]
theorem top_nz {b : List Rat} (h : pnorm b = b) (h0 : 0 < b.length) : b.getD (b.length - 1) 0 ≠ 0 := by
  have h1 := plen_right h
  have h2 := plen_top (a := b) (n := b.length - 1) (by omega)
  exact h2
/-- One step of long division. -/
theorem div_step {A B Q R Q' X R' : List Rat} {c : Rat} (hB : pnorm B = B) (h0 : 0 < B.length) (hl : B.length ≤ R.length) (h : peq A (padd (pmul Q B) R))
    (hc : c = R.getD (R.length - 1) 0 / B.getD (B.length - 1) 0) (hQ : peq Q' (padd Q (shot (R.length - B.length) c))) (hX : peq X (pmul (shot (R.length - B.length) c) B)) (hR : peq R' (psub R X)) (hr : pnorm R' = R') :
    peq A (padd (pmul Q' B) R') ∧ R'.length < R.length := by
  refine ⟨fun i => ?_, ?_⟩
  · rw [h i, co_padd, co_padd, hR i, co_psub, hX i, (pmul_congr hQ (peq.refl B)) i, (pmul_padd _ _ _) i, co_padd]; grind
  · have h1 : plen R' ≤ R.length - 1 := plen_le fun i hi => by
      rw [hR i, co_psub, hX i, co_pmul_shot, if_pos (by omega)]
      rcases Nat.lt_or_ge i R.length with h2 | h2
      · have h3 : i = R.length - 1 := by omega
        have h4 : i - (R.length - B.length) = B.length - 1 := by omega
        rw [h4, h3, hc]
        show R.getD (R.length - 1) 0 - R.getD (R.length - 1) 0 / B.getD (B.length - 1) 0 * B.getD (B.length - 1) 0 = 0
        have h5 := top_nz hB h0
        rw [Rat.div_mul_cancel h5]; grind
      · rw [co_far h2, co_far (l := B) (by omega)]; grind
    rw [plen_right hr] at h1
    omega
theorem shot_pmul_len {d : Nat} {c : Rat} {b : List Rat} {C K : Nat} (hc : qlen c ≤ C) (hb : ∀ q ∈ b, qlen q ≤ K) (hK : 1 ≤ K) (k : Nat) : qlen (co (pmul (shot d c) b) k) ≤ C + K + 1 := by
  rw [co_pmul_shot]
  split
  · exact Nat.le_trans (qlen_mul _ _) (Nat.add_le_add_right (Nat.add_le_add hc (qlen_co hK hb _)) 1)
  · rw [qlen_nought]; omega
/-- How long the coefficients become in one step: r twice as long, q as long as r was. -/
theorem div_len {B Q R Q' X R' : List Rat} {c : Rat} {r K M : Nat} (hr1 : 1 ≤ r) (hK1 : 1 ≤ K) (hr : ∀ q ∈ R, qlen q ≤ r) (hb : ∀ q ∈ B, qlen q ≤ K) (hq : ∀ q ∈ Q, qlen q ≤ M) (hM : r + K + 1 ≤ M)
    (hc : c = R.getD (R.length - 1) 0 / B.getD (B.length - 1) 0) (hQ : peq Q' (padd Q (shot (R.length - B.length) c))) (hX : peq X (pmul (shot (R.length - B.length) c) B)) (hR : peq R' (psub R X)) (hfree : co Q (R.length - B.length) = 0) :
    qlen c ≤ r + K + 1 ∧ (∀ q ∈ X, qlen q ≤ r + K + K + 2) ∧ (∀ q ∈ R', qlen q ≤ r + r + K + K + 4) ∧ (∀ q ∈ Q', qlen q ≤ M) := by
  have h1 : qlen c ≤ r + K + 1 := by
    rw [hc]
    exact Nat.le_trans (qlen_div _ _) (Nat.add_le_add_right (Nat.add_le_add (qlen_co hr1 hr _) (qlen_co hK1 hb _)) 1)
  have h2 : ∀ i, qlen (co X i) ≤ r + K + K + 2 := fun i => by
    rw [hX i]
    exact Nat.le_trans (shot_pmul_len h1 hb hK1 i) (by omega)
  refine ⟨h1, qlen_list h2, qlen_list fun i => ?_, qlen_list fun i => ?_⟩
  · rw [hR i, co_psub]
    have h3 := qlen_sub (co R i) (co X i)
    have h4 := qlen_co hr1 hr i
    have h5 := h2 i
    omega
  · rw [hQ i, co_padd, co_shot]
    by_cases h3 : i = R.length - B.length
    · rw [if_pos h3, h3, hfree, Rat.zero_add]; omega
    · rw [if_neg h3, Rat.add_zero]
      exact qlen_co (by omega) hq i
/-- The state of a long division: what was taken away, what is left, how long all is. -/
structure Divs (A B Q R : List Rat) (n K S t : Nat) : Prop where
  sum : peq A (padd (pmul Q B) R)
  right : pnorm R = R
  way : t + R.length ≤ n
  most : t ≤ n + 1 - B.length
  rlen : ∀ q ∈ R, qlen q + (K + K + 6) ≤ 2 ^ t * S
  qlen : ∀ q ∈ Q, Go.Proofs.Ytipcgehcineblaa.qlen q + (K + 5) ≤ 2 ^ (n + 1 - B.length) * S
  free : ∀ i, i + B.length ≤ R.length → co Q i = 0
theorem Divs.start {A B R : List Rat} {n N K S : Nat} (hR : pnorm A = R) (hn : R.length ≤ n) (hA : ∀ q ∈ R, Go.Proofs.Ytipcgehcineblaa.qlen q ≤ N) (hS : N + (K + K + 6) = S) : Divs A B [] R n K S 0 := by
  subst hR
  exact ⟨fun i => by rw [co_padd, pmul, co_nil, pnorm_co]; grind, pnorm_pnorm A, by omega, by omega, fun q hq => by have := hA q hq; rw [Nat.pow_zero, Nat.one_mul]; omega, fun q hq => by simp at hq, fun _ _ => rfl⟩
theorem Divs.left {A B Q R : List Rat} {n K S t : Nat} (h : Divs A B Q R n K S t) (h0 : 0 < R.length) : ∃ r, 1 ≤ r ∧ r + (K + K + 6) = 2 ^ t * S ∧ ∀ q ∈ R, Go.Proofs.Ytipcgehcineblaa.qlen q ≤ r := by
  have h1 := h.rlen _ (q_mem (k := 0) h0)
  have h2 := qlen_pos (R.getD 0 0)
  refine ⟨2 ^ t * S - (K + K + 6), by omega, by omega, fun q hq => ?_⟩
  have := h.rlen q hq
  omega
theorem pow_mul_mono {a b : Nat} (h : a ≤ b) (c : Nat) : 2 ^ a * c ≤ 2 ^ b * c := Nat.mul_le_mul_right c (Nat.pow_le_pow_right (by decide) h)
theorem Divs.step {A B Q R Q' X R' : List Rat} {n K S t : Nat} {c : Rat} (h : Divs A B Q R n K S t) (hB : pnorm B = B) (h0 : 0 < B.length) (hl : B.length ≤ R.length) (hb : ∀ q ∈ B, Go.Proofs.Ytipcgehcineblaa.qlen q ≤ K)
    (hc : c = R.getD (R.length - 1) 0 / B.getD (B.length - 1) 0) (hQ : peq Q' (padd Q (shot (R.length - B.length) c))) (hX : peq X (pmul (shot (R.length - B.length) c) B)) (hR : peq R' (psub R X)) (hr : pnorm R' = R') :
    Divs A B Q' R' n K S (t + 1) ∧ R'.length < R.length := by
  obtain ⟨h1, h2⟩ := div_step hB h0 hl h.sum hc hQ hX hR hr
  obtain ⟨r, hr1, hr2, hr3⟩ := h.left (by omega)
  have hK1 : 1 ≤ K := Nat.le_trans (qlen_pos (B.getD 0 0)) (hb _ (q_mem (k := 0) h0))
  have hw := h.way
  have hp : 2 ^ t * S ≤ 2 ^ (n + 1 - B.length) * S := pow_mul_mono (by omega) S
  obtain ⟨M, hM⟩ : ∃ M, M + (K + 5) = 2 ^ (n + 1 - B.length) * S := ⟨2 ^ (n + 1 - B.length) * S - (K + 5), by omega⟩
  obtain ⟨_, _, g3, g4⟩ := div_len (M := M) hr1 hK1 hr3 hb (fun q hq => by have := h.qlen q hq; omega) (by omega) hc hQ hX hR (h.free _ (by omega))
  refine ⟨⟨h1, hr, by omega, by omega, fun q hq => ?_, fun q hq => ?_, fun i hi => ?_⟩, h2⟩
  · have := g3 q hq
    rw [Nat.pow_succ, Nat.mul_assoc, Nat.mul_comm 2 S, ← Nat.mul_assoc]; omega
  · have := g4 q hq
    omega
  · rw [hQ i, co_padd, co_shot, if_neg (by omega), h.free i (by omega)]; grind
/-- How long it is while a step is reckoned. -/
theorem Divs.room {A B Q R : List Rat} {n K S t : Nat} (h : Divs A B Q R n K S t) (h0 : 0 < B.length) (hl : B.length ≤ R.length) (hb : ∀ q ∈ B, Go.Proofs.Ytipcgehcineblaa.qlen q ≤ K) {T : Nat} (hT : 2 ^ (n + 1 - B.length) * S ≤ T) :
    1 ≤ K ∧ (∀ q ∈ R, Go.Proofs.Ytipcgehcineblaa.qlen q ≤ T) ∧ (∀ q ∈ Q, Go.Proofs.Ytipcgehcineblaa.qlen q ≤ T) ∧ Go.Proofs.Ytipcgehcineblaa.qlen (R.getD (R.length - 1) 0 / B.getD (B.length - 1) 0) + K + 5 ≤ T := by
  have hK1 : 1 ≤ K := Nat.le_trans (qlen_pos (B.getD 0 0)) (hb _ (q_mem (k := 0) h0))
  have hw := h.way
  have hp : 2 ^ t * S ≤ 2 ^ (n + 1 - B.length) * S := pow_mul_mono (by omega) S
  obtain ⟨r, hr1, hr2, hr3⟩ := h.left (by omega)
  refine ⟨hK1, fun q hq => by have := h.rlen q hq; omega, fun q hq => by have := h.qlen q hq; omega, ?_⟩
  have h1 := qlen_div (R.getD (R.length - 1) 0) (B.getD (B.length - 1) 0)
  have h2 := qlen_co hr1 hr3 (R.length - 1)
  have h3 := qlen_co hK1 hb (B.length - 1)
  unfold co at h2 h3
  omega
theorem Divs.over {A B Q R : List Rat} {n K S t : Nat} (h : Divs A B Q R n K S t) (hB : pnorm B = B) (hl : R.length < B.length) :
    isDiv A B (pnorm Q) R ∧ R.length ≤ n ∧ (∀ q ∈ R, Go.Proofs.Ytipcgehcineblaa.qlen q + (K + K + 6) ≤ 2 ^ (n + 1 - B.length) * S) ∧ (∀ q ∈ pnorm Q, Go.Proofs.Ytipcgehcineblaa.qlen q ≤ 2 ^ (n + 1 - B.length) * S) := by
  have hw := h.way
  refine ⟨⟨fun i => ?_, by rw [plen_right h.right, plen_right hB]; exact hl⟩, by omega, fun q hq => Nat.le_trans (h.rlen q hq) (pow_mul_mono h.most S), fun q hq => by have := h.qlen q (pnorm_mem hq); omega⟩
  rw [h.sum i, co_padd, co_padd, (pmul_congr (pnorm_co Q) (peq.refl B)) i]
/-- The state of Euclid's way. -/
structure Gcds (A B x y : List Rat) (X Y E : Nat) : Prop where
  way : ∀ g, common x y g → common A B g
  xr : pnorm x = x
  yr : pnorm y = y
  xl : ∀ q ∈ x, qlen q ≤ X
  yl : ∀ q ∈ y, qlen q ≤ Y
  len : 2 ^ (x.length + y.length + y.length) * (X + Y + Y + 6) ≤ E
theorem Gcds.step {A B x y q r : List Rat} {X Y E : Nat} (h : Gcds A B x y X Y E) (hd : isDiv x y q r) (hr : pnorm r = r) (hn : r.length ≤ x.length)
    (hl : ∀ u ∈ r, qlen u + (Y + Y + 6) ≤ 2 ^ (x.length + 1 - y.length) * (X + (Y + Y + 6))) : ∃ Z, Gcds A B y r Y Z E ∧ r.length < y.length := by
  have hm : r.length < y.length := by
    have := hd.2
    rwa [plen_right hr, plen_right h.yr] at this
  have hp : (2 : Nat) ^ 0 * (X + (Y + Y + 6)) ≤ 2 ^ (x.length + 1 - y.length) * (X + (Y + Y + 6)) := pow_mul_mono (by omega) _
  obtain ⟨Z, hZ⟩ : ∃ Z, Z + (Y + Y + 6) = 2 ^ (x.length + 1 - y.length) * (X + (Y + Y + 6)) := ⟨2 ^ (x.length + 1 - y.length) * (X + (Y + Y + 6)) - (Y + Y + 6), by omega⟩
  refine ⟨Z, ⟨fun g hg => h.way g (common.step hd.1 hg), h.yr, hr, h.yl, fun u hu => by have := hl u hu; omega, Nat.le_trans ?_ h.len⟩, hm⟩
  rw [show X + Y + Y + 6 = X + (Y + Y + 6) by omega]
  by_cases hnm : x.length < y.length
  · have e : x.length + 1 - y.length = 0 := by omega
    rw [e, Nat.pow_zero, Nat.one_mul] at hZ
    have h1 : Y + Z + Z + 6 ≤ 2 * (X + (Y + Y + 6)) := by omega
    refine Nat.le_trans (Nat.mul_le_mul_left _ h1) ?_
    rw [← Nat.mul_assoc, ← Nat.pow_succ]
    exact pow_mul_mono (by omega) _
  · have h1 : Y + Z + Z + 6 ≤ 2 * (2 ^ (x.length + 1 - y.length) * (X + (Y + Y + 6))) := by omega
    refine Nat.le_trans (Nat.mul_le_mul_left _ h1) ?_
    rw [← Nat.mul_assoc, ← Nat.mul_assoc, ← Nat.pow_succ, ← Nat.pow_add]
    exact pow_mul_mono (by omega) _
theorem Gcds.room {A B x y : List Rat} {X Y E : Nat} (h : Gcds A B x y X Y E) : X ≤ E ∧ Y ≤ E ∧ 2 ^ (x.length + 1 - y.length) * (X + (Y + Y + 6)) ≤ E + E := by
  have h1 := h.len
  have h2 : (2 : Nat) ^ 0 * (X + Y + Y + 6) ≤ 2 ^ (x.length + y.length + y.length) * (X + Y + Y + 6) := pow_mul_mono (by omega) _
  have h3 : (2 : Nat) ^ (x.length + 1 - y.length) * (X + Y + Y + 6) ≤ 2 ^ (x.length + y.length + y.length + 1) * (X + Y + Y + 6) := pow_mul_mono (by omega) _
  rw [Nat.pow_succ, Nat.mul_comm _ 2, Nat.mul_assoc] at h3
  rw [show X + (Y + Y + 6) = X + Y + Y + 6 by omega]
  omega
theorem Gcds.none {A B : List Rat} {X Y E : Nat} (h : Gcds A B [] [] X Y E) : isGcd A B [] := ⟨h.way _ (common.none _), fun n hn => by rw [plen_nil] at hn; omega⟩
theorem Gcds.over {A B x : List Rat} {X Y E : Nat} {c : Rat} (h : Gcds A B x [] X Y E) (h0 : 0 < x.length) (hc : c = 1 / x.getD (x.length - 1) 0) :
    isGcd A B (pnorm (rscale c x)) ∧ qlen c ≤ E ∧ ∀ q ∈ pnorm (rscale c x), qlen q ≤ E := by
  have ht := top_nz h.xr h0
  have hcx : c * x.getD (x.length - 1) 0 = 1 := by rw [hc]; exact Rat.div_mul_cancel ht
  have hc0 : c ≠ 0 := fun e => by rw [e, Rat.zero_mul] at hcx; exact absurd hcx (by decide)
  have hx1 : 1 ≤ X := Nat.le_trans (qlen_pos _) (h.xl _ (q_mem h0))
  have hlc : qlen c ≤ X := by
    rw [hc, Rat.div_def, Rat.one_mul]
    exact Nat.le_trans (qlen_inv _) (qlen_co hx1 h.xl (x.length - 1))
  have hE : X + X + 12 ≤ E := by
    have h1 := h.len
    have h2 : (2 : Nat) ^ 1 * (X + Y + Y + 6) ≤ 2 ^ (x.length + ([] : List Rat).length + ([] : List Rat).length) * (X + Y + Y + 6) := pow_mul_mono (by simp; omega) _
    omega
  refine ⟨⟨((h.way _ (common.none x)).scale hc0).of (peq.refl _) (peq.refl _) (pnorm_co _).symm, fun n hn => ?_⟩, by omega, fun q hq => ?_⟩
  · have h1 : plen (pnorm (rscale c x)) = x.length := by rw [plen_congr (pnorm_co _), plen_rscale_eq hc0, plen_right h.xr]
    have h2 : n = x.length - 1 := by omega
    rw [co_pnorm, co_rscale, h2]
    exact hcx
  · have h1 := qlen_rscale hlc h.xl q (pnorm_mem hq)
    omega
end Go.Proofs.Ytipcgehcineblaa

/-
  How long numbers become in long division and on Euclid's way, by whole-numbered forms. Of no program.
-/
namespace Go.Proofs.Ytipcgehcineblaa

def pw (t : Nat) : Nat := 4294967296 ^ t
theorem pw_add (a b : Nat) : pw (a + b) = pw a * pw b := Nat.pow_add _ _ _
theorem pw_mono {a b : Nat} (h : a ≤ b) : pw a ≤ pw b := Nat.pow_le_pow_right (by decide) h
theorem pw_pos (a : Nat) : 0 < pw a := Nat.pow_pos (by decide)
theorem pw_one : pw 1 = 4294967296 := by decide
theorem pw_lt (a : Nat) : pw a < pw (a + 1) := Nat.pow_lt_pow_right (by decide) (Nat.lt_succ_self a)
theorem qlen_nat_ratio {z : Int} {n t : Nat} (hz : z.natAbs ≤ pw t) (hn : n ≤ pw t) : qlen ((z : Rat) / ((n : Nat) : Rat)) ≤ t + 2 := by
  rw [← Rat.mkRat_eq_div]
  have h1 := qlen_parts z n
  have h2 := pw_lt t
  have h3 : (dg z.natAbs).length ≤ t + 1 := dg_length_le (Nat.lt_of_le_of_lt hz h2)
  have h4 : (dg n).length ≤ t + 1 := dg_length_le (Nat.lt_of_le_of_lt hn h2)
  omega
theorem qlen_ratio {z y : Int} {t : Nat} (hz : z.natAbs ≤ pw t) (hy : y.natAbs ≤ pw t) : qlen ((z : Rat) / (y : Rat)) ≤ t + 2 := by
  rcases Int.natAbs_eq y with e | e
  · rw [e]
    exact qlen_nat_ratio hz hy
  · have h1 : (z : Rat) / (y : Rat) = ((-z : Int) : Rat) / ((y.natAbs : Nat) : Rat) := by
      have h2 : (y : Rat) = -((y.natAbs : Nat) : Rat) := by
        rw [← Rat.intCast_natCast, ← Rat.intCast_neg, ← e]
      by_cases hy0 : y = 0
      · rw [hy0]
        show (z : Rat) / 0 = ((-z : Int) : Rat) / ((0 : Nat) : Rat)
        show (z : Rat) / 0 = ((-z : Int) : Rat) / 0
        rw [Rat.div_def, Rat.div_def, Rat.inv_zero]; grind
      · have hn : ((y.natAbs : Nat) : Rat) ≠ 0 := fun e2 => by
          have e3 : y.natAbs = 0 := Rat.natCast_inj.1 (e2.trans rfl)
          exact hy0 (Int.natAbs_eq_zero.1 e3)
        have hyn : (y : Rat) ≠ 0 := fun e2 => hy0 (Rat.intCast_inj.1 e2)
        have g1 : (z : Rat) / (y : Rat) * (y : Rat) = (z : Rat) := Rat.div_mul_cancel hyn
        have g2 : ((-z : Int) : Rat) / ((y.natAbs : Nat) : Rat) * ((y.natAbs : Nat) : Rat) = ((-z : Int) : Rat) := Rat.div_mul_cancel hn
        rw [Rat.intCast_neg] at g2 ⊢
        generalize (z : Rat) / (y : Rat) = p at *
        generalize -(z : Rat) / ((y.natAbs : Nat) : Rat) = r at *
        have g3 : ((y.natAbs : Nat) : Rat) * (p - r) = 0 := by rw [h2] at g1; grind
        rcases Rat.mul_eq_zero.1 g3 with g | g
        · exact absurd g hn
        · grind
    rw [h1]
    exact qlen_nat_ratio (by omega) hy
theorem num_lt {q : Rat} {N : Nat} (h : qlen q ≤ N) : q.num.natAbs ≤ pw N := Nat.le_of_lt (dg_length_pow.1 (Nat.le_trans (qlen_num q) h))
theorem den_lt {q : Rat} {N : Nat} (h : qlen q ≤ N) : q.den ≤ pw N := Nat.le_of_lt (dg_length_pow.1 (Nat.le_trans (qlen_den q) h))
theorem den_mul (q : Rat) : ((q.den : Nat) : Rat) * q = (q.num : Rat) := by
  have h : q = (q.num : Rat) / ((q.den : Nat) : Rat) := by rw [← Rat.mkRat_eq_div, Rat.mkRat_self]
  have hd : ((q.den : Nat) : Rat) ≠ 0 := fun e => q.den_nz (Rat.natCast_inj.1 e)
  rw [Rat.mul_comm]
  have h2 : (q.num : Rat) / ((q.den : Nat) : Rat) * ((q.den : Nat) : Rat) = (q.num : Rat) := Rat.div_mul_cancel hd
  rw [← h] at h2
  exact h2
theorem ints_of {N : Nat} : ∀ (l : List Rat), (∀ q ∈ l, qlen q ≤ N) → ∃ c : Nat, 0 < c ∧ c ≤ pw (N * l.length) ∧ Ints (rscale ((c : Nat) : Rat) l) (pw (N * l.length))
  | [], _ => ⟨1, by decide, Nat.le_refl _, fun i => ⟨0, rfl, Nat.zero_le _⟩⟩
  | x :: l, h => by
    obtain ⟨c, h1, h2, h3⟩ := ints_of l (fun q hq => h q (List.mem_cons_of_mem _ hq))
    have hx := h x (List.mem_cons_self ..)
    have e : pw (N * (x :: l).length) = pw N * pw (N * l.length) := by rw [List.length_cons, Nat.mul_add, Nat.mul_one, Nat.add_comm, pw_add]
    refine ⟨x.den * c, Nat.mul_pos x.den_pos h1, ?_, fun i => ?_⟩
    · rw [e]; exact Nat.mul_le_mul (den_lt hx) h2
    · rw [co_rscale, Rat.natCast_mul, e]
      cases i with
      | zero =>
        refine ⟨x.num * (c : Int), ?_, ?_⟩
        · have := den_mul x
          rw [co_zero, Rat.intCast_mul, Rat.intCast_natCast, ← this]; grind
        · rw [Int.natAbs_mul, Int.natAbs_natCast]
          exact Nat.mul_le_mul (num_lt hx) h2
      | succ i =>
        obtain ⟨z, g1, g2⟩ := h3 i
        refine ⟨(x.den : Int) * z, ?_, ?_⟩
        · rw [co_rscale] at g1
          rw [co_succ, Rat.intCast_mul, Rat.intCast_natCast, ← g1]; grind
        · rw [Int.natAbs_mul, Int.natAbs_natCast]
          exact Nat.mul_le_mul (den_lt hx) g2
/-- The state of a long division of A by B, B = l Z: whole-numbered forms of what is left. -/
structure DivZ (A B Q R : List Rat) (k : Rat) (n s S M t : Nat) : Prop where
  sum : peq A (padd (pmul Q B) R)
  right : pnorm R = R
  way : t + R.length ≤ n
  most : t ≤ n + 1 - B.length
  form : ∃ (y : Int) (T : List Rat), y ≠ 0 ∧ y.natAbs ≤ pw (t * S) ∧ Ints T (pw (s + t * (S + 1))) ∧ peq (rscale (y : Rat) R) (rscale k T)
  qs : ∀ q ∈ Q, qlen q ≤ M
  free : ∀ i, i + B.length ≤ R.length → co Q i = 0
theorem DivZ.start {A B R P : List Rat} {k : Rat} {n s S M : Nat} (hR : pnorm A = R) (hn : R.length ≤ n) (hP : Ints P (pw s)) (hA : peq A (rscale k P)) : DivZ A B [] R k n s S M 0 := by
  subst hR
  refine ⟨fun i => by rw [co_padd, pmul, co_nil, pnorm_co]; grind, pnorm_pnorm A, by omega, by omega, ⟨1, P, by decide, ?_, ?_, fun i => ?_⟩, fun q hq => by simp at hq, fun _ _ => rfl⟩
  · rw [Nat.zero_mul]; exact Nat.le_refl _
  · rw [Nat.zero_mul]; exact hP
  · rw [co_rscale, pnorm_co, hA i]
    show (1 : Rat) * _ = _
    rw [Rat.one_mul]
/-- What a step is reckoned with. -/
structure DivL (B Z : List Rat) (l : Rat) (z : Int) (S : Nat) : Prop where
  right : pnorm B = B
  pos : 0 < B.length
  ints : Ints Z (pw S)
  form : peq B (rscale l Z)
  top : co Z (B.length - 1) = (z : Rat)
  nz : z ≠ 0
  zle : z.natAbs ≤ pw S
  lnz : l ≠ 0
theorem DivL.of {B Z : List Rat} {l : Rat} {S : Nat} (hB : pnorm B = B) (h0 : 0 < B.length) (hZ : Ints Z (pw S)) (h : peq B (rscale l Z)) : ∃ z, DivL B Z l z S := by
  obtain ⟨z, h1, h2⟩ := hZ (B.length - 1)
  have h3 := top_nz hB h0
  have h4 := h (B.length - 1)
  rw [co_rscale, h1] at h4
  have h5 : l * (z : Rat) ≠ 0 := fun e => h3 (h4.trans e)
  refine ⟨z, hB, h0, hZ, h, h1, fun e => h5 (by rw [e]; show l * 0 = 0; grind), h2, fun e => h5 (by rw [e]; grind)⟩
theorem zcast_nz {z : Int} (h : z ≠ 0) : (z : Rat) ≠ 0 := fun e => h (Rat.intCast_inj.1 e)
/-- How long what is left is, and the next coefficient of the quotient. -/
theorem DivZ.rlen {A B Q R : List Rat} {k : Rat} {n s S M t : Nat} (h : DivZ A B Q R k n s S M t) : ∀ q ∈ R, qlen q ≤ qlen k + (s + t * (S + 1)) + 3 := by
  obtain ⟨y, T, h1, h2, h3, h4⟩ := h.form
  refine qlen_list fun i => ?_
  obtain ⟨z, g1, g2⟩ := h3 i
  have e := h4 i
  rw [co_rscale, co_rscale, g1] at e
  have hy := zcast_nz h1
  have e2 : co R i = k * ((z : Rat) / (y : Rat)) := by
    have e3 : (z : Rat) / (y : Rat) * (y : Rat) = (z : Rat) := Rat.div_mul_cancel hy
    have e4 : (y : Rat) * (co R i - k * ((z : Rat) / (y : Rat))) = 0 := by grind
    rcases Rat.mul_eq_zero.1 e4 with g | g
    · exact absurd g hy
    · grind
  rw [e2]
  have q1 := qlen_mul k ((z : Rat) / (y : Rat))
  have q2 := qlen_ratio (t := s + t * (S + 1)) g2 (Nat.le_trans h2 (pw_mono (by rw [Nat.mul_add]; omega)))
  omega
theorem DivZ.clen {A B Q R Z : List Rat} {k l : Rat} {z : Int} {n s S M t : Nat} (h : DivZ A B Q R k n s S M t) (hl : DivL B Z l z S) : qlen (R.getD (R.length - 1) 0 / B.getD (B.length - 1) 0) ≤ qlen k + qlen l + (s + (t + 1) * (S + 1)) + 4 := by
  obtain ⟨y, T, h1, h2, h3, h4⟩ := h.form
  obtain ⟨x, g1, g2⟩ := h3 (R.length - 1)
  have e := h4 (R.length - 1)
  rw [co_rscale, co_rscale, g1] at e
  have eb := hl.form (B.length - 1)
  rw [co_rscale, hl.top] at eb
  have hy := zcast_nz h1
  have hz := zcast_nz hl.nz
  have hlz := hl.lnz
  have hyz : y * z ≠ 0 := fun e => by rcases Int.mul_eq_zero.1 e with g | g; exact h1 g; exact hl.nz g
  have e2 : R.getD (R.length - 1) 0 / B.getD (B.length - 1) 0 = k / l * ((x : Rat) / ((y * z : Int) : Rat)) := by
    have b0 : B.getD (B.length - 1) 0 = l * (z : Rat) := eb
    have r0 : (y : Rat) * R.getD (R.length - 1) 0 = k * (x : Rat) := e
    rw [b0, Rat.intCast_mul, Rat.div_def, Rat.div_def, Rat.div_def]
    have i1 : (l * (z : Rat)) * (l * (z : Rat))⁻¹ = 1 := Rat.mul_inv_cancel _ (fun e => by rcases Rat.mul_eq_zero.1 e with g | g; exact hlz g; exact hz g)
    have i2 : l * l⁻¹ = 1 := Rat.mul_inv_cancel _ hlz
    have i3 : ((y : Rat) * (z : Rat)) * ((y : Rat) * (z : Rat))⁻¹ = 1 := Rat.mul_inv_cancel _ (fun e => by rcases Rat.mul_eq_zero.1 e with g | g; exact hy g; exact hz g)
    generalize (l * (z : Rat))⁻¹ = u at *
    generalize l⁻¹ = l' at *
    generalize ((y : Rat) * (z : Rat))⁻¹ = w at *
    generalize R.getD (R.length - 1) 0 = r at *
    have e5 : l * (z : Rat) * (y : Rat) * (r * u - k * l' * ((x : Rat) * w)) = 0 := by grind
    rcases Rat.mul_eq_zero.1 e5 with g | g
    · rcases Rat.mul_eq_zero.1 g with g | g
      · rcases Rat.mul_eq_zero.1 g with g | g
        · exact absurd g hlz
        · exact absurd g hz
      · exact absurd g hy
    · grind
  rw [e2]
  have q1 := qlen_mul (k / l) ((x : Rat) / ((y * z : Int) : Rat))
  have q2 := qlen_div k l
  have q3 := qlen_ratio (z := x) (y := y * z) (t := s + (t + 1) * (S + 1)) (Nat.le_trans g2 (pw_mono (by rw [Nat.add_mul]; omega))) (by
    rw [Int.natAbs_mul]
    refine Nat.le_trans (Nat.mul_le_mul h2 hl.zle) ?_
    rw [← pw_add]
    exact pw_mono (by rw [Nat.add_mul, Nat.mul_add, Nat.one_mul]; omega))
  omega
theorem two_pw (a : Nat) : pw a + pw a ≤ pw (a + 1) := by
  rw [pw_add, pw_one]
  omega
theorem DivZ.step {A B Q R Z Q' X R' : List Rat} {k l c : Rat} {z : Int} {n s S M t : Nat} (h : DivZ A B Q R k n s S M t) (hl : DivL B Z l z S) (hle : B.length ≤ R.length) (hM : qlen k + qlen l + (s + (n + 1 - B.length) * (S + 1)) + 4 ≤ M)
    (hc : c = R.getD (R.length - 1) 0 / B.getD (B.length - 1) 0) (hQ : peq Q' (padd Q (shot (R.length - B.length) c))) (hX : peq X (pmul (shot (R.length - B.length) c) B)) (hR : peq R' (psub R X)) (hr : pnorm R' = R') :
    DivZ A B Q' R' k n s S M (t + 1) ∧ R'.length < R.length := by
  obtain ⟨g1, g2⟩ := div_step hl.right hl.pos hle h.sum hc hQ hX hR hr
  have hw := h.way
  have hp := hl.pos
  have hcl : qlen c ≤ M := by
    rw [hc]
    refine Nat.le_trans (h.clen hl) (Nat.le_trans ?_ hM)
    have : (t + 1) * (S + 1) ≤ (n + 1 - B.length) * (S + 1) := Nat.mul_le_mul_right _ (by omega)
    omega
  refine ⟨⟨g1, hr, by omega, by omega, ?_, qlen_list fun i => ?_, fun i hi => ?_⟩, g2⟩
  · obtain ⟨y, T, h1, h2, h3, h4⟩ := h.form
    obtain ⟨x, x1, x2⟩ := h3 (R.length - 1)
    refine ⟨z * y, psub (rscale (z : Rat) T) (rscale (x : Rat) (pmul (shot (R.length - B.length) 1) Z)), fun e => by rcases Int.mul_eq_zero.1 e with g | g; exact hl.nz g; exact h1 g, ?_, fun i => ?_, fun i => ?_⟩
    · rw [Int.natAbs_mul]
      refine Nat.le_trans (Nat.mul_le_mul hl.zle h2) ?_
      rw [← pw_add]
      exact pw_mono (by rw [Nat.add_mul]; omega)
    · obtain ⟨u, u1, u2⟩ := h3 i
      have hb : pw S * pw (s + t * (S + 1)) + pw S * pw (s + t * (S + 1)) ≤ pw (s + (t + 1) * (S + 1)) := by
        rw [← pw_add]
        refine Nat.le_trans (two_pw _) (pw_mono ?_)
        rw [Nat.add_mul]; omega
      by_cases hi : R.length - B.length ≤ i
      · obtain ⟨v, v1, v2⟩ := hl.ints (i - (R.length - B.length))
        refine ⟨z * u - x * v, ?_, ?_⟩
        · rw [co_psub, co_rscale, co_rscale, co_pmul_shot, if_pos hi, u1, v1, Rat.intCast_sub, Rat.intCast_mul, Rat.intCast_mul, Rat.one_mul]
        · have a1 : (z * u).natAbs ≤ pw S * pw (s + t * (S + 1)) := by rw [Int.natAbs_mul]; exact Nat.mul_le_mul hl.zle u2
          have a2 : (x * v).natAbs ≤ pw S * pw (s + t * (S + 1)) := by rw [Int.natAbs_mul, Nat.mul_comm]; exact Nat.mul_le_mul v2 x2
          omega
      · refine ⟨z * u, ?_, ?_⟩
        · rw [co_psub, co_rscale, co_rscale, co_pmul_shot, if_neg hi, u1, Rat.intCast_mul]; grind
        · have a1 : (z * u).natAbs ≤ pw S * pw (s + t * (S + 1)) := by rw [Int.natAbs_mul]; exact Nat.mul_le_mul hl.zle u2
          omega
    · have e := h4 i
      have et := h4 (R.length - 1)
      have eb := hl.form (B.length - 1)
      rw [co_rscale, co_rscale] at e et
      rw [co_rscale, hl.top] at eb
      rw [x1] at et
      have b0 : B.getD (B.length - 1) 0 = l * (z : Rat) := eb
      have r0 : (y : Rat) * R.getD (R.length - 1) 0 = k * (x : Rat) := et
      have bn := top_nz hl.right hl.pos
      have c0 : c * B.getD (B.length - 1) 0 = R.getD (R.length - 1) 0 := by rw [hc]; exact Rat.div_mul_cancel bn
      rw [b0] at c0
      rw [co_rscale, co_rscale, hR i, co_psub, hX i, co_pmul_shot, co_psub, co_rscale, co_rscale, co_pmul_shot, Rat.intCast_mul]
      generalize R.getD (R.length - 1) 0 = rt at *
      split
      · have ef := hl.form (i - (R.length - B.length))
        rw [co_rscale] at ef
        rw [ef]
        grind
      · grind
  · rw [hQ i, co_padd, co_shot]
    by_cases h3 : i = R.length - B.length
    · rw [if_pos h3, h3, h.free _ (by omega), Rat.zero_add]; exact hcl
    · rw [if_neg h3, Rat.add_zero]
      rcases Nat.lt_or_ge i Q.length with h5 | h5
      · exact h.qs _ (q_mem h5)
      · rw [co_far h5, qlen_nought]; omega
  · rw [hQ i, co_padd, co_shot, if_neg (by omega), h.free i (by omega)]; grind
end Go.Proofs.Ytipcgehcineblaa
