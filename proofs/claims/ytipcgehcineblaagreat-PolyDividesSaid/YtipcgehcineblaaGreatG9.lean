/-
  Several texts of this claim as one, group 9.
-/
import Derived.Test.YtipcgehcineblaaGreatG8
import Derived.Test.YtipcgehcineblaaGreatG3
import Derived.Deep.Slices
import Derived.Laws.AppendOwn
import Derived.Test.YtipcgehcineblaaGreatG2
import Derived.Test.YtipcgehcineblaaGreatG1
import Derived.Test.YtipcgehcineblaaGreatG4
import Derived.Test.YtipcgehcineblaaGreatG7
/-
  What package frac reckons, in rational numbers: sums over what the lower numbers have not in common, order by signs and by products, the floor, powers. Nothing of the program.
-/
namespace Go.Proofs.YtipcgehcineblaaGreat

theorem fc_qval_of (z : Int) (v : Nat) : qval (zneg z) z.natAbs v = mkRat z v := by unfold qval; rw [zval_of]
theorem fc_qval_mul (na nb : Bool) (u v s t : Nat) : mkRat (zval na u * zval nb s) (v * t) = qval na u v * qval nb s t := by
  unfold qval; rw [Rat.mkRat_mul_mkRat]
theorem fc_qval_neg (neg : Bool) (u v : Nat) : qval (!neg) u v = -qval neg u v := by
  unfold qval
  rw [Rat.neg_mkRat]
  congr 1
  unfold zval; cases neg <;> simp
theorem fc_qval_add (na nb : Bool) (u v s t : Nat) (hv : v ≠ 0) (ht : t ≠ 0) : mkRat (zval na u * ((t / Nat.gcd v t : Nat) : Int) + zval nb s * ((v / Nat.gcd v t : Nat) : Int)) (v * (t / Nat.gcd v t)) = qval na u v + qval nb s t := by
  unfold qval
  have hg : Nat.gcd v t ≠ 0 := fun e => hv (Nat.eq_zero_of_gcd_eq_zero_left e)
  obtain ⟨x, hx⟩ := Nat.gcd_dvd_left v t
  obtain ⟨y, hy⟩ := Nat.gcd_dvd_right v t
  have h1 : v / Nat.gcd v t = x := by
    have : Nat.gcd v t * x / Nat.gcd v t = x := Nat.mul_div_cancel_left x (Nat.pos_of_ne_zero hg)
    rw [← hx] at this; exact this
  have h2 : t / Nat.gcd v t = y := by
    have : Nat.gcd v t * y / Nat.gcd v t = y := Nat.mul_div_cancel_left y (Nat.pos_of_ne_zero hg)
    rw [← hy] at this; exact this
  rw [h1, h2, Rat.mkRat_add_mkRat _ _ hv ht]
  have hy0 : y ≠ 0 := fun e => ht (by rw [hy, e, Nat.mul_zero])
  rw [Rat.mkRat_eq_iff (Nat.mul_ne_zero hv hy0) (Nat.mul_ne_zero hv ht)]
  generalize Nat.gcd v t = g at *
  subst hx
  subst hy
  push_cast
  grind
theorem fc_sgn_mul_pos (z : Int) {k : Nat} (hk : k ≠ 0) : sgn (z * k) = sgn z := by
  have hk' : 0 < (k : Int) := by omega
  unfold sgn
  rcases Int.lt_trichotomy z 0 with h | h | h
  · have := Int.mul_neg_of_neg_of_pos h hk'
    rw [if_neg (by omega), if_pos this, if_neg (by omega), if_pos h]
  · subst h; simp
  · have := Int.mul_pos h hk'
    rw [if_neg (by omega), if_neg (by omega), if_neg (by omega), if_neg (by omega)]
theorem fc_sgn_mkRat (z : Int) {v : Nat} (hv : v ≠ 0) : sgn (mkRat z v).num = sgn z := by
  rw [Rat.mkRat_def, dif_neg hv, Rat.num_normalize]
  have hg : Nat.gcd z.natAbs v ≠ 0 := fun e => hv (Nat.eq_zero_of_gcd_eq_zero_right e)
  have hd : ((Nat.gcd z.natAbs v : Nat) : Int) ∣ z := Int.dvd_natAbs.1 (Int.natCast_dvd_natCast.2 (Nat.gcd_dvd_left _ _))
  have h1 := fc_sgn_mul_pos (z / (Nat.gcd z.natAbs v : Int)) hg
  rw [Int.ediv_mul_cancel hd] at h1
  exact h1.symm
theorem fc_mkRat_minus (x y : Int) {v t : Nat} (hv : v ≠ 0) (ht : t ≠ 0) : mkRat x v - mkRat y t = mkRat (x * (t : Int) - y * (v : Int)) (v * t) := by
  rw [Rat.sub_eq_add_neg, Rat.neg_mkRat, Rat.mkRat_add_mkRat _ _ hv ht, Int.neg_mul, Int.sub_eq_add_neg]
theorem fc_sub_parts (p q : Rat) : p - q = mkRat (p.num * q.den - q.num * p.den) (p.den * q.den) := by
  rw [← fc_mkRat_minus p.num q.num p.den_nz q.den_nz, Rat.mkRat_self, Rat.mkRat_self]
theorem fc_sgn_cases (z : Int) : (z < 0 ∧ sgn z = -1) ∨ (z = 0 ∧ sgn z = 0) ∨ (0 < z ∧ sgn z = 1) := by
  unfold sgn
  rcases Int.lt_trichotomy z 0 with h | h | h
  · left; exact ⟨h, by rw [if_neg (by omega), if_pos h]⟩
  · right; left; exact ⟨h, by rw [if_pos h]⟩
  · right; right; exact ⟨h, by rw [if_neg (by omega), if_neg (by omega)]⟩
theorem fc_qcmp_far {p q : Rat} (h : sgn p.num ≠ sgn q.num) : sgn (sgn p.num - sgn q.num) = sgn (p - q).num := by
  rw [fc_sub_parts, fc_sgn_mkRat _ (Nat.mul_ne_zero p.den_nz q.den_nz)]
  have hk : 0 < (q.den : Int) := by have := q.den_pos; omega
  have hl : 0 < (p.den : Int) := by have := p.den_pos; omega
  generalize (q.den : Int) = k at *
  generalize (p.den : Int) = l at *
  generalize p.num = x at *
  generalize q.num = y at *
  rcases fc_sgn_cases x with ⟨hx, ex⟩ | ⟨hx, ex⟩ | ⟨hx, ex⟩ <;> rcases fc_sgn_cases y with ⟨hy, ey⟩ | ⟨hy, ey⟩ | ⟨hy, ey⟩
  · exact absurd (ex.trans ey.symm) h
  · have h1 := Int.mul_neg_of_neg_of_pos hx hk
    subst hy
    rw [ex, ey]; unfold sgn; simp; rw [if_neg (by omega)]; omega
  · have h1 := Int.mul_neg_of_neg_of_pos hx hk
    have h2 := Int.mul_pos hy hl
    rw [ex, ey]; unfold sgn; rw [if_neg (by decide), if_pos (by decide), if_neg (by omega), if_pos (by omega)]
  · subst hx
    have h2 := Int.mul_neg_of_neg_of_pos hy hl
    rw [ex, ey]; unfold sgn; rw [if_neg (by decide), if_neg (by decide), if_neg (by omega), if_neg (by omega)]
  · exact absurd (ex.trans ey.symm) h
  · subst hx
    have h2 := Int.mul_pos hy hl
    rw [ex, ey]; unfold sgn; rw [if_neg (by decide), if_pos (by decide), if_neg (by omega), if_pos (by omega)]
  · have h1 := Int.mul_pos hx hk
    have h2 := Int.mul_neg_of_neg_of_pos hy hl
    rw [ex, ey]; unfold sgn; rw [if_neg (by decide), if_neg (by decide), if_neg (by omega), if_neg (by omega)]
  · have h1 := Int.mul_pos hx hk
    subst hy
    rw [ex, ey]; unfold sgn; rw [if_neg (by decide), if_neg (by decide), if_neg (by omega), if_neg (by omega)]
  · exact absurd (ex.trans ey.symm) h
theorem fc_qcmp_near {na nb : Bool} {u v s t : Nat} (hv : v ≠ 0) (ht : t ≠ 0) : sgn (zval na u * (t : Int) - zval nb s * (v : Int)) = sgn (qval na u v - qval nb s t).num := by
  unfold qval
  rw [fc_mkRat_minus _ _ hv ht, fc_sgn_mkRat _ (Nat.mul_ne_zero hv ht)]
theorem fc_qsign {neg : Bool} {u v : Nat} (hv : v ≠ 0) : sgn (qval neg u v).num = sgn (zval neg u) := fc_sgn_mkRat _ hv
theorem fc_qsign_zero {q : Rat} : sgn q.num = 0 ↔ q = 0 := by
  constructor
  · intro h
    rcases fc_sgn_cases q.num with ⟨_, e⟩ | ⟨e, _⟩ | ⟨_, e⟩
    · omega
    · exact Rat.num_eq_zero.1 e
    · omega
  · intro h; subst h; rfl
end Go.Proofs.YtipcgehcineblaaGreat

/-
  What some boxes hold, cell by cell. Of no program.
-/
namespace Go.Proofs.YtipcgehcineblaaGreat
open Go.RowKit

theorem fcells_2 {w : World} {A0 : Nat} {c0_0 c0_1 : Value} {t0 : TypeId} (h0 : w.heap[A0]? = some (.cells #[c0_0, c0_1] t0 (0, 0))) : w.cell? ⟨A0, 0, none⟩ = some c0_0 ∧ w.cell? ⟨A0, 1, none⟩ = some c0_1 := ⟨blk_cell h0 0, blk_cell h0 1⟩
theorem fcells_3 {w : World} {A0 : Nat} {c0_0 c0_1 c0_2 : Value} {t0 : TypeId} (h0 : w.heap[A0]? = some (.cells #[c0_0, c0_1, c0_2] t0 (0, 0))) : w.cell? ⟨A0, 0, none⟩ = some c0_0 ∧ w.cell? ⟨A0, 1, none⟩ = some c0_1 ∧ w.cell? ⟨A0, 2, none⟩ = some c0_2 := ⟨blk_cell h0 0, blk_cell h0 1, blk_cell h0 2⟩
theorem fcells_2_2 {w : World} {A0 A1 : Nat} {c0_0 c0_1 c1_0 c1_1 : Value} {t0 t1 : TypeId} (h0 : w.heap[A0]? = some (.cells #[c0_0, c0_1] t0 (0, 0))) (h1 : w.heap[A1]? = some (.cells #[c1_0, c1_1] t1 (0, 0))) : w.cell? ⟨A0, 0, none⟩ = some c0_0 ∧ w.cell? ⟨A0, 1, none⟩ = some c0_1 ∧ w.cell? ⟨A1, 0, none⟩ = some c1_0 ∧ w.cell? ⟨A1, 1, none⟩ = some c1_1 := ⟨blk_cell h0 0, blk_cell h0 1, blk_cell h1 0, blk_cell h1 1⟩
theorem fcells_2_3 {w : World} {A0 A1 : Nat} {c0_0 c0_1 c1_0 c1_1 c1_2 : Value} {t0 t1 : TypeId} (h0 : w.heap[A0]? = some (.cells #[c0_0, c0_1] t0 (0, 0))) (h1 : w.heap[A1]? = some (.cells #[c1_0, c1_1, c1_2] t1 (0, 0))) : w.cell? ⟨A0, 0, none⟩ = some c0_0 ∧ w.cell? ⟨A0, 1, none⟩ = some c0_1 ∧ w.cell? ⟨A1, 0, none⟩ = some c1_0 ∧ w.cell? ⟨A1, 1, none⟩ = some c1_1 ∧ w.cell? ⟨A1, 2, none⟩ = some c1_2 := ⟨blk_cell h0 0, blk_cell h0 1, blk_cell h1 0, blk_cell h1 1, blk_cell h1 2⟩
theorem fcells_3_3 {w : World} {A0 A1 : Nat} {c0_0 c0_1 c0_2 c1_0 c1_1 c1_2 : Value} {t0 t1 : TypeId} (h0 : w.heap[A0]? = some (.cells #[c0_0, c0_1, c0_2] t0 (0, 0))) (h1 : w.heap[A1]? = some (.cells #[c1_0, c1_1, c1_2] t1 (0, 0))) : w.cell? ⟨A0, 0, none⟩ = some c0_0 ∧ w.cell? ⟨A0, 1, none⟩ = some c0_1 ∧ w.cell? ⟨A0, 2, none⟩ = some c0_2 ∧ w.cell? ⟨A1, 0, none⟩ = some c1_0 ∧ w.cell? ⟨A1, 1, none⟩ = some c1_1 ∧ w.cell? ⟨A1, 2, none⟩ = some c1_2 := ⟨blk_cell h0 0, blk_cell h0 1, blk_cell h0 2, blk_cell h1 0, blk_cell h1 1, blk_cell h1 2⟩
theorem fcells_3_3_3 {w : World} {A0 A1 A2 : Nat} {c0_0 c0_1 c0_2 c1_0 c1_1 c1_2 c2_0 c2_1 c2_2 : Value} {t0 t1 t2 : TypeId} (h0 : w.heap[A0]? = some (.cells #[c0_0, c0_1, c0_2] t0 (0, 0))) (h1 : w.heap[A1]? = some (.cells #[c1_0, c1_1, c1_2] t1 (0, 0))) (h2 : w.heap[A2]? = some (.cells #[c2_0, c2_1, c2_2] t2 (0, 0))) : w.cell? ⟨A0, 0, none⟩ = some c0_0 ∧ w.cell? ⟨A0, 1, none⟩ = some c0_1 ∧ w.cell? ⟨A0, 2, none⟩ = some c0_2 ∧ w.cell? ⟨A1, 0, none⟩ = some c1_0 ∧ w.cell? ⟨A1, 1, none⟩ = some c1_1 ∧ w.cell? ⟨A1, 2, none⟩ = some c1_2 ∧ w.cell? ⟨A2, 0, none⟩ = some c2_0 ∧ w.cell? ⟨A2, 1, none⟩ = some c2_1 ∧ w.cell? ⟨A2, 2, none⟩ = some c2_2 := ⟨blk_cell h0 0, blk_cell h0 1, blk_cell h0 2, blk_cell h1 0, blk_cell h1 1, blk_cell h1 2, blk_cell h2 0, blk_cell h2 1, blk_cell h2 2⟩
end Go.Proofs.YtipcgehcineblaaGreat

/-
  Lists of fractions in memory: what a slice of fractions holds; an argument of such a type opened. Of no program.
-/
namespace Go.Proofs.YtipcgehcineblaaGreat
open Go.ChangeShapes Go.WideShapes Go.ChangeAt Go.RowKit Go.Deep

/-- In the world w the slice ⟨a, n, cap⟩ of fractions holds just these signs and lists of words. -/
def Frs (w : World) (a : Option Addr) (n cap : Nat) (ls : List (Bool × List Nat × List Nat)) : Prop :=
  ls.length = n ∧ n ≤ cap ∧ cap ≤ 9223372036854775807 ∧ (a = none → cap = 0) ∧ (n = 0 ∨ ∃ b off, a = some ⟨b, off, none⟩ ∧ ∀ j, j < n → ∃ (a' : Option Addr) (n' c' : Nat) (b' : Option Addr) (m' d' : Nat),
    w.cell? ⟨b, off + j * 3, none⟩ = some (.bool (ls.getD j (false, [], [])).1) ∧ w.cell? ⟨b, off + j * 3 + 1, none⟩ = some (.slice a' n' c') ∧ w.cell? ⟨b, off + j * 3 + 2, none⟩ = some (.slice b' m' d') ∧
      Wd w a' n' c' (ls.getD j (false, [], [])).2.1 ∧ Wd w b' m' d' (ls.getD j (false, [], [])).2.2)
theorem Frs.len {w : World} {a : Option Addr} {n cap : Nat} {ls : List (Bool × List Nat × List Nat)} (h : Frs w a n cap ls) : ls.length = n := h.1
theorem Frs.bound {w : World} {a : Option Addr} {n cap : Nat} {ls : List (Bool × List Nat × List Nat)} (h : Frs w a n cap ls) : n ≤ cap ∧ cap ≤ 9223372036854775807 := ⟨h.2.1, h.2.2.1⟩
theorem Frs.later {w w' : World} {a : Option Addr} {n cap : Nat} {ls : List (Bool × List Nat × List Nat)} (h : Frs w a n cap ls) (hb : Below w.heap.size w w') : Frs w' a n cap ls :=
  ⟨h.1, h.2.1, h.2.2.1, h.2.2.2.1, h.2.2.2.2.imp id fun ⟨b, off, e, hc⟩ => ⟨b, off, e, fun j hj => by
    obtain ⟨a', n', c', b', m', d', h1, h2, h3, h4, h5⟩ := hc j hj
    exact ⟨a', n', c', b', m', d', cell_later hb h1, cell_later hb h2, cell_later hb h3, h4.later hb, h5.later hb⟩⟩⟩
theorem Frs.ofNil (w : World) : Frs w none 0 0 [] := ⟨rfl, Nat.le_refl _, by omega, fun _ => rfl, .inl rfl⟩
section
variable {H : Type} {enc : TypeId × Value → H} {P : Program} {W : World} {base : Nat}
theorem open_fracs {t e : TypeId} {f0 f1 f2 : Field} {q : TypeId} {v : Value} {d : DataW H} {p : List MemPlace} (ht : P.underlying t = some (.slice e)) (hs : P.underlying e = some (.struct #[f0, f1, f2])) (hone : oneCellFields P #[f0, f1, f2] = true) (hC : P.cellsOf e = 3)
    (hb : P.underlying f0.type = some .bool) (h1 : P.underlying f1.type = some (.slice q)) (h2 : P.underlying f2.type = some (.slice q)) (hq : P.underlying q = some (.int .u32)) (hcq : P.cellsOf q = 1)
    (hv : Value.okWide P W .any base t v) (h : DataW.Trod enc P W 0 (fun _ => true) true t v d p) : ∃ (a : Option Addr) (n cap : Nat) (ls : List (Bool × List Nat × List Nat)), v = .slice a n cap ∧ Frs W a n cap ls := by
  obtain ⟨a0, len, cap, rfl⟩ := okWide_slice ht hv
  obtain ⟨fuel, hf⟩ := h
  rcases open_slice ht hf with ⟨hcs, _⟩ | ⟨a, len', cap', m, n, D, Pl, hcs, _, hl, hm, hmm, _, hx⟩
  · simp [Value.cells] at hcs
    obtain ⟨rfl, rfl, rfl⟩ := hcs
    exact ⟨_, _, _, [], rfl, Frs.ofNil W⟩
  · simp [Value.cells] at hcs
    obtain ⟨rfl, rfl, rfl⟩ := hcs
    simp only [if_true] at hmm
    obtain ⟨o0, k0⟩ := hone_of hone 0 f0 rfl
    obtain ⟨o1, k1⟩ := hone_of hone 1 f1 rfl
    obtain ⟨o2, k2⟩ := hone_of hone 2 f2 rfl
    have each : ∀ i, i < cap → ∃ x : Bool × List Nat × List Nat, ∃ (a' : Option Addr) (n' c' : Nat) (b' : Option Addr) (m' d' : Nat), W.cell? (a.add (i * 3)) = some (.bool x.1) ∧ W.cell? (a.add (i * 3 + 1)) = some (.slice a' n' c') ∧ W.cell? (a.add (i * 3 + 2)) = some (.slice b' m' d') ∧ Wd W a' n' c' x.2.1 ∧ Wd W b' m' d' x.2.2 := by
      intro i hi
      obtain ⟨cs', h3, h4⟩ := hx i (by omega)
      rw [hC] at h3
      obtain ⟨_, hlen, hcell⟩ := World.cells?_some h3
      obtain ⟨y0, y1, y2, k, _, _, g0, g1, g2⟩ := trod_struct3 hs h4
      match cs', hlen with
      | [v0, v1, v2], _ =>
        simp [o0, k0] at g0
        simp [o1, k1] at g1
        simp [o2, k2] at g2
        obtain ⟨x, e0, _⟩ := DataW.trod_bool hb g0
        simp at e0
        subst e0
        obtain ⟨a1, n1, c1, l1, rfl, w1⟩ := words_cell h1 hq hcq g1
        obtain ⟨a2, n2, c2, l2, rfl, w2⟩ := words_cell h2 hq hcq g2
        have e0 := hcell 0 (by omega)
        have e1 := hcell 1 (by omega)
        have e2 := hcell 2 (by omega)
        rw [Go.Deep.add_add] at e0 e1 e2
        exact ⟨(x, l1, l2), a1, n1, c1, a2, n2, c2, by simpa using e0, by simpa using e1, by simpa using e2, w1, w2⟩
    obtain ⟨F, hF⟩ := choose_lt each
    refine ⟨_, _, _, (List.range len).map F, rfl, by simp, hl, by unfold maxLen at hm; omega, fun e => (by cases e), ?_⟩
    by_cases h0 : len = 0
    · exact .inl h0
    · obtain ⟨_, _, _, _, _, _, _, h00, _⟩ := each 0 (by omega)
      obtain ⟨b, off, sp⟩ := a
      have hsp : sp = none := by simpa [Addr.add] using World.cell?_spot h00
      subst hsp
      refine .inr ⟨b, off, rfl, fun j hj => ?_⟩
      have e1 : ((List.range len).map F).getD j (false, [], []) = F j := by rw [List.getD_eq_getElem?_getD, List.getElem?_map, List.getElem?_range hj]; rfl
      rw [e1]
      obtain ⟨a', n', c', b', m', d', q1, q2, q3, q4, q5⟩ := hF j (by omega)
      rw [add_plain] at q1 q2 q3
      exact ⟨a', n', c', b', m', d', q1, by rw [Nat.add_assoc]; exact q2, by rw [Nat.add_assoc]; exact q3, q4, q5⟩
end
end Go.Proofs.YtipcgehcineblaaGreat

/-
  Rows of fractions in memory, element by element; a row of one's own whose block holds no words; append to it; the greatest of some. Of no program.
-/
namespace Go.Proofs.YtipcgehcineblaaGreat
open Go.ChangeShapes Go.WideShapes Go.ChangeAt Go.RowKit Go.Deep

/-- A fraction as it stands in memory, with the words that it holds. -/
structure Fx where
  s : Bool
  a : Option Addr
  n : Nat
  c : Nat
  la : List Nat
  b : Option Addr
  m : Nat
  d : Nat
  lb : List Nat
def Fx.zero : Fx := ⟨false, none, 0, 0, [], none, 0, 0, []⟩
instance : Inhabited Fx := ⟨Fx.zero⟩
def Fx.cells (x : Fx) : List Value := [.bool x.s, .slice x.a x.n x.c, .slice x.b x.m x.d]
def Fx.ok (w : World) (x : Fx) : Prop := Wd w x.a x.n x.c x.la ∧ Wd w x.b x.m x.d x.lb
def Fx.q (x : Fx) : Rat := qval x.s (val x.la) (val x.lb)
theorem Fx.ok.later {w w' : World} {x : Fx} (h : x.ok w) (hb : Below w.heap.size w w') : x.ok w' := ⟨h.1.later hb, h.2.later hb⟩
def Fxs (w : World) (a : Option Addr) (n cap : Nat) (L : List Fx) : Prop :=
  L.length = n ∧ n ≤ cap ∧ cap ≤ 9223372036854775807 ∧ (a = none → cap = 0) ∧ (∀ x ∈ L, x.ok w) ∧ (n = 0 ∨ ∃ b off, a = some ⟨b, off, none⟩ ∧ ∀ j, j < n →
    w.cell? ⟨b, off + j * 3, none⟩ = some (.bool (L.getD j Fx.zero).s) ∧ w.cell? ⟨b, off + j * 3 + 1, none⟩ = some (.slice (L.getD j Fx.zero).a (L.getD j Fx.zero).n (L.getD j Fx.zero).c) ∧ w.cell? ⟨b, off + j * 3 + 2, none⟩ = some (.slice (L.getD j Fx.zero).b (L.getD j Fx.zero).m (L.getD j Fx.zero).d))
theorem Fxs.len {w : World} {a : Option Addr} {n cap : Nat} {L : List Fx} (h : Fxs w a n cap L) : L.length = n := h.1
theorem Fxs.bound {w : World} {a : Option Addr} {n cap : Nat} {L : List Fx} (h : Fxs w a n cap L) : n ≤ cap ∧ cap ≤ 9223372036854775807 := ⟨h.2.1, h.2.2.1⟩
theorem Fxs.ok {w : World} {a : Option Addr} {n cap : Nat} {L : List Fx} (h : Fxs w a n cap L) {x : Fx} (hx : x ∈ L) : x.ok w := h.2.2.2.2.1 x hx
theorem Fxs.later {w w' : World} {a : Option Addr} {n cap : Nat} {L : List Fx} (h : Fxs w a n cap L) (hb : Below w.heap.size w w') : Fxs w' a n cap L :=
  ⟨h.1, h.2.1, h.2.2.1, h.2.2.2.1, fun x hx => (h.ok hx).later hb, h.2.2.2.2.2.imp id fun ⟨b, off, e, hc⟩ => ⟨b, off, e, fun j hj => by
    obtain ⟨h1, h2, h3⟩ := hc j hj
    exact ⟨cell_later hb h1, cell_later hb h2, cell_later hb h3⟩⟩⟩
theorem Fxs.at {w : World} {a : Option Addr} {n cap : Nat} {L : List Fx} (h : Fxs w a n cap L) {j : Nat} (hj : j < n) : ∃ b off, a = some ⟨b, off, none⟩ ∧
    w.cell? ⟨b, off + j * 3, none⟩ = some (.bool (L.getD j Fx.zero).s) ∧ w.cell? ⟨b, off + j * 3 + 1, none⟩ = some (.slice (L.getD j Fx.zero).a (L.getD j Fx.zero).n (L.getD j Fx.zero).c) ∧ w.cell? ⟨b, off + j * 3 + 2, none⟩ = some (.slice (L.getD j Fx.zero).b (L.getD j Fx.zero).m (L.getD j Fx.zero).d) ∧ (L.getD j Fx.zero).ok w := by
  rcases h.2.2.2.2.2 with h0 | ⟨b, off, e, hc⟩
  · omega
  · obtain ⟨h1, h2, h3⟩ := hc j hj
    refine ⟨b, off, e, h1, h2, h3, h.ok ?_⟩
    have hl : j < L.length := by rw [h.len]; exact hj
    rw [List.getD_eq_getElem?_getD, List.getElem?_eq_getElem hl]
    exact List.getElem_mem hl
theorem Frs.to {w : World} {a : Option Addr} {n cap : Nat} {ls : List (Bool × List Nat × List Nat)} (h : Frs w a n cap ls) : ∃ L, Fxs w a n cap L := by
  obtain ⟨h1, h2, h3, h4, h5⟩ := h
  rcases h5 with h0 | ⟨b, off, e, hc⟩
  · exact ⟨[], h0.symm ▸ rfl, h2, h3, h4, fun x hx => (by cases hx), .inl h0⟩
  · have each : ∀ j, j < n → ∃ x : Fx, w.cell? ⟨b, off + j * 3, none⟩ = some (.bool x.s) ∧ w.cell? ⟨b, off + j * 3 + 1, none⟩ = some (.slice x.a x.n x.c) ∧ w.cell? ⟨b, off + j * 3 + 2, none⟩ = some (.slice x.b x.m x.d) ∧ x.ok w := fun j hj => by
      obtain ⟨a', n', c', b', m', d', q1, q2, q3, q4, q5⟩ := hc j hj
      exact ⟨⟨_, a', n', c', _, b', m', d', _⟩, q1, q2, q3, q4, q5⟩
    obtain ⟨F, hF⟩ := choose_lt each
    have hg : ∀ j, j < n → ((List.range n).map F).getD j Fx.zero = F j := fun j hj => by rw [List.getD_eq_getElem?_getD, List.getElem?_map, List.getElem?_range hj]; rfl
    refine ⟨(List.range n).map F, by simp, h2, h3, h4, fun x hx => ?_, .inr ⟨b, off, e, fun j hj => ?_⟩⟩
    · obtain ⟨j, hj, rfl⟩ := List.mem_map.1 hx
      exact (hF j (List.mem_range.1 hj)).2.2.2
    · rw [hg j hj]
      exact ⟨(hF j hj).1, (hF j hj).2.1, (hF j hj).2.2.1⟩
/-- The block that a value leads to holds no words. -/
def clean (w : World) (v : Value) : Prop := ∀ g, v.ownBlock = some g → ∀ (j : Nat) (k : Int), w.cell? ⟨g, j, none⟩ ≠ some (.int .u32 k)
theorem clean_nil (w : World) : clean w (.slice none 0 0) := fun g h => by simp [Value.ownBlock] at h
theorem Wd.aside {w w' : World} {v : Value} {a : Option Addr} {n c : Nat} {l : List Nat} (h : Wd w a n c l) (hc : clean w v) (hg : w.grownBy w' v.ownBlock) : Wd w' a n c l := by
  refine ⟨h.1, h.2.1, h.2.2.1, h.2.2.2.1, h.2.2.2.2.1, h.2.2.2.2.2.imp id fun ⟨b, off, e, hcl⟩ => ⟨b, off, e, fun j hj => ?_⟩⟩
  have h1 := hcl j hj
  have hlt : b < w.heap.size := by
    rcases Nat.lt_or_ge b w.heap.size with h2 | h2
    · exact h2
    · rw [World.cell?, Array.getElem?_eq_none h2] at h1; cases h1
  rw [World.cell?_of_block (hg.block b hlt (fun e2 => hc b e2.symm _ _ h1))]
  exact h1
def noWords (l : List Value) : Prop := ∀ u ∈ l, ∀ k : Int, u ≠ .int .u32 k
theorem noWords_cells (x : Fx) : noWords x.cells := by
  intro u hu k
  simp [Fx.cells] at hu
  rcases hu with rfl | rfl | rfl <;> simp
theorem noWords_flat (L : List Fx) : noWords (L.flatMap Fx.cells) := fun u hu k => by
  obtain ⟨x, _, hx⟩ := List.mem_flatMap.1 hu
  exact noWords_cells x u hx k
theorem noWords_append {l m : List Value} (h : noWords l) (k : noWords m) : noWords (l ++ m) := fun u hu => (List.mem_append.1 hu).elim (h u) (k u)
theorem clean_block {w : World} {g : Nat} {n c : Nat} {cur : Array Value} {e : TypeId} {fr : Nat × Nat} (hg : w.heap[g]? = some (.cells cur e fr)) (h : noWords cur.toList) : clean w (.slice (some ⟨g, 0, none⟩) n c) := by
  intro g' hg' j k hc
  simp [Value.ownBlock] at hg'
  subst hg'
  rw [cell_of_row w g j cur e fr hg] at hc
  have hm : Value.int .u32 k ∈ cur := Array.mem_of_getElem? hc
  exact h _ (by simpa using hm) k rfl
theorem noWords_zeros {z : Array Value} (h : noWords z.toList) (n : Nat) : noWords (Builtin.zeroCells z n).toList := by
  intro u hu k
  have hm : u ∈ Builtin.zeroCells z n := by simpa using hu
  unfold Builtin.zeroCells at hm
  simp at hm
  obtain ⟨i, h1, h2⟩ := hm
  have hz : 0 < z.size := Nat.pos_of_ne_zero (fun e => by rw [e, Nat.mul_zero] at h1; omega)
  have hi : i % z.size < z.size := Nat.mod_lt _ hz
  rw [getElem!_pos z _ hi] at h2
  exact h u (by rw [← h2]; simp) k
theorem wpList_append_clean {P : Program} (w : World) {ops : Array Oper} {rest : List Oper} {o : Oper} {a : Act} {Q : Exit → Act → World → Prop} (hgd : o.guard = none) (s x : Operand) (t : TypeId)
    (ho : o.op = .call { callee := .builtin .append, args := #[s, x], argTypes := #[t, t] })
    (base : Nat) (e : TypeId) (i : TypeInfo) (z : Value) (size bytes : Nat) (ht : P.underlying t = some (.slice e)) (hi : P.info? e = some i) (hz : i.zero = some z)
    (hsize : i.size = size) (hby : i.bytes = bytes) (hzs : z.cells.size = size) (hsz : 0 < size)
    (v : Value) (n : Nat) (xs : List Value) (hs : a.eval s = v) (hown : w.ownsRow base e size v n xs)
    (ad : Addr) (m c : Nat) (news : List Value) (hx : a.eval x = .slice (some ad) m c) (hl : news.length = m * size) (hnews : ∀ j u, news[j]? = some u → w.cell? (ad.add j) = some u) (h1 : ∀ u ∈ news, u.oneCell' = true)
    (h63 : n + m ≤ maxLen) (hbytes : (n + m) * bytes ≤ 140737488355328) (hbase : base ≤ w.heap.size) (hm : 0 < m) (hcl : clean w v) (hzc : noWords z.cells.toList) (hnc : noWords news) (hxc : noWords xs)
    (h : ∀ v' w', w'.ownsRow base e size v' (n + m) (xs ++ news) → w.grownBy w' v.ownBlock → clean w' v' → wpList P ops Q rest (a.put o.dst v') w') : wpList P ops Q (o :: rest) a w := by
  refine wpList_plain hgd fun _ hK => ?_
  obtain ⟨v', w', hr, h2, h3, h4⟩ := run_append_own (P := P) w base t o.type e i z size bytes ht hi hz hsize hby hzs hsz v n xs hown ad m c news hl hnews h1 h63 hbytes hbase
  have h5 : clean w' v' := by
    subst hsize hby
    rcases hown.2 with ⟨rfl, rfl⟩ | ⟨g, cap, cur, rfl, hbg, hg, hnc', hcm, hcs, htake⟩
    · have er := run_append_nil (P := P) w t o.type e i z ht hi hz ad m c news hl hnews hm (by simp only [maxLen] at h63; omega) (by simp only [Nat.zero_add] at hbytes; omega)
      rw [er] at hr
      simp only [Result.ok.injEq] at hr
      obtain ⟨rfl, rfl⟩ := hr
      exact clean_block (heap_alloc_new w.drew _) (by simp only [Array.toList_append]; exact noWords_append hnc (noWords_zeros hzc _))
    · by_cases hroom : n + m ≤ cap
      · have er := run_append_room (P := P) w t o.type e i ht hi g n cap cur hg ad m c news hl hnews h1 hroom (by rw [hl, hcs, ← Nat.add_mul]; exact Nat.mul_le_mul_right _ hroom)
        rw [er] at hr
        simp only [Result.ok.injEq] at hr
        obtain ⟨rfl, rfl⟩ := hr
        have hcu : noWords cur.toList := fun u hu k e2 => by
          obtain ⟨j, hj, e3⟩ := List.getElem_of_mem hu
          refine hcl g rfl j k ?_
          rw [cell_of_row w g j cur e (0, 0) hg, ← e2, ← e3]
          simp
        refine clean_block (setRow_heap w g cur _ e _ hg) ?_
        refine noWords_append (noWords_append (fun u hu => hcu u (List.mem_of_mem_take hu)) hnc) (fun u hu => hcu u (List.mem_of_mem_drop hu))
      · have holds : ∀ j u, xs[j]? = some u → w.cell? ((⟨g, 0, none⟩ : Addr).add j) = some u := hown.cells (g := g) rfl
        have er := run_append_grow (P := P) w t o.type e i z ht hi hz ⟨g, 0, none⟩ n cap xs hown.1 holds ad m c news hl hnews (by omega) (by simp only [maxLen] at h63; omega) (growslice_fits (by omega) hbytes)
        rw [er] at hr
        simp only [Result.ok.injEq] at hr
        obtain ⟨rfl, rfl⟩ := hr
        exact clean_block (heap_alloc_new w.drew _) (by simp only [Array.toList_append]; exact noWords_append (noWords_append hxc hnc) (noWords_zeros hzc _))
  unfold Oper.wp execOp
  simp only [ho, resolve, invoke, builtin, Sem.run_bind, Sem.run_pure, Result.andThen_ok, List.map_toArray, List.map_cons, List.map_nil, hs, hx, hr]
  exact hK _ _ (h v' w' h2 h3 h5)
theorem flat_length (L : List Fx) : (L.flatMap Fx.cells).length = L.length * 3 := by
  induction L with
  | nil => rfl
  | cons x r ih => rw [List.flatMap_cons, List.length_append, ih]; simp [Fx.cells]; omega
theorem flat_at : ∀ (L : List Fx) (j : Nat), j < L.length → (L.flatMap Fx.cells)[j * 3]? = some (.bool (L.getD j Fx.zero).s) ∧ (L.flatMap Fx.cells)[j * 3 + 1]? = some (.slice (L.getD j Fx.zero).a (L.getD j Fx.zero).n (L.getD j Fx.zero).c) ∧ (L.flatMap Fx.cells)[j * 3 + 2]? = some (.slice (L.getD j Fx.zero).b (L.getD j Fx.zero).m (L.getD j Fx.zero).d)
  | [], j, h => by simp at h
  | x :: r, 0, _ => by simp [Fx.cells]
  | x :: r, j + 1, h => by
    have ih := flat_at r j (by simpa using h)
    have e : ∀ i, (List.flatMap Fx.cells (x :: r))[(j + 1) * 3 + i]? = (r.flatMap Fx.cells)[j * 3 + i]? := fun i => by
      rw [List.flatMap_cons, List.getElem?_append_right (by simp [Fx.cells]; omega)]
      congr 1
      simp [Fx.cells]; omega
    have e0 := e 0
    simp only [Nat.add_zero] at e0
    rw [e0, e 1, e 2]
    simpa using ih
/-- A row of one's own that holds fractions, read as such. -/
theorem Fxs.own {w : World} {base : Nat} {e : TypeId} {a : Option Addr} {n cap : Nat} {L : List Fx} (h : w.ownsRow base e 3 (.slice a n cap) L.length (L.flatMap Fx.cells)) (hn : n = L.length) (hok : ∀ x ∈ L, x.ok w) : Fxs w a n cap L := by
  subst hn
  rcases h.2 with ⟨h', h0⟩ | ⟨g, cap', cur, h', hb, hg, hnc, hcm, hcs, htake⟩
  · simp only [Value.slice.injEq] at h'
    obtain ⟨rfl, _, rfl⟩ := h'
    exact ⟨rfl, by omega, by omega, fun _ => rfl, hok, .inl h0⟩
  · simp only [Value.slice.injEq] at h'
    obtain ⟨rfl, _, rfl⟩ := h'
    refine ⟨rfl, hnc, by unfold maxLen at hcm; omega, fun e => (by cases e), hok, .inr ⟨g, 0, rfl, fun j hj => ?_⟩⟩
    have key : ∀ i u, (L.flatMap Fx.cells)[i]? = some u → w.cell? ⟨g, 0 + i, none⟩ = some u := fun i u hu => by
      have h9 := h.cells (g := g) rfl i u hu
      rw [add_plain] at h9
      exact h9
    obtain ⟨h1, h2, h3⟩ := flat_at L j hj
    exact ⟨key _ _ h1, by rw [Nat.add_assoc]; exact key _ _ h2, by rw [Nat.add_assoc]; exact key _ _ h3⟩
/-- A row of one's own that holds these fractions, and no words. -/
def OwnC (w : World) (base : Nat) (e : TypeId) (v : Value) (L : List Fx) : Prop := w.ownsRow base e 3 v L.length (L.flatMap Fx.cells) ∧ clean w v
theorem OwnC.nil (w : World) (base : Nat) (e : TypeId) : OwnC w base e (.slice none 0 0) [] := ⟨World.ownsRow_nil _ _ _ _, clean_nil _⟩
theorem OwnC.kept {w w' : World} {base : Nat} {e : TypeId} {v : Value} {L : List Fx} (h : OwnC w base e v L) (hk : ∀ k, base ≤ k → k < w.heap.size → w'.heap[k]? = w.heap[k]?) : OwnC w' base e v L := by
  obtain ⟨⟨h1, h2⟩, h3⟩ := h
  rcases h2 with ⟨rfl, h0⟩ | ⟨g, cap, cur, rfl, hbg, hg, h4, h5, h6, h7⟩
  · exact ⟨⟨h1, .inl ⟨rfl, h0⟩⟩, clean_nil _⟩
  · have hlt : g < w.heap.size := (Array.getElem?_eq_some_iff.1 hg).1
    have hg' : w'.heap[g]? = w.heap[g]? := hk g hbg hlt
    refine ⟨⟨h1, .inr ⟨g, cap, cur, rfl, hbg, hg'.trans hg, h4, h5, h6, h7⟩⟩, fun g2 hg2 j u => ?_⟩
    simp [Value.ownBlock] at hg2
    subst hg2
    rw [World.cell?_of_block (a := ⟨g, j, none⟩) hg']
    exact h3 g rfl j u
theorem OwnC.later {w w' : World} {base : Nat} {e : TypeId} {v : Value} {L : List Fx} (h : OwnC w base e v L) (hb : Below w.heap.size w w') : OwnC w' base e v L := h.kept fun k _ hk => hb.block k hk
theorem OwnC.base {w : World} {base : Nat} {e : TypeId} {v : Value} {L : List Fx} (h : OwnC w base e v L) (k : Nat) (hk : v.ownBlock = some k) : base ≤ k := by
  rcases h.1.2 with ⟨rfl, _⟩ | ⟨g, cap, cur, rfl, hbg, _⟩
  · simp [Value.ownBlock] at hk
  · simp [Value.ownBlock] at hk
    omega
theorem OwnC.slice {w : World} {base : Nat} {e : TypeId} {v : Value} {L : List Fx} (h : OwnC w base e v L) (hok : ∀ x ∈ L, x.ok w) : ∃ (a : Option Addr) (cap : Nat), v = .slice a L.length cap ∧ Fxs w a L.length cap L := by
  rcases h.1.2 with ⟨rfl, h0⟩ | ⟨g, cap, cur, rfl, hbg, hg⟩
  · exact ⟨none, 0, by rw [h0], Fxs.own (by rw [h0]; exact h0 ▸ h.1) rfl hok⟩
  · exact ⟨_, cap, rfl, Fxs.own h.1 rfl hok⟩
theorem Fx.aside {w w' : World} {v : Value} {x : Fx} (h : x.ok w) (hc : clean w v) (hg : w.grownBy w' v.ownBlock) : x.ok w' := ⟨h.1.aside hc hg, h.2.aside hc hg⟩
theorem cells_news (w : World) (x : Fx) (e : TypeId) : ∀ j u, (Fx.cells x)[j]? = some u → (w.alloc (.cells #[.bool x.s, .slice x.a x.n x.c, .slice x.b x.m x.d] e)).cell? ((⟨w.heap.size, 0, none⟩ : Addr).add j) = some u := by
  intro j u hu
  rw [add_plain, Nat.zero_add]
  match j, hu with
  | 0, hu => simpa [Fx.cells] using hu
  | 1, hu => simpa [Fx.cells] using hu
  | 2, hu => simpa [Fx.cells] using hu
  | j + 3, hu => simp [Fx.cells] at hu
theorem cells_one (x : Fx) : ∀ u ∈ Fx.cells x, u.oneCell' = true := by
  intro u hu
  simp [Fx.cells] at hu
  rcases hu with rfl | rfl | rfl <;> rfl
end Go.Proofs.YtipcgehcineblaaGreat

/-
  What package frac's functions owe (layer 9), as one hypothesis: the contracts that the laws' walks lean on. In rational numbers.
-/
namespace Go.Proofs.YtipcgehcineblaaGreat
open Go.RowKit

/-- In the world w the value v is a fraction of the value q, of at most N words each. -/
def Fr (w : World) (v : Value) (q : Rat) (N : Nat) : Prop :=
  ∃ (neg : Bool) (a : Option Addr) (n cap : Nat) (la : List Nat) (b : Option Addr) (m cap' : Nat) (lb : List Nat), v = frV neg a n cap b m cap' ∧ Wd w a n cap la ∧ Wd w b m cap' lb ∧ n ≤ N ∧ m ≤ N ∧ qval neg (val la) (val lb) = q
/-- The right one. -/
def Rt (w : World) (v : Value) (q : Rat) (N : Nat) : Prop :=
  ∃ (a : Option Addr) (n cap : Nat) (b : Option Addr) (m cap' : Nat), v = frV (zneg q.num) a n cap b m cap' ∧ Wd w a n cap (dg q.num.natAbs) ∧ Wd w b m cap' (dg q.den) ∧ n ≤ N ∧ m ≤ N
theorem Fr.of {w : World} {neg : Bool} {a : Option Addr} {n cap : Nat} {la : List Nat} {b : Option Addr} {m cap' : Nat} {lb : List Nat} {q : Rat} {N : Nat} (ha : Wd w a n cap la) (hb : Wd w b m cap' lb) (hn : n ≤ N) (hm : m ≤ N) (hq : qval neg (val la) (val lb) = q) : Fr w (frV neg a n cap b m cap') q N :=
  ⟨neg, a, n, cap, la, b, m, cap', lb, rfl, ha, hb, hn, hm, hq⟩
theorem Rt.of {w : World} {a : Option Addr} {n cap : Nat} {b : Option Addr} {m cap' : Nat} {q : Rat} {N : Nat} (ha : Wd w a n cap (dg q.num.natAbs)) (hb : Wd w b m cap' (dg q.den)) (hn : n ≤ N) (hm : m ≤ N) : Rt w (frV (zneg q.num) a n cap b m cap') q N :=
  ⟨a, n, cap, b, m, cap', rfl, ha, hb, hn, hm⟩
theorem Rt.fr {w : World} {v : Value} {q : Rat} {N : Nat} (h : Rt w v q N) : Fr w v q N := by
  obtain ⟨a, n, cap, b, m, cap', rfl, ha, hb, hn, hm⟩ := h
  exact Fr.of ha hb hn hm (qval_dg q)
theorem Fr.right {w : World} {a : Option Addr} {n cap : Nat} {b : Option Addr} {m cap' : Nat} {q : Rat} {N : Nat} (ha : Wd w a n cap (dg q.num.natAbs)) (hb : Wd w b m cap' (dg q.den)) (hn : n ≤ N) (hm : m ≤ N) : Fr w (frV (zneg q.num) a n cap b m cap') q N := (Rt.of ha hb hn hm).fr
/-- How many words its right one has, at most. -/
def qlen (q : Rat) : Nat := max (dg q.num.natAbs).length (dg q.den).length
theorem qlen_num (q : Rat) : (dg q.num.natAbs).length ≤ qlen q := Nat.le_max_left _ _
theorem qlen_den (q : Rat) : (dg q.den).length ≤ qlen q := Nat.le_max_right _ _
theorem qlen_le {q : Rat} {N : Nat} (h1 : (dg q.num.natAbs).length ≤ N) (h2 : (dg q.den).length ≤ N) : qlen q ≤ N := Nat.max_le.2 ⟨h1, h2⟩
theorem Fr.len {w : World} {v : Value} {q : Rat} {N : Nat} (h : Fr w v q N) : qlen q ≤ N + 1 := by
  obtain ⟨neg, a, n, cap, la, b, m, cap', lb, rfl, ha, hb, hn, hm, rfl⟩ := h
  by_cases hv : val lb = 0
  · rw [qval_none neg (.inl hv)]
    refine qlen_le ?_ ?_
    · show (dg (0 : Nat)).length ≤ _
      rw [dg_zero]; exact Nat.zero_le _
    · show (dg (1 : Nat)).length ≤ _
      have := dg_one_length; omega
  · obtain ⟨h1, h2⟩ := qval_parts neg (u := val la) hv
    refine qlen_le ?_ ?_
    · rw [h1, zval_abs]
      exact Nat.le_trans (dg_length_mono (Nat.div_le_self _ _)) (Nat.le_trans ha.trim_le (by omega))
    · rw [h2]
      exact Nat.le_trans (dg_length_mono (Nat.div_le_self _ _)) (Nat.le_trans hb.trim_le (by omega))
/-- A right fraction and one more result. -/
def LstQV (q : Rat) (v : Value) (w : World) (e : Ending) (w' : World) : Prop :=
  ∃ (a : Option Addr) (n cap : Nat) (b : Option Addr) (m cap' : Nat), e = .returned (.tuple #[frV (zneg q.num) a n cap b m cap', v]) ∧ Wd w' a n cap (dg q.num.natAbs) ∧ Wd w' b m cap' (dg q.den) ∧ Below w.heap.size w w'
structure FracSaid : Prop where
  new : ∀ (neg : Bool) (a : Option Addr) (n cap : Nat) (la : List Nat) (b : Option Addr) (m cap' : Nat) (lb : List Nat) (q : Rat) (w : World), Wd w a n cap la → Wd w b m cap' lb → n ≤ 2097152000 → m ≤ 2097152000 → qval neg (val la) (val lb) = q → Calls Tryz.prog 102 #[whV neg a n cap, .slice b m cap'] w (LstQV q (.bool (decide (val lb ≠ 0))) w)
  of : ∀ (z : Int) (w : World), isInt z → Calls Tryz.prog 35 #[.int .i64 z] w (LstQ (z : Rat) w)
  norm : ∀ (v : Value) (q : Rat) (w : World), Fr w v q 2097152000 → Calls Tryz.prog 78 #[v] w (LstQ q w)
  sign : ∀ (v : Value) (q : Rat) (w : World), Fr w v q 2097152000 → Calls Tryz.prog 44 #[v] w (Gives (.int .i64 (sgn q.num)) w)
  cmp : ∀ (v u : Value) (p q : Rat) (w : World), Fr w v p 2097152000 → Fr w u q 2097152000 → Calls Tryz.prog 101 #[v, u] w (Gives (.int .i64 (sgn (p - q).num)) w)
  same : ∀ (v u : Value) (p q : Rat) (w : World), Fr w v p 2097152000 → Fr w u q 2097152000 → Calls Tryz.prog 76 #[v, u] w (Gives (.bool (decide (p = q))) w)
  add : ∀ (v u : Value) (p q : Rat) (w : World), Fr w v p 2097152000 → Fr w u q 2097152000 → Calls Tryz.prog 48 #[v, u] w (LstQ (p + q) w)
  sub : ∀ (v u : Value) (p q : Rat) (w : World), Fr w v p 2097152000 → Fr w u q 2097152000 → Calls Tryz.prog 93 #[v, u] w (LstQ (p - q) w)
  mul : ∀ (v u : Value) (p q : Rat) (w : World), Fr w v p 2097152000 → Fr w u q 2097152000 → Calls Tryz.prog 49 #[v, u] w (LstQ (p * q) w)
  quo : ∀ (v u : Value) (p q : Rat) (w : World), Fr w v p 2097152000 → Fr w u q 2097152000 → Calls Tryz.prog 60 #[v, u] w (LstQV (p / q) (.bool (decide (q ≠ 0))) w)
end Go.Proofs.YtipcgehcineblaaGreat

/-
  Plain mathematics: common divisors by halving and taking away. Nothing of the program.
-/
namespace Go.Proofs.YtipcgehcineblaaGreat

/-- What is left of a number that isn't 0 when it is halved as often as it goes. -/
def oddp (v : Nat) : Nat := v / 2 ^ tz v
theorem odd_part {v : Nat} (h : v ≠ 0) : v = 2 ^ tz v * oddp v ∧ oddp v % 2 = 1 := by
  obtain ⟨m, hm⟩ := tz_spec v h
  have h1 : oddp v = 2 * m + 1 := by
    unfold oddp
    conv => lhs; arg 1; rw [hm]
    exact Nat.mul_div_cancel_left _ (Nat.two_pow_pos _)
  rw [h1]
  exact ⟨hm, by omega⟩
theorem two_odd {x : Nat} (h : x % 2 = 1) : Nat.Coprime 2 x := by
  rw [Nat.coprime_iff_gcd_eq_one, Nat.gcd_rec, h]; decide
theorem gcd_parts {a b : Nat} (ha : a ≠ 0) (hb : b ≠ 0) : Nat.gcd a b = Nat.gcd (oddp a) (oddp b) * 2 ^ min (tz a) (tz b) := by
  obtain ⟨h1, h2⟩ := odd_part ha
  obtain ⟨h3, h4⟩ := odd_part hb
  generalize oddp a = X at *
  generalize oddp b = Y at *
  generalize tz a = m at *
  generalize tz b = n at *
  subst h1
  subst h3
  rcases Nat.le_total m n with h | h
  · obtain ⟨k, rfl⟩ : ∃ k, n = m + k := ⟨n - m, by omega⟩
    rw [Nat.min_eq_left h, Nat.pow_add, Nat.mul_assoc, Nat.gcd_mul_left, Nat.mul_comm]
    congr 1
    exact Nat.Coprime.gcd_mul_left_cancel_right _ ((two_odd h2).pow_left k)
  · obtain ⟨k, rfl⟩ : ∃ k, m = n + k := ⟨m - n, by omega⟩
    rw [Nat.min_eq_right h, Nat.pow_add, Nat.mul_assoc, Nat.gcd_mul_left, Nat.mul_comm]
    congr 1
    exact Nat.Coprime.gcd_mul_left_cancel _ ((two_odd h4).pow_left k)
theorem gcd_step {X Y : Nat} (hlt : Y < X) (hY : Y % 2 = 1) : Nat.gcd (oddp (X - Y)) Y = Nat.gcd X Y ∧ oddp (X - Y) < X ∧ oddp (X - Y) % 2 = 1 := by
  obtain ⟨h1, h2⟩ := odd_part (v := X - Y) (by omega)
  refine ⟨?_, ?_, h2⟩
  · have h3 : Nat.gcd (X - Y) Y = Nat.gcd X Y := Nat.gcd_sub_self_left (by omega)
    rw [← h3]
    conv => rhs; arg 1; rw [h1]
    exact (Nat.Coprime.gcd_mul_left_cancel _ ((two_odd hY).pow_left _)).symm
  · have h4 : oddp (X - Y) ≤ X - Y := Nat.div_le_self _ _
    omega

/-- L over 2^s, in place, k words of it done. -/
def ShiftAt (L R : List Nat) (s k : Nat) : Prop := low R k = val L / 2 ^ s % 4294967296 ^ k ∧ ∀ j, k ≤ j → atw R j = atw L j
theorem shift_start (L : List Nat) (s : Nat) : ShiftAt L L s 0 := ⟨by rw [low_zero, Nat.pow_zero, Nat.mod_one], fun _ _ => rfl⟩
theorem low_set {R : List Nat} {k y : Nat} : low (R.set k y) k = low R k := by
  unfold low; rw [List.take_set, List.set_eq_of_length_le (by rw [List.length_take]; omega)]
theorem atw_set_self {R : List Nat} {k y : Nat} (h : k < R.length) : atw (R.set k y) k = y := by
  unfold atw; rw [List.getD_eq_getElem?_getD, List.getElem?_set_self h]; rfl
theorem shift_word {L : List Nat} (ho : okw L) {s k : Nat} (hs : s ≤ 32) : val L / 2 ^ s / 4294967296 ^ k % 4294967296 = (atw L (k + 1) * 4294967296 + atw L k) / 2 ^ s % 4294967296 := by
  have h1 : val L / 2 ^ s / 4294967296 ^ k = top L k / 2 ^ s := by
    rw [top_div ho k, Nat.div_div_eq_div_mul, Nat.div_div_eq_div_mul, pow32, Nat.mul_comm]
  have h2 : top L k = atw L (k + 1) * 4294967296 + atw L k + 2 ^ s * (4294967296 * (2 ^ (32 - s) * top L (k + 2))) := by
    have h3 : 2 ^ s * (4294967296 * (2 ^ (32 - s) * top L (k + 2))) = 4294967296 * (4294967296 * top L (k + 2)) := by
      rw [Nat.mul_left_comm, ← Nat.mul_assoc (2 ^ s), ← Nat.pow_add, show s + (32 - s) = 32 by omega]
    rw [h3, top_succ L k, top_succ L (k + 1), show k + 1 + 1 = k + 2 from rfl]
    omega
  rw [h1, h2, Nat.add_mul_div_left _ _ (Nat.two_pow_pos s), Nat.add_mul_mod_self_left]
theorem shift_step {L R : List Nat} {s k y : Nat} (h : ShiftAt L R s k) (ho : okw L) (hs : s ≤ 32) (hk : k < R.length) (hy : y = (atw L (k + 1) * 4294967296 + atw L k) / 2 ^ s % 4294967296) : ShiftAt L (R.set k y) s (k + 1) := by
  refine ⟨?_, fun j hj => by rw [atw_set_ne (by omega)]; exact h.2 j (by omega)⟩
  rw [low_succ, low_set, atw_set_self hk, h.1, hy, ← shift_word ho hs, Nat.pow_succ, Nat.mod_mul]
theorem shift_end {L R : List Nat} {s n : Nat} (h : ShiftAt L R s n) (ho : okw L) (hL : L.length = n) (hR : R.length = n) : val R = val L / 2 ^ s := by
  have h1 := h.1
  rw [low_ge (by omega)] at h1
  rw [h1]
  apply Nat.mod_eq_of_lt
  have h2 := val_lt ho
  rw [hL] at h2
  exact Nat.lt_of_le_of_lt (Nat.div_le_self _ _) h2
theorem low_noughts {L : List Nat} {q : Nat} (h : low L q = 0) (hz : atw L q = 0) : low L (q + 1) = 0 := by rw [low_succ, h, hz]; simp
theorem top_left {L : List Nat} {q : Nat} (h : low L q = 0) (hv : val L ≠ 0) : q < L.length := by
  rcases Nat.lt_or_ge q L.length with h1 | h1
  · exact h1
  · rw [low_ge h1] at h; exact absurd h hv
/-- A list taken twice, so often: words ahead, and a factor. -/
theorem double_val (l : List Nat) (q r : Nat) : val (List.replicate q 0 ++ l) * val [2 ^ r] = val l * 2 ^ (32 * q + r) := by
  rw [val_append, val_zeros, List.length_replicate, Nat.zero_add, pow32]
  simp only [val]
  rw [Nat.mul_zero, Nat.add_zero, Nat.pow_add, Nat.mul_comm (2 ^ (32 * q)), Nat.mul_assoc]
end Go.Proofs.YtipcgehcineblaaGreat

/-
  The contracts of the document's answer for layer 6: Zeros, Less in a window, down, odd, double.
-/
namespace Go.Proofs.YtipcgehcineblaaGreat
open Go.RowKit

theorem ref01_zeros (m : Nat) (w : World) (h0 : 0 < m) (h1 : m < 4294967296) :
    Calls Tryz.prog 96 #[.int .u32 (m : Int)] w fun e w' => e = .returned (.int .i64 ((tz m : Nat) : Int)) ∧ w = w' := by
  have ht : (((m : Nat) : Int) == 0) = false := by simp; omega
  have hz : tz m < 32 := tz_lt (by omega) h1
  go_enter Tryz.func96, Tryz.ntmps96
  go_wp2
  go_loop [0, 3] (fun x n => ∃ a g : Nat, 0 < a ∧ a < 4294967296 ∧ g ≤ 32 ∧ Hid (g + tz a = tz m) ∧ x = .int .u32 a ∧ n = .int .i64 g) (fun x _ => (intOf x).toNat)
  case atStart => exact ⟨m, 0, h0, h1, by omega, Lib.hid (by omega), rfl, rfl⟩
  case round =>
    obtain ⟨a, g, ha, ha1, hg, Hl, rfl, rfl⟩ := hrel
    by_cases he : a % 2 = 0
    · have hb : (((a : Nat) : Int) % 2 == 0) = true := by rw [beq_iff_eq]; omega
      have He := Lib.hid he
      have Hs := Lib.hid (tz_even (n := a) (by omega) he)
      have hg2 : g < 32 := by have := Hs.out; have := Hl.out; omega
      clear he
      go_wp2
      go_round
      case rel => exact ⟨a / 2, g + 1, by have := He.out; omega, by omega, by omega, Lib.hid (by have := Hs.out; have := Hl.out; omega), by go_num, by go_num⟩
      case measure => simp [intOf]; omega
    · have hb : (((a : Nat) : Int) % 2 == 0) = false := by rw [beq_eq_false_iff_ne]; omega
      have Hs := Lib.hid (tz_odd (n := a) (by omega))
      clear he
      go_wp2
      go_ret
      exact ⟨ret_i64 (by have := Hl.out; have := Hs.out; omega), rfl⟩
def LessWin (base g off n : Nat) (P D : List Nat) (w : World) (e : Ending) (w' : World) : Prop :=
  ∃ (P' : List Nat), e = .returned (.tuple #[]) ∧ Hid (Win w' base g off n P') ∧ w.grownBy w' (some g) ∧ Hid (val P' = val P - val D)
set_option maxRecDepth 4096 in
set_option maxHeartbeats 2000000 in
theorem ref05_less_win (base : Nat) (w : World) (g off n c : Nat) (P : List Nat) (d : Option Addr) (m dcap : Nat) (D : List Nat) (hO : Win w base g off n P) (hd : Wd w d m dcap D) (hne : Hid (∀ ad : Addr, d = some ad → some ad.block ≠ some g)) (hN : n ≤ 2097152000000) (hm : m ≤ n) (hle : Hid (val D ≤ val P)) :
    Calls Tryz.prog 70 #[.slice (some ⟨g, off, none⟩) n c, .slice d m dcap] w (LessWin base g off n P D w) := by
  have HO0 := Lib.hid hO
  have HPo := Lib.hid hO.ok
  have HD := Lib.hid hd
  clear hO hd
  go_enter Tryz.func70, Tryz.ntmps70
  go_wp2
  go_loopw [4, 5] (fun sv kv wr => ∃ (k s : Nat) (R : List Nat), k ≤ n ∧ kv = .int .i64 (k : Int) ∧ sv = .int .u64 (s : Int) ∧ s ≤ 1 ∧ Hid (LessAt P D R k s) ∧ Hid (Win wr base g off n R) ∧ w.grownBy wr (some g)) (fun _ kv _ => n - (intOf kv).toNat)
  case atStart => exact ⟨0, 0, P, by omega, rfl, rfl, by omega, Lib.hid (less_start _ _), HO0, grown_refl _ _⟩
  case round =>
    obtain ⟨k, s, R, hk, rfl, rfl, hs, HL, HO, hG⟩ := hrel
    by_cases hlt : k < n
    · have hcell := HO.out.cell (k := k) hlt
      rw [HL.out.2 k (Nat.le_refl _)] at hcell
      have hfro := HO.out.frozen k
      have huw := atw_lt HPo.out k
      obtain ⟨u, huu⟩ : ∃ u, u = atw P k := ⟨_, rfl⟩
      rw [← huu] at huw hcell
      have Hu := Lib.hid huu
      have hki : (k : Int) < (n : Int) := by omega
      clear huu
      go_wp2_with fail
      refine (ref02_at _ _ _ k _ _ (HD.out.kept hG hne.out) (by omega)).mono ?_
      rintro e w' ⟨rfl, rfl⟩
      have hdw := atw_lt HD.out.ok k
      obtain ⟨b, hbb⟩ : ∃ b, b = atw D k := ⟨_, rfl⟩
      rw [← hbb] at hdw ⊢
      have Hb := Lib.hid hbb
      clear hbb
      obtain ⟨y, hy⟩ : ∃ y : Nat, (b : Int) + (s : Int) = (y : Int) := ⟨b + s, by omega⟩
      have Hy : Hid (y = b + s) := Lib.hid (by omega)
      have hyb : y ≤ 4294967296 := by omega
      by_cases hxy : u < y
      · obtain ⟨x, hx⟩ : ∃ x : Nat, (u : Int) + 4294967296 = (x : Int) := ⟨u + 4294967296, by omega⟩
        obtain ⟨r, hr⟩ : ∃ r : Nat, (x : Int) - (y : Int) = (r : Int) := ⟨x - y, by omega⟩
        have hrw : r < 4294967296 := by omega
        have HS : Hid (u + 4294967296 * 1 = b + s + r) := Lib.hid (by have := Hy.out; omega)
        have HOs := Lib.hid (HO.out.set (k := k) hrw)
        have hGs := Lib.hid (grown_then hG (grown_cell _ g (off + k) (.int .u32 (r : Int))))
        go_wp2
        go_roundw
        case rel => exact ⟨k + 1, 1, R.set k r, by omega, by go_num, rfl, by omega, Lib.hid (less_step HL.out (by rw [HO.out.len]; omega) (by rw [← Hu.out, ← Hb.out]; exact HS.out)), HOs, hGs.out⟩
        case measure => simp [intOf]; omega
      · obtain ⟨r, hr⟩ : ∃ r : Nat, (u : Int) - (y : Int) = (r : Int) := ⟨u - y, by omega⟩
        have hrw : r < 4294967296 := by omega
        have HS : Hid (u + 4294967296 * 0 = b + s + r) := Lib.hid (by have := Hy.out; omega)
        have HOs := Lib.hid (HO.out.set (k := k) hrw)
        have hGs := Lib.hid (grown_then hG (grown_cell _ g (off + k) (.int .u32 (r : Int))))
        go_wp2
        go_roundw
        case rel => exact ⟨k + 1, 0, R.set k r, by omega, by go_num, rfl, by omega, Lib.hid (less_step HL.out (by rw [HO.out.len]; omega) (by rw [← Hu.out, ← Hb.out]; exact HS.out)), HOs, hGs.out⟩
        case measure => simp [intOf]; omega
    · obtain rfl : k = n := by omega
      have Hfin : Hid (val R = val P - val D) := Lib.hid (less_end HL.out HO.out.ok HO.out.len (by rw [HD.out.len]; exact hm) hle.out)
      go_wp2
      go_end0
      exact ⟨R, rfl, HO, hG, Hfin⟩
def DownPost (base g off c v : Nat) (w : World) (e : Ending) (w' : World) : Prop :=
  ∃ n', e = .returned (.slice (some ⟨g, off, none⟩) n' c) ∧ n' ≤ c ∧ Hid (Win w' base g off n' (dg v)) ∧ w.grownBy w' (some g)
set_option maxRecDepth 4096 in
set_option maxHeartbeats 2000000 in
theorem ref06_down (base : Nat) (w : World) (g off n c s : Nat) (L : List Nat) (hO : Win w base g off n L) (hs : s ≤ 31) (hn : n ≤ 2097152000000) (hc : n ≤ c) (hc2 : c ≤ 9223372036854775807) :
    Calls Tryz.prog 97 #[.slice (some ⟨g, off, none⟩) n c, .int .i64 (s : Int)] w (DownPost base g off c (val L / 2 ^ s) w) := by
  have HO0 := Lib.hid hO
  have HLo := Lib.hid hO.ok
  have HLl := Lib.hid hO.len
  clear hO
  go_enter Tryz.func97, Tryz.ntmps97
  go_wp2
  go_loopw [5] (fun kv wr => ∃ (k : Nat) (R : List Nat), k ≤ n ∧ kv = .int .i64 (k : Int) ∧ Hid (ShiftAt L R s k) ∧ Hid (Win wr base g off n R) ∧ w.grownBy wr (some g)) (fun kv _ => n - (intOf kv).toNat)
  case atStart => exact ⟨0, L, by omega, rfl, Lib.hid (shift_start _ _), HO0, grown_refl _ _⟩
  case round =>
    obtain ⟨k, R, hk, rfl, HS, HO, hG⟩ := hrel
    by_cases hlt : k < n
    · have hcell := HO.out.cell (k := k) hlt
      rw [HS.out.2 k (Nat.le_refl _)] at hcell
      have hfro := HO.out.frozen k
      have huw := atw_lt HLo.out k
      have hxw := atw_lt HLo.out (k + 1)
      obtain ⟨p, hp⟩ : ∃ p : Nat, (k : Int) + 1 = (p : Int) := ⟨k + 1, by omega⟩
      have Hp : Hid (p = k + 1) := Lib.hid (by omega)
      rw [← Hp.out] at hxw
      obtain ⟨u, huu⟩ : ∃ u, u = atw L k := ⟨_, rfl⟩
      obtain ⟨x, hxx⟩ : ∃ x, x = atw L p := ⟨_, rfl⟩
      rw [← huu] at huw hcell
      rw [← hxx] at hxw
      have Hu := Lib.hid huu
      have Hx := Lib.hid hxx
      obtain ⟨t, ht⟩ : ∃ t : Nat, (x : Int) * 4294967296 + (u : Int) = (t : Int) := ⟨x * 4294967296 + u, by omega⟩
      have Ht : Hid (t = x * 4294967296 + u) := Lib.hid (by omega)
      obtain ⟨z, hz⟩ : ∃ z : Nat, (t : Int) / 2 ^ s = (z : Int) := ⟨t / 2 ^ s, by rw [Int.natCast_ediv, Int.natCast_pow]; rfl⟩
      have Hz : Hid (z = t / 2 ^ s) := Lib.hid (by have := div_pow_int t s; omega)
      obtain ⟨r, hr⟩ : ∃ r : Nat, (z : Int) % 4294967296 = (r : Int) := ⟨z % 4294967296, by omega⟩
      have Hr : Hid (r = z % 4294967296) := Lib.hid (by omega)
      have hrw : r < 4294967296 := by omega
      have htw : t < 18446744073709551616 := by omega
      have hzt : z ≤ t := by rw [Hz.out]; exact Nat.div_le_self _ _
      have hki : (k : Int) < (n : Int) := by omega
      have HOs := Lib.hid (HO.out.set (k := k) hrw)
      have hGs := Lib.hid (grown_then hG (grown_cell _ g (off + k) (.int .u32 (r : Int))))
      have HSn : Hid (ShiftAt L (R.set k r) s (k + 1)) := Lib.hid (shift_step HS.out HLo.out (by omega) (by rw [HO.out.len]; omega) (by
        rw [Hr.out, Hz.out, Ht.out, Hx.out, Hu.out, Hp.out]))
      clear huu
      by_cases hlast : p < n
      · have hcell2 := HO.out.cell (k := p) hlast
        rw [HS.out.2 p (by omega), ← Hx.out] at hcell2
        have hpi : (p : Int) < (n : Int) := by omega
        clear hxx
        go_wp2
        go_roundw
        case rel => exact ⟨p, R.set k r, by omega, by go_num, by rw [Hp.out]; exact HSn, HOs, hGs.out⟩
        case measure => simp [intOf]; omega
      · have hx0 : x = 0 := by rw [hxx]; exact atw_ge (by rw [HLl.out]; omega)
        have hpi : (n : Int) ≤ (p : Int) := by omega
        subst hx0
        have htu : t = u := by omega
        subst htu
        have hrz : r = z := by omega
        subst hrz
        clear hxx ht hr
        go_wp2
        go_roundw
        case rel => exact ⟨p, R.set k r, by omega, by go_num, by rw [Hp.out]; exact HSn, HOs, hGs.out⟩
        case measure => simp [intOf]; omega
    · obtain rfl : k = n := by omega
      have Hv := Lib.hid (shift_end HS.out HLo.out HLl.out HO.out.len)
      clear HS hlt
      go_wp2
      go_loop [0] (fun sv => ∃ m : Nat, m ≤ k ∧ sv = .slice (some ⟨g, off, none⟩) m c ∧ Hid (top R m = 0)) (fun sv => lenOf sv)
      case atStart => exact ⟨k, by omega, rfl, Lib.hid (top_ge (by rw [HO.out.len]; omega))⟩
      case round =>
        obtain ⟨m, hm, rfl, Ht⟩ := hrel
        cases m with
        | zero =>
          have HW := Lib.hid (HO.out.take (m := 0) (by omega))
          have Hfin : Hid (R.take 0 = dg (val L / 2 ^ s)) := Lib.hid (by rw [← Hv.out]; exact take_right (by omega) HO.out.ok Ht.out (.inl rfl))
          go_wp2
          go_ret
          exact ⟨0, rfl, by omega, Lib.hid (by rw [← Hfin.out]; exact HW.out), hG⟩
        | succ m =>
          have hcell := HO.out.cell (k := m) (by omega)
          have hyw := atw_lt HO.out.ok m
          by_cases hz : atw R m = 0
          · rw [hz] at hcell
            have Ht2 : Hid (top R m = 0) := Lib.hid (by rw [top_succ, hz, Ht.out])
            clear hz
            go_wp2
            go_round
            case rel => exact ⟨m, by omega, by go_num, Ht2⟩
            case measure => simp [lenOf]
          · have hzb : (((atw R m : Nat) : Int) == 0) = false := by simp [hz]
            have HW := Lib.hid (HO.out.take (m := m + 1) hm)
            have Hfin : Hid (R.take (m + 1) = dg (val L / 2 ^ s)) := Lib.hid (by rw [← Hv.out]; exact take_right (by rw [HO.out.len]; exact hm) HO.out.ok Ht.out (.inr (by simpa using hz)))
            clear hz
            go_wp2
            go_ret
            exact ⟨m + 1, rfl, by omega, Lib.hid (by rw [← Hfin.out]; exact HW.out), hG⟩
def OddPost (base g v : Nat) (w : World) (e : Ending) (w' : World) : Prop :=
  ∃ off n c, e = .returned (.tuple #[.slice (some ⟨g, off, none⟩) n c, .int .i64 ((tz v : Nat) : Int)]) ∧ n ≤ c ∧ c ≤ 9223372036854775807 ∧ Hid (Win w' base g off n (dg (oddp v))) ∧ w.grownBy w' (some g)
set_option maxRecDepth 4096 in
set_option maxHeartbeats 2000000 in
theorem ref06_odd (base : Nat) (w : World) (g off n c : Nat) (L : List Nat) (hO : Win w base g off n L) (hn : n ≤ 2097152000000) (hc : n ≤ c) (hc2 : c ≤ 9223372036854775807) (h0 : Hid (val L ≠ 0)) :
    Calls Tryz.prog 68 #[.slice (some ⟨g, off, none⟩) n c] w (OddPost base g (val L) w) := by
  have HO := Lib.hid hO
  have HLo := Lib.hid hO.ok
  have HLl := Lib.hid hO.len
  clear hO
  go_enter Tryz.func68, Tryz.ntmps68
  go_wp2
  go_loop [0, 4] (fun sv tv => ∃ q m : Nat, q + m = n ∧ sv = .slice (some ⟨g, off + q, none⟩) m (c - q) ∧ tv = .int .i64 ((32 * q : Nat) : Int) ∧ Hid (low L q = 0)) (fun sv _ => lenOf sv)
  case atStart => exact ⟨0, n, by omega, rfl, rfl, Lib.hid (low_zero L)⟩
  case round =>
    obtain ⟨q, m, hqm, rfl, rfl, Hl⟩ := hrel
    have hqn : q < n := by rw [← HLl.out]; exact top_left Hl.out h0.out
    have hcell := HO.out.cell (k := q) hqn
    have hyw := atw_lt HLo.out q
    have hm0 : 0 < m := by omega
    by_cases hz : atw L q = 0
    · rw [hz] at hcell
      have Hl2 := Lib.hid (low_noughts Hl.out hz)
      have hq1 : q + 1 < n := by rw [← HLl.out]; exact top_left Hl2.out h0.out
      obtain ⟨m1, rfl⟩ : ∃ m1, m = m1 + 1 := ⟨m - 1, by omega⟩
      have hcq : ¬ (c - q = 1) := by omega
      clear hz
      go_wp2
      go_round
      case rel => exact ⟨q + 1, m1, by omega, by first | rfl | (congr 1; omega), by go_num, Hl2⟩
      case measure => simp [lenOf]
    · have hzb : (((atw L q : Nat) : Int) == 0) = false := by simp [hz]
      have hy0 : 0 < atw L q := by omega
      have Htz := Lib.hid (tz_low HLo.out Hl.out hz)
      have htl : tz (atw L q) < 32 := tz_lt hz hyw
      have HW : Hid (Win w base g (off + q) m (L.drop q)) := Lib.hid (by have h1 := HO.out; rw [← hqm] at h1; exact h1.drop)
      clear hz
      generalize atw L q = y at *
      have Hsh : Hid (val (L.drop q) / 2 ^ tz y = oddp (val L)) := Lib.hid (by unfold oddp; rw [Htz.out]; exact shift_div HLo.out q (tz y))
      go_wp2_with fail
      refine (ref01_zeros y _ hy0 hyw).mono ?_
      rintro e w' ⟨rfl, rfl⟩
      generalize tz y = t at *
      go_wp2_with fail
      refine (ref06_down base _ g (off + q) m (c - q) t (L.drop q) HW.out (by omega) (by omega) (by omega) (by omega)).mono ?_
      rintro e w1 ⟨n', rfl, hn', HW1, hG⟩
      rw [Hsh.out] at HW1
      go_wp2
      go_ret2
      exact ⟨off + q, n', c - q, by rw [Htz.out]; rfl, hn', by omega, HW1, hG⟩
end Go.Proofs.YtipcgehcineblaaGreat
