/-
  An argument that is a slice of slices of fractions, opened. Of no program.
-/
import Derived.Test.YtenaopppkkhmcaaG6
import Derived.Test.YtenaopppkkhmcaaG8
namespace Go.Proofs.Ytenaopppkkhmcaa
open Go.ChangeShapes Go.WideShapes Go.ChangeAt Go.RowKit Go.Deep
section
variable {H : Type} {enc : TypeId × Value → H} {P : Program} {W : World} {base : Nat}
theorem fracs_cell {t e : TypeId} {f0 f1 f2 : Field} {q : TypeId} {n0 : Nat} {v : Value} {y : DataW H × List MemPlace} (ht : P.underlying t = some (.slice e)) (hs : P.underlying e = some (.struct #[f0, f1, f2])) (hone : oneCellFields P #[f0, f1, f2] = true) (hC : P.cellsOf e = 3)
    (hb : P.underlying f0.type = some .bool) (h1 : P.underlying f1.type = some (.slice q)) (h2 : P.underlying f2.type = some (.slice q)) (hq : P.underlying q = some (.int .u32)) (hcq : P.cellsOf q = 1)
    (hf : DataW.trod enc P W 0 (fun _ => true) true n0 t [v] = some y) : ∃ (a : Option Addr) (n cap : Nat) (ls : List (Bool × List Nat × List Nat)), v = .slice a n cap ∧ Frs W a n cap ls := by
  rcases open_slice ht hf with ⟨hcs, _⟩ | ⟨a, len, cap, m, n, D, Pl, hcs, _, hl, hm, hmm, _, hx⟩
  · simp at hcs
    exact ⟨_, _, _, [], hcs, Frs.ofNil W⟩
  · simp at hcs
    simp only [if_true] at hmm
    obtain ⟨o0, k0⟩ := hone_of hone 0 f0 rfl
    obtain ⟨o1, k1⟩ := hone_of hone 1 f1 rfl
    obtain ⟨o2, k2⟩ := hone_of hone 2 f2 rfl
    have each : ∀ i, i < cap → ∃ x : Bool × List Nat × List Nat, ∃ (a' : Option Addr) (n' c' : Nat) (b' : Option Addr) (m' d' : Nat), W.cell? (a.add (i * 3)) = some (.bool x.1) ∧ W.cell? (a.add (i * 3 + 1)) = some (.slice a' n' c') ∧ W.cell? (a.add (i * 3 + 2)) = some (.slice b' m' d') ∧ Wd W a' n' c' x.2.1 ∧ Wd W b' m' d' x.2.2 := by
      intro i hi
      obtain ⟨cs', h3, h4⟩ := hx i (by omega)
      rw [hC] at h3
      obtain ⟨_, hlen, hcell⟩ := World.cells?_some h3
      obtain ⟨y0, y1, y2, k, _, _, g0, g1, g2⟩ := trod_struct3 hs h4
      match cs', hlen with
      | [v0, v1, v2], _ =>
        simp [o0, k0] at g0
        simp [o1, k1] at g1
        simp [o2, k2] at g2
        obtain ⟨x, e0, _⟩ := DataW.trod_bool hb g0
        simp at e0
        subst e0
        obtain ⟨a1, n1, c1, l1, rfl, w1⟩ := words_cell h1 hq hcq g1
        obtain ⟨a2, n2, c2, l2, rfl, w2⟩ := words_cell h2 hq hcq g2
        have e0 := hcell 0 (by omega)
        have e1 := hcell 1 (by omega)
        have e2 := hcell 2 (by omega)
        rw [Go.Deep.add_add] at e0 e1 e2
        exact ⟨(x, l1, l2), a1, n1, c1, a2, n2, c2, by simpa using e0, by simpa using e1, by simpa using e2, w1, w2⟩
    obtain ⟨F, hF⟩ := choose_lt each
    refine ⟨_, _, _, (List.range len).map F, hcs, by simp, hl, by unfold maxLen at hm; omega, fun e => (by cases e), ?_⟩
    by_cases h0 : len = 0
    · exact .inl h0
    · obtain ⟨_, _, _, _, _, _, _, h00, _⟩ := each 0 (by omega)
      obtain ⟨b, off, sp⟩ := a
      have hsp : sp = none := by simpa [Addr.add] using World.cell?_spot h00
      subst hsp
      refine .inr ⟨b, off, rfl, fun j hj => ?_⟩
      have e1 : ((List.range len).map F).getD j (false, [], []) = F j := by rw [List.getD_eq_getElem?_getD, List.getElem?_map, List.getElem?_range hj]; rfl
      rw [e1]
      obtain ⟨a', n', c', b', m', d', q1, q2, q3, q4, q5⟩ := hF j (by omega)
      rw [add_plain] at q1 q2 q3
      exact ⟨a', n', c', b', m', d', q1, by rw [Nat.add_assoc]; exact q2, by rw [Nat.add_assoc]; exact q3, q4, q5⟩
theorem open_fracss {t r e : TypeId} {f0 f1 f2 : Field} {q : TypeId} {v : Value} {d : DataW H} {p : List MemPlace} (hr : P.underlying t = some (.slice r)) (hcr : P.cellsOf r = 1) (ht : P.underlying r = some (.slice e)) (hs : P.underlying e = some (.struct #[f0, f1, f2])) (hone : oneCellFields P #[f0, f1, f2] = true) (hC : P.cellsOf e = 3)
    (hb : P.underlying f0.type = some .bool) (h1 : P.underlying f1.type = some (.slice q)) (h2 : P.underlying f2.type = some (.slice q)) (hq : P.underlying q = some (.int .u32)) (hcq : P.cellsOf q = 1)
    (hv : Value.okWide P W .any base t v) (h : DataW.Trod enc P W 0 (fun _ => true) true t v d p) : ∃ (a : Option Addr) (n cap : Nat) (LL : List (List Fx)), v = .slice a n cap ∧ Fxss W a n cap LL := by
  obtain ⟨a0, len, cap, rfl⟩ := okWide_slice hr hv
  obtain ⟨fuel, hf⟩ := h
  rcases open_slice hr hf with ⟨hcs, _⟩ | ⟨a, len', cap', m, n, D, Pl, hcs, _, hl, hm, hmm, _, hx⟩
  · simp [Value.cells] at hcs
    obtain ⟨rfl, rfl, rfl⟩ := hcs
    exact ⟨_, _, _, [], rfl, Fxss.ofNil W⟩
  · simp [Value.cells] at hcs
    obtain ⟨rfl, rfl, rfl⟩ := hcs
    simp only [if_true] at hmm
    have each : ∀ i, i < cap → ∃ L : List Fx, ∃ (a' : Option Addr) (n' c' : Nat), W.cell? (a.add i) = some (.slice a' n' c') ∧ Fxs W a' n' c' L := by
      intro i hi
      obtain ⟨cs', h3, h4⟩ := hx i (by omega)
      rw [hcr] at h3
      obtain ⟨_, hlen, hcell⟩ := World.cells?_some h3
      match cs', hlen with
      | [v0], _ =>
        obtain ⟨a1, n1, c1, l1, rfl, w1⟩ := fracs_cell ht hs hone hC hb h1 h2 hq hcq h4
        obtain ⟨L, hL⟩ := Frs.to w1
        have e0 := hcell 0 (by omega)
        rw [Go.Deep.add_add] at e0
        exact ⟨L, a1, n1, c1, by simpa using e0, hL⟩
    obtain ⟨F, hF⟩ := choose_lt each
    refine ⟨_, _, _, (List.range len).map F, rfl, by simp, hl, by unfold maxLen at hm; omega, fun e => (by cases e), ?_⟩
    by_cases h0 : len = 0
    · exact .inl h0
    · obtain ⟨_, _, _, _, h00, _⟩ := each 0 (by omega)
      obtain ⟨b, off, sp⟩ := a
      have hsp : sp = none := by simpa [Addr.add] using World.cell?_spot h00
      subst hsp
      refine .inr ⟨b, off, rfl, fun j hj => ?_⟩
      have e1 : ((List.range len).map F).getD j [] = F j := by rw [List.getD_eq_getElem?_getD, List.getElem?_map, List.getElem?_range hj]; rfl
      rw [e1]
      obtain ⟨a', n', c', q1, q2⟩ := hF j (by omega)
      rw [add_plain] at q1
      exact ⟨a', n', c', q1, q2⟩
end
end Go.Proofs.Ytenaopppkkhmcaa
