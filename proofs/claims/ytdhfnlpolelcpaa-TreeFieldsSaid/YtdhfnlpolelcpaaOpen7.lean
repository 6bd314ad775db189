/-
  Arguments opened: an expression (a slice of nodes), a field (lets and outs). Of no program.
-/
import Derived.Test.YtdhfnlpolelcpaaTreeMem
import Derived.Test.YtdhfnlpolelcpaaOpen2
import Derived.ProofKit
import Derived.OpenShut
import Derived.ChangeArms
import Derived.Deep.Strs
import Derived.ChangeSame
import Derived.Deep.Fields
import Derived.Deep.Slices
namespace Go.Proofs.Ytdhfnlpolelcpaa
open Go.ChangeShapes Go.WideShapes Go.ChangeAt Go.RowKit Go.Deep
section
variable {H : Type} {enc : TypeId × Value → H} {P : Program} {W : World} {base : Nat}
/-- Elements, place by place, are a row of them. -/
theorem all_of {α : Type} [Inhabited α] {K : Kin α} {a : Addr} {len cap : Nat} (hl : len ≤ cap) (hm : cap ≤ maxLen)
    (each : ∀ i, i < cap → ∃ x : α, (∀ (j : Nat) u, (K.cells x)[j]? = some u → W.cell? (a.add (i * K.size + j)) = some u) ∧ K.good W x) : ∃ L : List α, K.All W (some a) len cap L := by
  obtain ⟨F, hF⟩ := choose_lt each
  refine ⟨(List.range len).map F, ⟨by simp, hl, by unfold maxLen at hm; omega, fun e => (by cases e), ?_⟩, fun x hx => ?_⟩
  · by_cases h0 : len = 0
    · exact .inl h0
    · have hne : ∃ u, (K.cells (F 0))[0]? = some u := ⟨(K.cells (F 0))[0]'(by rw [K.len]; exact K.pos), List.getElem?_eq_getElem _⟩
      obtain ⟨u0, hu0⟩ := hne
      have h00 := (hF 0 (by omega)).1 0 u0 hu0
      obtain ⟨b, off, sp⟩ := a
      have hsp : sp = none := by simpa [Addr.add] using World.cell?_spot h00
      subst hsp
      refine .inr ⟨b, off, rfl, fun j x hj i u hu => ?_⟩
      have hjl : j < len := by
        rcases Nat.lt_or_ge j len with h9 | h9
        · exact h9
        · rw [List.getElem?_eq_none (by simpa using h9)] at hj; cases hj
      rw [List.getElem?_map, List.getElem?_range hjl] at hj
      simp only [Option.map_some, Option.some.injEq] at hj
      subst hj
      have h1 := (hF j (by omega)).1 i u hu
      rw [add_plain] at h1
      rw [Nat.add_assoc]
      exact h1
  · obtain ⟨j, hj, rfl⟩ := List.mem_map.1 hx
    exact (hF j (by have := List.mem_range.1 hj; omega)).2
theorem nodes_cell {t e : TypeId} {f0 f1 f2 : Field} {q : TypeId} {n0 : Nat} {v : Value} {y : DataW H × List MemPlace} (ht : P.underlying t = some (.slice e)) (hs : P.underlying e = some (.struct #[f0, f1, f2])) (hone : oneCellFields P #[f0, f1, f2] = true) (hC : P.cellsOf e = 3)
    (h0 : P.underlying f0.type = some (.int .i64)) (h1 : P.underlying f1.type = some (.int .i64)) (h2 : P.underlying f2.type = some (.slice q)) (hq : P.underlying q = some (.int .u32)) (hcq : P.cellsOf q = 1)
    (hf : DataW.trod enc P W 0 (fun _ => true) true n0 t [v] = some y) : ∃ (a : Option Addr) (n cap : Nat) (L : List Nd), v = .slice a n cap ∧ Nds W a n cap L := by
  rcases open_slice ht hf with ⟨hcs, _⟩ | ⟨a, len, cap, m, n, D, Pl, hcs, _, hl, hm, hmm, _, hx⟩
  · simp at hcs
    exact ⟨_, _, _, [], hcs, Kin.All.nil W⟩
  · simp at hcs
    simp only [if_true] at hmm
    obtain ⟨o0, k0⟩ := hone_of hone 0 f0 rfl
    obtain ⟨o1, k1⟩ := hone_of hone 1 f1 rfl
    obtain ⟨o2, k2⟩ := hone_of hone 2 f2 rfl
    obtain ⟨L, hL⟩ := all_of (W := W) (K := ndK) (a := a) hl hm (fun i hi => by
      obtain ⟨cs', h3, h4⟩ := hx i (by omega)
      rw [hC] at h3
      obtain ⟨_, hlen, hcell⟩ := World.cells?_some h3
      obtain ⟨y0, y1, y2, k, _, _, g0, g1, g2⟩ := trod_struct3 hs h4
      match cs', hlen with
      | [v0, v1, v2], _ =>
        simp [o0, k0] at g0
        simp [o1, k1] at g1
        simp [o2, k2] at g2
        obtain ⟨x, e0, _, _⟩ := DataW.trod_int h0 g0
        obtain ⟨y, e1, _, _⟩ := DataW.trod_int h1 g1
        simp at e0 e1
        subst e0 e1
        obtain ⟨a1, n1, c1, l1, rfl, w1⟩ := words_cell h2 hq hcq g2
        have c0 := hcell 0 (by omega)
        have c1' := hcell 1 (by omega)
        have c2 := hcell 2 (by omega)
        rw [Go.Deep.add_add] at c0 c1' c2
        refine ⟨⟨x, y, a1, n1, c1, l1⟩, fun j u hu => ?_, w1⟩
        match j, hu with
        | 0, hu => simp [ndK, Nd.cells] at hu; subst hu; simpa [ndK] using c0
        | 1, hu => simp [ndK, Nd.cells] at hu; subst hu; simpa [ndK] using c1'
        | 2, hu => simp [ndK, Nd.cells] at hu; subst hu; simpa [ndK] using c2
        | j + 3, hu => simp [ndK, Nd.cells] at hu)
    exact ⟨_, _, _, L, hcs, hL⟩
theorem open_nodes {t e : TypeId} {f0 f1 f2 : Field} {q : TypeId} {v : Value} {d : DataW H} {p : List MemPlace} (ht : P.underlying t = some (.slice e)) (hs : P.underlying e = some (.struct #[f0, f1, f2])) (hone : oneCellFields P #[f0, f1, f2] = true) (hC : P.cellsOf e = 3)
    (h0 : P.underlying f0.type = some (.int .i64)) (h1 : P.underlying f1.type = some (.int .i64)) (h2 : P.underlying f2.type = some (.slice q)) (hq : P.underlying q = some (.int .u32)) (hcq : P.cellsOf q = 1)
    (hv : Value.okWide P W .any base t v) (h : DataW.Trod enc P W 0 (fun _ => true) true t v d p) : ∃ (a : Option Addr) (n cap : Nat) (L : List Nd), v = .slice a n cap ∧ Nds W a n cap L := by
  obtain ⟨a0, len, cap, rfl⟩ := okWide_slice ht hv
  obtain ⟨fuel, hf⟩ := h
  exact nodes_cell (v := .slice a0 len cap) ht hs hone hC h0 h1 h2 hq hcq (by simpa [Value.cells] using hf)
theorem outs_cell {t r e : TypeId} {f0 f1 f2 : Field} {q : TypeId} {n0 : Nat} {v : Value} {y : DataW H × List MemPlace} (hr : P.underlying t = some (.slice r)) (hcr : P.cellsOf r = 1) (ht : P.underlying r = some (.slice e)) (hs : P.underlying e = some (.struct #[f0, f1, f2])) (hone : oneCellFields P #[f0, f1, f2] = true) (hC : P.cellsOf e = 3)
    (h0 : P.underlying f0.type = some (.int .i64)) (h1 : P.underlying f1.type = some (.int .i64)) (h2 : P.underlying f2.type = some (.slice q)) (hq : P.underlying q = some (.int .u32)) (hcq : P.cellsOf q = 1)
    (hf : DataW.trod enc P W 0 (fun _ => true) true n0 t [v] = some y) : ∃ (a : Option Addr) (n cap : Nat) (L : List Sn), v = .slice a n cap ∧ Sns W a n cap L := by
  rcases open_slice hr hf with ⟨hcs, _⟩ | ⟨a, len, cap, m, n, D, Pl, hcs, _, hl, hm, hmm, _, hx⟩
  · simp at hcs
    exact ⟨_, _, _, [], hcs, Kin.All.nil W⟩
  · simp at hcs
    simp only [if_true] at hmm
    obtain ⟨L, hL⟩ := all_of (W := W) (K := snK) (a := a) hl hm (fun i hi => by
      obtain ⟨cs', h3, h4⟩ := hx i (by omega)
      rw [hcr] at h3
      obtain ⟨_, hlen, hcell⟩ := World.cells?_some h3
      match cs', hlen with
      | [v0], _ =>
        obtain ⟨a1, n1, c1, L1, rfl, w1⟩ := nodes_cell ht hs hone hC h0 h1 h2 hq hcq h4
        have c0 := hcell 0 (by omega)
        rw [Go.Deep.add_add] at c0
        refine ⟨⟨a1, n1, c1, L1⟩, fun j u hu => ?_, w1⟩
        match j, hu with
        | 0, hu => simp [snK] at hu; subst hu; simpa [snK] using c0
        | j + 1, hu => simp [snK] at hu)
    exact ⟨_, _, _, L, hcs, hL⟩
theorem lets_cell {t l e : TypeId} {g0 g1 f0 f1 f2 : Field} {q : TypeId} {n0 : Nat} {v : Value} {y : DataW H × List MemPlace} (hr : P.underlying t = some (.slice l)) (hg : P.underlying l = some (.struct #[g0, g1])) (hgo : oneCellFields P #[g0, g1] = true) (hgC : P.cellsOf l = 2) (hg0 : P.underlying g0.type = some .string) (ht : P.underlying g1.type = some (.slice e))
    (hs : P.underlying e = some (.struct #[f0, f1, f2])) (hone : oneCellFields P #[f0, f1, f2] = true) (hC : P.cellsOf e = 3)
    (h0 : P.underlying f0.type = some (.int .i64)) (h1 : P.underlying f1.type = some (.int .i64)) (h2 : P.underlying f2.type = some (.slice q)) (hq : P.underlying q = some (.int .u32)) (hcq : P.cellsOf q = 1)
    (hf : DataW.trod enc P W 0 (fun _ => true) true n0 t [v] = some y) : ∃ (a : Option Addr) (n cap : Nat) (L : List Lt), v = .slice a n cap ∧ Lts W a n cap L := by
  rcases open_slice hr hf with ⟨hcs, _⟩ | ⟨a, len, cap, m, n, D, Pl, hcs, _, hl, hm, hmm, _, hx⟩
  · simp at hcs
    exact ⟨_, _, _, [], hcs, Kin.All.nil W⟩
  · simp at hcs
    simp only [if_true] at hmm
    obtain ⟨o0, k0⟩ := hone_of hgo 0 g0 rfl
    obtain ⟨o1, k1⟩ := hone_of hgo 1 g1 rfl
    obtain ⟨L, hL⟩ := all_of (W := W) (K := ltK) (a := a) hl hm (fun i hi => by
      obtain ⟨cs', h3, h4⟩ := hx i (by omega)
      rw [hgC] at h3
      obtain ⟨_, hlen, hcell⟩ := World.cells?_some h3
      obtain ⟨y0, y1, k, _, _, p0, p1⟩ := trod_struct2 hg h4
      match cs', hlen with
      | [v0, v1], _ =>
        simp [o0, k0] at p0
        simp [o1, k1] at p1
        obtain ⟨s, e0, _, _⟩ := DataW.trod_string hg0 p0
        simp at e0
        subst e0
        obtain ⟨ls, rfl⟩ := bs_of s
        obtain ⟨a1, n1, c1, L1, rfl, w1⟩ := nodes_cell ht hs hone hC h0 h1 h2 hq hcq p1
        have c0 := hcell 0 (by omega)
        have c1' := hcell 1 (by omega)
        rw [Go.Deep.add_add] at c0 c1'
        refine ⟨⟨ls, a1, n1, c1, L1⟩, fun j u hu => ?_, w1⟩
        match j, hu with
        | 0, hu => simp [ltK] at hu; subst hu; simpa [ltK] using c0
        | 1, hu => simp [ltK] at hu; subst hu; simpa [ltK] using c1'
        | j + 2, hu => simp [ltK] at hu)
    exact ⟨_, _, _, L, hcs, hL⟩
theorem open_field {t l e r : TypeId} {s0 s1 g0 g1 f0 f1 f2 : Field} {q : TypeId} {v : Value} {d : DataW H} {p : List MemPlace} (hF : P.underlying t = some (.struct #[s0, s1])) (hFo : oneCellFields P #[s0, s1] = true) (hFC : P.cellsOf t = 2)
    (hr : P.underlying s0.type = some (.slice l)) (hg : P.underlying l = some (.struct #[g0, g1])) (hgo : oneCellFields P #[g0, g1] = true) (hgC : P.cellsOf l = 2) (hg0 : P.underlying g0.type = some .string) (ht : P.underlying g1.type = some (.slice e))
    (ho : P.underlying s1.type = some (.slice r)) (hcr : P.cellsOf r = 1) (ht2 : P.underlying r = some (.slice e))
    (hs : P.underlying e = some (.struct #[f0, f1, f2])) (hone : oneCellFields P #[f0, f1, f2] = true) (hC : P.cellsOf e = 3)
    (h0 : P.underlying f0.type = some (.int .i64)) (h1 : P.underlying f1.type = some (.int .i64)) (h2 : P.underlying f2.type = some (.slice q)) (hq : P.underlying q = some (.int .u32)) (hcq : P.cellsOf q = 1)
    (hv : Value.okWide P W .any base t v) (h : DataW.Trod enc P W 0 (fun _ => true) true t v d p) : ∃ (a : Option Addr) (n c : Nat) (K : List Lt) (b : Option Addr) (m d : Nat) (O : List Sn), v = .agg #[.slice a n c, .slice b m d] ∧ Lts W a n c K ∧ Sns W b m d O := by
  obtain ⟨v0, v1, y0, y1, m, rfl, _, _, k0, k1⟩ := Joins.open_agg2 hF hFo hFC hv h
  obtain ⟨a, n, c, K, rfl, w0⟩ := lets_cell hr hg hgo hgC hg0 ht hs hone hC h0 h1 h2 hq hcq k0
  obtain ⟨b, m', d', O, rfl, w1⟩ := outs_cell ho hcr ht2 hs hone hC h0 h1 h2 hq hcq k1
  exact ⟨a, n, c, K, b, m', d', O, rfl, w0, w1⟩
end
end Go.Proofs.Ytdhfnlpolelcpaa
