/-
  Rows of anything, more: a cell of an element is written, a row is made, a row's head. Of no program.
-/
import Derived.Test.YtdhfnlpolelcpaaKin
import Derived.Test.YtdhfnlpolelcpaaMake
namespace Go.Proofs.Ytdhfnlpolelcpaa
open Go.WideShapes Go.RowKit Go.Deep

namespace Cls
variable {α : Type} {C : Cls α}
theorem flat_set (C : Cls α) {x y : α} {u : Value} {q : Nat} (hy : C.cells y = (C.cells x).set q u) (hq : q < C.size) : ∀ (L : List α) (i : Nat), L[i]? = some x → (L.set i y).flatMap C.cells = (L.flatMap C.cells).set (i * C.size + q) u
  | [], i, h => by simp at h
  | z :: r, 0, h => by
    simp only [List.getElem?_cons_zero, Option.some.injEq] at h
    subst h
    rw [List.set_cons_zero, List.flatMap_cons, List.flatMap_cons, hy, Nat.zero_mul, Nat.zero_add, List.set_append_left _ _ (by rw [C.len]; exact hq)]
  | z :: r, i + 1, h => by
    simp only [List.getElem?_cons_succ] at h
    rw [List.set_cons_succ, List.flatMap_cons, List.flatMap_cons, flat_set C hy hq r i h, List.set_append_right _ _ (by rw [C.len, Nat.add_mul]; omega), C.len, show (i + 1) * C.size + q - C.size = i * C.size + q by rw [Nat.add_mul]; omega]
theorem flat_take (C : Cls α) : ∀ (L : List α) (k : Nat), (L.take k).flatMap C.cells = (L.flatMap C.cells).take (k * C.size)
  | [], k => by simp
  | z :: r, 0 => by simp
  | z :: r, k + 1 => by
    rw [List.take_succ_cons, List.flatMap_cons, List.flatMap_cons, flat_take C r k, List.take_append, C.len, show (k + 1) * C.size - C.size = k * C.size by rw [Nat.add_mul]; omega, List.take_of_length_le (l := C.cells z) (by rw [C.len, Nat.add_mul]; omega)]
theorem Own.num {w : World} {base : Nat} {e : TypeId} {a : Option Addr} {n cap : Nat} {L : List α} (h : C.Own w base e (.slice a n cap) L) : L.length = n ∧ n ≤ cap ∧ cap ≤ maxLen := by
  rcases h.1.2 with ⟨h1, h0⟩ | ⟨g, cap', cur, h1, _, _, h4, h5, _⟩
  · simp only [Value.slice.injEq] at h1
    obtain ⟨_, rfl, rfl⟩ := h1
    exact ⟨h0, Nat.le_refl _, Nat.zero_le _⟩
  · simp only [Value.slice.injEq] at h1
    obtain ⟨_, rfl, rfl⟩ := h1
    exact ⟨rfl, h4, h5⟩
theorem Own.form {w : World} {base : Nat} {e : TypeId} {a : Option Addr} {n cap : Nat} {L : List α} (h : C.Own w base e (.slice a n cap) L) (hn : 0 < cap) : ∃ g, a = some ⟨g, 0, none⟩ ∧ base ≤ g ∧ g < w.heap.size := by
  rcases h.1.2 with ⟨h1, h0⟩ | ⟨g, cap', cur, h1, hb, hg, h4, h5, _⟩
  · simp only [Value.slice.injEq] at h1
    omega
  · simp only [Value.slice.injEq] at h1
    obtain ⟨rfl, _, _⟩ := h1
    exact ⟨g, rfl, hb, (Array.getElem?_eq_some_iff.1 hg).1⟩
theorem Own.cell {w : World} {base : Nat} {e : TypeId} {g n cap : Nat} {L : List α} (h : C.Own w base e (.slice (some ⟨g, 0, none⟩) n cap) L) {i q : Nat} {x : α} {u : Value} (hx : L[i]? = some x) (hu : (C.cells x)[q]? = some u) :
    w.cell? ⟨g, i * C.size + q, none⟩ = some u ∧ w.frozen? ⟨g, i * C.size + q, none⟩ = false := by
  obtain rfl := h.num.1
  have hq : q < C.size := by
    rcases Nat.lt_or_ge q C.size with h9 | h9
    · exact h9
    · rw [List.getElem?_eq_none (by rw [C.len]; exact h9)] at hu; cases hu
  have h9 := h.1.cells (g := g) rfl (i * C.size + q) u (by rw [C.flat_at L i q x hx hq]; exact hu)
  rw [add_plain, Nat.zero_add] at h9
  exact ⟨h9, h.1.frozenAt _⟩
/-- A cell of an element is written. -/
theorem Own.put {w : World} {base : Nat} {e : TypeId} {g n cap : Nat} {L : List α} (h : C.Own w base e (.slice (some ⟨g, 0, none⟩) n cap) L) {i q : Nat} {x y : α} {u : Value} (hx : L[i]? = some x) (hy : C.cells y = (C.cells x).set q u) (hq : q < C.size) :
    C.Own (w.setCell ⟨g, i * C.size + q, none⟩ u) base e (.slice (some ⟨g, 0, none⟩) n cap) (L.set i y) ∧ w.grownBy (w.setCell ⟨g, i * C.size + q, none⟩ u) (some g) := by
  obtain rfl := h.num.1
  obtain ⟨h1, h2⟩ := h.1.stored (i * C.size + q) u
  have hu : C.p u := by
    refine C.ok y u ?_
    rw [hy]
    have hl : q < ((C.cells x).set q u).length := by rw [List.length_set, C.len]; exact hq
    have := List.getElem_mem hl
    rwa [List.getElem_set_self] at this
  refine ⟨⟨?_, ?_⟩, h2⟩
  · rw [C.flat_set hy hq L i hx, List.length_set]
    exact h1
  · intro g2 hg2 j v hv
    simp [Value.ownBlock] at hg2
    subst hg2
    by_cases hj : j = i * C.size + q
    · subst hj
      have hq2 : q < (C.cells x).length := by rw [C.len]; exact hq
      have hc := (h.cell hx (u := (C.cells x)[q]) (List.getElem?_eq_getElem hq2)).1
      rw [World.cell?_setCell_same _ _ _ hc] at hv
      rw [← Option.some.inj hv]
      exact hu
    · rw [World.cell?_setCell_other _ ⟨g, i * C.size + q, none⟩ ⟨g, j, none⟩ _ (fun e => hj (congrArg Addr.off e).symm)] at hv
      exact h.2 g rfl j v hv
/-- The first elements of a row of one's own. -/
theorem Own.head {w : World} {base : Nat} {e : TypeId} {g n cap : Nat} {L : List α} (h : C.Own w base e (.slice (some ⟨g, 0, none⟩) n cap) L) {k : Nat} (hk : k ≤ n) : C.Own w base e (.slice (some ⟨g, 0, none⟩) k cap) (L.take k) := by
  obtain rfl := h.num.1
  have hl : (L.take k).length = k := by rw [List.length_take]; omega
  refine ⟨⟨C.flat_len _, ?_⟩, fun g2 hg2 => h.2 g2 hg2⟩
  rcases h.1.2 with ⟨h1, _⟩ | ⟨g', cap', cur, h1, hb, hg, hnc, hcm, hcs, htake⟩
  · simp at h1
  · simp only [Value.slice.injEq, Option.some.injEq, Addr.mk.injEq, and_true, true_and] at h1
    obtain ⟨rfl, rfl⟩ := h1
    refine .inr ⟨g, cap, cur, by rw [hl], hb, hg, by omega, hcm, hcs, ?_⟩
    rw [hl, C.flat_take, ← htake, List.take_take, Nat.min_eq_left (Nat.mul_le_mul_right _ hk)]
/-- A made row. -/
theorem Own.made (w : World) {base : Nat} (e : TypeId) {x0 : α} {z : Value} (hz : C.cells x0 = [z]) (hs : C.size = 1) {n c : Nat} (hnc : n ≤ c) (hc : c ≤ maxLen) (hb : base ≤ w.heap.size) :
    C.Own (w.alloc (.cells (madeCells #[z] c) e)) base e (.slice (some ⟨w.heap.size, 0, none⟩) n c) (List.replicate n x0) := by
  have h1 := ownsRow_made w base e z n c hnc hc hb
  have hp : C.p z := C.ok x0 z (by rw [hz]; simp)
  refine ⟨?_, only_block (heap_alloc_new w _) ?_⟩
  · rw [List.length_replicate, hs, List.flatMap_replicate, hz, List.flatten_replicate_singleton]
    exact h1
  · rw [toList_madeCells_one]
    intro u hu
    rw [List.eq_of_mem_replicate hu]; exact hp
end Cls
namespace Kin
variable {α : Type} {K : Kin α}
theorem Mine.cell {w : World} {base : Nat} {e : TypeId} {g n cap : Nat} {L : List α} (h : K.Mine w base e (.slice (some ⟨g, 0, none⟩) n cap) L) {i q : Nat} {x : α} {u : Value} (hx : L[i]? = some x) (hu : (K.cells x)[q]? = some u) :
    w.cell? ⟨g, i * K.size + q, none⟩ = some u ∧ w.frozen? ⟨g, i * K.size + q, none⟩ = false := h.1.cell hx hu
theorem Mine.put {w : World} {base : Nat} {e : TypeId} {g n cap : Nat} {L : List α} (h : K.Mine w base e (.slice (some ⟨g, 0, none⟩) n cap) L) {i q : Nat} {x y : α} {u : Value} (hx : L[i]? = some x) (hy : K.cells y = (K.cells x).set q u) (hq : q < K.size) (hg : K.good w y) :
    K.Mine (w.setCell ⟨g, i * K.size + q, none⟩ u) base e (.slice (some ⟨g, 0, none⟩) n cap) (L.set i y) ∧ w.grownBy (w.setCell ⟨g, i * K.size + q, none⟩ u) (some g) := by
  obtain ⟨h1, h2⟩ := h.1.put hx hy hq
  refine ⟨⟨h1, fun z hz => ?_⟩, h2⟩
  refine K.aside (v := .slice (some ⟨g, 0, none⟩) n cap) ?_ h.1.2 h2
  rcases List.mem_or_eq_of_mem_set hz with hz | rfl
  · exact h.2 z hz
  · exact hg
theorem Mine.made (w : World) {base : Nat} (e : TypeId) {x0 : α} {z : Value} (hz : K.cells x0 = [z]) (hs : K.size = 1) (hg : ∀ w, K.good w x0) {n c : Nat} (hnc : n ≤ c) (hc : c ≤ maxLen) (hb : base ≤ w.heap.size) :
    K.Mine (w.alloc (.cells (madeCells #[z] c) e)) base e (.slice (some ⟨w.heap.size, 0, none⟩) n c) (List.replicate n x0) :=
  ⟨Cls.Own.made w e hz hs hnc hc hb, fun x hx => by rw [List.eq_of_mem_replicate hx]; exact hg _⟩
theorem wpList_make {P : Program} {t e : TypeId} {w : World} {ops : Array Oper} {rest : List Oper} {o : Oper} {a : Act} {Q : Exit → Act → World → Prop}
    (hgd : o.guard = none) (l c : Operand) (hop : o.op = Op.makeSlice t l c) (ht : P.underlying t = some (.slice e)) {x0 : α} {z : Value} (hi : (P.info? e).map (fun i => (i.zero, i.size, i.bytes)) = some (some z, 1, K.bytes))
    (hz : K.cells x0 = [z]) (hzz : z.cells = #[z]) (hs : K.size = 1) (hgood : ∀ w, K.good w x0)
    (base : Nat) (kl kc : IntKind) (L C : Int) (n m : Nat) (hl : a.eval l = .int kl L) (hc : a.eval c = .int kc C) (hL : L = (n : Int)) (hC : C = (m : Int)) (hnm : n ≤ m) (b2 : K.bytes * m ≤ 281474976710656) (b3 : m ≤ maxLen) (b4 : base ≤ w.heap.size)
    (hK : ∀ w', K.Mine w' base e (.slice (some ⟨w.heap.size, 0, none⟩) n m) (List.replicate n x0) → w.grownBy w' none → w'.heap.size = w.heap.size + 1 → wpList P ops Q rest (a.put o.dst (.slice (some ⟨w.heap.size, 0, none⟩) n m)) w') :
    wpList P ops Q (o :: rest) a w := by
  cases h2 : P.info? e with
  | none => rw [h2] at hi; simp at hi
  | some i =>
    rw [h2] at hi
    simp at hi
    obtain ⟨h3, h4, h5⟩ := hi
    refine wpList_plain hgd fun K9 hK' => ?_
    have h63' : (m : Int) ≤ 9223372036854775807 := by
      have h := b3
      simp [maxLen] at h
      omega
    rw [← h5] at b2
    have hb' : (i.bytes : Int) * (m : Int) ≤ 281474976710656 := by
      have h : ((i.bytes * m : Nat) : Int) ≤ 281474976710656 := by omega
      rwa [Int.natCast_mul] at h
    have hrun := run_make (P := P) w t e i z ht h2 h3 kl kc n m (by omega) (by omega) hb' h63'
    simp only [Int.toNat_natCast, h4, Nat.mul_one, hzz] at hrun
    subst hL
    subst hC
    unfold Oper.wp
    simp [execOp, hop, hl, hc, hrun, Result.andThen]
    exact hK' _ _ (hK _ (Mine.made w e hz hs hgood hnm b3 b4) (World.grownBy_alloc w _ none) (World.size_alloc _ _))
end Kin
end Go.Proofs.Ytdhfnlpolelcpaa
