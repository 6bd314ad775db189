/-
  Rows of anything in memory: what an element's cells are (a class), a slice that holds such elements, a row of one's own to which elements are appended. Of no program.
-/
import Derived.Test.YtdhfnlpolelcpaaSlice
import Derived.Test.YtdhfnlpolelcpaaFaultKit
import Derived.Laws.AppendOwn
import Derived.Laws.AppendOwnNone
import Derived.Laws.OwnMore
import Derived.Deep.RegionLaw
import Derived.Deep.Slices
import Derived.WideShapes
namespace Go.Proofs.Ytdhfnlpolelcpaa
open Go.WideShapes Go.RowKit Go.Deep

/-- The block that a value leads to holds nothing but such cells. -/
def Only (p : Value → Prop) (w : World) (v : Value) : Prop := ∀ g, v.ownBlock = some g → ∀ (j : Nat) u, w.cell? ⟨g, j, none⟩ = some u → p u
theorem only_nil (p : Value → Prop) (w : World) : Only p w (.slice none 0 0) := fun g h => by simp [Value.ownBlock] at h
theorem only_block {p : Value → Prop} {w : World} {g : Nat} {n c : Nat} {cur : Array Value} {e : TypeId} {fr : Nat × Nat} (hg : w.heap[g]? = some (.cells cur e fr)) (h : ∀ u ∈ cur.toList, p u) : Only p w (.slice (some ⟨g, 0, none⟩) n c) := by
  intro g' hg' j u hc
  simp [Value.ownBlock] at hg'
  subst hg'
  rw [cell_of_row w g j cur e fr hg] at hc
  have hm : u ∈ cur := Array.mem_of_getElem? hc
  exact h _ (by simpa using hm)
theorem only_zeros {p : Value → Prop} {z : Array Value} (h : ∀ u ∈ z.toList, p u) (n : Nat) : ∀ u ∈ (Builtin.zeroCells z n).toList, p u := by
  intro u hu
  have hm : u ∈ Builtin.zeroCells z n := by simpa using hu
  unfold Builtin.zeroCells at hm
  simp at hm
  obtain ⟨i, h1, h2⟩ := hm
  have hz : 0 < z.size := Nat.pos_of_ne_zero (fun e => by rw [e, Nat.mul_zero] at h1; omega)
  have hi : i % z.size < z.size := Nat.mod_lt _ hz
  rw [getElem!_pos z _ hi] at h2
  exact h u (by rw [← h2]; simp)
theorem only_append {p : Value → Prop} {l m : List Value} (h : ∀ u ∈ l, p u) (k : ∀ u ∈ m, p u) : ∀ u ∈ l ++ m, p u := fun u hu => (List.mem_append.1 hu).elim (h u) (k u)
theorem Only.later {p : Value → Prop} {w w' : World} {v : Value} (h : Only p w v) (hk : ∀ g, v.ownBlock = some g → w'.heap[g]? = w.heap[g]?) : Only p w' v := fun g hg j u hu => by
  rw [World.cell?_of_block (a := ⟨g, j, none⟩) (hk g hg)] at hu
  exact h g hg j u hu

/-- What the elements of a row are, cell by cell. -/
structure Cls (α : Type) where
  cells : α → List Value
  size : Nat
  bytes : Nat
  p : Value → Prop
  pos : 0 < size
  len : ∀ x, (cells x).length = size
  one : ∀ x, ∀ u ∈ cells x, u.oneCell' = true
  ok : ∀ x, ∀ u ∈ cells x, p u
namespace Cls
variable {α : Type} (C : Cls α)
/-- The program's types of such rows and their elements. -/
def At (P : Program) (t e : TypeId) : Prop :=
  P.underlying t = some (.slice e) ∧ ∃ i z, P.info? e = some i ∧ i.zero = some z ∧ i.size = C.size ∧ i.bytes = C.bytes ∧ z.cells.size = C.size ∧ ∀ u ∈ z.cells.toList, C.p u
theorem atOf {P : Program} {t e : TypeId} {z : Value} (ht : P.underlying t = some (.slice e)) (h : (P.info? e).map (fun i => (i.zero, i.size, i.bytes)) = some (some z, C.size, C.bytes)) (hz : z.cells.size = C.size) (hp : ∀ u ∈ z.cells.toList, C.p u) : C.At P t e := by
  cases hi : P.info? e with
  | none => rw [hi] at h; simp at h
  | some i => rw [hi] at h; simp at h; exact ⟨ht, i, z, hi, h.1, h.2.1, h.2.2, hz, hp⟩
theorem flat_len (L : List α) : (L.flatMap C.cells).length = L.length * C.size := by
  induction L with
  | nil => simp
  | cons x r ih => rw [List.flatMap_cons, List.length_append, ih, C.len, List.length_cons, Nat.add_mul]; omega
theorem flat_at : ∀ (L : List α) (j i : Nat) (x : α), L[j]? = some x → i < C.size → (L.flatMap C.cells)[j * C.size + i]? = (C.cells x)[i]?
  | [], j, i, x, h, _ => by simp at h
  | y :: r, 0, i, x, h, hi => by
    simp only [List.getElem?_cons_zero, Option.some.injEq] at h
    subst h
    rw [Nat.zero_mul, Nat.zero_add, List.flatMap_cons, List.getElem?_append_left (by rw [C.len]; exact hi)]
  | y :: r, j + 1, i, x, h, hi => by
    simp only [List.getElem?_cons_succ] at h
    rw [List.flatMap_cons, List.getElem?_append_right (by rw [C.len, Nat.add_mul]; omega), C.len, show (j + 1) * C.size + i - C.size = j * C.size + i by rw [Nat.add_mul]; omega]
    exact flat_at r j i x h hi
theorem flat_ok (L : List α) : ∀ u ∈ L.flatMap C.cells, C.p u := fun u hu => by
  obtain ⟨x, _, hx⟩ := List.mem_flatMap.1 hu
  exact C.ok x u hx
theorem flat_one (L : List α) : ∀ u ∈ L.flatMap C.cells, u.oneCell' = true := fun u hu => by
  obtain ⟨x, _, hx⟩ := List.mem_flatMap.1 hu
  exact C.one x u hx
/-- In the world w the slice ⟨a, n, cap⟩ holds just these elements. -/
def Has (w : World) (a : Option Addr) (n cap : Nat) (L : List α) : Prop :=
  L.length = n ∧ n ≤ cap ∧ cap ≤ 9223372036854775807 ∧ (a = none → cap = 0) ∧ (n = 0 ∨ ∃ b off, a = some ⟨b, off, none⟩ ∧ ∀ (j : Nat) (x : α), L[j]? = some x → ∀ (i : Nat) u, (C.cells x)[i]? = some u → w.cell? ⟨b, off + j * C.size + i, none⟩ = some u)
/-- A row of one's own that holds these elements, and nothing else in its block. -/
def Own (w : World) (base : Nat) (e : TypeId) (v : Value) (L : List α) : Prop := w.ownsRow base e C.size v L.length (L.flatMap C.cells) ∧ Only C.p w v
variable {C}
theorem Has.len {w : World} {a : Option Addr} {n cap : Nat} {L : List α} (h : C.Has w a n cap L) : L.length = n := h.1
theorem Has.bound {w : World} {a : Option Addr} {n cap : Nat} {L : List α} (h : C.Has w a n cap L) : n ≤ cap ∧ cap ≤ 9223372036854775807 := ⟨h.2.1, h.2.2.1⟩
theorem Has.nil (w : World) : C.Has w none 0 0 [] := ⟨rfl, Nat.le_refl _, by omega, fun _ => rfl, .inl rfl⟩
theorem Has.void (w : World) (a : Addr) {cap : Nat} (h : cap ≤ 9223372036854775807) : C.Has w (some a) 0 cap [] := ⟨rfl, Nat.zero_le _, h, fun e => (by cases e), .inl rfl⟩
theorem Has.at {w : World} {a : Option Addr} {n cap : Nat} {L : List α} (h : C.Has w a n cap L) (hn : 0 < n) : ∃ b off, a = some ⟨b, off, none⟩ ∧ ∀ (j : Nat) (x : α), L[j]? = some x → ∀ (i : Nat) u, (C.cells x)[i]? = some u → w.cell? ⟨b, off + j * C.size + i, none⟩ = some u := by
  rcases h.2.2.2.2 with h0 | h0
  · omega
  · exact h0
theorem Has.kept {w w' : World} {a : Option Addr} {n cap : Nat} {L : List α} (h : C.Has w a n cap L) (hk : ∀ (q : Addr) u, w.cell? q = some u → (∀ b off, a = some ⟨b, off, none⟩ → q.block = b) → w'.cell? q = some u) : C.Has w' a n cap L :=
  ⟨h.1, h.2.1, h.2.2.1, h.2.2.2.1, h.2.2.2.2.imp id fun ⟨b, off, e, hc⟩ => ⟨b, off, e, fun j x hj i u hu => hk _ _ (hc j x hj i u hu) fun b' off' e' => by rw [e] at e'; exact (Addr.mk.inj (Option.some.inj e')).1⟩⟩
theorem Has.later {w w' : World} {a : Option Addr} {n cap : Nat} {L : List α} (h : C.Has w a n cap L) (hb : Below w.heap.size w w') : C.Has w' a n cap L := h.kept fun _ _ hq _ => cell_later hb hq
/-- A part of it. -/
theorem Has.part {w : World} {b off n cap : Nat} {L : List α} (h : C.Has w (some ⟨b, off, none⟩) n cap L) {i j c : Nat} (hi : i ≤ j) (hj : j ≤ n) (hc : j - i ≤ c) (hc2 : c ≤ 9223372036854775807) : C.Has w (some ⟨b, off + i * C.size, none⟩) (j - i) c ((L.drop i).take (j - i)) := by
  have hl := h.len
  refine ⟨by rw [List.length_take, List.length_drop]; omega, hc, hc2, fun e => (by cases e), ?_⟩
  by_cases h0 : j - i = 0
  · exact .inl h0
  · refine .inr ⟨b, off + i * C.size, rfl, fun k x hk q u hu => ?_⟩
    obtain ⟨b', off', e, hcl⟩ := h.at (by omega)
    simp only [Option.some.injEq, Addr.mk.injEq, and_true] at e
    obtain ⟨rfl, rfl⟩ := e
    have hk2 : k < j - i := by
      rcases Nat.lt_or_ge k (j - i) with h9 | h9
      · exact h9
      · rw [List.getElem?_eq_none (by rw [List.length_take]; omega)] at hk; cases hk
    rw [List.getElem?_take_of_lt hk2, List.getElem?_drop] at hk
    have h9 := hcl (i + k) x hk q u hu
    rw [Nat.add_mul] at h9
    rw [show off + i * C.size + k * C.size + q = off + (i * C.size + k * C.size) + q by omega]
    exact h9
/-- What grows in a block of other cells leaves it as it was. -/
theorem Has.aside {w w' : World} {v : Value} {a : Option Addr} {n cap : Nat} {L : List α} (h : C.Has w a n cap L) {p : Value → Prop} (ho : Only p w v) (hg : w.grownBy w' v.ownBlock) (hno : ∀ x : α, ∃ (i : Nat) (u : Value), (C.cells x)[i]? = some u ∧ ¬ p u) : C.Has w' a n cap L := by
  refine ⟨h.1, h.2.1, h.2.2.1, h.2.2.2.1, ?_⟩
  rcases h.2.2.2.2 with h0 | ⟨b, off, e, hc⟩
  · exact .inl h0
  · by_cases h0 : n = 0
    · exact .inl h0
    · refine .inr ⟨b, off, e, ?_⟩
      obtain ⟨x0, hx0⟩ : ∃ x0, L[0]? = some x0 := ⟨L[0]'(by rw [h.1]; omega), List.getElem?_eq_getElem _⟩
      obtain ⟨i0, u0, hu0, hp⟩ := hno x0
      have hc0 := hc 0 x0 hx0 i0 u0 hu0
      have hlt : b < w.heap.size := by
        rcases Nat.lt_or_ge b w.heap.size with h9 | h9
        · exact h9
        · rw [World.cell?, Array.getElem?_eq_none h9] at hc0; cases hc0
      have hk := hg.block b hlt (fun e2 => hp (ho b e2.symm _ _ hc0))
      intro j x hj i u hu
      rw [World.cell?_of_block (a := ⟨b, off + j * C.size + i, none⟩) hk]
      exact hc j x hj i u hu
theorem Own.nil (w : World) (base : Nat) (e : TypeId) : C.Own w base e (.slice none 0 0) [] := ⟨World.ownsRow_nil _ _ _ _, only_nil _ _⟩
theorem Own.kept {w w' : World} {base : Nat} {e : TypeId} {v : Value} {L : List α} (h : C.Own w base e v L) (hk : ∀ k, v.ownBlock = some k → base ≤ k → k < w.heap.size → w'.heap[k]? = w.heap[k]?) : C.Own w' base e v L := by
  obtain ⟨⟨h1, h2⟩, h3⟩ := h
  rcases h2 with ⟨rfl, h0⟩ | ⟨g, cap, cur, rfl, hbg, hg, h4, h5, h6, h7⟩
  · exact ⟨⟨h1, .inl ⟨rfl, h0⟩⟩, only_nil _ _⟩
  · have hlt : g < w.heap.size := (Array.getElem?_eq_some_iff.1 hg).1
    have hg' : w'.heap[g]? = w.heap[g]? := hk g rfl hbg hlt
    exact ⟨⟨h1, .inr ⟨g, cap, cur, rfl, hbg, hg'.trans hg, h4, h5, h6, h7⟩⟩, h3.later fun g2 hg2 => by simp [Value.ownBlock] at hg2; subst hg2; exact hg'⟩
theorem Own.later {w w' : World} {base : Nat} {e : TypeId} {v : Value} {L : List α} (h : C.Own w base e v L) (hb : Below w.heap.size w w') : C.Own w' base e v L := h.kept fun k _ _ hk => hb.block k hk
theorem Own.base {w : World} {base : Nat} {e : TypeId} {v : Value} {L : List α} (h : C.Own w base e v L) (k : Nat) (hk : v.ownBlock = some k) : base ≤ k := by
  rcases h.1.2 with ⟨rfl, _⟩ | ⟨g, cap, cur, rfl, hbg, _⟩
  · simp [Value.ownBlock] at hk
  · simp [Value.ownBlock] at hk
    omega
theorem Own.lt {w : World} {base : Nat} {e : TypeId} {v : Value} {L : List α} (h : C.Own w base e v L) (k : Nat) (hk : v.ownBlock = some k) : k < w.heap.size := by
  rcases h.1.2 with ⟨rfl, _⟩ | ⟨g, cap, cur, rfl, hbg, hg, _⟩
  · simp [Value.ownBlock] at hk
  · simp [Value.ownBlock] at hk
    subst hk
    exact (Array.getElem?_eq_some_iff.1 hg).1
/-- What grows in another block leaves it as it was. -/
theorem Own.beside {w w' : World} {base : Nat} {e : TypeId} {v : Value} {L : List α} (h : C.Own w base e v L) {row : Option Nat} (hg : w.grownBy w' row) (hne : ∀ k, v.ownBlock = some k → row ≠ some k) : C.Own w' base e v L :=
  h.kept fun k hk _ hlt => hg.block k hlt fun e => hne k hk e.symm
theorem Own.slice {w : World} {base : Nat} {e : TypeId} {v : Value} {L : List α} (h : C.Own w base e v L) : ∃ (a : Option Addr) (cap : Nat), v = .slice a L.length cap ∧ C.Has w a L.length cap L := by
  rcases h.1.2 with ⟨rfl, h0⟩ | ⟨g, cap, cur, rfl, hbg, hg, hnc, hcm, hcs, htake⟩
  · exact ⟨none, 0, by rw [h0], by rw [h0]; exact ⟨h0, Nat.le_refl _, by omega, fun _ => rfl, .inl rfl⟩⟩
  · refine ⟨_, cap, rfl, rfl, hnc, by unfold maxLen at hcm; omega, fun e => (by cases e), .inr ⟨g, 0, rfl, fun j x hj i u hu => ?_⟩⟩
    have hi : i < C.size := by
      rcases Nat.lt_or_ge i C.size with h9 | h9
      · exact h9
      · rw [List.getElem?_eq_none (by rw [C.len]; exact h9)] at hu; cases hu
    have h9 := h.1.cells (g := g) rfl (j * C.size + i) u (by rw [C.flat_at L j i x hj hi]; exact hu)
    rw [add_plain] at h9
    rw [Nat.add_assoc]
    exact h9
/-- What a value leads to is what another one led to, or new. -/
def New (w : World) (v v' : Value) : Prop := ∀ j, v'.ownBlock = some j → v.ownBlock = some j ∨ w.heap.size ≤ j
/-- More elements behind a row of one's own. -/
theorem run_append {P : Program} {t e : TypeId} (hA : C.At P t e) (w : World) (ty : TypeId) (base : Nat) (v : Value) (L : List α) (h : C.Own w base e v L)
    (ad : Addr) (m c : Nat) (M : List α) (hm : M.length = m) (hnews : ∀ j u, (M.flatMap C.cells)[j]? = some u → w.cell? (ad.add j) = some u)
    (h63 : L.length + m ≤ maxLen) (hbytes : (L.length + m) * C.bytes ≤ 140737488355328) (hbase : base ≤ w.heap.size) :
    ∃ v' w', (Builtin.append_ #[t, t] ty #[v, .slice (some ad) m c]).run P w = .ok v' w' ∧ C.Own w' base e v' (L ++ M) ∧ w.grownBy w' v.ownBlock ∧ New w v v' := by
  obtain ⟨ht, i, z, hi, hz, hsize, hby, hzs, hzp⟩ := hA
  obtain ⟨hown, hcl⟩ := h
  have hnl : (M.flatMap C.cells).length = m * C.size := by rw [C.flat_len, hm]
  obtain ⟨v', w', hr, h2, h3, h4⟩ := run_append_own (P := P) w base t ty e i z C.size C.bytes ht hi hz hsize hby hzs C.pos v L.length (L.flatMap C.cells) hown ad m c (M.flatMap C.cells) hnl hnews (C.flat_one M) h63 hbytes hbase
  have h2' : w'.ownsRow base e C.size v' (L ++ M).length ((L ++ M).flatMap C.cells) := by rw [List.length_append, List.flatMap_append, hm]; exact h2
  have hzl : ∀ u ∈ (L.flatMap C.cells), C.p u := C.flat_ok L
  have hml : ∀ u ∈ (M.flatMap C.cells), C.p u := C.flat_ok M
  suffices hk : Only C.p w' v' ∧ New w v v' from ⟨v', w', hr, ⟨h2', hk.1⟩, h3, hk.2⟩
  rw [← hsize] at hnl hzs hown
  rw [← hby] at hbytes
  rcases hown.2 with ⟨rfl, h0⟩ | ⟨g, cap, cur, rfl, hbg, hg, hnc', hcm, hcs, htake⟩
  · rw [h0] at hbytes h63
    rcases Nat.eq_zero_or_pos m with rfl | hM
    · obtain rfl := h4.2 ⟨rfl, rfl⟩
      exact ⟨only_nil _ _, fun j hj => by simp [Value.ownBlock] at hj⟩
    have er := run_append_nil (P := P) w t ty e i z ht hi hz ad m c (M.flatMap C.cells) hnl hnews hM (by simp only [maxLen] at h63; omega) (by simp only [Nat.zero_add] at hbytes; omega)
    rw [er] at hr
    simp only [Result.ok.injEq] at hr
    obtain ⟨rfl, rfl⟩ := hr
    exact ⟨only_block (heap_alloc_new w.drew _) (by simp only [Array.toList_append]; exact only_append hml (only_zeros hzp _)), fun j hj => .inr (by simp [Value.ownBlock] at hj; omega)⟩
  · by_cases hroom : L.length + m ≤ cap
    · have er := run_append_room (P := P) w t ty e i ht hi g L.length cap cur hg ad m c (M.flatMap C.cells) hnl hnews (C.flat_one M) hroom (by rw [hnl, hcs, ← Nat.add_mul]; exact Nat.mul_le_mul_right _ hroom)
      rw [er] at hr
      simp only [Result.ok.injEq] at hr
      obtain ⟨rfl, rfl⟩ := hr
      have hcu : ∀ u ∈ cur.toList, C.p u := fun u hu => by
        obtain ⟨j, hj, e3⟩ := List.getElem_of_mem hu
        refine hcl g rfl j u ?_
        rw [cell_of_row w g j cur e (0, 0) hg, ← e3]
        simp
      exact ⟨only_block (setRow_heap w g cur _ e _ hg) (only_append (only_append (fun u hu => hcu u (List.mem_of_mem_take hu)) hml) (fun u hu => hcu u (List.mem_of_mem_drop hu))), fun j hj => .inl hj⟩
    · have holds : ∀ j u, (L.flatMap C.cells)[j]? = some u → w.cell? ((⟨g, 0, none⟩ : Addr).add j) = some u := hown.cells (g := g) rfl
      have er := run_append_grow (P := P) w t ty e i z ht hi hz ⟨g, 0, none⟩ L.length cap (L.flatMap C.cells) hown.1 holds ad m c (M.flatMap C.cells) hnl hnews (by omega) (by simp only [maxLen] at h63; omega) (growslice_fits (by omega) hbytes)
      rw [er] at hr
      simp only [Result.ok.injEq] at hr
      obtain ⟨rfl, rfl⟩ := hr
      exact ⟨only_block (heap_alloc_new w.drew _) (by simp only [Array.toList_append]; exact only_append (only_append hzl hml) (only_zeros hzp _)), fun j hj => .inr (by simp [Value.ownBlock] at hj; omega)⟩
theorem wpList_append {P : Program} {t e : TypeId} (hA : C.At P t e) {w : World} {ops : Array Oper} {rest : List Oper} {o : Oper} {act : Act} {Q : Exit → Act → World → Prop} (hgd : o.guard = none) (s x : Operand)
    (ho : o.op = .call { callee := .builtin .append, args := #[s, x], argTypes := #[t, t] })
    (base : Nat) (v : Value) (L : List α) (hs : act.eval s = v) (h : C.Own w base e v L) (ad : Addr) (m c : Nat) (M : List α) (hx : act.eval x = .slice (some ad) m c) (hm : M.length = m)
    (hnews : ∀ j u, (M.flatMap C.cells)[j]? = some u → w.cell? (ad.add j) = some u) (h63 : L.length + m ≤ maxLen) (hbytes : (L.length + m) * C.bytes ≤ 140737488355328) (hbase : base ≤ w.heap.size)
    (hk : ∀ v' w', C.Own w' base e v' (L ++ M) → w.grownBy w' v.ownBlock → New w v v' → wpList P ops Q rest (act.put o.dst v') w') : wpList P ops Q (o :: rest) act w := by
  obtain ⟨v', w', hr, h1, h2, h3⟩ := run_append (P := P) hA w o.type base v L h ad m c M hm hnews h63 hbytes hbase
  refine wpList_plain hgd fun _ hK => ?_
  unfold Oper.wp execOp
  simp only [ho, resolve, invoke, builtin, Sem.run_bind, Sem.run_pure, Result.andThen_ok, List.map_toArray, List.map_cons, List.map_nil, hs, hx, hr]
  exact hK _ _ (hk v' w' h1 h2 h3)
theorem step_append {P : Program} {t e : TypeId} (hA : C.At P t e) {ops : Array Oper} {o : Oper} {act : Act} {w : World} {K : Act → World → Prop} {Q9 : Exit → Act → World → Prop} {E : Prop} (hgd : o.guard = none) (s x : Operand)
    (ho : o.op = .call { callee := .builtin .append, args := #[s, x], argTypes := #[t, t] })
    (base : Nat) (v : Value) (L : List α) (hs : act.eval s = v) (h : C.Own w base e v L) (ad : Addr) (m c : Nat) (M : List α) (hx : act.eval x = .slice (some ad) m c) (hm : M.length = m)
    (hnews : ∀ j u, (M.flatMap C.cells)[j]? = some u → w.cell? (ad.add j) = some u) (h63 : L.length + m ≤ maxLen) (hbytes : (L.length + m) * C.bytes ≤ 140737488355328) (hbase : base ≤ w.heap.size)
    (hk : ∀ v' w', C.Own w' base e v' (L ++ M) → w.grownBy w' v.ownBlock → New w v v' → K (act.put o.dst v') w') : if Region.wanted o (yielded ops act.tmps) = true then Oper.wp P o act w K Q9 else E := by
  have hwt : Region.wanted o (yielded ops act.tmps) = true := by simp [Region.wanted, hgd]
  rw [if_pos hwt]
  obtain ⟨v', w', hr, h1, h2, h3⟩ := run_append (P := P) hA w o.type base v L h ad m c M hm hnews h63 hbytes hbase
  unfold Oper.wp execOp
  simp only [ho, resolve, invoke, builtin, Sem.run_bind, Sem.run_pure, Result.andThen_ok, List.map_toArray, List.map_cons, List.map_nil, hs, hx, hr]
  exact hk v' w' h1 h2 h3
/-- The cells of one new element. -/
theorem news_one (w : World) (x : α) (e : TypeId) : ∀ j u, ([x].flatMap C.cells)[j]? = some u → (w.alloc (.cells (C.cells x).toArray e)).cell? ((⟨w.heap.size, 0, none⟩ : Addr).add j) = some u := by
  intro j u hu
  rw [add_plain, Nat.zero_add, blk_cell (blk_new w _ e)]
  simpa using hu
/-- A literal. -/
theorem Has.lit (w : World) (L : List α) (e : TypeId) {n : Nat} (hn : L.length = n) (h63 : n ≤ 9223372036854775807) : C.Has (w.alloc (.cells (L.flatMap C.cells).toArray e)) (some ⟨w.heap.size, 0, none⟩) n n L := by
  subst hn
  refine ⟨rfl, Nat.le_refl _, h63, fun e => (by cases e), .inr ⟨w.heap.size, 0, rfl, fun j x hj i u hu => ?_⟩⟩
  have hi : i < C.size := by
    rcases Nat.lt_or_ge i C.size with h9 | h9
    · exact h9
    · rw [List.getElem?_eq_none (by rw [C.len]; exact h9)] at hu; cases hu
  rw [blk_cell (blk_new w _ e), Nat.zero_add]
  have h9 := C.flat_at L j i x hj hi
  rw [hu] at h9
  simpa using h9
/-- The cells of all elements of a slice. -/
theorem Has.news {w : World} {b off n cap : Nat} {L : List α} (h : C.Has w (some ⟨b, off, none⟩) n cap L) : ∀ j u, (L.flatMap C.cells)[j]? = some u → w.cell? ((⟨b, off, none⟩ : Addr).add j) = some u := by
  intro j u hu
  have hj : j < L.length * C.size := by
    rw [← C.flat_len]
    rcases Nat.lt_or_ge j (L.flatMap C.cells).length with h9 | h9
    · exact h9
    · rw [List.getElem?_eq_none h9] at hu; cases hu
  have hd : j / C.size < L.length := Nat.div_lt_of_lt_mul (by rw [Nat.mul_comm]; exact hj)
  have hm : j % C.size < C.size := Nat.mod_lt _ C.pos
  have e1 : j / C.size * C.size + j % C.size = j := by rw [Nat.mul_comm]; exact Nat.div_add_mod j C.size
  obtain ⟨x, hx⟩ : ∃ x, L[j / C.size]? = some x := ⟨L[j / C.size]'hd, List.getElem?_eq_getElem _⟩
  obtain ⟨b', off', e, hc⟩ := h.at (by rw [← h.len]; exact Nat.lt_of_le_of_lt (Nat.zero_le _) hd)
  simp only [Option.some.injEq, Addr.mk.injEq, and_true] at e
  obtain ⟨rfl, rfl⟩ := e
  have hu2 : (C.cells x)[j % C.size]? = some u := by
    rw [← C.flat_at L _ _ x hx hm, e1]; exact hu
  have h9 := hc _ x hx _ u hu2
  rw [Nat.add_assoc, e1] at h9
  rw [add_plain]
  exact h9
end Cls
end Go.Proofs.Ytdhfnlpolelcpaa
