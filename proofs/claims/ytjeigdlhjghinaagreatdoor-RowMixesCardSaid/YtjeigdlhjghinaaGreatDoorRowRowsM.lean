/-
  Rows of rows of fractions in a row of the call's own: a row behind the others. Of no program.
-/
import Derived.Test.YtjeigdlhjghinaaGreatDoorG18
namespace Go.Proofs.YtjeigdlhjghinaaGreatDoor
open Go.ChangeShapes Go.WideShapes Go.ChangeAt Go.RowKit Go.Deep

def slicesOnly (l : List Value) : Prop := ∀ u ∈ l, ∃ (a : Option Addr) (n c : Nat), u = .slice a n c
/-- The block that a value leads to holds nothing but slices. -/
def holdsSlices (w : World) (v : Value) : Prop := ∀ g, v.ownBlock = some g → ∀ (j : Nat) u, w.cell? ⟨g, j, none⟩ = some u → ∃ (a : Option Addr) (n c : Nat), u = .slice a n c
theorem holdsSlices_nil (w : World) : holdsSlices w (.slice none 0 0) := fun g h => by simp [Value.ownBlock] at h
theorem holdsSlices.clean {w : World} {v : Value} (h : holdsSlices w v) : Go.Proofs.YtjeigdlhjghinaaGreatDoor.clean w v := fun g hg j k hc => by
  obtain ⟨a, n, c, e⟩ := h g hg j _ hc
  cases e
theorem slicesOnly_append {l m : List Value} (h : slicesOnly l) (k : slicesOnly m) : slicesOnly (l ++ m) := fun u hu => (List.mem_append.1 hu).elim (h u) (k u)
theorem holdsSlices_block {w : World} {g : Nat} {n c : Nat} {cur : Array Value} {e : TypeId} {fr : Nat × Nat} (hg : w.heap[g]? = some (.cells cur e fr)) (h : slicesOnly cur.toList) : holdsSlices w (.slice (some ⟨g, 0, none⟩) n c) := by
  intro g' hg' j u hc
  simp [Value.ownBlock] at hg'
  subst hg'
  rw [cell_of_row w g j cur e fr hg] at hc
  have hm : u ∈ cur := Array.mem_of_getElem? hc
  exact h _ (by simpa using hm)
theorem slicesOnly_zeros {z : Array Value} (h : slicesOnly z.toList) (n : Nat) : slicesOnly (Builtin.zeroCells z n).toList := by
  intro u hu
  have hm : u ∈ Builtin.zeroCells z n := by simpa using hu
  unfold Builtin.zeroCells at hm
  simp at hm
  obtain ⟨i, h1, h2⟩ := hm
  have hz : 0 < z.size := Nat.pos_of_ne_zero (fun e => by rw [e, Nat.mul_zero] at h1; omega)
  have hi : i % z.size < z.size := Nat.mod_lt _ hz
  rw [getElem!_pos z _ hi] at h2
  exact h u (by rw [← h2]; simp)
theorem wpList_append_slices {P : Program} (w : World) {ops : Array Oper} {rest : List Oper} {o : Oper} {a : Act} {Q : Exit → Act → World → Prop} (hgd : o.guard = none) (s x : Operand) (t : TypeId)
    (ho : o.op = .call { callee := .builtin .append, args := #[s, x], argTypes := #[t, t] })
    (base : Nat) (e : TypeId) (i : TypeInfo) (z : Value) (size bytes : Nat) (ht : P.underlying t = some (.slice e)) (hi : P.info? e = some i) (hz : i.zero = some z)
    (hsize : i.size = size) (hby : i.bytes = bytes) (hzs : z.cells.size = size) (hsz : 0 < size)
    (v : Value) (n : Nat) (xs : List Value) (hs : a.eval s = v) (hown : w.ownsRow base e size v n xs)
    (ad : Addr) (m c : Nat) (news : List Value) (hx : a.eval x = .slice (some ad) m c) (hl : news.length = m * size) (hnews : ∀ j u, news[j]? = some u → w.cell? (ad.add j) = some u) (h1 : ∀ u ∈ news, u.oneCell' = true)
    (h63 : n + m ≤ maxLen) (hbytes : (n + m) * bytes ≤ 140737488355328) (hbase : base ≤ w.heap.size) (hm : 0 < m) (hcl : holdsSlices w v) (hzc : slicesOnly z.cells.toList) (hnc : slicesOnly news) (hxc : slicesOnly xs)
    (h : ∀ v' w', w'.ownsRow base e size v' (n + m) (xs ++ news) → w.grownBy w' v.ownBlock → holdsSlices w' v' → wpList P ops Q rest (a.put o.dst v') w') : wpList P ops Q (o :: rest) a w := by
  refine wpList_plain hgd fun _ hK => ?_
  obtain ⟨v', w', hr, h2, h3, h4⟩ := run_append_own (P := P) w base t o.type e i z size bytes ht hi hz hsize hby hzs hsz v n xs hown ad m c news hl hnews h1 h63 hbytes hbase
  have h5 : holdsSlices w' v' := by
    subst hsize hby
    rcases hown.2 with ⟨rfl, rfl⟩ | ⟨g, cap, cur, rfl, hbg, hg, hnc', hcm, hcs, htake⟩
    · have er := run_append_nil (P := P) w t o.type e i z ht hi hz ad m c news hl hnews hm (by simp only [maxLen] at h63; omega) (by simp only [Nat.zero_add] at hbytes; omega)
      rw [er] at hr
      simp only [Result.ok.injEq] at hr
      obtain ⟨rfl, rfl⟩ := hr
      exact holdsSlices_block (heap_alloc_new w.drew _) (by simp only [Array.toList_append]; exact slicesOnly_append hnc (slicesOnly_zeros hzc _))
    · by_cases hroom : n + m ≤ cap
      · have er := run_append_room (P := P) w t o.type e i ht hi g n cap cur hg ad m c news hl hnews h1 hroom (by rw [hl, hcs, ← Nat.add_mul]; exact Nat.mul_le_mul_right _ hroom)
        rw [er] at hr
        simp only [Result.ok.injEq] at hr
        obtain ⟨rfl, rfl⟩ := hr
        have hcu : slicesOnly cur.toList := fun u hu => by
          obtain ⟨j, hj, e3⟩ := List.getElem_of_mem hu
          refine hcl g rfl j u ?_
          rw [cell_of_row w g j cur e (0, 0) hg, ← e3]
          simp
        refine holdsSlices_block (setRow_heap w g cur _ e _ hg) ?_
        refine slicesOnly_append (slicesOnly_append (fun u hu => hcu u (List.mem_of_mem_take hu)) hnc) (fun u hu => hcu u (List.mem_of_mem_drop hu))
      · have holds : ∀ j u, xs[j]? = some u → w.cell? ((⟨g, 0, none⟩ : Addr).add j) = some u := hown.cells (g := g) rfl
        have er := run_append_grow (P := P) w t o.type e i z ht hi hz ⟨g, 0, none⟩ n cap xs hown.1 holds ad m c news hl hnews (by omega) (by simp only [maxLen] at h63; omega) (growslice_fits (by omega) hbytes)
        rw [er] at hr
        simp only [Result.ok.injEq] at hr
        obtain ⟨rfl, rfl⟩ := hr
        exact holdsSlices_block (heap_alloc_new w.drew _) (by simp only [Array.toList_append]; exact slicesOnly_append (slicesOnly_append hxc hnc) (slicesOnly_zeros hzc _))
  unfold Oper.wp execOp
  simp only [ho, resolve, invoke, builtin, Sem.run_bind, Sem.run_pure, Result.andThen_ok, List.map_toArray, List.map_cons, List.map_nil, hs, hx, hr]
  exact hK _ _ (h v' w' h2 h3 h5)
/-- A row of fractions isn't touched by what grows in a block that holds but slices. -/
theorem Fxs.aside {w w' : World} {v : Value} {a : Option Addr} {n c : Nat} {L : List Fx} (h : Fxs w a n c L) (hc : holdsSlices w v) (hg : w.grownBy w' v.ownBlock) : Fxs w' a n c L := by
  refine ⟨h.1, h.2.1, h.2.2.1, h.2.2.2.1, fun x hx => Fx.aside (h.ok hx) hc.clean hg, h.2.2.2.2.2.imp id fun ⟨b, off, e, hcl⟩ => ⟨b, off, e, fun j hj => ?_⟩⟩
  obtain ⟨h1, h2, h3⟩ := hcl j hj
  have hlt : b < w.heap.size := by
    rcases Nat.lt_or_ge b w.heap.size with h9 | h9
    · exact h9
    · rw [World.cell?, Array.getElem?_eq_none h9] at h1; cases h1
  have hne : some b ≠ v.ownBlock := fun e2 => by
    obtain ⟨_, _, _, e3⟩ := hc b e2.symm _ _ h1
    cases e3
  have hk := hg.block b hlt hne
  exact ⟨(World.cell?_of_block hk).trans h1, (World.cell?_of_block hk).trans h2, (World.cell?_of_block hk).trans h3⟩
/-- A slice as it stands in memory. -/
structure Sx where
  a : Option Addr
  n : Nat
  c : Nat
def Sx.val (x : Sx) : Value := .slice x.a x.n x.c
def Sx.zero : Sx := ⟨none, 0, 0⟩
theorem slicesOnly_map (XS : List Sx) : slicesOnly (XS.map Sx.val) := fun u hu => by
  obtain ⟨x, _, rfl⟩ := List.mem_map.1 hu
  exact ⟨_, _, _, rfl⟩
/-- Rows of fractions, side by side in a row of the call's own. -/
def OwnF (w : World) (base : Nat) (e : TypeId) (v : Value) (LL : List (List Fx)) : Prop :=
  ∃ XS : List Sx, w.ownsRow base e 1 v XS.length (XS.map Sx.val) ∧ holdsSlices w v ∧ XS.length = LL.length ∧ ∀ j, j < LL.length → Fxs w (XS.getD j Sx.zero).a (XS.getD j Sx.zero).n (XS.getD j Sx.zero).c (LL.getD j [])
theorem OwnF.nil (w : World) (base : Nat) (e : TypeId) : OwnF w base e (.slice none 0 0) [] := ⟨[], World.ownsRow_nil _ _ _ _, holdsSlices_nil _, rfl, fun j hj => by simp at hj⟩
theorem OwnF.later {w w' : World} {base : Nat} {e : TypeId} {v : Value} {LL : List (List Fx)} (h : OwnF w base e v LL) (hb : Below w.heap.size w w') : OwnF w' base e v LL := by
  obtain ⟨XS, ⟨h1, h2⟩, h3, h4, h5⟩ := h
  refine ⟨XS, ?_, ?_, h4, fun j hj => (h5 j hj).later hb⟩
  · rcases h2 with ⟨rfl, h0⟩ | ⟨g, cap, cur, rfl, hbg, hg, q4, q5, q6, q7⟩
    · exact ⟨h1, .inl ⟨rfl, h0⟩⟩
    · exact ⟨h1, .inr ⟨g, cap, cur, rfl, hbg, blk_later hg hb, q4, q5, q6, q7⟩⟩
  · rcases h2 with ⟨rfl, h0⟩ | ⟨g, cap, cur, rfl, hbg, hg, q4, q5, q6, q7⟩
    · exact holdsSlices_nil _
    · intro g2 hg2 j u hu
      simp [Value.ownBlock] at hg2
      subst hg2
      rw [World.cell?_of_block (a := ⟨g, j, none⟩) (hb.block g (Array.getElem?_eq_some_iff.1 hg).1)] at hu
      exact h3 g rfl j u hu
theorem OwnF.base {w : World} {base : Nat} {e : TypeId} {v : Value} {LL : List (List Fx)} (h : OwnF w base e v LL) (k : Nat) (hk : v.ownBlock = some k) : base ≤ k := by
  obtain ⟨XS, h1, _⟩ := h
  rcases h1.2 with ⟨rfl, _⟩ | ⟨g, cap, cur, rfl, hbg, _⟩
  · simp [Value.ownBlock] at hk
  · simp [Value.ownBlock] at hk
    omega
theorem OwnF.out {w : World} {base : Nat} {e : TypeId} {v : Value} {LL : List (List Fx)} (h : OwnF w base e v LL) : ∃ (a : Option Addr) (cap : Nat), v = .slice a LL.length cap ∧ Fxss w a LL.length cap LL := by
  obtain ⟨XS, h1, _, h4, h5⟩ := h
  rcases h1.2 with ⟨rfl, h0⟩ | ⟨g, cap, cur, rfl, hbg, hg, hnc, hcm, hcs, htake⟩
  · have h0' : LL.length = 0 := by omega
    refine ⟨none, 0, by rw [h0'], rfl, by omega, by omega, fun _ => rfl, .inl h0'⟩
  · refine ⟨_, cap, by rw [h4], rfl, by omega, by unfold maxLen at hcm; omega, fun e => (by cases e), .inr ⟨g, 0, rfl, fun j hj => ⟨_, _, _, ?_, h5 j hj⟩⟩⟩
    have hj' : j < XS.length := by omega
    have h9 := h1.cells (g := g) rfl j (XS.getD j Sx.zero).val (by rw [List.getElem?_map, List.getElem?_eq_getElem hj', List.getD_eq_getElem?_getD, List.getElem?_eq_getElem hj']; rfl)
    rw [add_plain] at h9
    exact h9
/-- One more row behind the others. -/
theorem wpList_append_row2 {P : Program} (w : World) {ops : Array Oper} {rest : List Oper} {o : Oper} {act : Act} {Q : Exit → Act → World → Prop} (hgd : o.guard = none) (s x : Operand) (t : TypeId)
    (ho : o.op = .call { callee := .builtin .append, args := #[s, x], argTypes := #[t, t] })
    (base : Nat) (e : TypeId) (i : TypeInfo) (ht : P.underlying t = some (.slice e)) (hi : P.info? e = some i) (hz : i.zero = some (.slice none 0 0))
    (hsize : i.size = 1) (hby : i.bytes = 24) (v : Value) (LL : List (List Fx)) (hs : act.eval s = v) (hrow : OwnF w base e v LL)
    (ad : Addr) (a : Option Addr) (n c : Nat) (L : List Fx) (hx : act.eval x = .slice (some ad) 1 1)
    (hnew : w.cell? ad = some (.slice a n c)) (had : ad.add 0 = ad) (hL : Fxs w a n c L)
    (hlen : LL.length ≤ 1000000) (hbase : base ≤ w.heap.size)
    (h : ∀ v' w', OwnF w' base e v' (LL ++ [L]) → w.grownBy w' v.ownBlock → (∀ k, v.ownBlock = some k → base ≤ k) → holdsSlices w v → wpList P ops Q rest (act.put o.dst v') w') : wpList P ops Q (o :: rest) act w := by
  have hb9 := hrow.base
  obtain ⟨XS, h1, h2, h4, h5⟩ := hrow
  refine wpList_append_slices w hgd s x t ho base e i (.slice none 0 0) 1 24 ht hi hz hsize hby rfl (by decide) v XS.length (XS.map Sx.val) hs h1 ad 1 1 [.slice a n c] hx rfl (fun j u hu => ?_) (fun u hu => by rw [List.mem_singleton.1 hu]; rfl) (by unfold maxLen; omega) (by omega) hbase (by decide) h2 (fun u hu => ?_) (fun u hu => ⟨_, _, _, List.mem_singleton.1 hu⟩) (slicesOnly_map _) ?_
  · match j, hu with
    | 0, hu =>
      simp at hu
      rw [had, ← hu]; exact hnew
    | j + 1, hu => simp at hu
  · simp [Value.cells] at hu
    exact ⟨_, _, _, hu⟩
  intro v' w' hown hgrow hcl
  refine h v' w' ⟨XS ++ [⟨a, n, c⟩], by simpa [Sx.val] using hown, hcl, by simp [h4], fun j hj => ?_⟩ hgrow hb9 h2
  rw [List.length_append] at hj
  simp only [List.length_cons, List.length_nil] at hj
  by_cases hjl : j < LL.length
  · have e1 : (XS ++ [(⟨a, n, c⟩ : Sx)]).getD j Sx.zero = XS.getD j Sx.zero := by rw [List.getD_eq_getElem?_getD, List.getElem?_append_left (by omega), ← List.getD_eq_getElem?_getD]
    have e2 : (LL ++ [L]).getD j [] = LL.getD j [] := by rw [List.getD_eq_getElem?_getD, List.getElem?_append_left hjl, ← List.getD_eq_getElem?_getD]
    rw [e1, e2]
    exact (h5 j hjl).aside h2 hgrow
  · have hjj : j = LL.length := by omega
    have e1 : (XS ++ [(⟨a, n, c⟩ : Sx)]).getD j Sx.zero = ⟨a, n, c⟩ := by rw [List.getD_eq_getElem?_getD, List.getElem?_append_right (by omega), show j - XS.length = 0 by omega]; rfl
    have e2 : (LL ++ [L]).getD j [] = L := by rw [List.getD_eq_getElem?_getD, List.getElem?_append_right (by omega), show j - LL.length = 0 by omega]; rfl
    rw [e1, e2]
    exact hL.aside h2 hgrow
end Go.Proofs.YtjeigdlhjghinaaGreatDoor
