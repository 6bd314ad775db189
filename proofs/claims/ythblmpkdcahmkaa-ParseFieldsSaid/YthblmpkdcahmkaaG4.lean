/-
  Several texts of this claim as one, group 4.
-/
import Derived.Test.YthblmpkdcahmkaaG3
import Derived.Test.YthblmpkdcahmkaaG1
/-
  The same words at other places are read alike (layer 18). Of no program.
-/
namespace Go.Proofs.Ythblmpkdcahmkaa

/-- As far, as deep, and as good. -/
def Al (s s' : Ps) : Prop := s.i = s'.i ∧ s.deep = s'.deep ∧ (s.bad < 0 ↔ s'.bad < 0)
/-- The same words. -/
def Wal (W W' : List Lw) : Prop := ∀ i : Nat, (W[i]?).map (fun w => (w.k, w.t)) = (W'[i]?).map fun w => (w.k, w.t)
def AlF (f g : Ps → List Np × Ps) : Prop := ∀ s s', Al s s' → (f s).1 = (g s').1 ∧ Al (f s).2 (g s').2
section
variable {W W' : List Lw} {E E' : Nat} {N : List (List UInt8)}
theorem Wal.or (h : Wal W W') (i : Nat) : (W[i]? = none ∧ W'[i]? = none) ∨ ∃ k t p p', W[i]? = some ⟨k, t, p⟩ ∧ W'[i]? = some ⟨k, t, p'⟩ := by
  have h1 := h i
  cases h2 : W[i]? with
  | none =>
    rw [h2] at h1
    cases h3 : W'[i]? with
    | none => exact .inl ⟨rfl, rfl⟩
    | some y => rw [h3] at h1; cases h1
  | some x =>
    rw [h2] at h1
    cases h3 : W'[i]? with
    | none => rw [h3] at h1; cases h1
    | some y =>
      rw [h3] at h1
      obtain ⟨k, t, p⟩ := x
      obtain ⟨k', t', p'⟩ := y
      simp only [Option.map_some, Option.some.injEq, Prod.mk.injEq] at h1
      obtain ⟨rfl, rfl⟩ := h1
      exact .inr ⟨k, t, p, p', rfl, rfl⟩
theorem Wal.len (h : Wal W W') : W.length = W'.length := by
  have h1 := h W.length
  have h2 := h W'.length
  rw [List.getElem?_eq_none (Nat.le_refl _)] at h1
  rw [List.getElem?_eq_none (l := W') (Nat.le_refl _)] at h2
  have h3 : W'.length ≤ W.length := by
    rcases Nat.lt_or_ge W.length W'.length with h9 | h9
    · rw [List.getElem?_eq_getElem h9] at h1; cases h1
    · exact h9
  have h4 : W.length ≤ W'.length := by
    rcases Nat.lt_or_ge W'.length W.length with h9 | h9
    · rw [List.getElem?_eq_getElem h9] at h2; cases h2
    · exact h9
  omega
theorem al_i {s s' : Ps} (h : Al s s') : Al { s with i := s.i + 1 } { s' with i := s'.i + 1 } := ⟨by show s.i + 1 = s'.i + 1; rw [h.1], h.2⟩
theorem al_up {s s' : Ps} (h : Al s s') : Al { s with deep := s.deep - 1 } { s' with deep := s'.deep - 1 } := ⟨h.1, by show s.deep - 1 = s'.deep - 1; rw [h.2.1], h.2.2⟩
theorem pBad_al {s s' : Ps} (h : Al s s') : Al (pBad W E s) (pBad W' E' s') := by
  have a := pBad_i W E s
  have b := pBad_i W' E' s'
  exact ⟨a.1.trans (h.1.trans b.1.symm), a.2.1.trans (h.2.1.trans b.2.1.symm), by have := a.2.2.1; have := b.2.2.1; omega⟩
theorem pSees_al (hW : Wal W W') {s s' : Ps} (h : Al s s') (t : List UInt8) : pSees W s t = pSees W' s' t := by
  unfold pSees
  rw [h.1]
  rw [show decide (s.bad < 0) = decide (s'.bad < 0) from decide_eq_decide.2 h.2.2]
  rcases hW.or s'.i with ⟨e, e'⟩ | ⟨k, u, p, p', e, e'⟩ <;> rw [e, e']
theorem pKind_al (hW : Wal W W') {s s' : Ps} (h : Al s s') : pKind W s = pKind W' s' := by
  unfold pKind
  rw [h.1]
  rcases hW.or s'.i with ⟨e, e'⟩ | ⟨k, u, p, p', e, e'⟩ <;> rw [e, e'] <;> by_cases hb : s'.bad < 0
  · rw [if_pos hb, if_pos (h.2.2.2 hb)]
  · rw [if_neg hb, if_neg (fun h9 => hb (h.2.2.1 h9))]
  · rw [if_pos hb, if_pos (h.2.2.2 hb)]
  · rw [if_neg hb, if_neg (fun h9 => hb (h.2.2.1 h9))]
theorem pText_al (hW : Wal W W') {s s' : Ps} (h : Al s s') : pText W s = pText W' s' := by
  unfold pText
  rw [h.1]
  rcases hW.or s'.i with ⟨e, e'⟩ | ⟨k, u, p, p', e, e'⟩ <;> rw [e, e']
theorem pFree_al (hW : Wal W W') {s s' : Ps} (h : Al s s') : pFree W s = pFree W' s' := by
  unfold pFree
  rw [pKind_al hW h, pSees_al hW h, pSees_al hW h, pSees_al hW h, pSees_al hW h]
theorem pMust_al (hW : Wal W W') {s s' : Ps} (h : Al s s') (t : List UInt8) : Al (pMust W E t s) (pMust W' E' t s') := by
  unfold pMust
  rw [pSees_al hW h t]
  split
  · exact al_i h
  · exact pBad_al h
theorem pSmall_al (hW : Wal W W') {s s' : Ps} (h : Al s s') : (pSmall W E s).1 = (pSmall W' E' s').1 ∧ Al (pSmall W E s).2 (pSmall W' E' s').2 := by
  unfold pSmall
  rw [pKind_al hW h, pText_al hW h]
  split
  · exact ⟨rfl, al_i h⟩
  · exact ⟨rfl, pBad_al h⟩
theorem pLevel_al {s s' : Ps} (h : Al s s') : Al (pLevel W E s) (pLevel W' E' s') := by
  unfold pLevel
  rw [h.1, h.2.1]
  refine ⟨rfl, rfl, ?_⟩
  dsimp only
  split
  · exact (pBad_al (W := W) (W' := W') (E := E) (E' := E') h).2.2
  · exact h.2.2
theorem pAtom_al (hW : Wal W W') {f g : Ps → List Np × Ps} (hf : AlF f g) : AlF (pAtom W E N f) (pAtom W' E' N g) := by
  intro s s' h
  unfold pAtom
  rw [pKind_al hW h, pText_al hW h, pSees_al hW h, pSees_al hW h, pSees_al hW h, pSees_al hW h, pFree_al hW h]
  split
  · exact ⟨rfl, al_i h⟩
  split
  · exact ⟨rfl, al_i h⟩
  split
  · obtain ⟨a1, a2⟩ := pSmall_al (E := E) (E' := E') hW (pMust_al (E := E) (E' := E') hW (al_i h) [91])
    exact ⟨by dsimp only; rw [a1], pMust_al hW a2 [93]⟩
  split
  · obtain ⟨a1, a2⟩ := hf _ _ (pLevel_al (W := W) (W' := W') (E := E) (E' := E') h)
    exact ⟨a1, al_up (pMust_al hW a2 [41])⟩
  split
  · exact ⟨rfl, al_i h⟩
  · exact ⟨rfl, pBad_al h⟩
theorem pFac_al (hW : Wal W W') {f g f2 g2 : Ps → List Np × Ps} (hf : AlF f g) (hf2 : AlF f2 g2) : AlF (pFac W E N f f2) (pFac W' E' N g g2) := by
  intro s s' h
  unfold pFac
  rw [pSees_al hW h]
  split
  · have hl := pLevel_al (W := W) (W' := W') (E := E) (E' := E') h
    dsimp only
    by_cases hb : (pLevel W E s).bad < 0
    · rw [if_pos hb, if_pos (hl.2.2.1 hb)]
      obtain ⟨a1, a2⟩ := hf _ _ hl
      exact ⟨by rw [a1], al_up a2⟩
    · rw [if_neg hb, if_neg (fun h9 => hb (hl.2.2.2 h9))]
      exact ⟨rfl, al_up hl⟩
  · obtain ⟨a1, a2⟩ := pAtom_al (N := N) (E := E) (E' := E') hW hf2 s s' h
    dsimp only
    rw [pSees_al hW a2]
    split
    · rw [pSees_al hW (al_i a2)]
      split
      · obtain ⟨b1, b2⟩ := pSmall_al (E := E) (E' := E') hW (al_i (al_i a2))
        dsimp only at b1 b2 ⊢
        exact ⟨by rw [a1, b1], b2⟩
      · obtain ⟨b1, b2⟩ := pSmall_al (E := E) (E' := E') hW (al_i a2)
        exact ⟨by rw [a1, b1], b2⟩
    · exact ⟨a1, a2⟩
theorem pMany_al (hW : Wal W W') {f g : Ps → List Np × Ps} (hf : AlF f g) (a b : List UInt8) (oa ob : Int) : ∀ (n : Nat) (c : List Np) (s s' : Ps), Al s s' → (pMany W f a b oa ob n c s).1 = (pMany W' g a b oa ob n c s').1 ∧ Al (pMany W f a b oa ob n c s).2 (pMany W' g a b oa ob n c s').2
  | 0, c, s, s', h => ⟨rfl, h⟩
  | n + 1, c, s, s', h => by
    unfold pMany
    rw [pSees_al hW h, pSees_al hW h]
    split
    · obtain ⟨a1, a2⟩ := hf _ _ (al_i h)
      dsimp only
      rw [a1]
      exact pMany_al hW hf a b oa ob n _ _ _ a2
    · exact ⟨rfl, h⟩
theorem many_al (hW : Wal W W') {f g f2 g2 : Ps → List Np × Ps} (hf : AlF f g) (hf2 : AlF f2 g2) (a b : List UInt8) (oa ob : Int) : AlF (fun s => pMany W f a b oa ob W.length (f2 s).1 (f2 s).2) (fun s => pMany W' g a b oa ob W'.length (g2 s).1 (g2 s).2) := fun s s' h => by
  obtain ⟨a1, a2⟩ := hf2 s s' h
  dsimp only
  rw [a1, hW.len]
  exact pMany_al hW hf a b oa ob _ _ _ _ a2
theorem pTerm_al (hW : Wal W W') {f g : Ps → List Np × Ps} (hf : AlF f g) : AlF (pTerm W f) (pTerm W' g) := many_al hW hf hf [42] [47] 9 10
theorem pExpr_al (hW : Wal W W') {f g : Ps → List Np × Ps} (hf : AlF f g) : AlF (pExpr W f) (pExpr W' g) := fun s s' h => by
  have hm := many_al hW (pTerm_al hW hf) (pTerm_al hW hf) [43] [45] 7 8 s s' h
  unfold pExpr
  by_cases hb : 0 ≤ s.bad
  · rw [if_pos hb, if_pos (show 0 ≤ s'.bad by have := h.2.2; omega)]; exact ⟨rfl, h⟩
  · rw [if_neg hb, if_neg (show ¬ 0 ≤ s'.bad by have := h.2.2; omega)]; exact hm
theorem pAll_al (hW : Wal W W') : ∀ l : Nat, AlF (pAll W E N l).1 (pAll W' E' N l).1 ∧ AlF (pAll W E N l).2 (pAll W' E' N l).2
  | 0 => ⟨fun _ _ h => ⟨rfl, h⟩, fun _ _ h => ⟨rfl, h⟩⟩
  | l + 1 => by
    obtain ⟨h1, h2⟩ := pAll_al hW l
    have h3 := pFac_al (N := N) (E := E) (E' := E') hW h1 h2
    exact ⟨h3, pExpr_al hW h3⟩
theorem pLets_al (hW : Wal W W') : ∀ (n : Nat) (M : List (List UInt8)) (K : List (List UInt8 × List Np)) (s s' : Ps), Al s s' →
    (pLets W E n M K s).1 = (pLets W' E' n M K s').1 ∧ (pLets W E n M K s).2.1 = (pLets W' E' n M K s').2.1 ∧ Al (pLets W E n M K s).2.2.1 (pLets W' E' n M K s').2.2.1 ∧ (pLets W E n M K s).2.2.2 = (pLets W' E' n M K s').2.2.2
  | 0, M, K, s, s', h => ⟨rfl, rfl, h, rfl⟩
  | n + 1, M, K, s, s', h => by
    unfold pLets
    rw [pSees_al hW h]
    split
    · dsimp only
      rw [pFree_al hW (al_i h), pText_al hW (al_i h)]
      split
      · obtain ⟨a1, a2⟩ := (pAll_al (N := M) (E := E) (E' := E') hW 41).2 _ _ (pMust_al (E := E) (E' := E') hW (al_i (al_i h)) [61])
        dsimp only at a1 a2
        rw [a1]
        exact pLets_al hW n _ _ _ _ (pMust_al hW a2 [59])
      · exact ⟨rfl, rfl, pBad_al (al_i h), rfl⟩
    · exact ⟨rfl, rfl, h, rfl⟩
theorem pOuts_al (hW : Wal W W') {f g : Ps → List Np × Ps} (hf : AlF f g) : ∀ (n : Nat) (O : List (List Np)) (s s' : Ps), Al s s' → (pOuts W f n O s).1 = (pOuts W' g n O s').1 ∧ Al (pOuts W f n O s).2 (pOuts W' g n O s').2
  | 0, O, s, s', h => ⟨rfl, h⟩
  | n + 1, O, s, s', h => by
    unfold pOuts
    rw [pSees_al hW h]
    split
    · obtain ⟨a1, a2⟩ := hf _ _ (al_i h)
      dsimp only
      rw [a1]
      exact pOuts_al hW hf n _ _ _ a2
    · exact ⟨rfl, h⟩
theorem pOver_al (hW : Wal W W') {s s' : Ps} (h : Al s s') : Al (pOver W E s) (pOver W' E' s') := by
  unfold pOver
  rw [h.1, hW.len]
  by_cases hb : s.bad < 0 ∧ s'.i < W'.length
  · rw [if_pos hb, if_pos ⟨h.2.2.1 hb.1, hb.2⟩]; exact pBad_al h
  · rw [if_neg hb, if_neg (fun h9 => hb ⟨h.2.2.2 h9.1, h9.2⟩)]; exact h
theorem pField_al (hW : Wal W W') {s s' : Ps} (h : Al s s') : (pField W E s).1 = (pField W' E' s').1 ∧ (pField W E s).2.1 = (pField W' E' s').2.1 ∧ Al (pField W E s).2.2 (pField W' E' s').2.2 := by
  obtain ⟨a1, a2, a3, a4⟩ := pLets_al (E := E) (E' := E') hW W.length [] [] s s' h
  unfold pField
  rw [← hW.len]
  dsimp only
  rw [a1, a2, a4]
  split
  · exact ⟨rfl, rfl, a3⟩
  · obtain ⟨b1, b2⟩ := (pAll_al (N := (pLets W' E' W.length [] [] s').2.1) (E := E) (E' := E') hW 41).2 _ _ (pMust_al (E := E) (E' := E') hW a3 [91])
    obtain ⟨c1, c2⟩ := pOuts_al hW (pAll_al (N := (pLets W' E' W.length [] [] s').2.1) (E := E) (E' := E') hW 41).2 W.length [((pAll W' E' (pLets W' E' W.length [] [] s').2.1 41).2 (pMust W' E' [91] (pLets W' E' W.length [] [] s').2.2.1)).1] _ _ b2
    dsimp only
    rw [b1]
    exact ⟨rfl, c1, pMust_al hW c2 [93]⟩
/-- THE SAME WORDS: the same field, or none in both. -/
theorem pParse_al (hW : Wal W W') : (pParse W E (-1)).1 = (pParse W' E' (-1)).1 ∧ (pParse W E (-1)).2.1 = (pParse W' E' (-1)).2.1 ∧ ((pParse W E (-1)).2.2 < 0 ↔ (pParse W' E' (-1)).2.2 < 0) := by
  have h0 : Al ⟨0, 0, -1⟩ ⟨0, 0, -1⟩ := ⟨rfl, rfl, Iff.rfl⟩
  obtain ⟨a1, a2, a3⟩ := pField_al (E := E) (E' := E') hW h0
  have a4 := pOver_al (E := E) (E' := E') hW a3
  have e : ∀ (W : List Lw) (E : Nat), pParse W E (-1) = if 0 ≤ (pOver W E (pField W E ⟨0, 0, -1⟩).2.2).bad then ([], [], (pOver W E (pField W E ⟨0, 0, -1⟩).2.2).bad) else ((pField W E ⟨0, 0, -1⟩).1, (pField W E ⟨0, 0, -1⟩).2.1, -1) := fun W E => if_neg (by omega)
  rw [e, e]
  by_cases hb : 0 ≤ (pOver W E (pField W E ⟨0, 0, -1⟩).2.2).bad
  · have hb' : 0 ≤ (pOver W' E' (pField W' E' ⟨0, 0, -1⟩).2.2).bad := by have := a4.2.2; omega
    rw [if_pos hb, if_pos hb']
    exact ⟨rfl, rfl, by dsimp only; omega⟩
  · have hb' : ¬ 0 ≤ (pOver W' E' (pField W' E' ⟨0, 0, -1⟩).2.2).bad := by have := a4.2.2; omega
    rw [if_neg hb, if_neg hb']
    exact ⟨a1, a2, Iff.rfl⟩
end
end Go.Proofs.Ythblmpkdcahmkaa

/-
  Expressions as lists of nodes (layer 17): where a list is none, the tree that one is, its depth, its parts. Of no program.
-/
namespace Go.Proofs.Ythblmpkdcahmkaa

/-- How many operands an operation has. -/
def tAr (op : Int) : Int := if 1 ≤ op ∧ op ≤ 5 then 0 else if op = 6 ∨ op = 11 then 1 else if 7 ≤ op ∧ op ≤ 10 then 2 else -1
theorem tAr_range (op : Int) : -1 ≤ tAr op ∧ tAr op ≤ 2 := by unfold tAr; split <;> (try split) <;> (try split) <;> omega
/-- Gone through from place i on, with o expressions ahead: where it is none (below 0: nowhere). -/
def tGo : List Int → Nat → Nat → Int
  | [], i, o => if o = 1 then -1 else (i : Int)
  | x :: r, i, o => if tAr x < 0 ∨ (o : Int) < tAr x then (i : Int) else tGo r (i + 1) (o + 1 - (tAr x).toNat)
def tWrong (l : List Int) : Int := tGo l 0 0
theorem tGo_range : ∀ (l : List Int) (i o : Nat), tGo l i o = -1 ∨ (0 ≤ tGo l i o ∧ tGo l i o ≤ (i + l.length : Nat))
  | [], i, o => by
    unfold tGo
    split
    · exact .inl rfl
    · exact .inr ⟨by omega, by simp⟩
  | x :: r, i, o => by
    unfold tGo
    split
    · exact .inr ⟨by omega, by simp; omega⟩
    · rcases tGo_range r (i + 1) (o + 1 - (tAr x).toNat) with h | ⟨h1, h2⟩
      · exact .inl h
      · exact .inr ⟨h1, by simp; omega⟩
theorem tWrong_range (l : List Int) : tWrong l = -1 ∨ (0 ≤ tWrong l ∧ tWrong l ≤ l.length) := by
  have h := tGo_range l 0 0
  rw [Nat.zero_add] at h
  exact h
/-- An expression as a tree, a node at each place. -/
inductive Ex (α : Type) where
  | leaf (x : α)
  | one (t : Ex α) (x : α)
  | two (s t : Ex α) (x : α)
namespace Ex
variable {α β : Type}
def flat : Ex α → List α
  | leaf x => [x]
  | one t x => t.flat ++ [x]
  | two s t x => s.flat ++ t.flat ++ [x]
def depth : Ex α → Nat
  | leaf _ => 1
  | one t _ => t.depth + 1
  | two s t _ => Nat.max s.depth t.depth + 1
def root : Ex α → α
  | leaf x => x
  | one _ x => x
  | two _ _ x => x
def kids : Ex α → List (Ex α)
  | leaf _ => []
  | one t _ => [t]
  | two s t _ => [s, t]
/-- Each node has as many operands as its operation. -/
def ok (f : α → Int) : Ex α → Prop
  | leaf x => tAr (f x) = 0
  | one t x => t.ok f ∧ tAr (f x) = 1
  | two s t x => s.ok f ∧ t.ok f ∧ tAr (f x) = 2
def map (g : α → β) : Ex α → Ex β
  | leaf x => leaf (g x)
  | one t x => one (t.map g) (g x)
  | two s t x => two (s.map g) (t.map g) (g x)
theorem flat_pos : ∀ t : Ex α, 0 < t.flat.length
  | leaf _ => by simp [flat]
  | one _ _ => by simp [flat]
  | two _ _ _ => by simp [flat]; omega
theorem depth_pos : ∀ t : Ex α, 0 < t.depth
  | leaf _ => Nat.one_pos
  | one _ _ => Nat.succ_pos _
  | two _ _ _ => Nat.succ_pos _
theorem depth_le : ∀ t : Ex α, t.depth ≤ t.flat.length
  | leaf _ => by simp [flat, depth]
  | one t _ => by have := depth_le t; simp [flat, depth]; omega
  | two s t _ => by
    have h1 := depth_le s
    have h2 := depth_le t
    simp only [flat, depth, List.length_append, List.length_singleton]
    have : Nat.max s.depth t.depth ≤ s.depth + t.depth := by rw [Nat.max_le]; omega
    omega
theorem map_flat (g : α → β) : ∀ t : Ex α, (t.map g).flat = t.flat.map g
  | leaf _ => rfl
  | one t _ => by simp [map, flat, map_flat g t]
  | two s t _ => by simp [map, flat, map_flat g s, map_flat g t]
theorem map_depth (g : α → β) : ∀ t : Ex α, (t.map g).depth = t.depth
  | leaf _ => rfl
  | one t _ => by simp [map, depth, map_depth g t]
  | two s t _ => by simp [map, depth, map_depth g s, map_depth g t]
theorem map_ok (g : α → β) (f : β → Int) : ∀ t : Ex α, (t.map g).ok f ↔ t.ok (fun x => f (g x))
  | leaf _ => Iff.rfl
  | one t _ => by simp [map, ok, map_ok g f t]
  | two s t _ => by simp [map, ok, map_ok g f s, map_ok g f t]
theorem flat_last : ∀ t : Ex α, ∃ P, t.flat = P ++ [t.root]
  | leaf _ => ⟨[], rfl⟩
  | one t _ => ⟨t.flat, rfl⟩
  | two s t _ => ⟨s.flat ++ t.flat, rfl⟩
/-- What stands at a list's end is one expression at most. -/
theorem unique (f : α → Int) : ∀ (t u : Ex α) (P Q : List α), t.ok f → u.ok f → P ++ t.flat = Q ++ u.flat → P = Q ∧ t = u := by
  have last : ∀ {A B : List α} {x y : α}, A ++ [x] = B ++ [y] → A = B ∧ x = y := fun h => by
    have := List.append_inj' h rfl
    exact ⟨this.1, by simpa using this.2⟩
  intro t
  induction t with
  | leaf x =>
    intro u P Q ht hu h
    cases u with
    | leaf y => obtain ⟨h1, rfl⟩ := last h; exact ⟨h1, rfl⟩
    | one t' y =>
      simp only [flat, ← List.append_assoc] at h
      obtain ⟨_, rfl⟩ := last h
      simp only [ok] at ht hu; omega
    | two s' t' y =>
      simp only [flat, ← List.append_assoc] at h
      obtain ⟨_, rfl⟩ := last h
      simp only [ok] at ht hu; omega
  | one t x ih =>
    intro u P Q ht hu h
    cases u with
    | leaf y =>
      simp only [flat, ← List.append_assoc] at h
      obtain ⟨_, rfl⟩ := last h
      simp only [ok] at ht hu; omega
    | one t' y =>
      simp only [flat, ← List.append_assoc] at h
      obtain ⟨h1, rfl⟩ := last h
      obtain ⟨h2, rfl⟩ := ih t' P Q ht.1 hu.1 h1
      exact ⟨h2, rfl⟩
    | two s' t' y =>
      simp only [flat, ← List.append_assoc] at h
      obtain ⟨_, rfl⟩ := last h
      simp only [ok] at ht hu; omega
  | two s t x ihs iht =>
    intro u P Q ht hu h
    cases u with
    | leaf y =>
      simp only [flat, ← List.append_assoc] at h
      obtain ⟨_, rfl⟩ := last h
      simp only [ok] at ht hu; omega
    | one t' y =>
      simp only [flat, ← List.append_assoc] at h
      obtain ⟨_, rfl⟩ := last h
      simp only [ok] at ht hu; omega
    | two s' t' y =>
      simp only [flat, ← List.append_assoc] at h
      obtain ⟨h1, rfl⟩ := last h
      obtain ⟨h2, rfl⟩ := iht t' (P ++ s.flat) (Q ++ s'.flat) ht.2.1 hu.2.1 h1
      obtain ⟨h3, rfl⟩ := ihs s' P Q ht.1 hu.1 h2
      exact ⟨h3, rfl⟩
theorem unique0 (f : α → Int) {t u : Ex α} (ht : t.ok f) (hu : u.ok f) (h : t.flat = u.flat) : t = u := (unique f t u [] [] ht hu (by simpa using h)).2
theorem go_flat (f : α → Int) : ∀ (t : Ex α) (r : List Int) (i o : Nat), t.ok f → tGo (t.flat.map f ++ r) i o = tGo r (i + t.flat.length) (o + 1)
  | leaf x, r, i, o, h => by
    simp only [ok] at h
    simp only [flat, List.map_cons, List.map_nil, List.singleton_append, List.length_singleton]
    conv => lhs; unfold tGo
    rw [if_neg (by omega), h]
    rfl
  | one t x, r, i, o, h => by
    simp only [ok] at h
    simp only [flat, List.map_append, List.append_assoc, List.map_cons, List.map_nil, List.singleton_append, List.length_append, List.length_singleton]
    rw [go_flat f t _ i o h.1]
    conv => lhs; unfold tGo
    rw [if_neg (by omega), h.2]
    congr 1
  | two s t x, r, i, o, h => by
    simp only [ok] at h
    simp only [flat, List.map_append, List.append_assoc, List.map_cons, List.map_nil, List.singleton_append, List.length_append, List.length_singleton]
    rw [go_flat f s _ i o h.1, go_flat f t _ _ _ h.2.1]
    conv => lhs; unfold tGo
    rw [if_neg (by omega), h.2.2]
    congr 1
    omega
theorem wrong_flat (f : α → Int) {t : Ex α} (h : t.ok f) : tWrong (t.flat.map f) = -1 := by
  have := go_flat f t [] 0 0 h
  rw [List.append_nil] at this
  unfold tWrong
  rw [this]
  rfl
/-- All of them, one behind the other. -/
def flats (s : List (Ex α)) : List α := s.flatMap flat
theorem go_stack (f : α → Int) : ∀ (r : List α) (s : List (Ex α)) (i : Nat), (∀ t ∈ s, t.ok f) → tGo (r.map f) i s.length = -1 → ∃ t : Ex α, t.ok f ∧ t.flat = flats s ++ r
  | [], s, i, hs, h => by
    simp only [List.map_nil, tGo] at h
    split at h
    · rename_i h1
      match s, h1 with
      | [t], _ => exact ⟨t, hs t (by simp), by simp [flats]⟩
    · omega
  | x :: r, s, i, hs, h => by
    simp only [List.map_cons, tGo] at h
    have hrg := tAr_range (f x)
    split at h
    · omega
    · rename_i hn
      rcases (show tAr (f x) = 0 ∨ tAr (f x) = 1 ∨ tAr (f x) = 2 by omega) with h0 | h0 | h0
      · obtain ⟨t, ht, hf⟩ := go_stack f r (s ++ [leaf x]) (i + 1) (fun t ht => by
          rcases List.mem_append.1 ht with h9 | h9
          · exact hs t h9
          · rw [List.mem_singleton.1 h9]; exact h0) (by rw [h0] at h; simpa using h)
        exact ⟨t, ht, by rw [hf]; simp [flats, flat]⟩
      · rcases List.eq_nil_or_concat s with rfl | ⟨s', t', rfl⟩
        · rw [h0] at hn; simp at hn
        · rw [List.concat_eq_append] at hs h hn ⊢
          obtain ⟨t, ht, hf⟩ := go_stack f r (s' ++ [one t' x]) (i + 1) (fun t ht => by
            rcases List.mem_append.1 ht with h9 | h9
            · exact hs t (by simp [h9])
            · rw [List.mem_singleton.1 h9]; exact ⟨hs t' (by simp), h0⟩) (by rw [h0] at h; simpa using h)
          exact ⟨t, ht, by rw [hf]; simp [flats, flat]⟩
      · rcases List.eq_nil_or_concat s with rfl | ⟨s', t', rfl⟩
        · rw [h0] at hn; simp at hn
        · rw [List.concat_eq_append] at hs h hn ⊢
          rcases List.eq_nil_or_concat s' with rfl | ⟨s'', u', rfl⟩
          · rw [h0] at hn; simp at hn
          · rw [List.concat_eq_append] at hs h hn ⊢
            obtain ⟨t, ht, hf⟩ := go_stack f r (s'' ++ [two u' t' x]) (i + 1) (fun t ht => by
              rcases List.mem_append.1 ht with h9 | h9
              · exact hs t (by simp [h9])
              · rw [List.mem_singleton.1 h9]; exact ⟨hs u' (by simp), hs t' (by simp), h0⟩) (by
                rw [h0] at h
                simp only [List.length_append, List.length_singleton] at h ⊢
                exact h)
            exact ⟨t, ht, by rw [hf]; simp [flats, flat]⟩
/-- A list is an expression just if nothing is wrong with it. -/
theorem of_wrong (f : α → Int) {L : List α} (h : tWrong (L.map f) < 0) : ∃ t : Ex α, t.ok f ∧ t.flat = L := by
  have h1 : tWrong (L.map f) = -1 := by
    rcases tWrong_range (L.map f) with h9 | h9
    · exact h9
    · omega
  obtain ⟨t, ht, hf⟩ := go_stack f L [] 0 (by simp) h1
  exact ⟨t, ht, by rw [hf]; rfl⟩
end Ex
theorem tEx_of {l : List Int} (h : tWrong l < 0) : ∃ t : Ex Int, t.ok (fun x => x) ∧ t.flat = l := Ex.of_wrong (fun x => x) (by rw [List.map_id']; exact h)
/-- How deep an expression is, by its operations; 0 of what is none. -/
noncomputable def tDepth (l : List Int) : Nat := if h : tWrong l < 0 then (tEx_of h).choose.depth else 0
theorem tDepth_flat {α : Type} (f : α → Int) {t : Ex α} (h : t.ok f) : tDepth (t.flat.map f) = t.depth := by
  have hw : tWrong (t.flat.map f) < 0 := by rw [Ex.wrong_flat f h]; decide
  unfold tDepth
  rw [dif_pos hw]
  obtain ⟨h2, h3⟩ := (tEx_of hw).choose_spec
  have h1 : (t.map f).ok (fun x => x) := (Ex.map_ok f _ t).2 h
  have e := Ex.unique0 (fun x => x) h2 h1 (by rw [h3, Ex.map_flat])
  rw [e, Ex.map_depth]
theorem tDepth_none {l : List Int} (h : 0 ≤ tWrong l) : tDepth l = 0 := dif_neg (by omega)
end Go.Proofs.Ythblmpkdcahmkaa

/-
  What is read as an expression is one: operands first, and one in all (layer 18). Of no program.
-/
namespace Go.Proofs.Ythblmpkdcahmkaa

/-- These nodes are an expression. -/
def Rt (c : List Np) : Prop := ∃ t : Ex Np, t.ok (fun x => x.1) ∧ t.flat = c
theorem Rt.leaf {x : Np} (h : tAr x.1 = 0) : Rt [x] := ⟨.leaf x, h, rfl⟩
theorem Rt.one {c : List Np} {x : Np} (h : tAr x.1 = 1) (hc : Rt c) : Rt (c ++ [x]) := by
  obtain ⟨t, h1, rfl⟩ := hc
  exact ⟨.one t x, ⟨h1, h⟩, rfl⟩
theorem Rt.two {c d : List Np} {x : Np} (h : tAr x.1 = 2) (hc : Rt c) (hd : Rt d) : Rt (c ++ d ++ [x]) := by
  obtain ⟨t, h1, rfl⟩ := hc
  obtain ⟨u, h2, rfl⟩ := hd
  exact ⟨.two t u x, ⟨h1, h2, h⟩, rfl⟩
section
variable (W : List Lw) (E : Nat) (N : List (List UInt8))
/-- A step that, at so many open levels, reads an expression or tells where it can't. -/
def Reads (d : Nat) (f : Ps → List Np × Ps) : Prop := ∀ s, s.deep = d → (f s).2.bad < 0 → Rt (f s).1
theorem pLevel_full {s : Ps} (h : 40 ≤ s.deep) : 0 ≤ (pLevel W E s).bad := by
  unfold pLevel
  dsimp only
  rw [if_pos h]
  exact (pBad_i W E s).2.2.1
theorem pAtom_rt {d : Nat} {ex : Ps → List Np × Ps} (hf : Fine W ex) (hx : Reads (d + 1) ex ∨ 40 ≤ d) : Reads d (pAtom W E N ex) := by
  intro s hd hb
  unfold pAtom at hb ⊢
  by_cases h1 : pKind W s = 1
  · rw [if_pos h1]; exact Rt.leaf rfl
  rw [if_neg h1] at hb ⊢
  by_cases h2 : pSees W s [116] = true
  · rw [if_pos h2]; exact Rt.leaf rfl
  rw [if_neg h2] at hb ⊢
  by_cases h3 : pSees W s [121] = true ∨ pSees W s [112] = true
  · rw [if_pos h3]
    dsimp only
    refine Rt.leaf ?_
    dsimp only
    split <;> rfl
  rw [if_neg h3] at hb ⊢
  by_cases h4 : pSees W s [40] = true
  · rw [if_pos h4] at hb ⊢
    dsimp only at hb ⊢
    obtain ⟨p1, p2, p3⟩ := pLevel_i W E s
    have b1 : (ex (pLevel W E s)).2.bad < 0 := by
      rcases Int.lt_or_le (ex (pLevel W E s)).2.bad 0 with h | h
      · exact h
      · rw [(pMust_on W E [41]).stays _ h] at hb; exact hb
    rcases hx with hx | hx
    · exact hx _ (by omega) b1
    · have h9 := pLevel_full W E (s := s) (by omega)
      rw [hf.stays _ h9] at b1
      omega
  rw [if_neg h4] at hb ⊢
  by_cases h5 : pFree W s = true
  · rw [if_pos h5]; exact Rt.leaf rfl
  rw [if_neg h5] at hb ⊢
  exact absurd hb (by have := (pBad_i W E s).2.2.1; dsimp only; omega)
theorem pFac_rt {d : Nat} {fa ex : Ps → List Np × Ps} (hf2 : Fine W ex) (hfa : Reads (d + 1) fa ∨ 40 ≤ d) (hx : Reads (d + 1) ex ∨ 40 ≤ d) : Reads d (pFac W E N fa ex) := by
  intro s hd hb
  have hs : Onw W fun s => (pSmall W E s).2 := pSmall_on W E
  have ha := pAtom_rt W E N (d := d) hf2 hx s hd
  unfold pFac at hb ⊢
  by_cases h1 : pSees W s [45] = true
  · rw [if_pos h1] at hb ⊢
    dsimp only at hb ⊢
    obtain ⟨p1, p2, p3⟩ := pLevel_i W E s
    by_cases h2 : (pLevel W E s).bad < 0
    · rw [if_pos h2] at hb ⊢
      rcases hfa with hfa | hfa
      · exact Rt.one rfl (hfa _ (by omega) hb)
      · have h9 := pLevel_full W E (s := s) (by omega)
        omega
    · rw [if_neg h2] at hb
      exact absurd hb h2
  rw [if_neg h1] at hb ⊢
  dsimp only at hb ⊢
  by_cases h2 : pSees W (pAtom W E N ex s).2 [94] = true
  · have h9 := pSees_i W h2
    rw [if_pos h2] at hb ⊢
    by_cases h3 : pSees W { (pAtom W E N ex s).2 with i := (pAtom W E N ex s).2.i + 1 } [45] = true
    · rw [if_pos h3]; exact Rt.one rfl (ha h9.1)
    · rw [if_neg h3]; exact Rt.one rfl (ha h9.1)
  · rw [if_neg h2] at hb ⊢
    exact ha hb
theorem pMany_rt {d : Nat} {f : Ps → List Np × Ps} (hf : Fine W f) (hr : Reads d f) (a b : List UInt8) (oa ob : Int) (ha : tAr oa = 2) (hb2 : tAr ob = 2) : ∀ (n : Nat) (c : List Np) (s : Ps), s.deep = d → Rt c → (pMany W f a b oa ob n c s).2.bad < 0 → Rt (pMany W f a b oa ob n c s).1
  | 0, c, s, _, hc, _ => hc
  | n + 1, c, s, hd, hc, hb => by
    unfold pMany at hb ⊢
    by_cases h : pSees W s a = true ∨ pSees W s b = true
    · rw [if_pos h] at hb ⊢
      dsimp only at hb ⊢
      have e := hf.deep { s with i := s.i + 1 }
      have h1 := pMany_fine W hf a b oa ob n (c ++ (f { s with i := s.i + 1 }).1 ++ [(if pSees W s b = true then ob else oa, 0, 0)]) (f { s with i := s.i + 1 }).2
      refine pMany_rt hf hr a b oa ob ha hb2 n _ _ (e.trans hd) (Rt.two ?_ hc (hr _ hd ?_)) hb
      · dsimp only; split
        · exact hb2
        · exact ha
      · rcases Int.lt_or_le (f { s with i := s.i + 1 }).2.bad 0 with h | h
        · exact h
        · rw [h1.1 h] at hb; exact hb
    · rw [if_neg h]
      exact hc
theorem many_rt {d : Nat} {g f : Ps → List Np × Ps} (hg : Fine W g) (hf : Fine W f) (hrg : Reads d g) (hr : Reads d f) (a b : List UInt8) (oa ob : Int) (ha : tAr oa = 2) (hb2 : tAr ob = 2) (n : Nat) : Reads d fun s => pMany W f a b oa ob n (g s).1 (g s).2 := fun s hd hb => by
  refine pMany_rt W hf hr a b oa ob ha hb2 n _ _ ((hg.deep s).trans hd) (hrg s hd ?_) hb
  rcases Int.lt_or_le (g s).2.bad 0 with h | h
  · exact h
  · dsimp only at hb; rw [(pMany_fine W hf a b oa ob n (g s).1 (g s).2).1 h] at hb; exact hb
theorem pTerm_rt {d : Nat} {fa : Ps → List Np × Ps} (hf : Fine W fa) (hr : Reads d fa) : Reads d (pTerm W fa) := many_rt W hf hf hr hr [42] [47] 9 10 rfl rfl W.length
theorem pExpr_rt {d : Nat} {fa : Ps → List Np × Ps} (hf : Fine W fa) (hr : Reads d fa) : Reads d (pExpr W fa) := fun s hd hb => by
  have hm := many_rt W (pTerm_fine W hf) (pTerm_fine W hf) (pTerm_rt W hf hr) (pTerm_rt W hf hr) [43] [45] 7 8 rfl rfl W.length s hd
  unfold pExpr at hb ⊢
  by_cases h : 0 ≤ s.bad
  · rw [if_pos h] at hb; exact absurd hb (by dsimp only; omega)
  · rw [if_neg h] at hb ⊢; exact hm hb
theorem pAll_rt : ∀ l d : Nat, d + (l + 1) = 41 → Reads d (pAll W E N (l + 1)).1 ∧ Reads d (pAll W E N (l + 1)).2
  | 0, d, h => by
    obtain ⟨f1, f2⟩ := pAll_fine W E N 0
    have h3 : Reads d (pFac W E N (pAll W E N 0).1 (pAll W E N 0).2) := pFac_rt W E N f2 (.inr (by omega)) (.inr (by omega))
    exact ⟨h3, pExpr_rt W (pFac_fine W E N f1 f2) h3⟩
  | l + 1, d, h => by
    obtain ⟨f1, f2⟩ := pAll_fine W E N (l + 1)
    obtain ⟨r1, r2⟩ := pAll_rt l (d + 1) (by omega)
    have h3 : Reads d (pFac W E N (pAll W E N (l + 1)).1 (pAll W E N (l + 1)).2) := pFac_rt W E N f2 (.inl r1) (.inl r2)
    exact ⟨h3, pExpr_rt W (pFac_fine W E N f1 f2) h3⟩
theorem pCode_rt (at' : Int) (h : (pCode W E N at').2 < 0) : Rt (pCode W E N at').1 := by
  have hr := (pAll_rt W E N 40 0 rfl).2 ⟨0, 0, at'⟩ rfl
  unfold pCode at h ⊢
  dsimp only at h ⊢
  by_cases hb : 0 ≤ (pOver W E ((pAll W E N 41).2 ⟨0, 0, at'⟩).2).bad
  · rw [if_pos hb] at h; exact absurd h (by dsimp only; omega)
  · rw [if_neg hb]
    have hs : ((pAll W E N 41).2 ⟨0, 0, at'⟩).2.bad < 0 := by
      unfold pOver at hb
      split at hb
      · rename_i h9; exact h9.1
      · omega
    exact hr hs
end
end Go.Proofs.Ythblmpkdcahmkaa

/-
  What is read in brackets, one level deeper, is what is read without, where it is read at all (layer 18). Of no program.
-/
namespace Go.Proofs.Ythblmpkdcahmkaa

/-- The words behind a first one, and a bracket that closes behind them. -/
def Wsh (W W' : List Lw) : Prop := ∀ i : Nat, i ≤ W.length → (∃ k t p p', W[i]? = some ⟨k, t, p⟩ ∧ W'[i + 1]? = some ⟨k, t, p'⟩) ∨ (W[i]? = none ∧ ∃ p, W'[i + 1]? = some ⟨3, [41], p⟩)
def Sh (W : List Lw) (s s' : Ps) : Prop := s'.i = s.i + 1 ∧ s'.deep = s.deep + 1 ∧ s.bad < 0 ∧ s'.bad < 0 ∧ s.i ≤ W.length
def ShF (W : List Lw) (d : Nat) (f g : Ps → List Np × Ps) : Prop := ∀ s s', s.deep = d → Sh W s s' → (f s).2.bad < 0 → (g s').2.bad < 0 → (f s).1 = (g s').1 ∧ Sh W (f s).2 (g s').2
theorem bad_back {f : Ps → Ps} (h : ∀ s, 0 ≤ s.bad → (f s).bad = s.bad) {s : Ps} (hb : (f s).bad < 0) : s.bad < 0 := by
  rcases Int.lt_or_le s.bad 0 with h9 | h9
  · exact h9
  · rw [h s h9] at hb; exact hb
section
variable {W W' : List Lw} {E E' : Nat} {N : List (List UInt8)}
theorem pSees_sh (hW : Wsh W W') {s s' : Ps} (h : Sh W s s') {t : List UInt8} (ht : t ≠ [41]) : pSees W s t = pSees W' s' t := by
  unfold pSees
  rw [h.1, decide_eq_true h.2.2.1, decide_eq_true h.2.2.2.1]
  rcases hW s.i h.2.2.2.2 with ⟨k, u, p, p', e, e'⟩ | ⟨e, p, e'⟩ <;> rw [e, e']
  simp [Ne.symm ht]
theorem pKind_sh (hW : Wsh W W') {s s' : Ps} (h : Sh W s s') : (pKind W s = pKind W' s' ∧ pText W s = pText W' s') ∨ (pKind W s = 0 ∧ pKind W' s' = 3) := by
  unfold pKind pText
  rw [h.1, if_pos h.2.2.1, if_pos h.2.2.2.1]
  rcases hW s.i h.2.2.2.2 with ⟨k, u, p, p', e, e'⟩ | ⟨e, p, e'⟩ <;> rw [e, e']
  · exact .inl ⟨rfl, rfl⟩
  · exact .inr ⟨rfl, rfl⟩
theorem sh_i {s s' : Ps} (h : Sh W s s') (hl : s.i < W.length) : Sh W { s with i := s.i + 1 } { s' with i := s'.i + 1 } := ⟨by show s'.i + 1 = s.i + 1 + 1; rw [h.1], h.2.1, h.2.2.1, h.2.2.2.1, hl⟩
theorem pMust_sh (hW : Wsh W W') {s s' : Ps} (h : Sh W s s') (t : List UInt8) (hg : (pMust W E t s).bad < 0) (hg' : (pMust W' E' t s').bad < 0) : Sh W (pMust W E t s) (pMust W' E' t s') := by
  unfold pMust at *
  by_cases h1 : pSees W s t = true
  · have h2 : pSees W' s' t = true := by
      by_cases ht : t = [41]
      · subst ht
        by_cases h3 : pSees W' s' [41] = true
        · exact h3
        · rw [if_neg h3] at hg'; exact absurd hg' (by have := (pBad_i W' E' s').2.2.1; omega)
      · rw [← pSees_sh hW h ht]; exact h1
    rw [if_pos h1, if_pos h2]
    exact sh_i h (pSees_i W h1).2
  · rw [if_neg h1] at hg; exact absurd hg (by have := (pBad_i W E s).2.2.1; omega)
theorem pSmall_sh (hW : Wsh W W') {s s' : Ps} (h : Sh W s s') (hg : (pSmall W E s).2.bad < 0) : (pSmall W E s).1 = (pSmall W' E' s').1 ∧ Sh W (pSmall W E s).2 (pSmall W' E' s').2 := by
  unfold pSmall at *
  by_cases h1 : pKind W s = 1 ∧ (pText W s).length ≤ 3
  · have hi := pKind_i W (s := s) (by omega)
    rcases pKind_sh hW h with ⟨e1, e2⟩ | ⟨e1, e2⟩
    · rw [if_pos h1, if_pos (by rw [← e1, ← e2]; exact h1), e2]
      exact ⟨rfl, sh_i h hi.2⟩
    · omega
  · rw [if_neg h1] at hg; exact absurd hg (by have := (pBad_i W E s).2.2.1; dsimp only; omega)
theorem pLevel_sh {s s' : Ps} (h : Sh W s s') (hl : s.i < W.length) (hg' : (pLevel W' E' s').bad < 0) : s.deep < 39 ∧ Sh W (pLevel W E s) (pLevel W' E' s') := by
  have hd : ¬ 40 ≤ s'.deep := fun h9 => absurd (pLevel_full W' E' h9) (by omega)
  have hd2 : ¬ 40 ≤ s.deep := by have := h.2.1; omega
  refine ⟨by have := h.2.1; omega, ?_⟩
  unfold pLevel
  rw [if_neg hd, if_neg hd2]
  exact ⟨by show s'.i + 1 = s.i + 1 + 1; rw [h.1], by show s'.deep + 1 = s.deep + 1 + 1; rw [h.2.1], h.2.2.1, h.2.2.2.1, hl⟩
theorem pAtom_sh (hW : Wsh W W') {d : Nat} {f g : Ps → List Np × Ps} (hf : Fine W f) (hg : Fine W' g) (hs : ShF W (d + 1) f g ∨ 39 ≤ d) : ShF W d (pAtom W E N f) (pAtom W' E' N g) := by
  intro s s' hd h hb hb'
  unfold pAtom at *
  rw [pSees_sh hW h (t := [116]) (by decide), pSees_sh hW h (t := [121]) (by decide), pSees_sh hW h (t := [112]) (by decide), pSees_sh hW h (t := [40]) (by decide)] at *
  have hfr : (pFree W s = pFree W' s' ∧ (pFree W s = true → pText W s = pText W' s')) := by
    unfold pFree
    rw [pSees_sh hW h (t := [116]) (by decide), pSees_sh hW h (t := [121]) (by decide), pSees_sh hW h (t := [112]) (by decide), pSees_sh hW h (t := [108, 101, 116]) (by decide)]
    rcases pKind_sh hW h with ⟨e1, e2⟩ | ⟨e1, e2⟩
    · rw [e1]; exact ⟨rfl, fun _ => e2⟩
    · rw [e1, e2]; exact ⟨by simp, fun h9 => by simp at h9⟩
  by_cases h1 : pKind W s = 1
  · have hi := pKind_i W (s := s) (by omega)
    rcases pKind_sh hW h with ⟨e1, e2⟩ | ⟨e1, e2⟩
    · rw [if_pos h1, if_pos (e1 ▸ h1), e2]
      exact ⟨rfl, sh_i h hi.2⟩
    · omega
  have h1' : ¬ pKind W' s' = 1 := by
    rcases pKind_sh hW h with ⟨e1, e2⟩ | ⟨e1, e2⟩ <;> omega
  rw [if_neg h1] at hb ⊢
  rw [if_neg h1'] at hb' ⊢
  by_cases h2 : pSees W' s' [116] = true
  · rw [if_pos h2, if_pos h2]
    exact ⟨rfl, sh_i h (pSees_i W ((pSees_sh hW h (by decide)).trans h2)).2⟩
  rw [if_neg h2] at hb hb' ⊢
  rw [if_neg h2]
  by_cases h3 : pSees W' s' [121] = true ∨ pSees W' s' [112] = true
  · have hl : s.i < W.length := h3.elim (fun h9 => (pSees_i W ((pSees_sh hW h (by decide)).trans h9)).2) (fun h9 => (pSees_i W ((pSees_sh hW h (by decide)).trans h9)).2)
    rw [if_pos h3] at hb hb' ⊢
    rw [if_pos h3]
    dsimp only at hb hb' ⊢
    have q1 := bad_back (pMust_on W E [93]).stays hb
    have q1' := bad_back (pMust_on W' E' [93]).stays hb'
    have q2 := bad_back (pSmall_on W E).stays q1
    have q2' := bad_back (pSmall_on W' E').stays q1'
    obtain ⟨a1, a2⟩ := pSmall_sh (E' := E') hW (pMust_sh hW (sh_i h hl) [91] q2 q2') q1
    exact ⟨by rw [a1], pMust_sh hW a2 [93] hb hb'⟩
  rw [if_neg h3] at hb hb' ⊢
  rw [if_neg h3]
  by_cases h4 : pSees W' s' [40] = true
  · have hl : s.i < W.length := (pSees_i W ((pSees_sh hW h (by decide)).trans h4)).2
    rw [if_pos h4] at hb hb' ⊢
    rw [if_pos h4]
    dsimp only at hb hb' ⊢
    have q1 := bad_back (pMust_on W E [41]).stays hb
    have q1' := bad_back (pMust_on W' E' [41]).stays hb'
    have q2' := bad_back (f := fun s => (g s).2) hg.stays q1'
    obtain ⟨p1, p2⟩ := pLevel_sh (E := E) (E' := E') h hl q2'
    rcases hs with hs | hs
    · obtain ⟨a1, a2⟩ := hs _ _ (by rw [(pLevel_i W E s).2.1, hd]) p2 q1 q1'
      have a3 := pMust_sh (E := E) (E' := E') hW a2 [41] hb hb'
      have d1 : 1 ≤ (pMust W E [41] (f (pLevel W E s)).2).deep := by rw [(pMust_on W E [41]).deep, hf.deep, (pLevel_i W E s).2.1]; omega
      exact ⟨a1, a3.1, by have := a3.2.1; dsimp only; omega, a3.2.2⟩
    · omega
  rw [if_neg h4] at hb hb' ⊢
  rw [if_neg h4]
  by_cases h5 : pFree W s = true
  · have hk : pKind W s = 2 := by unfold pFree at h5; simp at h5; exact h5.1.1.1.1
    have hi := pKind_i W (s := s) (by omega)
    rw [if_pos h5, if_pos (hfr.1 ▸ h5), hfr.2 h5]
    exact ⟨rfl, sh_i h hi.2⟩
  · rw [if_neg h5] at hb; exact absurd hb (by have := (pBad_i W E s).2.2.1; dsimp only; omega)
theorem pFac_sh (hW : Wsh W W') {d : Nat} {f g f2 g2 : Ps → List Np × Ps} (hf : Fine W f) (hf2 : Fine W f2) (hg2 : Fine W' g2) (hs : ShF W (d + 1) f g ∨ 39 ≤ d) (hs2 : ShF W (d + 1) f2 g2 ∨ 39 ≤ d) : ShF W d (pFac W E N f f2) (pFac W' E' N g g2) := by
  intro s s' hd h hb hb'
  have ha := pAtom_sh (E := E) (E' := E') (N := N) hW hf2 hg2 hs2 s s' hd h
  unfold pFac at *
  by_cases h1 : pSees W' s' [45] = true
  · have h1' : pSees W s [45] = true := (pSees_sh hW h (by decide)).trans h1
    have hl : s.i < W.length := (pSees_i W h1').2
    rw [if_pos h1'] at hb
    rw [if_pos h1] at hb'
    rw [if_pos h1, if_pos h1']
    dsimp only at hb hb' ⊢
    have hl' : (pLevel W' E' s').bad < 0 := by
      by_cases h9 : (pLevel W' E' s').bad < 0
      · exact h9
      · rw [if_neg h9] at hb'; exact hb'
    obtain ⟨p1, p2⟩ := pLevel_sh (E := E) (E' := E') h hl hl'
    rw [if_pos hl'] at hb'
    rw [if_pos p2.2.2.1] at hb
    rw [if_pos hl', if_pos p2.2.2.1]
    rcases hs with hs | hs
    · obtain ⟨a1, a2⟩ := hs _ _ (by rw [(pLevel_i W E s).2.1, hd]) p2 hb hb'
      have d1 : 1 ≤ (f (pLevel W E s)).2.deep := by rw [hf.deep, (pLevel_i W E s).2.1]; omega
      exact ⟨by rw [a1], a2.1, by have := a2.2.1; dsimp only; omega, a2.2.2⟩
    · omega
  have h1' : ¬ pSees W s [45] = true := fun h9 => h1 ((pSees_sh hW h (by decide)).symm.trans h9)
  rw [if_neg h1'] at hb
  rw [if_neg h1] at hb'
  rw [if_neg h1, if_neg h1']
  dsimp only at hb hb' ⊢
  have q1 : (pAtom W E N f2 s).2.bad < 0 := by
    by_cases h2 : pSees W (pAtom W E N f2 s).2 [94] = true
    · exact (pSees_i W h2).1
    · rw [if_neg h2] at hb; exact hb
  have q1' : (pAtom W' E' N g2 s').2.bad < 0 := by
    by_cases h2 : pSees W' (pAtom W' E' N g2 s').2 [94] = true
    · exact (pSees_i W' h2).1
    · rw [if_neg h2] at hb'; exact hb'
  obtain ⟨a1, a2⟩ := ha q1 q1'
  by_cases h2 : pSees W' (pAtom W' E' N g2 s').2 [94] = true
  · have h2' : pSees W (pAtom W E N f2 s).2 [94] = true := (pSees_sh hW a2 (by decide)).trans h2
    rw [if_pos h2'] at hb
    rw [if_pos h2] at hb'
    rw [if_pos h2, if_pos h2']
    have a3 := sh_i a2 (pSees_i W h2').2
    by_cases h3 : pSees W' { (pAtom W' E' N g2 s').2 with i := (pAtom W' E' N g2 s').2.i + 1 } [45] = true
    · have h3' : pSees W { (pAtom W E N f2 s).2 with i := (pAtom W E N f2 s).2.i + 1 } [45] = true := (pSees_sh hW a3 (by decide)).trans h3
      rw [if_pos h3'] at hb
      rw [if_pos h3] at hb'
      rw [if_pos h3, if_pos h3']
      obtain ⟨b1, b2⟩ := pSmall_sh (E := E) (E' := E') hW (sh_i a3 (pSees_i W h3').2) hb
      dsimp only at b1 b2 ⊢
      exact ⟨by rw [a1, b1], b2⟩
    · have h3' : ¬ pSees W { (pAtom W E N f2 s).2 with i := (pAtom W E N f2 s).2.i + 1 } [45] = true := fun h9 => h3 ((pSees_sh hW a3 (by decide)).symm.trans h9)
      rw [if_neg h3'] at hb
      rw [if_neg h3] at hb'
      rw [if_neg h3, if_neg h3']
      obtain ⟨b1, b2⟩ := pSmall_sh (E := E) (E' := E') hW a3 hb
      exact ⟨by rw [a1, b1], b2⟩
  · have h2' : ¬ pSees W (pAtom W E N f2 s).2 [94] = true := fun h9 => h2 ((pSees_sh hW a2 (by decide)).symm.trans h9)
    rw [if_neg h2, if_neg h2']
    exact ⟨a1, a2⟩
theorem pMany_sh (hW : Wsh W W') {d : Nat} {f g : Ps → List Np × Ps} (hf : Fine W f) (hg : Fine W' g) (hs : ShF W d f g) (a b : List UInt8) (ha : a ≠ [41]) (hb2 : b ≠ [41]) (oa ob : Int) : ∀ (n : Nat) (c : List Np) (s s' : Ps), s.deep = d → Sh W s s' → (pMany W f a b oa ob n c s).2.bad < 0 → (pMany W' g a b oa ob n c s').2.bad < 0 → (pMany W f a b oa ob n c s).1 = (pMany W' g a b oa ob n c s').1 ∧ Sh W (pMany W f a b oa ob n c s).2 (pMany W' g a b oa ob n c s').2
  | 0, c, s, s', _, h, _, _ => ⟨rfl, h⟩
  | n + 1, c, s, s', hd, h, hb, hb' => by
    unfold pMany at hb hb' ⊢
    rw [pSees_sh hW h ha, pSees_sh hW h hb2] at hb ⊢
    by_cases h1 : pSees W' s' a = true ∨ pSees W' s' b = true
    · have hl : s.i < W.length := h1.elim (fun h9 => (pSees_i W ((pSees_sh hW h ha).trans h9)).2) (fun h9 => (pSees_i W ((pSees_sh hW h hb2).trans h9)).2)
      rw [if_pos h1] at hb hb' ⊢
      rw [if_pos h1]
      dsimp only at hb hb' ⊢
      have q1 : (f { s with i := s.i + 1 }).2.bad < 0 := by
        rcases Int.lt_or_le (f { s with i := s.i + 1 }).2.bad 0 with h9 | h9
        · exact h9
        · rw [(pMany_fine W hf a b oa ob n _ _).1 h9] at hb; exact hb
      have q1' : (g { s' with i := s'.i + 1 }).2.bad < 0 := by
        rcases Int.lt_or_le (g { s' with i := s'.i + 1 }).2.bad 0 with h9 | h9
        · exact h9
        · rw [(pMany_fine W' hg a b oa ob n _ _).1 h9] at hb'; exact hb'
      obtain ⟨a1, a2⟩ := hs { s with i := s.i + 1 } { s' with i := s'.i + 1 } hd (sh_i h hl) q1 q1'
      rw [a1] at hb ⊢
      exact pMany_sh hW hf hg hs a b ha hb2 oa ob n _ _ _ ((hf.deep _).trans hd) a2 hb hb'
    · rw [if_neg h1, if_neg h1]
      exact ⟨rfl, h⟩
theorem many_sh (hW : Wsh W W') (hl : W.length ≤ W'.length) {d : Nat} {f g f2 g2 : Ps → List Np × Ps} (hf : Fine W f) (hg : Fine W' g) (hf2 : Fine W f2) (hs : ShF W d f g) (hs2 : ShF W d f2 g2) (a b : List UInt8) (ha : a ≠ [41]) (hb2 : b ≠ [41]) (oa ob : Int) : ShF W d (fun s => pMany W f a b oa ob W.length (f2 s).1 (f2 s).2) (fun s => pMany W' g a b oa ob W'.length (g2 s).1 (g2 s).2) := by
  intro s s' hd h hb hb'
  dsimp only at hb hb' ⊢
  have q1 : (f2 s).2.bad < 0 := by
    rcases Int.lt_or_le (f2 s).2.bad 0 with h9 | h9
    · exact h9
    · rw [(pMany_fine W hf a b oa ob _ _ _).1 h9] at hb; exact hb
  have q1' : (g2 s').2.bad < 0 := by
    rcases Int.lt_or_le (g2 s').2.bad 0 with h9 | h9
    · exact h9
    · rw [(pMany_fine W' hg a b oa ob _ _ _).1 h9] at hb'; exact hb'
  obtain ⟨a1, a2⟩ := hs2 s s' hd h q1 q1'
  rw [pMany_enough W hf a b oa ob W.length W'.length _ _ (by omega) (by omega), a1] at hb ⊢
  exact pMany_sh hW hf hg hs a b ha hb2 oa ob _ _ _ _ ((hf2.deep s).trans hd) a2 hb hb'
theorem pTerm_sh (hW : Wsh W W') (hl : W.length ≤ W'.length) {d : Nat} {f g : Ps → List Np × Ps} (hf : Fine W f) (hg : Fine W' g) (hs : ShF W d f g) : ShF W d (pTerm W f) (pTerm W' g) := many_sh hW hl hf hg hf hs hs [42] [47] (by decide) (by decide) 9 10
theorem pExpr_sh (hW : Wsh W W') (hl : W.length ≤ W'.length) {d : Nat} {f g : Ps → List Np × Ps} (hf : Fine W f) (hg : Fine W' g) (hs : ShF W d f g) : ShF W d (pExpr W f) (pExpr W' g) := fun s s' hd h hb hb' => by
  have hm := many_sh hW hl (pTerm_fine W hf) (pTerm_fine W' hg) (pTerm_fine W hf) (pTerm_sh hW hl hf hg hs) (pTerm_sh hW hl hf hg hs) [43] [45] (by decide) (by decide) 7 8 s s' hd h
  unfold pExpr at *
  rw [if_neg (by have := h.2.2.1; omega)] at hb ⊢
  rw [if_neg (by have := h.2.2.2.1; omega)] at hb' ⊢
  exact hm hb hb'
theorem pAll_sh (hW : Wsh W W') (hl : W.length ≤ W'.length) : ∀ l d : Nat, d + l + 1 = 40 → ShF W d (pAll W E N (l + 2)).1 (pAll W' E' N (l + 1)).1 ∧ ShF W d (pAll W E N (l + 2)).2 (pAll W' E' N (l + 1)).2
  | 0, d, h => by
    obtain ⟨f1, f2⟩ := pAll_fine W E N 1
    obtain ⟨g1, g2⟩ := pAll_fine W' E' N 0
    have h3 : ShF W d (pFac W E N (pAll W E N 1).1 (pAll W E N 1).2) (pFac W' E' N (pAll W' E' N 0).1 (pAll W' E' N 0).2) := pFac_sh hW f1 f2 g2 (.inr (by omega)) (.inr (by omega))
    exact ⟨h3, pExpr_sh hW hl (pFac_fine W E N f1 f2) (pFac_fine W' E' N g1 g2) h3⟩
  | l + 1, d, h => by
    obtain ⟨f1, f2⟩ := pAll_fine W E N (l + 2)
    obtain ⟨g1, g2⟩ := pAll_fine W' E' N (l + 1)
    obtain ⟨r1, r2⟩ := pAll_sh hW hl l (d + 1) (by omega)
    have h3 : ShF W d (pFac W E N (pAll W E N (l + 2)).1 (pAll W E N (l + 2)).2) (pFac W' E' N (pAll W' E' N (l + 1)).1 (pAll W' E' N (l + 1)).2) := pFac_sh hW f1 f2 g2 (.inl r1) (.inl r2)
    exact ⟨h3, pExpr_sh hW hl (pFac_fine W E N f1 f2) (pFac_fine W' E' N g1 g2) h3⟩
theorem pMany_stop {f : Ps → List Np × Ps} {a b : List UInt8} {oa ob : Int} {s : Ps} (h : pSees W s a = false) (h2 : pSees W s b = false) (n : Nat) (c : List Np) : pMany W f a b oa ob n c s = (c, s) := by
  cases n with
  | zero => rfl
  | succ n => unfold pMany; rw [h, h2]; simp
/-- AN EXPRESSION IN BRACKETS: the same one, where it can be read. -/
theorem pCode_brackets (hW : Wsh W W') {p : Nat} (h0 : W'[0]? = some ⟨3, [40], p⟩) (hn : W'.length = W.length + 2) (h : (pCode W E N (-1)).2 < 0) (h' : (pCode W' E' N (-1)).2 < 0) : (pCode W' E' N (-1)).1 = (pCode W E N (-1)).1 := by
  have key : ∀ (W : List Lw) (E : Nat), (pCode W E N (-1)).2 < 0 → (pCode W E N (-1)).1 = ((pAll W E N 41).2 ⟨0, 0, -1⟩).1 ∧ ((pAll W E N 41).2 ⟨0, 0, -1⟩).2.bad < 0 ∧ W.length ≤ ((pAll W E N 41).2 ⟨0, 0, -1⟩).2.i := by
    intro W E h
    unfold pCode at h ⊢
    dsimp only at h ⊢
    by_cases hb : 0 ≤ (pOver W E ((pAll W E N 41).2 ⟨0, 0, -1⟩).2).bad
    · rw [if_pos hb] at h; exact absurd h (by dsimp only; omega)
    · rw [if_neg hb]
      unfold pOver at hb
      by_cases h9 : ((pAll W E N 41).2 ⟨0, 0, -1⟩).2.bad < 0 ∧ ((pAll W E N 41).2 ⟨0, 0, -1⟩).2.i < W.length
      · rw [if_pos h9] at hb; exact absurd (pBad_i W E _).2.2.1 hb
      · rw [if_neg h9] at hb
        exact ⟨rfl, by omega, by omega⟩
  obtain ⟨e1, b1, l1⟩ := key W E h
  obtain ⟨e2, b2, l2⟩ := key W' E' h'
  rw [e1, e2]
  have hk : pKind W' ⟨0, 0, -1⟩ = 3 := by unfold pKind; rw [if_pos (by show (-1 : Int) < 0; omega), h0]
  have hsee : ∀ t : List UInt8, pSees W' ⟨0, 0, -1⟩ t = decide ([40] = t) := fun t => by unfold pSees; rw [h0]; simp
  have hlv : pLevel W' E' ⟨0, 0, -1⟩ = ⟨1, 1, -1⟩ := by unfold pLevel; rw [if_neg (by show ¬ 40 ≤ 0; omega)]
  have hat : pAtom W' E' N (pAll W' E' N 40).2 ⟨0, 0, -1⟩ = (((pAll W' E' N 40).2 ⟨1, 1, -1⟩).1, { (pMust W' E' [41] ((pAll W' E' N 40).2 ⟨1, 1, -1⟩).2) with deep := (pMust W' E' [41] ((pAll W' E' N 40).2 ⟨1, 1, -1⟩).2).deep - 1 }) := by
    unfold pAtom
    rw [hk, hsee, hsee, hsee, hsee, hlv]
    simp
  have hfac : ∀ s : Ps, W'.length ≤ s.i → ∀ t, pSees W' s t = false := fun s hs t => by
    by_cases h9 : pSees W' s t = true
    · have := (pSees_i W' h9).2; omega
    · simpa using h9
  obtain ⟨g1, g2⟩ := pAll_fine W' E' N 40
  generalize hx : (pAll W' E' N 40).2 ⟨1, 1, -1⟩ = x at hat
  have hF := pFac_fine W' E' N g1 g2
  have e3 : (pAll W' E' N 41).2 = pExpr W' (pFac W' E' N (pAll W' E' N 40).1 (pAll W' E' N 40).2) := rfl
  rw [e3] at b2 ⊢
  generalize hF2 : pFac W' E' N (pAll W' E' N 40).1 (pAll W' E' N 40).2 = F at hF b2 ⊢
  have e4 : pExpr W' F ⟨0, 0, -1⟩ = pMany W' (pTerm W' F) [43] [45] 7 8 W'.length (pTerm W' F ⟨0, 0, -1⟩).1 (pTerm W' F ⟨0, 0, -1⟩).2 := by
    unfold pExpr
    exact if_neg (by show ¬ (0 : Int) ≤ -1; omega)
  rw [e4] at b2 ⊢
  have b3 : (pTerm W' F ⟨0, 0, -1⟩).2.bad < 0 := by
    rcases Int.lt_or_le (pTerm W' F ⟨0, 0, -1⟩).2.bad 0 with h9 | h9
    · exact h9
    · rw [(pMany_fine W' (pTerm_fine W' hF) [43] [45] 7 8 _ _ _).1 h9] at b2; exact b2
  have e5 : pTerm W' F ⟨0, 0, -1⟩ = pMany W' F [42] [47] 9 10 W'.length (F ⟨0, 0, -1⟩).1 (F ⟨0, 0, -1⟩).2 := rfl
  have b4 : (F ⟨0, 0, -1⟩).2.bad < 0 := by
    rcases Int.lt_or_le (F ⟨0, 0, -1⟩).2.bad 0 with h9 | h9
    · exact h9
    · rw [e5, (pMany_fine W' hF [42] [47] 9 10 _ _ _).1 h9] at b3; exact b3
  have e6 : F ⟨0, 0, -1⟩ = if pSees W' (pAtom W' E' N (pAll W' E' N 40).2 ⟨0, 0, -1⟩).2 [94] = true then F ⟨0, 0, -1⟩ else pAtom W' E' N (pAll W' E' N 40).2 ⟨0, 0, -1⟩ := by
    by_cases h9 : pSees W' (pAtom W' E' N (pAll W' E' N 40).2 ⟨0, 0, -1⟩).2 [94] = true
    · rw [if_pos h9]
    · rw [if_neg h9, ← hF2]
      unfold pFac
      rw [hsee [45], if_neg (by decide)]
      dsimp only
      rw [if_neg h9]
  have b5 : (pAtom W' E' N (pAll W' E' N 40).2 ⟨0, 0, -1⟩).2.bad < 0 := by
    by_cases h9 : pSees W' (pAtom W' E' N (pAll W' E' N 40).2 ⟨0, 0, -1⟩).2 [94] = true
    · exact (pSees_i W' h9).1
    · rw [if_neg h9] at e6; rw [← e6]; exact b4
  rw [hat] at b5 e6
  dsimp only at b5 e6
  have b6 := bad_back (pMust_on W' E' [41]).stays b5
  have hs := (pAll_sh (E := E) (E' := E') (N := N) hW (by omega) 39 0 rfl).2 ⟨0, 0, -1⟩ ⟨1, 1, -1⟩ rfl ⟨rfl, rfl, by show (-1 : Int) < 0; omega, by show (-1 : Int) < 0; omega, Nat.zero_le _⟩ b1 (by rw [hx]; exact b6)
  rw [hx] at hs
  have hs9 : ((pAll W E N 41).2 ⟨0, 0, -1⟩).1 = x.1 ∧ Sh W ((pAll W E N 41).2 ⟨0, 0, -1⟩).2 x.2 := hs
  have hi : W'.length ≤ (pMust W' E' [41] x.2).i := by
    unfold pMust at b5 ⊢
    by_cases h9 : pSees W' x.2 [41] = true
    · rw [if_pos h9]
      have := hs9.2.1
      dsimp only
      omega
    · rw [if_neg h9] at b5; exact absurd b5 (by have := (pBad_i W' E' x.2).2.2.1; omega)
  have hst := hfac { (pMust W' E' [41] x.2) with deep := (pMust W' E' [41] x.2).deep - 1 } hi
  rw [if_neg (by rw [hst]; decide)] at e6
  rw [e6] at e5
  dsimp only at e5
  rw [pMany_stop (hst _) (hst _)] at e5
  rw [e5]
  dsimp only
  rw [pMany_stop (hst _) (hst _)]
  exact hs9.1.symm
end
end Go.Proofs.Ythblmpkdcahmkaa

/-
  The words of a text, as a text again, are the same words; in brackets they are the same between two more (layers 16, 18). Of no program.
-/
namespace Go.Proofs.Ythblmpkdcahmkaa

/-- What a word is that was gathered. -/
def Wk (x : Lw) : Prop := ∃ c r, x.t = c :: r ∧ x.k = lexKind c.toNat ∧ x.k ≠ 0 ∧ (∀ y ∈ r, lexMore x.k y.toNat = true) ∧ x.t.length ≤ lexMost x.k
theorem lexPut_wk {ws : List Lw} {i : Nat} {c : UInt8} (h : ∀ x ∈ ws, Wk x) (hb : ((lexPut ws i c).getLast?.map lexBad).getD true = false) : ∀ x ∈ lexPut ws i c, Wk x := by
  have fresh : lexBad ⟨lexKind c.toNat, [c], i⟩ = false → Wk ⟨lexKind c.toNat, [c], i⟩ := fun h9 => by
    obtain ⟨h1, h2⟩ := lexBad_not h9
    exact ⟨c, [], rfl, rfl, h1, fun y hy => by simp at hy, h2⟩
  rcases List.eq_nil_or_concat ws with rfl | ⟨V, y, hw⟩
  · rw [lexPut_nil] at hb ⊢
    intro x hx
    simp only [List.nil_append, List.mem_singleton] at hx
    subst hx
    exact fresh (by simpa using hb)
  · rw [List.concat_eq_append] at hw
    subst hw
    by_cases h9 : y.p + y.t.length = i ∧ lexMore y.k c.toNat = true
    · rw [lexPut_more h9] at hb ⊢
      rw [List.getLast?_concat] at hb
      obtain ⟨h1, h2⟩ := lexBad_not (x := ⟨y.k, y.t ++ [c], y.p⟩) (by simpa using hb)
      intro x hx
      rcases List.mem_append.1 hx with h8 | h8
      · exact h x (by simp [h8])
      · rw [List.mem_singleton.1 h8]
        obtain ⟨d, r, e1, e2, e3, e4, e5⟩ := h y (by simp)
        refine ⟨d, r ++ [c], by simp [e1], e2, e3, fun z hz => ?_, h2⟩
        rcases List.mem_append.1 hz with h7 | h7
        · exact e4 z h7
        · rw [List.mem_singleton.1 h7]; exact h9.2
    · rw [lexPut_new h9] at hb ⊢
      rw [List.getLast?_concat] at hb
      intro x hx
      rcases List.mem_append.1 hx with h8 | h8
      · exact h x h8
      · rw [List.mem_singleton.1 h8]; exact fresh (by simpa using hb)
theorem lexGo_wk : ∀ (r : List UInt8) (i : Nat) (note : Bool) (ws : List Lw), (∀ x ∈ ws, Wk x) → ∀ x ∈ (lexGo r i note ws).1, Wk x
  | [], _, _, _, h => h
  | c :: r, i, note, ws, h => by
    unfold lexGo
    split
    · exact lexGo_wk r _ _ ws h
    · split
      · intro x hx; simp at hx
      · rename_i h9
        exact lexGo_wk r _ _ _ (lexPut_wk h (by simpa using h9))
theorem lexScan_wk (l : List UInt8) : ∀ x ∈ (lexScan l).1, Wk x := by
  unfold lexScan
  split
  · intro x hx; simp at hx
  · exact lexGo_wk l 0 false [] (fun x hx => by simp at hx)
theorem lexSpan_app (p : Nat → Bool) : ∀ (r q : List UInt8), (∀ y ∈ r, p y.toNat = true) → (∀ c s, q = c :: s → p c.toNat = false) → lexSpan p (r ++ q) = r.length
  | [], [], _, _ => rfl
  | [], c :: s, _, h => lexSpan_no (h c s rfl)
  | x :: r, q, h, k => by
    rw [List.cons_append, lexSpan_yes (h x (by simp)), lexSpan_app p r q (fun y hy => h y (by simp [hy])) k, List.length_cons]
theorem more_blank (k : Nat) : lexMore k (32 : UInt8).toNat = false := by
  have h1 : lexDig (32 : UInt8).toNat = false := by decide
  have h2 : lexLet (32 : UInt8).toNat = false := by decide
  unfold lexMore
  rw [h1, h2]
  simp
theorem first_wk {x : Lw} (h : Wk x) {q : List UInt8} (hq : ∀ c s, q = c :: s → lexMore x.k c.toNat = false) : lexFirst (x.t ++ q) = (x.k, x.t.length) := by
  obtain ⟨c, r, e1, e2, e3, e4, e5⟩ := h
  rw [e1, List.cons_append, lexFirst_yes (by rw [← e2]; exact e3), ← e2, lexSpan_app _ r q e4 hq, List.length_cons]
/-- WORDS WITH BLANKS BETWEEN: the same words. -/
theorem lexGo_text : ∀ (L : List Lw) (i : Nat) (V : List Lw), (∀ x ∈ L, Wk x) → (∀ V' y, V = V' ++ [y] → y.p + y.t.length < i) →
    ∃ Z, lexGo (lexText (L.map Lw.t)) i false V = (V ++ Z, -1) ∧ Z.map (fun w => (w.k, w.t)) = L.map fun w => (w.k, w.t)
  | [], i, V, _, _ => ⟨[], by rw [List.append_nil]; rfl, rfl⟩
  | [x], i, V, h, hV => by
    have hx := h x (by simp)
    have hf := first_wk hx (q := []) (fun c s e => by cases e)
    rw [List.append_nil] at hf
    obtain ⟨c, r, e1, e2, e3, e4, e5⟩ := hx
    refine ⟨[⟨x.k, x.t, i⟩], ?_, rfl⟩
    show lexGo x.t i false V = _
    rw [lexGo_word (fun V' y c' r' hw hl h9 => by have := hV V' y hw; omega) (by rw [hf]; exact e3) (by rw [hf]; exact e5), hf]
    simp only [List.drop_length, List.take_length]
    rfl
  | x :: y :: L, i, V, h, hV => by
    have hx := h x (by simp)
    have hf := first_wk hx (q := 32 :: lexText ((y :: L).map Lw.t)) (fun c s e => by rw [← (List.cons.inj e).1]; exact more_blank x.k)
    obtain ⟨c, r, e1, e2, e3, e4, e5⟩ := hx
    obtain ⟨Z, hz, hm⟩ := lexGo_text (y :: L) (i + x.t.length + 1) (V ++ [⟨x.k, x.t, i⟩]) (fun z hz => h z (by simp [hz])) (fun V' z hw => by
      have h8 := List.append_inj' hw rfl
      simp only [List.cons.injEq, and_true] at h8
      rw [← h8.2]
      show i + x.t.length < _
      omega)
    refine ⟨⟨x.k, x.t, i⟩ :: Z, ?_, by rw [List.map_cons, hm]; rfl⟩
    show lexGo (x.t ++ 32 :: lexText ((y :: L).map Lw.t)) i false V = _
    rw [lexGo_word (fun V' z c' r' hw hl h9 => by have := hV V' z hw; omega) (by rw [hf]; exact e3) (by rw [hf]; exact e5), hf]
    simp only [List.drop_left, List.take_left]
    rw [lexGo_skip false (by decide) (.inr (by decide)), hz, List.append_assoc]
    rfl
theorem wal_of_map {W W' : List Lw} (h : W.map (fun w => (w.k, w.t)) = W'.map fun w => (w.k, w.t)) : Wal W W' := fun i => by
  rw [← List.getElem?_map, ← List.getElem?_map, h]
theorem lexText_len : ∀ L : List (List UInt8), (lexText L).length ≤ (L.map List.length).sum + L.length
  | [] => Nat.le_refl _
  | [x] => by simp [lexText]
  | x :: y :: r => by
    have := lexText_len (y :: r)
    simp only [lexText, List.length_append, List.length_cons, List.map_cons, List.sum_cons] at this ⊢
    omega
/-- A TEXT AGAIN: the same words. -/
theorem lexScan_again {l : List UInt8} (hl : (lexText ((lexScan l).1.map Lw.t)).length ≤ 4000) : (lexScan (lexText ((lexScan l).1.map Lw.t))).2 = -1 ∧ Wal (lexScan l).1 (lexScan (lexText ((lexScan l).1.map Lw.t))).1 := by
  obtain ⟨Z, hz, hm⟩ := lexGo_text (lexScan l).1 0 [] (lexScan_wk l) (fun V' y h => by simp at h)
  have e : lexScan (lexText ((lexScan l).1.map Lw.t)) = (Z, -1) := by
    rw [show lexScan (lexText ((lexScan l).1.map Lw.t)) = lexGo (lexText ((lexScan l).1.map Lw.t)) 0 false [] from if_neg (by omega), hz, List.nil_append]
  rw [e]
  exact ⟨rfl, wal_of_map hm.symm⟩
/-- One place on. -/
def Lw.on (x : Lw) : Lw := ⟨x.k, x.t, x.p + 1⟩
theorem more_close (k : Nat) : lexMore k (41 : UInt8).toNat = false := by
  have h1 : lexDig (41 : UInt8).toNat = false := by decide
  have h2 : lexLet (41 : UInt8).toNat = false := by decide
  unfold lexMore
  rw [h1, h2]
  simp
theorem lexPut_on (ws : List Lw) (i : Nat) (c : UInt8) : lexPut (⟨3, [40], 0⟩ :: ws.map Lw.on) (i + 1) c = ⟨3, [40], 0⟩ :: (lexPut ws i c).map Lw.on := by
  rcases List.eq_nil_or_concat ws with rfl | ⟨V, y, hw⟩
  · have := lexPut_new (ws := []) (y := ⟨3, [40], 0⟩) (i := i + 1) (c := c) (fun h9 => by have := lexMore3 (k := 3) (by omega) (by omega) c.toNat; rw [this] at h9; exact absurd h9.2 (by decide))
    exact this
  · rw [List.concat_eq_append] at hw
    subst hw
    rw [List.map_append, ← List.cons_append]
    by_cases h9 : y.p + y.t.length = i ∧ lexMore y.k c.toNat = true
    · rw [lexPut_more h9]
      have := lexPut_more (ws := ⟨3, [40], 0⟩ :: V.map Lw.on) (y := y.on) (i := i + 1) (c := c) ⟨by show y.p + 1 + y.t.length = i + 1; omega, h9.2⟩
      exact this.trans (by simp [Lw.on])
    · rw [lexPut_new h9]
      have := lexPut_new (ws := ⟨3, [40], 0⟩ :: V.map Lw.on) (y := y.on) (i := i + 1) (c := c) (fun h8 => h9 ⟨by have : y.p + 1 + y.t.length = i + 1 := h8.1; omega, h8.2⟩)
      exact this.trans (by simp [Lw.on])
theorem lexPut_some (ws : List Lw) (i : Nat) (c : UInt8) : ∃ z, (lexPut ws i c).getLast? = some z := by
  rcases List.eq_nil_or_concat ws with rfl | ⟨V, y, hw⟩
  · exact ⟨_, rfl⟩
  · rw [List.concat_eq_append] at hw
    subst hw
    by_cases h9 : y.p + y.t.length = i ∧ lexMore y.k c.toNat = true
    · rw [lexPut_more h9]; exact ⟨_, List.getLast?_concat⟩
    · rw [lexPut_new h9]; exact ⟨_, List.getLast?_concat⟩
/-- Between a bracket that opens and, on a new line, one that closes. -/
theorem lexGo_brackets : ∀ (r : List UInt8) (i : Nat) (note : Bool) (ws : List Lw), (lexGo r i note ws).2 < 0 →
    lexGo (r ++ [10, 41]) (i + 1) note (⟨3, [40], 0⟩ :: ws.map Lw.on) = (⟨3, [40], 0⟩ :: (lexGo r i note ws).1.map Lw.on ++ [⟨3, [41], i + r.length + 2⟩], -1)
  | [], i, note, ws, _ => by
    rw [List.nil_append, lexGo_skip false (by cases note <;> decide) (.inr (by decide))]
    rcases List.eq_nil_or_concat (⟨3, [40], 0⟩ :: ws.map Lw.on) with h | ⟨V, y, h⟩
    · cases h
    · rw [List.concat_eq_append] at h
      have hp := lexPut_new (ws := V) (y := y) (i := i + 1 + 1) (c := 41) (fun h9 => by rw [more_close] at h9; exact absurd h9.2 (by decide))
      rw [← h] at hp
      rw [lexGo_on (by decide) (by decide) hp rfl]
      rfl
  | c :: r, i, note, ws, hb => by
    rw [List.cons_append]
    unfold lexGo at hb ⊢
    by_cases h1 : (c.toNat = 35 ∨ (note = true ∧ c.toNat ≠ 10)) ∨ lexBlank c.toNat = true
    · rw [if_pos h1] at hb ⊢
      rw [if_pos h1, lexGo_brackets r (i + 1) _ ws hb, List.length_cons, show i + 1 + r.length + 2 = i + (r.length + 1) + 2 by omega]
    · rw [if_neg h1] at hb ⊢
      rw [if_neg h1, lexPut_on]
      obtain ⟨z, hz⟩ := lexPut_some ws i c
      have hz2 : (⟨3, [40], 0⟩ :: (lexPut ws i c).map Lw.on).getLast? = some z.on := by
        rw [List.getLast?_cons, List.getLast?_map, hz]; rfl
      rw [hz] at hb ⊢
      rw [hz2]
      have he : lexBad z.on = lexBad z := rfl
      simp only [Option.map_some, Option.getD_some, he] at hb ⊢
      by_cases h2 : lexBad z = true
      · rw [if_pos h2] at hb; exact absurd hb (by dsimp only; omega)
      · rw [if_neg h2] at hb ⊢
        rw [if_neg h2, lexGo_brackets r (i + 1) false _ hb, List.length_cons, show i + 1 + r.length + 2 = i + (r.length + 1) + 2 by omega]
theorem lexScan_brackets {l : List UInt8} (hl : l.length ≤ 3997) (h : (lexScan l).2 < 0) : (lexScan (40 :: l ++ [10, 41])).2 = -1 ∧ Wsh (lexScan l).1 (lexScan (40 :: l ++ [10, 41])).1 ∧ (lexScan (40 :: l ++ [10, 41])).1[0]? = some ⟨3, [40], 0⟩ ∧ (lexScan (40 :: l ++ [10, 41])).1.length = (lexScan l).1.length + 2 := by
  have e0 : lexScan l = lexGo l 0 false [] := if_neg (by omega)
  rw [e0] at h
  have e : lexScan (40 :: l ++ [10, 41]) = (⟨3, [40], 0⟩ :: (lexScan l).1.map Lw.on ++ [⟨3, [41], 0 + l.length + 2⟩], -1) := by
    rw [show lexScan (40 :: l ++ [10, 41]) = lexGo (40 :: l ++ [10, 41]) 0 false [] from if_neg (by simp; omega), List.cons_append, lexGo_on (by decide) (by decide) (lexPut_nil 0 40) (by decide), e0]
    exact lexGo_brackets l 0 false [] h
  rw [e]
  refine ⟨rfl, fun i hi => ?_, rfl, by simp⟩
  rw [List.cons_append, List.getElem?_cons_succ]
  rcases Nat.lt_or_ge i (lexScan l).1.length with h9 | h9
  · have e1 := List.getElem?_eq_getElem h9
    rw [List.getElem?_append_left (by simpa using h9), List.getElem?_map, e1]
    exact .inl ⟨_, _, _, _, rfl, rfl⟩
  · obtain rfl : i = (lexScan l).1.length := by omega
    rw [List.getElem?_eq_none (Nat.le_refl _), List.getElem?_append_right (by simp)]
    exact .inr ⟨rfl, _, by simp; exact rfl⟩
end Go.Proofs.Ythblmpkdcahmkaa
