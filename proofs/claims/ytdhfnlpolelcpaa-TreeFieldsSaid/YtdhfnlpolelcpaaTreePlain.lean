/-
  Expressions as lists of nodes (layer 17): where a list is none, the tree that one is, its depth, its parts. Of no program.
-/
import Derived.Test.YtdhfnlpolelcpaaWords
namespace Go.Proofs.Ytdhfnlpolelcpaa

/-- How many operands an operation has. -/
def tAr (op : Int) : Int := if 1 ≤ op ∧ op ≤ 5 then 0 else if op = 6 ∨ op = 11 then 1 else if 7 ≤ op ∧ op ≤ 10 then 2 else -1
theorem tAr_range (op : Int) : -1 ≤ tAr op ∧ tAr op ≤ 2 := by unfold tAr; split <;> (try split) <;> (try split) <;> omega
/-- Gone through from place i on, with o expressions ahead: where it is none (below 0: nowhere). -/
def tGo : List Int → Nat → Nat → Int
  | [], i, o => if o = 1 then -1 else (i : Int)
  | x :: r, i, o => if tAr x < 0 ∨ (o : Int) < tAr x then (i : Int) else tGo r (i + 1) (o + 1 - (tAr x).toNat)
def tWrong (l : List Int) : Int := tGo l 0 0
theorem tGo_range : ∀ (l : List Int) (i o : Nat), tGo l i o = -1 ∨ (0 ≤ tGo l i o ∧ tGo l i o ≤ (i + l.length : Nat))
  | [], i, o => by
    unfold tGo
    split
    · exact .inl rfl
    · exact .inr ⟨by omega, by simp⟩
  | x :: r, i, o => by
    unfold tGo
    split
    · exact .inr ⟨by omega, by simp; omega⟩
    · rcases tGo_range r (i + 1) (o + 1 - (tAr x).toNat) with h | ⟨h1, h2⟩
      · exact .inl h
      · exact .inr ⟨h1, by simp; omega⟩
theorem tWrong_range (l : List Int) : tWrong l = -1 ∨ (0 ≤ tWrong l ∧ tWrong l ≤ l.length) := by
  have h := tGo_range l 0 0
  rw [Nat.zero_add] at h
  exact h
/-- An expression as a tree, a node at each place. -/
inductive Ex (α : Type) where
  | leaf (x : α)
  | one (t : Ex α) (x : α)
  | two (s t : Ex α) (x : α)
namespace Ex
variable {α β : Type}
def flat : Ex α → List α
  | leaf x => [x]
  | one t x => t.flat ++ [x]
  | two s t x => s.flat ++ t.flat ++ [x]
def depth : Ex α → Nat
  | leaf _ => 1
  | one t _ => t.depth + 1
  | two s t _ => Nat.max s.depth t.depth + 1
def root : Ex α → α
  | leaf x => x
  | one _ x => x
  | two _ _ x => x
def kids : Ex α → List (Ex α)
  | leaf _ => []
  | one t _ => [t]
  | two s t _ => [s, t]
/-- Each node has as many operands as its operation. -/
def ok (f : α → Int) : Ex α → Prop
  | leaf x => tAr (f x) = 0
  | one t x => t.ok f ∧ tAr (f x) = 1
  | two s t x => s.ok f ∧ t.ok f ∧ tAr (f x) = 2
def map (g : α → β) : Ex α → Ex β
  | leaf x => leaf (g x)
  | one t x => one (t.map g) (g x)
  | two s t x => two (s.map g) (t.map g) (g x)
theorem flat_pos : ∀ t : Ex α, 0 < t.flat.length
  | leaf _ => by simp [flat]
  | one _ _ => by simp [flat]
  | two _ _ _ => by simp [flat]; omega
theorem depth_pos : ∀ t : Ex α, 0 < t.depth
  | leaf _ => Nat.one_pos
  | one _ _ => Nat.succ_pos _
  | two _ _ _ => Nat.succ_pos _
theorem depth_le : ∀ t : Ex α, t.depth ≤ t.flat.length
  | leaf _ => by simp [flat, depth]
  | one t _ => by have := depth_le t; simp [flat, depth]; omega
  | two s t _ => by
    have h1 := depth_le s
    have h2 := depth_le t
    simp only [flat, depth, List.length_append, List.length_singleton]
    have : Nat.max s.depth t.depth ≤ s.depth + t.depth := by rw [Nat.max_le]; omega
    omega
theorem map_flat (g : α → β) : ∀ t : Ex α, (t.map g).flat = t.flat.map g
  | leaf _ => rfl
  | one t _ => by simp [map, flat, map_flat g t]
  | two s t _ => by simp [map, flat, map_flat g s, map_flat g t]
theorem map_depth (g : α → β) : ∀ t : Ex α, (t.map g).depth = t.depth
  | leaf _ => rfl
  | one t _ => by simp [map, depth, map_depth g t]
  | two s t _ => by simp [map, depth, map_depth g s, map_depth g t]
theorem map_ok (g : α → β) (f : β → Int) : ∀ t : Ex α, (t.map g).ok f ↔ t.ok (fun x => f (g x))
  | leaf _ => Iff.rfl
  | one t _ => by simp [map, ok, map_ok g f t]
  | two s t _ => by simp [map, ok, map_ok g f s, map_ok g f t]
theorem flat_last : ∀ t : Ex α, ∃ P, t.flat = P ++ [t.root]
  | leaf _ => ⟨[], rfl⟩
  | one t _ => ⟨t.flat, rfl⟩
  | two s t _ => ⟨s.flat ++ t.flat, rfl⟩
/-- What stands at a list's end is one expression at most. -/
theorem unique (f : α → Int) : ∀ (t u : Ex α) (P Q : List α), t.ok f → u.ok f → P ++ t.flat = Q ++ u.flat → P = Q ∧ t = u := by
  have last : ∀ {A B : List α} {x y : α}, A ++ [x] = B ++ [y] → A = B ∧ x = y := fun h => by
    have := List.append_inj' h rfl
    exact ⟨this.1, by simpa using this.2⟩
  intro t
  induction t with
  | leaf x =>
    intro u P Q ht hu h
    cases u with
    | leaf y => obtain ⟨h1, rfl⟩ := last h; exact ⟨h1, rfl⟩
    | one t' y =>
      simp only [flat, ← List.append_assoc] at h
      obtain ⟨_, rfl⟩ := last h
      simp only [ok] at ht hu; omega
    | two s' t' y =>
      simp only [flat, ← List.append_assoc] at h
      obtain ⟨_, rfl⟩ := last h
      simp only [ok] at ht hu; omega
  | one t x ih =>
    intro u P Q ht hu h
    cases u with
    | leaf y =>
      simp only [flat, ← List.append_assoc] at h
      obtain ⟨_, rfl⟩ := last h
      simp only [ok] at ht hu; omega
    | one t' y =>
      simp only [flat, ← List.append_assoc] at h
      obtain ⟨h1, rfl⟩ := last h
      obtain ⟨h2, rfl⟩ := ih t' P Q ht.1 hu.1 h1
      exact ⟨h2, rfl⟩
    | two s' t' y =>
      simp only [flat, ← List.append_assoc] at h
      obtain ⟨_, rfl⟩ := last h
      simp only [ok] at ht hu; omega
  | two s t x ihs iht =>
    intro u P Q ht hu h
    cases u with
    | leaf y =>
      simp only [flat, ← List.append_assoc] at h
      obtain ⟨_, rfl⟩ := last h
      simp only [ok] at ht hu; omega
    | one t' y =>
      simp only [flat, ← List.append_assoc] at h
      obtain ⟨_, rfl⟩ := last h
      simp only [ok] at ht hu; omega
    | two s' t' y =>
      simp only [flat, ← List.append_assoc] at h
      obtain ⟨h1, rfl⟩ := last h
      obtain ⟨h2, rfl⟩ := iht t' (P ++ s.flat) (Q ++ s'.flat) ht.2.1 hu.2.1 h1
      obtain ⟨h3, rfl⟩ := ihs s' P Q ht.1 hu.1 h2
      exact ⟨h3, rfl⟩
theorem unique0 (f : α → Int) {t u : Ex α} (ht : t.ok f) (hu : u.ok f) (h : t.flat = u.flat) : t = u := (unique f t u [] [] ht hu (by simpa using h)).2
theorem go_flat (f : α → Int) : ∀ (t : Ex α) (r : List Int) (i o : Nat), t.ok f → tGo (t.flat.map f ++ r) i o = tGo r (i + t.flat.length) (o + 1)
  | leaf x, r, i, o, h => by
    simp only [ok] at h
    simp only [flat, List.map_cons, List.map_nil, List.singleton_append, List.length_singleton]
    conv => lhs; unfold tGo
    rw [if_neg (by omega), h]
    rfl
  | one t x, r, i, o, h => by
    simp only [ok] at h
    simp only [flat, List.map_append, List.append_assoc, List.map_cons, List.map_nil, List.singleton_append, List.length_append, List.length_singleton]
    rw [go_flat f t _ i o h.1]
    conv => lhs; unfold tGo
    rw [if_neg (by omega), h.2]
    congr 1
  | two s t x, r, i, o, h => by
    simp only [ok] at h
    simp only [flat, List.map_append, List.append_assoc, List.map_cons, List.map_nil, List.singleton_append, List.length_append, List.length_singleton]
    rw [go_flat f s _ i o h.1, go_flat f t _ _ _ h.2.1]
    conv => lhs; unfold tGo
    rw [if_neg (by omega), h.2.2]
    congr 1
    omega
theorem wrong_flat (f : α → Int) {t : Ex α} (h : t.ok f) : tWrong (t.flat.map f) = -1 := by
  have := go_flat f t [] 0 0 h
  rw [List.append_nil] at this
  unfold tWrong
  rw [this]
  rfl
/-- All of them, one behind the other. -/
def flats (s : List (Ex α)) : List α := s.flatMap flat
theorem go_stack (f : α → Int) : ∀ (r : List α) (s : List (Ex α)) (i : Nat), (∀ t ∈ s, t.ok f) → tGo (r.map f) i s.length = -1 → ∃ t : Ex α, t.ok f ∧ t.flat = flats s ++ r
  | [], s, i, hs, h => by
    simp only [List.map_nil, tGo] at h
    split at h
    · rename_i h1
      match s, h1 with
      | [t], _ => exact ⟨t, hs t (by simp), by simp [flats]⟩
    · omega
  | x :: r, s, i, hs, h => by
    simp only [List.map_cons, tGo] at h
    have hrg := tAr_range (f x)
    split at h
    · omega
    · rename_i hn
      rcases (show tAr (f x) = 0 ∨ tAr (f x) = 1 ∨ tAr (f x) = 2 by omega) with h0 | h0 | h0
      · obtain ⟨t, ht, hf⟩ := go_stack f r (s ++ [leaf x]) (i + 1) (fun t ht => by
          rcases List.mem_append.1 ht with h9 | h9
          · exact hs t h9
          · rw [List.mem_singleton.1 h9]; exact h0) (by rw [h0] at h; simpa using h)
        exact ⟨t, ht, by rw [hf]; simp [flats, flat]⟩
      · rcases List.eq_nil_or_concat s with rfl | ⟨s', t', rfl⟩
        · rw [h0] at hn; simp at hn
        · rw [List.concat_eq_append] at hs h hn ⊢
          obtain ⟨t, ht, hf⟩ := go_stack f r (s' ++ [one t' x]) (i + 1) (fun t ht => by
            rcases List.mem_append.1 ht with h9 | h9
            · exact hs t (by simp [h9])
            · rw [List.mem_singleton.1 h9]; exact ⟨hs t' (by simp), h0⟩) (by rw [h0] at h; simpa using h)
          exact ⟨t, ht, by rw [hf]; simp [flats, flat]⟩
      · rcases List.eq_nil_or_concat s with rfl | ⟨s', t', rfl⟩
        · rw [h0] at hn; simp at hn
        · rw [List.concat_eq_append] at hs h hn ⊢
          rcases List.eq_nil_or_concat s' with rfl | ⟨s'', u', rfl⟩
          · rw [h0] at hn; simp at hn
          · rw [List.concat_eq_append] at hs h hn ⊢
            obtain ⟨t, ht, hf⟩ := go_stack f r (s'' ++ [two u' t' x]) (i + 1) (fun t ht => by
              rcases List.mem_append.1 ht with h9 | h9
              · exact hs t (by simp [h9])
              · rw [List.mem_singleton.1 h9]; exact ⟨hs u' (by simp), hs t' (by simp), h0⟩) (by
                rw [h0] at h
                simp only [List.length_append, List.length_singleton] at h ⊢
                exact h)
            exact ⟨t, ht, by rw [hf]; simp [flats, flat]⟩
/-- A list is an expression just if nothing is wrong with it. -/
theorem of_wrong (f : α → Int) {L : List α} (h : tWrong (L.map f) < 0) : ∃ t : Ex α, t.ok f ∧ t.flat = L := by
  have h1 : tWrong (L.map f) = -1 := by
    rcases tWrong_range (L.map f) with h9 | h9
    · exact h9
    · omega
  obtain ⟨t, ht, hf⟩ := go_stack f L [] 0 (by simp) h1
  exact ⟨t, ht, by rw [hf]; rfl⟩
end Ex
theorem tEx_of {l : List Int} (h : tWrong l < 0) : ∃ t : Ex Int, t.ok (fun x => x) ∧ t.flat = l := Ex.of_wrong (fun x => x) (by rw [List.map_id']; exact h)
/-- How deep an expression is, by its operations; 0 of what is none. -/
noncomputable def tDepth (l : List Int) : Nat := if h : tWrong l < 0 then (tEx_of h).choose.depth else 0
theorem tDepth_flat {α : Type} (f : α → Int) {t : Ex α} (h : t.ok f) : tDepth (t.flat.map f) = t.depth := by
  have hw : tWrong (t.flat.map f) < 0 := by rw [Ex.wrong_flat f h]; decide
  unfold tDepth
  rw [dif_pos hw]
  obtain ⟨h2, h3⟩ := (tEx_of hw).choose_spec
  have h1 : (t.map f).ok (fun x => x) := (Ex.map_ok f _ t).2 h
  have e := Ex.unique0 (fun x => x) h2 h1 (by rw [h3, Ex.map_flat])
  rw [e, Ex.map_depth]
theorem tDepth_none {l : List Int} (h : 0 ≤ tWrong l) : tDepth l = 0 := dif_neg (by omega)
end Go.Proofs.Ytdhfnlpolelcpaa
