/-
  Several texts of this claim as one, group 5.
-/
import Derived.Test.YthblmpkdcahmkaaG4
import Derived.Test.YthblmpkdcahmkaaG1
import Derived.Test.YthblmpkdcahmkaaG2
import Derived.Laws.OwnMore
import Derived.Laws.ResultCell
import Derived.Laws.Rows
import Derived.Test.YthblmpkdcahmkaaG3
import Derived.OwnWalk
import Derived.Laws.AppendOwn
import Derived.Laws.AppendOwnNone
import Derived.Deep.RegionLaw
import Derived.Deep.Slices
import Derived.WideShapes
/-
  How great what is read is: numbers of at most 60 digits, indices of at most three, places of lets (layer 18). Of no program.
-/
namespace Go.Proofs.Ythblmpkdcahmkaa

theorem wk_digits {x : Lw} (h : Wk x) (hk : x.k = 1) : alldig x.t := by
  obtain ⟨c, r, e1, e2, e3, e4, e5⟩ := h
  have key : ∀ y ∈ x.t, lexDig y.toNat = true := by
    intro y hy
    rw [e1] at hy
    rcases List.mem_cons.1 hy with rfl | h9
    · have h8 : lexKind y.toNat = 1 := by rw [← e2]; exact hk
      unfold lexKind at h8
      split at h8
      · assumption
      · split at h8
        · omega
        · split at h8 <;> omega
    · have h8 := e4 y h9
      rw [hk, lexMore1] at h8
      exact h8
  intro y hy
  have h9 := key y hy
  unfold lexDig at h9
  rw [Bool.and_eq_true, decide_eq_true_eq, decide_eq_true_eq] at h9
  exact h9
theorem wk_most {x : Lw} (h : Wk x) : x.t.length ≤ lexMost x.k := by
  obtain ⟨c, r, e1, e2, e3, e4, e5⟩ := h
  exact e5
section
variable (W : List Lw) (E : Nat) (N : List (List UInt8)) (B : Nat)
/-- A node of such numbers. -/
def Sm (x : Np) : Prop := x.2.2 < 10 ^ 60 ∧ -1000 < x.2.1 ∧ x.2.1 ≤ 1000 + (B : Int)
def SmF (f : Ps → List Np × Ps) : Prop := ∀ s, ∀ x ∈ (f s).1, Sm B x
theorem pFind_le (t : List UInt8) : ∀ (N : List (List UInt8)) (k : Nat), -1 ≤ pFind t N k ∧ pFind t N k < (k : Int) + (N.length : Int) + 0 ∨ pFind t N k = -1
  | [], k => .inr rfl
  | x :: r, k => by
    unfold pFind
    split
    · left; rw [List.length_cons]; omega
    · rcases pFind_le t r (k + 1) with h | h
      · left; rw [List.length_cons]; omega
      · exact .inr h
theorem pSmall_sm (hw : ∀ x ∈ W, Wk x) (s : Ps) : (pSmall W E s).1 < 1000 := by
  unfold pSmall
  split
  · rename_i h
    have hi := pKind_i W (s := s) (by omega)
    have e := List.getElem?_eq_getElem hi.2
    have hx := hw _ (List.getElem_mem hi.2)
    have hk : (W[s.i]).k = 1 := by have h1 := h.1; unfold pKind at h1; rw [if_pos hi.1, e] at h1; exact h1
    have ht : pText W s = (W[s.i]).t := by unfold pText; rw [e]
    have hl := h.2
    rw [ht] at hl ⊢
    have h9 := readV_lt (wk_digits hx hk)
    have : 10 ^ (W[s.i]).t.length ≤ 10 ^ 3 := Nat.pow_le_pow_right (by omega) hl
    show readV (W[s.i]).t < 1000
    omega
  · show 0 < 1000; omega
theorem sm_op (op : Int) : Sm B (op, 0, 0) := ⟨by show 0 < _; exact Nat.pow_pos (by omega), by show (-1000 : Int) < 0; omega, by show (0 : Int) ≤ _; omega⟩
theorem sm_pow {op j : Int} (h : -1000 < j) (k : j < 1000) : Sm B (op, j, 0) := ⟨by show 0 < _; exact Nat.pow_pos (by omega), h, by show j ≤ _; omega⟩
theorem pAtom_sm (hw : ∀ x ∈ W, Wk x) (hB : N.length ≤ B) {ex : Ps → List Np × Ps} (hx : SmF B ex) : SmF B (pAtom W E N ex) := by
  intro s x h
  unfold pAtom at h
  by_cases h1 : pKind W s = 1
  · rw [if_pos h1] at h
    have hi := pKind_i W (s := s) (by omega)
    have e := List.getElem?_eq_getElem hi.2
    have hx := hw _ (List.getElem_mem hi.2)
    have hk : (W[s.i]).k = 1 := by have h1 := h1; unfold pKind at h1; rw [if_pos hi.1, e] at h1; exact h1
    have ht : pText W s = (W[s.i]).t := by unfold pText; rw [e]
    rw [ht] at h
    have h9 := readV_lt (wk_digits hx hk)
    have hm := wk_most hx
    rw [hk] at hm
    have : 10 ^ (W[s.i]).t.length ≤ 10 ^ 60 := Nat.pow_le_pow_right (by omega) hm
    rw [List.mem_singleton.1 h]
    exact ⟨Nat.lt_of_lt_of_le h9 this, by show (-1000 : Int) < 0; omega, by show (0 : Int) ≤ _; omega⟩
  rw [if_neg h1] at h
  by_cases h2 : pSees W s [116] = true
  · rw [if_pos h2] at h; rw [List.mem_singleton.1 h]; exact sm_op B 2
  rw [if_neg h2] at h
  by_cases h3 : pSees W s [121] = true ∨ pSees W s [112] = true
  · rw [if_pos h3] at h
    rw [List.mem_singleton.1 h]
    have := pSmall_sm W E hw (pMust W E [91] { s with i := s.i + 1 })
    exact sm_pow B (by omega) (by omega)
  rw [if_neg h3] at h
  by_cases h4 : pSees W s [40] = true
  · rw [if_pos h4] at h
    exact hx _ x h
  rw [if_neg h4] at h
  by_cases h5 : pFree W s = true
  · rw [if_pos h5] at h
    rw [List.mem_singleton.1 h]
    refine ⟨by show 0 < _; exact Nat.pow_pos (by omega), ?_, ?_⟩
    · show -1000 < pFind (pText W s) N 0
      rcases pFind_le (pText W s) N 0 with h | h <;> omega
    · show pFind (pText W s) N 0 ≤ _
      rcases pFind_le (pText W s) N 0 with h | h <;> omega
  rw [if_neg h5] at h
  simp at h
theorem pFac_sm (hw : ∀ x ∈ W, Wk x) (hB : N.length ≤ B) {fa ex : Ps → List Np × Ps} (hf : SmF B fa) (hx : SmF B ex) : SmF B (pFac W E N fa ex) := by
  have ha := pAtom_sm W E N B hw hB hx
  intro s x h
  unfold pFac at h
  by_cases h1 : pSees W s [45] = true
  · rw [if_pos h1] at h
    dsimp only at h
    rcases List.mem_append.1 h with h | h
    · split at h
      · exact hf _ x h
      · simp at h
    · rw [List.mem_singleton.1 h]; exact sm_op B 6
  rw [if_neg h1] at h
  dsimp only at h
  by_cases h2 : pSees W (pAtom W E N ex s).2 [94] = true
  · rw [if_pos h2] at h
    by_cases h3 : pSees W { (pAtom W E N ex s).2 with i := (pAtom W E N ex s).2.i + 1 } [45] = true
    · rw [if_pos h3] at h
      rcases List.mem_append.1 h with h | h
      · exact ha s x h
      · rw [List.mem_singleton.1 h]
        have := pSmall_sm W E hw { (pAtom W E N ex s).2 with i := (pAtom W E N ex s).2.i + 1 + 1 }
        exact sm_pow B (by dsimp only at this ⊢; omega) (by omega)
    · rw [if_neg h3] at h
      rcases List.mem_append.1 h with h | h
      · exact ha s x h
      · rw [List.mem_singleton.1 h]
        have := pSmall_sm W E hw { (pAtom W E N ex s).2 with i := (pAtom W E N ex s).2.i + 1 }
        exact sm_pow B (by omega) (by dsimp only at this ⊢; omega)
  · rw [if_neg h2] at h
    exact ha s x h
theorem pMany_sm {f : Ps → List Np × Ps} (hf : SmF B f) (a b : List UInt8) (oa ob : Int) : ∀ (n : Nat) (c : List Np) (s : Ps), (∀ x ∈ c, Sm B x) → ∀ x ∈ (pMany W f a b oa ob n c s).1, Sm B x
  | 0, c, s, hc => hc
  | n + 1, c, s, hc => by
    unfold pMany
    split
    · refine pMany_sm hf a b oa ob n _ _ fun x hx => ?_
      rcases List.mem_append.1 hx with h | h
      · rcases List.mem_append.1 h with h | h
        · exact hc x h
        · exact hf _ x h
      · rw [List.mem_singleton.1 h]; exact sm_op B _
    · exact hc
theorem pTerm_sm {f : Ps → List Np × Ps} (hf : SmF B f) : SmF B (pTerm W f) := fun s => pMany_sm W B hf [42] [47] 9 10 _ _ _ (hf s)
theorem pExpr_sm {f : Ps → List Np × Ps} (hf : SmF B f) : SmF B (pExpr W f) := fun s => by
  unfold pExpr
  split
  · intro x hx; simp at hx
  · exact pMany_sm W B (pTerm_sm W B hf) [43] [45] 7 8 _ _ _ (pTerm_sm W B hf s)
theorem pAll_sm (hw : ∀ x ∈ W, Wk x) (hB : N.length ≤ B) : ∀ l : Nat, SmF B (pAll W E N l).1 ∧ SmF B (pAll W E N l).2
  | 0 => ⟨fun s x hx => by simp [pAll] at hx, fun s x hx => by simp [pAll] at hx⟩
  | l + 1 => by
    obtain ⟨h1, h2⟩ := pAll_sm hw hB l
    have h3 := pFac_sm W E N B hw hB h1 h2
    exact ⟨h3, pExpr_sm W B h3⟩
theorem long_le {f : Ps → List Np × Ps} (hf : Fine W f) {s : Ps} (h : s.i ≤ W.length) : (f s).1.length ≤ W.length := by
  have := hf.len s
  have := hf.within s h
  omega
theorem pFree_text (hw : ∀ x ∈ W, Wk x) {s : Ps} (h : pFree W s = true) : (pText W s).length ≤ 12 ∧ s.bad < 0 ∧ s.i < W.length := by
  have hk : pKind W s = 2 := by unfold pFree at h; simp at h; exact h.1.1.1.1
  have hi := pKind_i W (s := s) (by omega)
  have e := List.getElem?_eq_getElem hi.2
  have hm := wk_most (hw _ (List.getElem_mem hi.2))
  have hk2 : (W[s.i]).k = 2 := by unfold pKind at hk; rw [if_pos hi.1, e] at hk; exact hk
  rw [hk2] at hm
  exact ⟨by unfold pText; rw [e]; exact hm, hi⟩
/-- A let of few bytes and few nodes of few digits each. -/
def Lm (x : List UInt8 × List Np) : Prop := x.1.length ≤ 12 ∧ x.2.length ≤ W.length ∧ ∀ y ∈ x.2, Sm W.length y
theorem pLets_size (hw : ∀ x ∈ W, Wk x) : ∀ (n : Nat) (M : List (List UInt8)) (K : List (List UInt8 × List Np)) (s : Ps), s.i ≤ W.length → M.length = K.length → K.length ≤ s.i → (∀ x ∈ K, Lm W x) →
    (pLets W E n M K s).1.length ≤ (pLets W E n M K s).2.2.1.i ∧ (pLets W E n M K s).2.1.length = (pLets W E n M K s).1.length ∧ (pLets W E n M K s).2.2.1.i ≤ W.length ∧ (pLets W E n M K s).2.2.1.deep = s.deep ∧ (∀ x ∈ (pLets W E n M K s).1, Lm W x) ∧ (0 ≤ s.bad → (pLets W E n M K s).2.2.1.bad = s.bad)
  | 0, M, K, s, h, hm, hk, hK => ⟨hk, hm, h, rfl, hK, fun _ => rfl⟩
  | n + 1, M, K, s, h, hm, hk, hK => by
    unfold pLets
    by_cases h1 : pSees W s [108, 101, 116] = true
    · have h9 := pSees_i W h1
      rw [if_pos h1]
      dsimp only
      by_cases h2 : pFree W { s with i := s.i + 1 } = true
      · obtain ⟨t1, t2, t3⟩ := pFree_text W hw h2
        rw [if_pos h2]
        have hmu := pMust_on W E [61]
        have hms := pMust_on W E [59]
        have hf := (pAll_fine W E M 41).2
        have hq := (pAll_sm W E M W.length hw (by omega) 41).2
        have m1 := hmu.within { s with i := s.i + 1 + 1 } t3
        have m2 := hmu.len { s with i := s.i + 1 + 1 }
        have m3 := hmu.deep { s with i := s.i + 1 + 1 }
        have l1 := long_le W hf m1
        have f1 := hf.within _ m1
        have f2 := hf.len (pMust W E [61] { s with i := s.i + 1 + 1 })
        have f3 := hf.deep (pMust W E [61] { s with i := s.i + 1 + 1 })
        have s1 := hms.within _ f1
        have s2 := hms.len ((pAll W E M 41).2 (pMust W E [61] { s with i := s.i + 1 + 1 })).2
        have s3 := hms.deep ((pAll W E M 41).2 (pMust W E [61] { s with i := s.i + 1 + 1 })).2
        have hL : Lm W (pText W { s with i := s.i + 1 }, ((pAll W E M 41).2 (pMust W E [61] { s with i := s.i + 1 + 1 })).1) := ⟨t1, l1, hq _⟩
        dsimp only at m2 m3 hL
        obtain ⟨i1, i2, i3, i4, i5, i6⟩ := pLets_size hw n (M ++ [pText W { s with i := s.i + 1 }]) (K ++ [(pText W { s with i := s.i + 1 }, ((pAll W E M 41).2 (pMust W E [61] { s with i := s.i + 1 + 1 })).1)]) (pMust W E [59] ((pAll W E M 41).2 (pMust W E [61] { s with i := s.i + 1 + 1 })).2) s1 (by simp [hm]) (by simp; omega) (fun x hx => by
          rcases List.mem_append.1 hx with h8 | h8
          · exact hK x h8
          · rw [List.mem_singleton.1 h8]; exact hL)
        exact ⟨i1, i2, i3, by rw [i4, s3, f3, m3], i5, fun h8 => by omega⟩
      · rw [if_neg h2]
        have hb := pBad_i W E { s with i := s.i + 1 }
        exact ⟨by rw [hb.1]; dsimp only; omega, hm, by rw [hb.1]; exact h9.2, hb.2.1, hK, fun h8 => by omega⟩
    · rw [if_neg h1]
      exact ⟨hk, hm, h, rfl, hK, fun _ => rfl⟩
def Om (x : List Np) : Prop := x.length ≤ W.length ∧ ∀ y ∈ x, Sm W.length y
theorem pOuts_size {ex : Ps → List Np × Ps} (hf : Fine W ex) (hq : SmF W.length ex) : ∀ (n : Nat) (O : List (List Np)) (s : Ps), s.i ≤ W.length → O.length ≤ s.i + 1 → (∀ x ∈ O, Om W x) →
    (pOuts W ex n O s).1.length ≤ (pOuts W ex n O s).2.i + 1 ∧ (pOuts W ex n O s).2.i ≤ W.length ∧ (pOuts W ex n O s).2.deep = s.deep ∧ (∀ x ∈ (pOuts W ex n O s).1, Om W x) ∧ (0 ≤ s.bad → (pOuts W ex n O s).2.bad = s.bad)
  | 0, O, s, h, ho, hO => ⟨ho, h, rfl, hO, fun _ => rfl⟩
  | n + 1, O, s, h, ho, hO => by
    unfold pOuts
    by_cases h1 : pSees W s [44] = true
    · have h9 := pSees_i W h1
      rw [if_pos h1]
      dsimp only
      have m1 : ({ s with i := s.i + 1 } : Ps).i ≤ W.length := h9.2
      have l1 := long_le W hf m1
      have f1 := hf.within _ m1
      have f2 := hf.len { s with i := s.i + 1 }
      have f3 := hf.deep { s with i := s.i + 1 }
      dsimp only at f2 f3
      obtain ⟨i1, i2, i3, i4, i5⟩ := pOuts_size hf hq n (O ++ [(ex { s with i := s.i + 1 }).1]) (ex { s with i := s.i + 1 }).2 f1 (by simp; omega) (fun x hx => by
        rcases List.mem_append.1 hx with h8 | h8
        · exact hO x h8
        · rw [List.mem_singleton.1 h8]; exact ⟨l1, hq _⟩)
      exact ⟨i1, i2, by rw [i3, f3], i4, fun h8 => by omega⟩
    · rw [if_neg h1]
      exact ⟨ho, h, rfl, hO, fun _ => rfl⟩
theorem pField_size (hw : ∀ x ∈ W, Wk x) (at' : Int) : (pField W E ⟨0, 0, at'⟩).1.length ≤ W.length ∧ (pField W E ⟨0, 0, at'⟩).2.1.length ≤ W.length + 1 ∧ (∀ x ∈ (pField W E ⟨0, 0, at'⟩).1, Lm W x) ∧ (∀ x ∈ (pField W E ⟨0, 0, at'⟩).2.1, Om W x) ∧ (pField W E ⟨0, 0, at'⟩).2.2.i ≤ W.length := by
  obtain ⟨a1, a2, a3, a4, a5, a6⟩ := pLets_size W E hw W.length [] [] ⟨0, 0, at'⟩ (Nat.zero_le _) rfl (Nat.le_refl _) (fun x hx => by simp at hx)
  unfold pField
  dsimp only
  split
  · exact ⟨Nat.le_trans a1 a3, Nat.zero_le _, a5, fun x hx => by simp at hx, a3⟩
  · have hf := (pAll_fine W E (pLets W E W.length [] [] ⟨0, 0, at'⟩).2.1 41).2
    have hq := (pAll_sm W E (pLets W E W.length [] [] ⟨0, 0, at'⟩).2.1 W.length hw (by omega) 41).2
    have m1 := (pMust_on W E [91]).within _ a3
    have f1 := hf.within _ m1
    obtain ⟨b1, b2, b3, b4, b5⟩ := pOuts_size W hf hq W.length [((pAll W E (pLets W E W.length [] [] ⟨0, 0, at'⟩).2.1 41).2 (pMust W E [91] (pLets W E W.length [] [] ⟨0, 0, at'⟩).2.2.1)).1] _ f1 (by simp) (fun x hx => by rw [List.mem_singleton.1 hx]; exact ⟨long_le W hf m1, hq _⟩)
    exact ⟨Nat.le_trans a1 a3, by dsimp only; omega, a5, b4, (pMust_on W E [93]).within _ b2⟩
end
end Go.Proofs.Ythblmpkdcahmkaa

/-
  BLANKS, plain (layer 18): the words of a text with blanks between are the same field; in brackets an expression is the same one. Of no program.
-/
namespace Go.Proofs.Ythblmpkdcahmkaa

theorem lexGo_sign : ∀ (r : List UInt8) (i : Nat) (note : Bool) (ws : List Lw), (lexGo r i note ws).2 = -1 ∨ 0 ≤ (lexGo r i note ws).2
  | [], _, _, _ => .inl rfl
  | c :: r, i, note, ws => by
    unfold lexGo
    split
    · exact lexGo_sign r _ _ _
    · split
      · exact .inr (by dsimp only; omega)
      · exact lexGo_sign r _ _ _
theorem lexScan_sign (l : List UInt8) : (lexScan l).2 = -1 ∨ 0 ≤ (lexScan l).2 := by
  unfold lexScan
  split
  · exact .inr (by dsimp only; omega)
  · exact lexGo_sign l 0 false []
theorem lexScan_all (l : List UInt8) : lexAll (lexScan l).1 ≤ l.length := by
  unfold lexScan
  split
  · exact Nat.zero_le _
  · have := lexGo_all l 0 false []
    simpa [lexAll] using this
theorem wks_count : ∀ (L : List Lw), (∀ x ∈ L, Wk x) → L.length ≤ lexAll L
  | [], _ => Nat.le_refl _
  | x :: r, h => by
    have h1 := wks_count r fun y hy => h y (by simp [hy])
    obtain ⟨c, s, e1, _⟩ := h x (by simp)
    have : lexAll (x :: r) = x.t.length + lexAll r := rfl
    rw [this, e1]
    simp
    omega
theorem lexScan_count (l : List UInt8) : (lexScan l).1.length ≤ l.length := Nat.le_trans (wks_count _ (lexScan_wk l)) (lexScan_all l)
theorem again_len (l : List UInt8) : (lexText ((lexScan l).1.map Lw.t)).length ≤ 2 * l.length := by
  have h1 := lexText_len ((lexScan l).1.map Lw.t)
  have h2 := lexScan_all l
  have h3 := lexScan_count l
  rw [List.length_map, List.map_map] at h1
  have e : ((lexScan l).1.map (List.length ∘ Lw.t)).sum = lexAll (lexScan l).1 := rfl
  rw [e] at h1
  omega
/-- A field, and an expression, of a text's bytes. -/
def pF (l : List UInt8) : List (List UInt8 × List Np) × List (List Np) × Int := pParse (lexScan l).1 l.length (lexScan l).2
def pE (N : List (List UInt8)) (l : List UInt8) : List Np × Int := pCode (lexScan l).1 l.length N (lexScan l).2
/-- The words with blanks between: the same field, or none in both. -/
theorem pF_again {l : List UInt8} (hl : l.length ≤ 2000) (h : (lexScan l).2 < 0) : (pF l).1 = (pF (lexText ((lexScan l).1.map Lw.t))).1 ∧ (pF l).2.1 = (pF (lexText ((lexScan l).1.map Lw.t))).2.1 ∧ ((pF l).2.2 < 0 ↔ (pF (lexText ((lexScan l).1.map Lw.t))).2.2 < 0) := by
  have ha := again_len l
  obtain ⟨e, hw⟩ := lexScan_again (l := l) (by omega)
  have e0 : (lexScan l).2 = -1 := by have := lexScan_sign l; omega
  unfold pF
  rw [e, e0]
  exact pParse_al hw
theorem pCode_none (W : List Lw) (E : Nat) (N : List (List UInt8)) {at' : Int} (h : 0 ≤ at') : (pCode W E N at').2 = at' := by
  have hst := (pAll_fine W E N 41).2.stays ⟨0, 0, at'⟩ h
  have ho : pOver W E ((pAll W E N 41).2 ⟨0, 0, at'⟩).2 = ((pAll W E N 41).2 ⟨0, 0, at'⟩).2 := if_neg (fun h9 => by have := h9.1; rw [hst] at this; dsimp only at this; omega)
  unfold pCode
  dsimp only
  rw [ho, if_pos (by rw [hst]; exact h)]
  exact hst
/-- In brackets, and a line's end: the same expression, where it can be read. -/
theorem pE_brackets {N : List (List UInt8)} {l : List UInt8} (hl : l.length ≤ 3997) (h : (pE N l).2 < 0) (h' : (pE N (40 :: l ++ [10, 41])).2 < 0) : (pE N (40 :: l ++ [10, 41])).1 = (pE N l).1 := by
  have hs : (lexScan l).2 = -1 := by
    rcases lexScan_sign l with h9 | h9
    · exact h9
    · unfold pE at h
      rw [pCode_none _ _ _ h9] at h
      omega
  obtain ⟨e, hw, h0, hn⟩ := lexScan_brackets hl (by omega)
  unfold pE at *
  rw [e] at h' ⊢
  rw [hs] at h ⊢
  exact pCode_brackets hw h0 hn h h'
theorem pE_right {N : List (List UInt8)} {l : List UInt8} (h : (pE N l).2 < 0) : Rt (pE N l).1 := pCode_rt _ _ _ _ h
end Go.Proofs.Ythblmpkdcahmkaa

/-
  Whole numbers in memory and as values: a sign and a list of words. Of no program.
-/
namespace Go.Proofs.Ythblmpkdcahmkaa
open Go.RowKit

/-- A whole number, as a value; its value. -/
def whV (neg : Bool) (a : Option Addr) (n cap : Nat) : Value := .agg #[.bool neg, .slice a n cap]
def zval (neg : Bool) (v : Nat) : Int := if neg = true then -(v : Int) else (v : Int)
/-- Whether a whole number is below 0. -/
def zneg (z : Int) : Bool := decide (z < 0)
theorem zval_neg (neg : Bool) (v : Nat) : zneg (zval neg v) = (neg && decide (v ≠ 0)) := by
  unfold zneg zval
  cases neg with
  | false => simp
  | true =>
    by_cases h : v = 0
    · subst h; rfl
    · rw [if_pos rfl, decide_eq_true h, decide_eq_true (by omega)]; rfl
theorem zval_abs (neg : Bool) (v : Nat) : (zval neg v).natAbs = v := by unfold zval; cases neg <;> simp
theorem zval_of (z : Int) : zval (zneg z) z.natAbs = z := by
  unfold zval zneg
  by_cases h : z < 0
  · rw [decide_eq_true h, if_pos rfl]; omega
  · rw [decide_eq_false h, if_neg (by simp)]; omega
/-- A right whole number comes back. -/
def LstZ (z : Int) (w : World) (e : Ending) (w' : World) : Prop :=
  ∃ (a : Option Addr) (n cap : Nat), e = .returned (whV (zneg z) a n cap) ∧ Wd w' a n cap (dg z.natAbs) ∧ Below w.heap.size w w'
/-- What a block holds, cell by cell. -/
theorem blk_cell {w : World} {g : Nat} {cur : Array Value} {t : TypeId} (h : w.heap[g]? = some (.cells cur t (0, 0))) (j : Nat) : w.cell? ⟨g, j, none⟩ = cur[j]? := cell_of_row w g j cur t (0, 0) h
theorem blk_free {w : World} {g : Nat} {cur : Array Value} {t : TypeId} (h : w.heap[g]? = some (.cells cur t (0, 0))) (j : Nat) : w.frozen? ⟨g, j, none⟩ = false := frozen_of_row w g j cur t h
theorem blk_new (w : World) (cur : Array Value) (t : TypeId) : (w.alloc (.cells cur t)).heap[w.heap.size]? = some (.cells cur t (0, 0)) := heap_alloc_new w _
theorem blk_later {w w' : World} {g : Nat} {o : Obj} (h : w.heap[g]? = some o) (hb : Below w.heap.size w w') : w'.heap[g]? = some o := (hb.block g (Array.getElem?_eq_some_iff.1 h).1).trans h
theorem blk_size (w : World) (o : Obj) : (w.alloc o).heap.size = w.heap.size + 1 := by simp
/-- Words do not lie in a block that holds no words: they stay when it is written. -/
theorem Wd.stored {w : World} {a : Option Addr} {n cap : Nat} {l : List Nat} (h : Wd w a n cap l) {g : Nat} {cur : Array Value} {t : TypeId} (hg : w.heap[g]? = some (.cells cur t (0, 0))) (hc : ∀ (j : Nat) (k : Int), cur[j]? ≠ some (.int .u32 k)) (i : Nat) (u : Value) : Wd (w.setCell ⟨g, i, none⟩ u) a n cap l := by
  refine ⟨h.1, h.2.1, h.2.2.1, h.2.2.2.1, h.2.2.2.2.1, h.2.2.2.2.2.imp id fun ⟨b, off, e, hcl⟩ => ⟨b, off, e, fun j hj => ?_⟩⟩
  have h1 := hcl j hj
  have hne : b ≠ g := fun e2 => by
    subst e2
    rw [blk_cell hg] at h1
    exact hc _ _ h1
  rw [World.cell?_of_block (w := w) (Below.heap_setCell _ _ _ _ (by exact hne))]
  exact h1
theorem blk_set {w : World} {g : Nat} {cur : Array Value} {t : TypeId} (h : w.heap[g]? = some (.cells cur t (0, 0))) (i : Nat) (u : Value) : (w.setCell ⟨g, i, none⟩ u).heap[g]? = some (.cells (cur.setIfInBounds i u) t (0, 0)) := heap_setCell_same w g i cur t u h
theorem blk_set2 {w : World} {g : Nat} {x y : Value} {t : TypeId} (h : w.heap[g]? = some (.cells #[x, y] t (0, 0))) (u v : Value) : ((w.setCell ⟨g, 0, none⟩ u).setCell ⟨g, 1, none⟩ v).heap[g]? = some (.cells #[u, v] t (0, 0)) := by
  have h1 := blk_set (blk_set h 0 u) 1 v
  simpa using h1
theorem no_words {b : Bool} {a : Option Addr} {n cap : Nat} : ∀ (j : Nat) (k : Int), (#[Value.bool b, .slice a n cap] : Array Value)[j]? ≠ some (.int .u32 k) := by
  intro j k
  match j with
  | 0 => simp
  | 1 => simp
  | j + 2 => simp
theorem Wd.stored2 {w : World} {a : Option Addr} {n cap : Nat} {l : List Nat} (h : Wd w a n cap l) {g : Nat} {b : Bool} {x : Option Addr} {y z : Nat} {t : TypeId} (hg : w.heap[g]? = some (.cells #[.bool b, .slice x y z] t (0, 0))) (c : Bool) (v : Value) : Wd ((w.setCell ⟨g, 0, none⟩ (.bool c)).setCell ⟨g, 1, none⟩ v) a n cap l := by
  have h1 := h.stored hg no_words 0 (.bool c)
  have h2 : (w.setCell ⟨g, 0, none⟩ (.bool c)).heap[g]? = some (.cells #[.bool c, .slice x y z] t (0, 0)) := by simpa using blk_set hg 0 (.bool c)
  exact h1.stored h2 no_words 1 v
theorem below_set2 {w w1 : World} {g : Nat} (h : Below w.heap.size w w1) (hg : w.heap.size ≤ g) (u v : Value) : Below w.heap.size w ((w1.setCell ⟨g, 0, none⟩ u).setCell ⟨g, 1, none⟩ v) := (h.setCell (p := ⟨g, 0, none⟩) hg u).setCell (p := ⟨g, 1, none⟩) hg v
/-- The sign of a whole number. -/
def sgn (z : Int) : Int := if z = 0 then 0 else if z < 0 then -1 else 1
theorem sgn_range (z : Int) : -1 ≤ sgn z ∧ sgn z ≤ 1 := by unfold sgn; split <;> (try split) <;> omega
/-- One box, two boxes of a call: where they are later. -/
theorem box_at (w w1 : World) (x : Array Value) (t : TypeId) (hb : Below (w.alloc (.cells x t)).heap.size (w.alloc (.cells x t)) w1) : w1.heap[w.heap.size]? = some (.cells x t (0, 0)) := blk_later (blk_new w x t) hb
theorem boxes_at (w w1 : World) (x y : Array Value) (t s : TypeId) (hb : Below ((w.alloc (.cells x t)).alloc (.cells y s)).heap.size ((w.alloc (.cells x t)).alloc (.cells y s)) w1) :
    w1.heap[w.heap.size]? = some (.cells x t (0, 0)) ∧ w1.heap[w.heap.size + 1]? = some (.cells y s (0, 0)) := by
  refine ⟨blk_later (blk_later (blk_new w x t) (below_alloc _ _)) hb, ?_⟩
  have h2 := blk_new (w.alloc (.cells x t)) y s
  rw [blk_size] at h2
  exact blk_later h2 hb
theorem blk_apart {w : World} {A g : Nat} {o : Obj} (h : w.heap[A]? = some o) (hne : A ≠ g) (i : Nat) (u : Value) : (w.setCell ⟨g, i, none⟩ u).heap[A]? = some o := (Below.heap_setCell w ⟨g, i, none⟩ u A hne).trans h
end Go.Proofs.Ythblmpkdcahmkaa

/-
  Boxes of four numbers (a fault), and a result of which the second part lies in such a box. Of no program.
-/
namespace Go.Proofs.Ythblmpkdcahmkaa
open Go.RowKit

theorem results_tmp_cell {P : Program} {fn : Func} {p u : Tmp} {ty : TypeId} (h : fn.results = #[.tmp u, .cell p ty]) (tmps : Array Value) (w : World) (g : Nat) (t : TypeId) (cs : Array Value) (fr : Nat × Nat) (d : TypeDesc)
    (hp : tmps.getD p undef = .pointer (some ⟨g, 0, none⟩)) (hg : w.heap[g]? = some (.cells cs t fr))
    (hu : P.underlying ty = some d) (hd : (match d with | .struct _ | .array _ _ => true | _ => false) = true) (hi : (P.info? ty).map (·.size) = some cs.size) :
    (results fn tmps).run P w = .ok (.tuple #[tmps.getD u undef, .agg cs]) w := by
  have hp' : tmps[p]?.getD undef = .pointer (some ⟨g, 0, none⟩) := by simpa using hp
  simp [results, h, hp', asAddr, run_loadVar_row w g t ty cs fr d hg hu hd hi, Result.andThen]
theorem blk_set4 {w : World} {g : Nat} {x y z u : Value} {t : TypeId} (h : w.heap[g]? = some (.cells #[x, y, z, u] t (0, 0))) (x' y' z' u' : Value) : ((((w.setCell ⟨g, 0, none⟩ x').setCell ⟨g, 1, none⟩ y').setCell ⟨g, 2, none⟩ z').setCell ⟨g, 3, none⟩ u').heap[g]? = some (.cells #[x', y', z', u'] t (0, 0)) := by
  have h1 := blk_set (blk_set (blk_set (blk_set h 0 x') 1 y') 2 z') 3 u'
  simpa using h1
theorem no_words4 {a b c d : Int} : ∀ (j : Nat) (k : Int), (#[Value.int .i64 a, .int .i64 b, .int .i64 c, .int .i64 d] : Array Value)[j]? ≠ some (.int .u32 k) := by
  intro j k
  match j with
  | 0 => simp
  | 1 => simp
  | 2 => simp
  | 3 => simp
  | j + 4 => simp
theorem Wd.stored4 {w : World} {a : Option Addr} {n cap : Nat} {l : List Nat} (h : Wd w a n cap l) {g : Nat} {x0 x1 x2 x3 : Int} {t : TypeId} (hg : w.heap[g]? = some (.cells #[.int .i64 x0, .int .i64 x1, .int .i64 x2, .int .i64 x3] t (0, 0))) (y0 y1 y2 y3 : Int) :
    Wd ((((w.setCell ⟨g, 0, none⟩ (.int .i64 y0)).setCell ⟨g, 1, none⟩ (.int .i64 y1)).setCell ⟨g, 2, none⟩ (.int .i64 y2)).setCell ⟨g, 3, none⟩ (.int .i64 y3)) a n cap l := by
  have h0 := h.stored hg no_words4 0 (.int .i64 y0)
  have g0 : (w.setCell ⟨g, 0, none⟩ (.int .i64 y0)).heap[g]? = some (.cells #[.int .i64 y0, .int .i64 x1, .int .i64 x2, .int .i64 x3] t (0, 0)) := by simpa using blk_set hg 0 (.int .i64 y0)
  have h1 := h0.stored g0 no_words4 1 (.int .i64 y1)
  have g1 : ((w.setCell ⟨g, 0, none⟩ (.int .i64 y0)).setCell ⟨g, 1, none⟩ (.int .i64 y1)).heap[g]? = some (.cells #[.int .i64 y0, .int .i64 y1, .int .i64 x2, .int .i64 x3] t (0, 0)) := by simpa using blk_set g0 1 (.int .i64 y1)
  have h2 := h1.stored g1 no_words4 2 (.int .i64 y2)
  have g2 : (((w.setCell ⟨g, 0, none⟩ (.int .i64 y0)).setCell ⟨g, 1, none⟩ (.int .i64 y1)).setCell ⟨g, 2, none⟩ (.int .i64 y2)).heap[g]? = some (.cells #[.int .i64 y0, .int .i64 y1, .int .i64 y2, .int .i64 x3] t (0, 0)) := by simpa using blk_set g1 2 (.int .i64 y2)
  exact h2.stored g2 no_words4 3 (.int .i64 y3)
theorem below_set4 {w w1 : World} {g : Nat} (h : Below w.heap.size w w1) (hg : w.heap.size ≤ g) (x y z u : Value) : Below w.heap.size w ((((w1.setCell ⟨g, 0, none⟩ x).setCell ⟨g, 1, none⟩ y).setCell ⟨g, 2, none⟩ z).setCell ⟨g, 3, none⟩ u) :=
  (((h.setCell (p := ⟨g, 0, none⟩) hg x).setCell (p := ⟨g, 1, none⟩) hg y).setCell (p := ⟨g, 2, none⟩) hg z).setCell (p := ⟨g, 3, none⟩) hg u
end Go.Proofs.Ythblmpkdcahmkaa

/-
  One more word behind a row of one's own, as a statement by itself; parts of a text; a box that stays. Of no program.
-/
namespace Go.Proofs.Ythblmpkdcahmkaa
open Go.WideShapes Go.RowKit Go.Deep

theorem wpList_append_x {P : Program} {w : World} {ops : Array Oper} {rest : List Oper} {o : Oper} {a : Act} {Q : Exit → Act → World → Prop} (hgd : o.guard = none) (s x : Operand) (t : TypeId)
    (ho : o.op = .call { callee := .builtin .append, args := #[s, x], argTypes := #[t, t] })
    (base : Nat) (e : TypeId) (i : TypeInfo) (z : Value) (ht : P.underlying t = some (.slice e)) (hi : P.info? e = some i) (hz : i.zero = some z)
    (hsize : i.size = 3) (hby : i.bytes = 32) (hzs : z.cells.size = 3) (v : Value) (L : List Wx) (hs : a.eval s = v) (hrow : OwnX w base e v L)
    (ad : Addr) (y : Wx) (hx : a.eval x = .slice (some ad) 1 1) (hnews : ∀ j u, (Wx.cells y)[j]? = some u → w.cell? (ad.add j) = some u)
    (hlen : L.length ≤ 1000000) (hbase : base ≤ w.heap.size)
    (h : ∀ v' w', OwnX w' base e v' (L ++ [y]) → w.grownBy w' v.ownBlock → wpList P ops Q rest (a.put o.dst v') w') : wpList P ops Q (o :: rest) a w :=
  wpList_append_own w hgd s x t ho base e i z 3 32 ht hi hz hsize hby hzs (by decide) v L.length (L.flatMap Wx.cells) hs hrow ad 1 1 (Wx.cells y) hx rfl hnews (wone_cells y) (by unfold maxLen; omega) (by omega) hbase
    fun v' w' h1 h2 _ => h v' w' (OwnX.push h1) h2
theorem lb_cut (l : List UInt8) (k n : Nat) : (bs l).extract k (k + n) = bs ((l.drop k).take n) := by
  unfold bs
  rw [ByteArray.extract_mk]
  congr 1
  apply Array.ext'
  simp
theorem blk_keep {w w' : World} {g : Nat} {o : Obj} {row : Option Nat} (h : w.heap[g]? = some o) (hg : w.grownBy w' row) (hn : ∀ k, row = some k → g ≠ k) : w'.heap[g]? = some o := by
  have hlt : g < w.heap.size := (Array.getElem?_eq_some_iff.1 h).1
  rw [hg.block g hlt (fun e => hn g e.symm rfl)]
  exact h
theorem lexGo_len : ∀ (r : List UInt8) (i : Nat) (note : Bool) (ws : List Lw), (lexGo r i note ws).1.length ≤ ws.length + r.length
  | [], i, note, ws => Nat.le_refl _
  | c :: r, i, note, ws => by
    have hp : (lexPut ws i c).length ≤ ws.length + 1 := by
      rcases List.eq_nil_or_concat ws with rfl | ⟨W, y, hw⟩
      · exact Nat.le_refl _
      · rw [List.concat_eq_append] at hw
        subst hw
        by_cases h : y.p + y.t.length = i ∧ lexMore y.k c.toNat = true
        · rw [lexPut_more h]; simp
        · rw [lexPut_new h]; simp
    unfold lexGo
    split
    · have := lexGo_len r (i + 1) (decide (c.toNat = 35 ∨ (note = true ∧ c.toNat ≠ 10))) ws
      simp only [List.length_cons]
      omega
    · split
      · exact Nat.zero_le _
      · have h1 := lexGo_len r (i + 1) false (lexPut ws i c)
        simp only [List.length_cons]
        omega
theorem lexScan_len (l : List UInt8) : (lexScan l).1.length ≤ 4000 := by
  unfold lexScan
  split
  · simp
  · have := lexGo_len l 0 false []
    simp at this
    omega
/-- A store into a box that holds no text. -/
theorem Wxs.stored {w : World} {a : Option Addr} {n cap : Nat} {L : List Wx} (h : Wxs w a n cap L) {g : Nat} {cur : Array Value} {t : TypeId} (hg : w.heap[g]? = some (.cells cur t (0, 0))) (hno : ∀ (j : Nat) (s : ByteArray), cur[j]? ≠ some (.string s)) (i : Nat) (u : Value) : Wxs (w.setCell ⟨g, i, none⟩ u) a n cap L := by
  refine ⟨h.1, h.2.1, h.2.2.1, h.2.2.2.1, h.2.2.2.2.imp id ?_⟩
  rintro ⟨b, off, e, hc⟩
  refine ⟨b, off, e, fun j hj => ?_⟩
  obtain ⟨h1, h2, h3⟩ := hc j hj
  have hb : b ≠ g := by
    rintro rfl
    rw [blk_cell hg] at h2
    exact hno _ _ h2
  have key : ∀ k x, w.cell? ⟨b, k, none⟩ = some x → (w.setCell ⟨g, i, none⟩ u).cell? ⟨b, k, none⟩ = some x := fun k x hx => by
    rw [World.cell?_setCell_other _ _ _ _ (by intro e; exact hb (Addr.mk.inj e).1.symm)]
    exact hx
  exact ⟨key _ _ h1, key _ _ h2, key _ _ h3⟩
theorem no_texts4 {a b c d : Int} : ∀ (j : Nat) (s : ByteArray), (#[Value.int .i64 a, .int .i64 b, .int .i64 c, .int .i64 d] : Array Value)[j]? ≠ some (.string s) := by
  intro j k
  match j with
  | 0 => simp
  | 1 => simp
  | 2 => simp
  | 3 => simp
  | j + 4 => simp
theorem Wxs.stored4 {w : World} {a : Option Addr} {n cap : Nat} {L : List Wx} (h : Wxs w a n cap L) {g : Nat} {x0 x1 x2 x3 : Int} {t : TypeId} (hg : w.heap[g]? = some (.cells #[.int .i64 x0, .int .i64 x1, .int .i64 x2, .int .i64 x3] t (0, 0))) (y0 y1 y2 y3 : Int) :
    Wxs ((((w.setCell ⟨g, 0, none⟩ (.int .i64 y0)).setCell ⟨g, 1, none⟩ (.int .i64 y1)).setCell ⟨g, 2, none⟩ (.int .i64 y2)).setCell ⟨g, 3, none⟩ (.int .i64 y3)) a n cap L := by
  have h0 := h.stored hg no_texts4 0 (.int .i64 y0)
  have g0 : (w.setCell ⟨g, 0, none⟩ (.int .i64 y0)).heap[g]? = some (.cells #[.int .i64 y0, .int .i64 x1, .int .i64 x2, .int .i64 x3] t (0, 0)) := by simpa using blk_set hg 0 (.int .i64 y0)
  have h1 := h0.stored g0 no_texts4 1 (.int .i64 y1)
  have g1 : ((w.setCell ⟨g, 0, none⟩ (.int .i64 y0)).setCell ⟨g, 1, none⟩ (.int .i64 y1)).heap[g]? = some (.cells #[.int .i64 y0, .int .i64 y1, .int .i64 x2, .int .i64 x3] t (0, 0)) := by simpa using blk_set g0 1 (.int .i64 y1)
  have h2 := h1.stored g1 no_texts4 2 (.int .i64 y2)
  have g2 : (((w.setCell ⟨g, 0, none⟩ (.int .i64 y0)).setCell ⟨g, 1, none⟩ (.int .i64 y1)).setCell ⟨g, 2, none⟩ (.int .i64 y2)).heap[g]? = some (.cells #[.int .i64 y0, .int .i64 y1, .int .i64 y2, .int .i64 x3] t (0, 0)) := by simpa using blk_set g1 2 (.int .i64 y2)
  exact h2.stored g2 no_texts4 3 (.int .i64 y3)
/-- The fault that stands for this place. -/
def lexFault (a : Int) : Value := if a < 0 then faultV 0 0 0 0 else faultV 1 0 0 a
theorem lexFault_none : lexFault (-1) = faultV 0 0 0 0 := rfl
theorem lexFault_at (k : Nat) : lexFault (k : Int) = faultV 1 0 0 (k : Int) := if_neg (by omega)
/-- These words, and this fault. -/
def LstS (r : List Lw × Int) (w : World) (e : Ending) (w' : World) : Prop :=
  ∃ (a : Option Addr) (n cap : Nat), e = .returned (.tuple #[.slice a n cap, lexFault r.2]) ∧ Wxs w' a n cap (r.1.map Lw.x) ∧ Below w.heap.size w w'
end Go.Proofs.Ythblmpkdcahmkaa

/-
  Rows of anything in memory: what an element's cells are (a class), a slice that holds such elements, a row of one's own to which elements are appended. Of no program.
-/
namespace Go.Proofs.Ythblmpkdcahmkaa
open Go.WideShapes Go.RowKit Go.Deep

/-- The block that a value leads to holds nothing but such cells. -/
def Only (p : Value → Prop) (w : World) (v : Value) : Prop := ∀ g, v.ownBlock = some g → ∀ (j : Nat) u, w.cell? ⟨g, j, none⟩ = some u → p u
theorem only_nil (p : Value → Prop) (w : World) : Only p w (.slice none 0 0) := fun g h => by simp [Value.ownBlock] at h
theorem only_block {p : Value → Prop} {w : World} {g : Nat} {n c : Nat} {cur : Array Value} {e : TypeId} {fr : Nat × Nat} (hg : w.heap[g]? = some (.cells cur e fr)) (h : ∀ u ∈ cur.toList, p u) : Only p w (.slice (some ⟨g, 0, none⟩) n c) := by
  intro g' hg' j u hc
  simp [Value.ownBlock] at hg'
  subst hg'
  rw [cell_of_row w g j cur e fr hg] at hc
  have hm : u ∈ cur := Array.mem_of_getElem? hc
  exact h _ (by simpa using hm)
theorem only_zeros {p : Value → Prop} {z : Array Value} (h : ∀ u ∈ z.toList, p u) (n : Nat) : ∀ u ∈ (Builtin.zeroCells z n).toList, p u := by
  intro u hu
  have hm : u ∈ Builtin.zeroCells z n := by simpa using hu
  unfold Builtin.zeroCells at hm
  simp at hm
  obtain ⟨i, h1, h2⟩ := hm
  have hz : 0 < z.size := Nat.pos_of_ne_zero (fun e => by rw [e, Nat.mul_zero] at h1; omega)
  have hi : i % z.size < z.size := Nat.mod_lt _ hz
  rw [getElem!_pos z _ hi] at h2
  exact h u (by rw [← h2]; simp)
theorem only_append {p : Value → Prop} {l m : List Value} (h : ∀ u ∈ l, p u) (k : ∀ u ∈ m, p u) : ∀ u ∈ l ++ m, p u := fun u hu => (List.mem_append.1 hu).elim (h u) (k u)
theorem Only.later {p : Value → Prop} {w w' : World} {v : Value} (h : Only p w v) (hk : ∀ g, v.ownBlock = some g → w'.heap[g]? = w.heap[g]?) : Only p w' v := fun g hg j u hu => by
  rw [World.cell?_of_block (a := ⟨g, j, none⟩) (hk g hg)] at hu
  exact h g hg j u hu

/-- What the elements of a row are, cell by cell. -/
structure Cls (α : Type) where
  cells : α → List Value
  size : Nat
  bytes : Nat
  p : Value → Prop
  pos : 0 < size
  len : ∀ x, (cells x).length = size
  one : ∀ x, ∀ u ∈ cells x, u.oneCell' = true
  ok : ∀ x, ∀ u ∈ cells x, p u
namespace Cls
variable {α : Type} (C : Cls α)
/-- The program's types of such rows and their elements. -/
def At (P : Program) (t e : TypeId) : Prop :=
  P.underlying t = some (.slice e) ∧ ∃ i z, P.info? e = some i ∧ i.zero = some z ∧ i.size = C.size ∧ i.bytes = C.bytes ∧ z.cells.size = C.size ∧ ∀ u ∈ z.cells.toList, C.p u
theorem atOf {P : Program} {t e : TypeId} {z : Value} (ht : P.underlying t = some (.slice e)) (h : (P.info? e).map (fun i => (i.zero, i.size, i.bytes)) = some (some z, C.size, C.bytes)) (hz : z.cells.size = C.size) (hp : ∀ u ∈ z.cells.toList, C.p u) : C.At P t e := by
  cases hi : P.info? e with
  | none => rw [hi] at h; simp at h
  | some i => rw [hi] at h; simp at h; exact ⟨ht, i, z, hi, h.1, h.2.1, h.2.2, hz, hp⟩
theorem flat_len (L : List α) : (L.flatMap C.cells).length = L.length * C.size := by
  induction L with
  | nil => simp
  | cons x r ih => rw [List.flatMap_cons, List.length_append, ih, C.len, List.length_cons, Nat.add_mul]; omega
theorem flat_at : ∀ (L : List α) (j i : Nat) (x : α), L[j]? = some x → i < C.size → (L.flatMap C.cells)[j * C.size + i]? = (C.cells x)[i]?
  | [], j, i, x, h, _ => by simp at h
  | y :: r, 0, i, x, h, hi => by
    simp only [List.getElem?_cons_zero, Option.some.injEq] at h
    subst h
    rw [Nat.zero_mul, Nat.zero_add, List.flatMap_cons, List.getElem?_append_left (by rw [C.len]; exact hi)]
  | y :: r, j + 1, i, x, h, hi => by
    simp only [List.getElem?_cons_succ] at h
    rw [List.flatMap_cons, List.getElem?_append_right (by rw [C.len, Nat.add_mul]; omega), C.len, show (j + 1) * C.size + i - C.size = j * C.size + i by rw [Nat.add_mul]; omega]
    exact flat_at r j i x h hi
theorem flat_ok (L : List α) : ∀ u ∈ L.flatMap C.cells, C.p u := fun u hu => by
  obtain ⟨x, _, hx⟩ := List.mem_flatMap.1 hu
  exact C.ok x u hx
theorem flat_one (L : List α) : ∀ u ∈ L.flatMap C.cells, u.oneCell' = true := fun u hu => by
  obtain ⟨x, _, hx⟩ := List.mem_flatMap.1 hu
  exact C.one x u hx
/-- In the world w the slice ⟨a, n, cap⟩ holds just these elements. -/
def Has (w : World) (a : Option Addr) (n cap : Nat) (L : List α) : Prop :=
  L.length = n ∧ n ≤ cap ∧ cap ≤ 9223372036854775807 ∧ (a = none → cap = 0) ∧ (n = 0 ∨ ∃ b off, a = some ⟨b, off, none⟩ ∧ ∀ (j : Nat) (x : α), L[j]? = some x → ∀ (i : Nat) u, (C.cells x)[i]? = some u → w.cell? ⟨b, off + j * C.size + i, none⟩ = some u)
/-- A row of one's own that holds these elements, and nothing else in its block. -/
def Own (w : World) (base : Nat) (e : TypeId) (v : Value) (L : List α) : Prop := w.ownsRow base e C.size v L.length (L.flatMap C.cells) ∧ Only C.p w v
variable {C}
theorem Has.len {w : World} {a : Option Addr} {n cap : Nat} {L : List α} (h : C.Has w a n cap L) : L.length = n := h.1
theorem Has.bound {w : World} {a : Option Addr} {n cap : Nat} {L : List α} (h : C.Has w a n cap L) : n ≤ cap ∧ cap ≤ 9223372036854775807 := ⟨h.2.1, h.2.2.1⟩
theorem Has.nil (w : World) : C.Has w none 0 0 [] := ⟨rfl, Nat.le_refl _, by omega, fun _ => rfl, .inl rfl⟩
theorem Has.void (w : World) (a : Addr) {cap : Nat} (h : cap ≤ 9223372036854775807) : C.Has w (some a) 0 cap [] := ⟨rfl, Nat.zero_le _, h, fun e => (by cases e), .inl rfl⟩
theorem Has.at {w : World} {a : Option Addr} {n cap : Nat} {L : List α} (h : C.Has w a n cap L) (hn : 0 < n) : ∃ b off, a = some ⟨b, off, none⟩ ∧ ∀ (j : Nat) (x : α), L[j]? = some x → ∀ (i : Nat) u, (C.cells x)[i]? = some u → w.cell? ⟨b, off + j * C.size + i, none⟩ = some u := by
  rcases h.2.2.2.2 with h0 | h0
  · omega
  · exact h0
theorem Has.kept {w w' : World} {a : Option Addr} {n cap : Nat} {L : List α} (h : C.Has w a n cap L) (hk : ∀ (q : Addr) u, w.cell? q = some u → (∀ b off, a = some ⟨b, off, none⟩ → q.block = b) → w'.cell? q = some u) : C.Has w' a n cap L :=
  ⟨h.1, h.2.1, h.2.2.1, h.2.2.2.1, h.2.2.2.2.imp id fun ⟨b, off, e, hc⟩ => ⟨b, off, e, fun j x hj i u hu => hk _ _ (hc j x hj i u hu) fun b' off' e' => by rw [e] at e'; exact (Addr.mk.inj (Option.some.inj e')).1⟩⟩
theorem Has.later {w w' : World} {a : Option Addr} {n cap : Nat} {L : List α} (h : C.Has w a n cap L) (hb : Below w.heap.size w w') : C.Has w' a n cap L := h.kept fun _ _ hq _ => cell_later hb hq
/-- A part of it. -/
theorem Has.part {w : World} {b off n cap : Nat} {L : List α} (h : C.Has w (some ⟨b, off, none⟩) n cap L) {i j c : Nat} (hi : i ≤ j) (hj : j ≤ n) (hc : j - i ≤ c) (hc2 : c ≤ 9223372036854775807) : C.Has w (some ⟨b, off + i * C.size, none⟩) (j - i) c ((L.drop i).take (j - i)) := by
  have hl := h.len
  refine ⟨by rw [List.length_take, List.length_drop]; omega, hc, hc2, fun e => (by cases e), ?_⟩
  by_cases h0 : j - i = 0
  · exact .inl h0
  · refine .inr ⟨b, off + i * C.size, rfl, fun k x hk q u hu => ?_⟩
    obtain ⟨b', off', e, hcl⟩ := h.at (by omega)
    simp only [Option.some.injEq, Addr.mk.injEq, and_true] at e
    obtain ⟨rfl, rfl⟩ := e
    have hk2 : k < j - i := by
      rcases Nat.lt_or_ge k (j - i) with h9 | h9
      · exact h9
      · rw [List.getElem?_eq_none (by rw [List.length_take]; omega)] at hk; cases hk
    rw [List.getElem?_take_of_lt hk2, List.getElem?_drop] at hk
    have h9 := hcl (i + k) x hk q u hu
    rw [Nat.add_mul] at h9
    rw [show off + i * C.size + k * C.size + q = off + (i * C.size + k * C.size) + q by omega]
    exact h9
/-- What grows in a block of other cells leaves it as it was. -/
theorem Has.aside {w w' : World} {v : Value} {a : Option Addr} {n cap : Nat} {L : List α} (h : C.Has w a n cap L) {p : Value → Prop} (ho : Only p w v) (hg : w.grownBy w' v.ownBlock) (hno : ∀ x : α, ∃ (i : Nat) (u : Value), (C.cells x)[i]? = some u ∧ ¬ p u) : C.Has w' a n cap L := by
  refine ⟨h.1, h.2.1, h.2.2.1, h.2.2.2.1, ?_⟩
  rcases h.2.2.2.2 with h0 | ⟨b, off, e, hc⟩
  · exact .inl h0
  · by_cases h0 : n = 0
    · exact .inl h0
    · refine .inr ⟨b, off, e, ?_⟩
      obtain ⟨x0, hx0⟩ : ∃ x0, L[0]? = some x0 := ⟨L[0]'(by rw [h.1]; omega), List.getElem?_eq_getElem _⟩
      obtain ⟨i0, u0, hu0, hp⟩ := hno x0
      have hc0 := hc 0 x0 hx0 i0 u0 hu0
      have hlt : b < w.heap.size := by
        rcases Nat.lt_or_ge b w.heap.size with h9 | h9
        · exact h9
        · rw [World.cell?, Array.getElem?_eq_none h9] at hc0; cases hc0
      have hk := hg.block b hlt (fun e2 => hp (ho b e2.symm _ _ hc0))
      intro j x hj i u hu
      rw [World.cell?_of_block (a := ⟨b, off + j * C.size + i, none⟩) hk]
      exact hc j x hj i u hu
theorem Own.nil (w : World) (base : Nat) (e : TypeId) : C.Own w base e (.slice none 0 0) [] := ⟨World.ownsRow_nil _ _ _ _, only_nil _ _⟩
theorem Own.kept {w w' : World} {base : Nat} {e : TypeId} {v : Value} {L : List α} (h : C.Own w base e v L) (hk : ∀ k, v.ownBlock = some k → base ≤ k → k < w.heap.size → w'.heap[k]? = w.heap[k]?) : C.Own w' base e v L := by
  obtain ⟨⟨h1, h2⟩, h3⟩ := h
  rcases h2 with ⟨rfl, h0⟩ | ⟨g, cap, cur, rfl, hbg, hg, h4, h5, h6, h7⟩
  · exact ⟨⟨h1, .inl ⟨rfl, h0⟩⟩, only_nil _ _⟩
  · have hlt : g < w.heap.size := (Array.getElem?_eq_some_iff.1 hg).1
    have hg' : w'.heap[g]? = w.heap[g]? := hk g rfl hbg hlt
    exact ⟨⟨h1, .inr ⟨g, cap, cur, rfl, hbg, hg'.trans hg, h4, h5, h6, h7⟩⟩, h3.later fun g2 hg2 => by simp [Value.ownBlock] at hg2; subst hg2; exact hg'⟩
theorem Own.later {w w' : World} {base : Nat} {e : TypeId} {v : Value} {L : List α} (h : C.Own w base e v L) (hb : Below w.heap.size w w') : C.Own w' base e v L := h.kept fun k _ _ hk => hb.block k hk
theorem Own.base {w : World} {base : Nat} {e : TypeId} {v : Value} {L : List α} (h : C.Own w base e v L) (k : Nat) (hk : v.ownBlock = some k) : base ≤ k := by
  rcases h.1.2 with ⟨rfl, _⟩ | ⟨g, cap, cur, rfl, hbg, _⟩
  · simp [Value.ownBlock] at hk
  · simp [Value.ownBlock] at hk
    omega
theorem Own.lt {w : World} {base : Nat} {e : TypeId} {v : Value} {L : List α} (h : C.Own w base e v L) (k : Nat) (hk : v.ownBlock = some k) : k < w.heap.size := by
  rcases h.1.2 with ⟨rfl, _⟩ | ⟨g, cap, cur, rfl, hbg, hg, _⟩
  · simp [Value.ownBlock] at hk
  · simp [Value.ownBlock] at hk
    subst hk
    exact (Array.getElem?_eq_some_iff.1 hg).1
/-- What grows in another block leaves it as it was. -/
theorem Own.beside {w w' : World} {base : Nat} {e : TypeId} {v : Value} {L : List α} (h : C.Own w base e v L) {row : Option Nat} (hg : w.grownBy w' row) (hne : ∀ k, v.ownBlock = some k → row ≠ some k) : C.Own w' base e v L :=
  h.kept fun k hk _ hlt => hg.block k hlt fun e => hne k hk e.symm
theorem Own.slice {w : World} {base : Nat} {e : TypeId} {v : Value} {L : List α} (h : C.Own w base e v L) : ∃ (a : Option Addr) (cap : Nat), v = .slice a L.length cap ∧ C.Has w a L.length cap L := by
  rcases h.1.2 with ⟨rfl, h0⟩ | ⟨g, cap, cur, rfl, hbg, hg, hnc, hcm, hcs, htake⟩
  · exact ⟨none, 0, by rw [h0], by rw [h0]; exact ⟨h0, Nat.le_refl _, by omega, fun _ => rfl, .inl rfl⟩⟩
  · refine ⟨_, cap, rfl, rfl, hnc, by unfold maxLen at hcm; omega, fun e => (by cases e), .inr ⟨g, 0, rfl, fun j x hj i u hu => ?_⟩⟩
    have hi : i < C.size := by
      rcases Nat.lt_or_ge i C.size with h9 | h9
      · exact h9
      · rw [List.getElem?_eq_none (by rw [C.len]; exact h9)] at hu; cases hu
    have h9 := h.1.cells (g := g) rfl (j * C.size + i) u (by rw [C.flat_at L j i x hj hi]; exact hu)
    rw [add_plain] at h9
    rw [Nat.add_assoc]
    exact h9
/-- What a value leads to is what another one led to, or new. -/
def New (w : World) (v v' : Value) : Prop := ∀ j, v'.ownBlock = some j → v.ownBlock = some j ∨ w.heap.size ≤ j
/-- More elements behind a row of one's own. -/
theorem run_append {P : Program} {t e : TypeId} (hA : C.At P t e) (w : World) (ty : TypeId) (base : Nat) (v : Value) (L : List α) (h : C.Own w base e v L)
    (ad : Addr) (m c : Nat) (M : List α) (hm : M.length = m) (hnews : ∀ j u, (M.flatMap C.cells)[j]? = some u → w.cell? (ad.add j) = some u)
    (h63 : L.length + m ≤ maxLen) (hbytes : (L.length + m) * C.bytes ≤ 140737488355328) (hbase : base ≤ w.heap.size) :
    ∃ v' w', (Builtin.append_ #[t, t] ty #[v, .slice (some ad) m c]).run P w = .ok v' w' ∧ C.Own w' base e v' (L ++ M) ∧ w.grownBy w' v.ownBlock ∧ New w v v' := by
  obtain ⟨ht, i, z, hi, hz, hsize, hby, hzs, hzp⟩ := hA
  obtain ⟨hown, hcl⟩ := h
  have hnl : (M.flatMap C.cells).length = m * C.size := by rw [C.flat_len, hm]
  obtain ⟨v', w', hr, h2, h3, h4⟩ := run_append_own (P := P) w base t ty e i z C.size C.bytes ht hi hz hsize hby hzs C.pos v L.length (L.flatMap C.cells) hown ad m c (M.flatMap C.cells) hnl hnews (C.flat_one M) h63 hbytes hbase
  have h2' : w'.ownsRow base e C.size v' (L ++ M).length ((L ++ M).flatMap C.cells) := by rw [List.length_append, List.flatMap_append, hm]; exact h2
  have hzl : ∀ u ∈ (L.flatMap C.cells), C.p u := C.flat_ok L
  have hml : ∀ u ∈ (M.flatMap C.cells), C.p u := C.flat_ok M
  suffices hk : Only C.p w' v' ∧ New w v v' from ⟨v', w', hr, ⟨h2', hk.1⟩, h3, hk.2⟩
  rw [← hsize] at hnl hzs hown
  rw [← hby] at hbytes
  rcases hown.2 with ⟨rfl, h0⟩ | ⟨g, cap, cur, rfl, hbg, hg, hnc', hcm, hcs, htake⟩
  · rw [h0] at hbytes h63
    rcases Nat.eq_zero_or_pos m with rfl | hM
    · obtain rfl := h4.2 ⟨rfl, rfl⟩
      exact ⟨only_nil _ _, fun j hj => by simp [Value.ownBlock] at hj⟩
    have er := run_append_nil (P := P) w t ty e i z ht hi hz ad m c (M.flatMap C.cells) hnl hnews hM (by simp only [maxLen] at h63; omega) (by simp only [Nat.zero_add] at hbytes; omega)
    rw [er] at hr
    simp only [Result.ok.injEq] at hr
    obtain ⟨rfl, rfl⟩ := hr
    exact ⟨only_block (heap_alloc_new w.drew _) (by simp only [Array.toList_append]; exact only_append hml (only_zeros hzp _)), fun j hj => .inr (by simp [Value.ownBlock] at hj; omega)⟩
  · by_cases hroom : L.length + m ≤ cap
    · have er := run_append_room (P := P) w t ty e i ht hi g L.length cap cur hg ad m c (M.flatMap C.cells) hnl hnews (C.flat_one M) hroom (by rw [hnl, hcs, ← Nat.add_mul]; exact Nat.mul_le_mul_right _ hroom)
      rw [er] at hr
      simp only [Result.ok.injEq] at hr
      obtain ⟨rfl, rfl⟩ := hr
      have hcu : ∀ u ∈ cur.toList, C.p u := fun u hu => by
        obtain ⟨j, hj, e3⟩ := List.getElem_of_mem hu
        refine hcl g rfl j u ?_
        rw [cell_of_row w g j cur e (0, 0) hg, ← e3]
        simp
      exact ⟨only_block (setRow_heap w g cur _ e _ hg) (only_append (only_append (fun u hu => hcu u (List.mem_of_mem_take hu)) hml) (fun u hu => hcu u (List.mem_of_mem_drop hu))), fun j hj => .inl hj⟩
    · have holds : ∀ j u, (L.flatMap C.cells)[j]? = some u → w.cell? ((⟨g, 0, none⟩ : Addr).add j) = some u := hown.cells (g := g) rfl
      have er := run_append_grow (P := P) w t ty e i z ht hi hz ⟨g, 0, none⟩ L.length cap (L.flatMap C.cells) hown.1 holds ad m c (M.flatMap C.cells) hnl hnews (by omega) (by simp only [maxLen] at h63; omega) (growslice_fits (by omega) hbytes)
      rw [er] at hr
      simp only [Result.ok.injEq] at hr
      obtain ⟨rfl, rfl⟩ := hr
      exact ⟨only_block (heap_alloc_new w.drew _) (by simp only [Array.toList_append]; exact only_append (only_append hzl hml) (only_zeros hzp _)), fun j hj => .inr (by simp [Value.ownBlock] at hj; omega)⟩
theorem wpList_append {P : Program} {t e : TypeId} (hA : C.At P t e) {w : World} {ops : Array Oper} {rest : List Oper} {o : Oper} {act : Act} {Q : Exit → Act → World → Prop} (hgd : o.guard = none) (s x : Operand)
    (ho : o.op = .call { callee := .builtin .append, args := #[s, x], argTypes := #[t, t] })
    (base : Nat) (v : Value) (L : List α) (hs : act.eval s = v) (h : C.Own w base e v L) (ad : Addr) (m c : Nat) (M : List α) (hx : act.eval x = .slice (some ad) m c) (hm : M.length = m)
    (hnews : ∀ j u, (M.flatMap C.cells)[j]? = some u → w.cell? (ad.add j) = some u) (h63 : L.length + m ≤ maxLen) (hbytes : (L.length + m) * C.bytes ≤ 140737488355328) (hbase : base ≤ w.heap.size)
    (hk : ∀ v' w', C.Own w' base e v' (L ++ M) → w.grownBy w' v.ownBlock → New w v v' → wpList P ops Q rest (act.put o.dst v') w') : wpList P ops Q (o :: rest) act w := by
  obtain ⟨v', w', hr, h1, h2, h3⟩ := run_append (P := P) hA w o.type base v L h ad m c M hm hnews h63 hbytes hbase
  refine wpList_plain hgd fun _ hK => ?_
  unfold Oper.wp execOp
  simp only [ho, resolve, invoke, builtin, Sem.run_bind, Sem.run_pure, Result.andThen_ok, List.map_toArray, List.map_cons, List.map_nil, hs, hx, hr]
  exact hK _ _ (hk v' w' h1 h2 h3)
theorem step_append {P : Program} {t e : TypeId} (hA : C.At P t e) {ops : Array Oper} {o : Oper} {act : Act} {w : World} {K : Act → World → Prop} {Q9 : Exit → Act → World → Prop} {E : Prop} (hgd : o.guard = none) (s x : Operand)
    (ho : o.op = .call { callee := .builtin .append, args := #[s, x], argTypes := #[t, t] })
    (base : Nat) (v : Value) (L : List α) (hs : act.eval s = v) (h : C.Own w base e v L) (ad : Addr) (m c : Nat) (M : List α) (hx : act.eval x = .slice (some ad) m c) (hm : M.length = m)
    (hnews : ∀ j u, (M.flatMap C.cells)[j]? = some u → w.cell? (ad.add j) = some u) (h63 : L.length + m ≤ maxLen) (hbytes : (L.length + m) * C.bytes ≤ 140737488355328) (hbase : base ≤ w.heap.size)
    (hk : ∀ v' w', C.Own w' base e v' (L ++ M) → w.grownBy w' v.ownBlock → New w v v' → K (act.put o.dst v') w') : if Region.wanted o (yielded ops act.tmps) = true then Oper.wp P o act w K Q9 else E := by
  have hwt : Region.wanted o (yielded ops act.tmps) = true := by simp [Region.wanted, hgd]
  rw [if_pos hwt]
  obtain ⟨v', w', hr, h1, h2, h3⟩ := run_append (P := P) hA w o.type base v L h ad m c M hm hnews h63 hbytes hbase
  unfold Oper.wp execOp
  simp only [ho, resolve, invoke, builtin, Sem.run_bind, Sem.run_pure, Result.andThen_ok, List.map_toArray, List.map_cons, List.map_nil, hs, hx, hr]
  exact hk v' w' h1 h2 h3
/-- The cells of one new element. -/
theorem news_one (w : World) (x : α) (e : TypeId) : ∀ j u, ([x].flatMap C.cells)[j]? = some u → (w.alloc (.cells (C.cells x).toArray e)).cell? ((⟨w.heap.size, 0, none⟩ : Addr).add j) = some u := by
  intro j u hu
  rw [add_plain, Nat.zero_add, blk_cell (blk_new w _ e)]
  simpa using hu
/-- A literal. -/
theorem Has.lit (w : World) (L : List α) (e : TypeId) {n : Nat} (hn : L.length = n) (h63 : n ≤ 9223372036854775807) : C.Has (w.alloc (.cells (L.flatMap C.cells).toArray e)) (some ⟨w.heap.size, 0, none⟩) n n L := by
  subst hn
  refine ⟨rfl, Nat.le_refl _, h63, fun e => (by cases e), .inr ⟨w.heap.size, 0, rfl, fun j x hj i u hu => ?_⟩⟩
  have hi : i < C.size := by
    rcases Nat.lt_or_ge i C.size with h9 | h9
    · exact h9
    · rw [List.getElem?_eq_none (by rw [C.len]; exact h9)] at hu; cases hu
  rw [blk_cell (blk_new w _ e), Nat.zero_add]
  have h9 := C.flat_at L j i x hj hi
  rw [hu] at h9
  simpa using h9
/-- The cells of all elements of a slice. -/
theorem Has.news {w : World} {b off n cap : Nat} {L : List α} (h : C.Has w (some ⟨b, off, none⟩) n cap L) : ∀ j u, (L.flatMap C.cells)[j]? = some u → w.cell? ((⟨b, off, none⟩ : Addr).add j) = some u := by
  intro j u hu
  have hj : j < L.length * C.size := by
    rw [← C.flat_len]
    rcases Nat.lt_or_ge j (L.flatMap C.cells).length with h9 | h9
    · exact h9
    · rw [List.getElem?_eq_none h9] at hu; cases hu
  have hd : j / C.size < L.length := Nat.div_lt_of_lt_mul (by rw [Nat.mul_comm]; exact hj)
  have hm : j % C.size < C.size := Nat.mod_lt _ C.pos
  have e1 : j / C.size * C.size + j % C.size = j := by rw [Nat.mul_comm]; exact Nat.div_add_mod j C.size
  obtain ⟨x, hx⟩ : ∃ x, L[j / C.size]? = some x := ⟨L[j / C.size]'hd, List.getElem?_eq_getElem _⟩
  obtain ⟨b', off', e, hc⟩ := h.at (by rw [← h.len]; exact Nat.lt_of_le_of_lt (Nat.zero_le _) hd)
  simp only [Option.some.injEq, Addr.mk.injEq, and_true] at e
  obtain ⟨rfl, rfl⟩ := e
  have hu2 : (C.cells x)[j % C.size]? = some u := by
    rw [← C.flat_at L _ _ x hx hm, e1]; exact hu
  have h9 := hc _ x hx _ u hu2
  rw [Nat.add_assoc, e1] at h9
  rw [add_plain]
  exact h9
end Cls
end Go.Proofs.Ythblmpkdcahmkaa

/-
  Rows whose elements lead on to more memory: what each element must hold (a kin), slices of such, rows of one's own of such. Of no program.
-/
namespace Go.Proofs.Ythblmpkdcahmkaa
open Go.WideShapes Go.RowKit Go.Deep

/-- What elements hold, and that neither what is laid elsewhere nor what grows in a row of theirs turns it. -/
structure Kin (α : Type) extends Cls α where
  good : World → α → Prop
  later : ∀ {w w' : World} {x : α}, good w x → Below w.heap.size w w' → good w' x
  aside : ∀ {w w' : World} {v : Value} {x : α}, good w x → Only p w v → w.grownBy w' v.ownBlock → good w' x
namespace Kin
variable {α : Type} (K : Kin α)
/-- In the world w the slice ⟨a, n, cap⟩ holds just these elements, and they hold what they must. -/
def All (w : World) (a : Option Addr) (n cap : Nat) (L : List α) : Prop := K.toCls.Has w a n cap L ∧ ∀ x ∈ L, K.good w x
/-- A row of one's own. -/
def Mine (w : World) (base : Nat) (e : TypeId) (v : Value) (L : List α) : Prop := K.toCls.Own w base e v L ∧ ∀ x ∈ L, K.good w x
variable {K}
theorem All.len {w : World} {a : Option Addr} {n cap : Nat} {L : List α} (h : K.All w a n cap L) : L.length = n := h.1.len
theorem All.bound {w : World} {a : Option Addr} {n cap : Nat} {L : List α} (h : K.All w a n cap L) : n ≤ cap ∧ cap ≤ 9223372036854775807 := h.1.bound
theorem All.nil (w : World) : K.All w none 0 0 [] := ⟨Cls.Has.nil w, fun x hx => by cases hx⟩
theorem All.void (w : World) (a : Addr) {cap : Nat} (h : cap ≤ 9223372036854775807) : K.All w (some a) 0 cap [] := ⟨Cls.Has.void w a h, fun x hx => by cases hx⟩
theorem All.later {w w' : World} {a : Option Addr} {n cap : Nat} {L : List α} (h : K.All w a n cap L) (hb : Below w.heap.size w w') : K.All w' a n cap L := ⟨h.1.later hb, fun x hx => K.later (h.2 x hx) hb⟩
theorem All.at {w : World} {a : Option Addr} {n cap : Nat} {L : List α} (h : K.All w a n cap L) {j : Nat} {x : α} (hj : L[j]? = some x) : ∃ b off, a = some ⟨b, off, none⟩ ∧ (∀ (i : Nat) u, (K.cells x)[i]? = some u → w.cell? ⟨b, off + j * K.size + i, none⟩ = some u) ∧ K.good w x := by
  have hl : j < L.length := by
    rcases Nat.lt_or_ge j L.length with h9 | h9
    · exact h9
    · rw [List.getElem?_eq_none h9] at hj; cases hj
  obtain ⟨b, off, e, hc⟩ := h.1.at (by rw [← h.1.len]; omega)
  exact ⟨b, off, e, hc j x hj, h.2 x (List.mem_of_getElem? hj)⟩
theorem All.part {w : World} {b off n cap : Nat} {L : List α} (h : K.All w (some ⟨b, off, none⟩) n cap L) {i j c : Nat} (hi : i ≤ j) (hj : j ≤ n) (hc : j - i ≤ c) (hc2 : c ≤ 9223372036854775807) : K.All w (some ⟨b, off + i * K.size, none⟩) (j - i) c ((L.drop i).take (j - i)) :=
  ⟨h.1.part hi hj hc hc2, fun x hx => h.2 x (List.mem_of_mem_drop (List.mem_of_mem_take hx))⟩
theorem All.lit (w : World) (L : List α) (e : TypeId) {n : Nat} (hn : L.length = n) (h63 : n ≤ 9223372036854775807) (hg : ∀ x ∈ L, K.good w x) : K.All (w.alloc (.cells (L.flatMap K.cells).toArray e)) (some ⟨w.heap.size, 0, none⟩) n n L :=
  ⟨Cls.Has.lit w L e hn h63, fun x hx => K.later (hg x hx) (below_alloc _ _)⟩
theorem Mine.nil (w : World) (base : Nat) (e : TypeId) : K.Mine w base e (.slice none 0 0) [] := ⟨Cls.Own.nil w base e, fun x hx => by cases hx⟩
theorem Mine.later {w w' : World} {base : Nat} {e : TypeId} {v : Value} {L : List α} (h : K.Mine w base e v L) (hb : Below w.heap.size w w') : K.Mine w' base e v L := ⟨h.1.later hb, fun x hx => K.later (h.2 x hx) hb⟩
theorem Mine.base {w : World} {base : Nat} {e : TypeId} {v : Value} {L : List α} (h : K.Mine w base e v L) (k : Nat) (hk : v.ownBlock = some k) : base ≤ k := h.1.base k hk
theorem Mine.slice {w : World} {base : Nat} {e : TypeId} {v : Value} {L : List α} (h : K.Mine w base e v L) : ∃ (a : Option Addr) (cap : Nat), v = .slice a L.length cap ∧ K.All w a L.length cap L := by
  obtain ⟨a, cap, h1, h2⟩ := h.1.slice
  exact ⟨a, cap, h1, h2, h.2⟩
theorem Mine.grown {w w' : World} {base : Nat} {e : TypeId} {v v' : Value} {L M : List α} (h : K.Mine w base e v L) (hM : ∀ x ∈ M, K.good w x) (ho : K.toCls.Own w' base e v' (L ++ M)) (hg : w.grownBy w' v.ownBlock) : K.Mine w' base e v' (L ++ M) :=
  ⟨ho, fun x hx => K.aside ((List.mem_append.1 hx).elim (h.2 x) (hM x)) h.1.2 hg⟩
theorem wpList_append {P : Program} {t e : TypeId} (hA : K.toCls.At P t e) {w : World} {ops : Array Oper} {rest : List Oper} {o : Oper} {act : Act} {Q : Exit → Act → World → Prop} (hgd : o.guard = none) (s x : Operand)
    (ho : o.op = .call { callee := .builtin .append, args := #[s, x], argTypes := #[t, t] })
    (base : Nat) (v : Value) (L : List α) (hs : act.eval s = v) (h : K.Mine w base e v L) (ad : Addr) (m c : Nat) (M : List α) (hx : act.eval x = .slice (some ad) m c) (hm : M.length = m)
    (hnews : ∀ j u, (M.flatMap K.cells)[j]? = some u → w.cell? (ad.add j) = some u) (hgood : ∀ x ∈ M, K.good w x) (h63 : L.length + m ≤ maxLen) (hbytes : (L.length + m) * K.bytes ≤ 140737488355328) (hbase : base ≤ w.heap.size)
    (hk : ∀ v' w', K.Mine w' base e v' (L ++ M) → w.grownBy w' v.ownBlock → Cls.New w v v' → wpList P ops Q rest (act.put o.dst v') w') : wpList P ops Q (o :: rest) act w :=
  Cls.wpList_append hA hgd s x ho base v L hs h.1 ad m c M hx hm hnews h63 hbytes hbase fun v' w' h1 h2 h3 => hk v' w' (h.grown hgood h1 h2) h2 h3
theorem wpList_append_none {P : Program} {t e : TypeId} (hA : K.toCls.At P t e) {w : World} {ops : Array Oper} {rest : List Oper} {o : Oper} {act : Act} {Q : Exit → Act → World → Prop} (hgd : o.guard = none) (s x : Operand)
    (ho : o.op = .call { callee := .builtin .append, args := #[s, x], argTypes := #[t, t] })
    (base : Nat) (v : Value) (L : List α) (hs : act.eval s = v) (h : K.Mine w base e v L) (hx : act.eval x = .slice none 0 0)
    (hk : wpList P ops Q rest (act.put o.dst v) w) : wpList P ops Q (o :: rest) act w := by
  obtain ⟨ht, i, z, hi, hz, hsize, hby, hzs, hzp⟩ := hA
  exact wpList_append_own_none hgd s x t ho base e i K.size ht hi v L.length (L.flatMap K.cells) hs h.1.1 hx hk
theorem step_append {P : Program} {t e : TypeId} (hA : K.toCls.At P t e) {ops : Array Oper} {o : Oper} {act : Act} {w : World} {Kn : Act → World → Prop} {Q9 : Exit → Act → World → Prop} {E : Prop} (hgd : o.guard = none) (s x : Operand)
    (ho : o.op = .call { callee := .builtin .append, args := #[s, x], argTypes := #[t, t] })
    (base : Nat) (v : Value) (L : List α) (hs : act.eval s = v) (h : K.Mine w base e v L) (ad : Addr) (m c : Nat) (M : List α) (hx : act.eval x = .slice (some ad) m c) (hm : M.length = m)
    (hnews : ∀ j u, (M.flatMap K.cells)[j]? = some u → w.cell? (ad.add j) = some u) (hgood : ∀ x ∈ M, K.good w x) (h63 : L.length + m ≤ maxLen) (hbytes : (L.length + m) * K.bytes ≤ 140737488355328) (hbase : base ≤ w.heap.size)
    (hk : ∀ v' w', K.Mine w' base e v' (L ++ M) → w.grownBy w' v.ownBlock → Cls.New w v v' → Kn (act.put o.dst v') w') : if Region.wanted o (yielded ops act.tmps) = true then Oper.wp P o act w Kn Q9 else E :=
  Cls.step_append hA hgd s x ho base v L hs h.1 ad m c M hx hm hnews h63 hbytes hbase fun v' w' h1 h2 h3 => hk v' w' (h.grown hgood h1 h2) h2 h3
end Kin
end Go.Proofs.Ythblmpkdcahmkaa
