/-
  A text that is just one word (layer 16). Of no program.
-/
import Derived.Test.YtblnllilepfheaaLexRun
namespace Go.Proofs.Ytblnllilepfheaa

/-- A word is gathered once it has been begun: it stays, if it isn't the last one. -/
theorem lexPut_ne (Z : List Lw) (i : Nat) (c : UInt8) : ∃ Z', Z' ≠ [] ∧ ∀ V, Z ≠ [] → lexPut (V ++ Z) i c = V ++ Z' := by
  rcases List.eq_nil_or_concat Z with rfl | ⟨Y, y, hz⟩
  · exact ⟨[⟨0, [], 0⟩], by simp, fun V h => absurd rfl h⟩
  · rw [List.concat_eq_append] at hz
    subst hz
    by_cases h : y.p + y.t.length = i ∧ lexMore y.k c.toNat = true
    · refine ⟨Y ++ [⟨y.k, y.t ++ [c], y.p⟩], by simp, fun V _ => ?_⟩
      rw [← List.append_assoc, lexPut_more h, List.append_assoc]
    · refine ⟨Y ++ [y] ++ [⟨lexKind c.toNat, [c], i⟩], by simp, fun V _ => ?_⟩
      rw [← List.append_assoc, lexPut_new h]
      simp
theorem lexGo_keeps (V : List Lw) : ∀ (r : List UInt8) (i : Nat) (note : Bool) (Z : List Lw), Z ≠ [] →
    (lexGo r i note (V ++ Z)).1 = [] ∨ ∃ Z', Z' ≠ [] ∧ (lexGo r i note (V ++ Z)).1 = V ++ Z'
  | [], i, note, Z, hz => .inr ⟨Z, hz, rfl⟩
  | c :: r, i, note, Z, hz => by
    obtain ⟨Z', h', hp⟩ := lexPut_ne Z i c
    unfold lexGo
    rw [hp V hz]
    split
    · exact lexGo_keeps V r _ _ Z hz
    · split
      · exact .inl rfl
      · exact lexGo_keeps V r _ _ Z' h'
/-- Where no word runs on what is there stays. -/
theorem lexGo_apart (V : List Lw) : ∀ (r : List UInt8) (i : Nat) (note : Bool), (note = true ∨ Apart V i r) → (∀ W y, V = W ++ [y] → y.p + y.t.length ≤ i) →
    (lexGo r i note V).1 = [] ∨ ∃ Z, (lexGo r i note V).1 = V ++ Z
  | [], i, note, _, _ => .inr ⟨[], by rw [List.append_nil]; rfl⟩
  | c :: r, i, note, ha, hl => by
    have hl' : ∀ W y, V = W ++ [y] → y.p + y.t.length ≤ i + 1 := fun W y e => Nat.le_succ_of_le (hl W y e)
    have ha' : ∀ r, Apart V (i + 1) r := fun r W y c' r' hw _ h => by
      have := hl W y hw
      omega
    by_cases hs : (c.toNat = 35 ∨ (note = true ∧ c.toNat ≠ 10)) ∨ lexBlank c.toNat = true
    · unfold lexGo
      rw [if_pos hs]
      exact lexGo_apart V r (i + 1) _ (.inr (ha' r)) hl'
    · have hn : note = false := by
        cases hnote : note
        · rfl
        · exact absurd (by
            by_cases h10 : c.toNat = 10
            · exact .inr (by simp [lexBlank, h10])
            · exact .inl (.inr ⟨hnote, h10⟩)) hs
      have hp := lexPut_apart (ha.resolve_left (by rw [hn]; decide))
      unfold lexGo
      rw [if_neg hs, hp]
      split
      · exact .inl rfl
      · rcases lexGo_keeps V r (i + 1) false [⟨lexKind c.toNat, [c], i⟩] (by simp) with h | ⟨Z', _, h⟩
        · exact .inl h
        · exact .inr ⟨Z', h⟩
/-- How many bytes all words have. -/
def lexAll (ws : List Lw) : Nat := (ws.map fun x => x.t.length).sum
theorem lexPut_all (ws : List Lw) (i : Nat) (c : UInt8) : lexAll (lexPut ws i c) = lexAll ws + 1 := by
  rcases List.eq_nil_or_concat ws with rfl | ⟨W, y, hw⟩
  · rfl
  · rw [List.concat_eq_append] at hw
    subst hw
    by_cases h : y.p + y.t.length = i ∧ lexMore y.k c.toNat = true
    · rw [lexPut_more h]
      simp [lexAll]
      omega
    · rw [lexPut_new h]
      simp [lexAll]
      omega
theorem lexGo_all : ∀ (r : List UInt8) (i : Nat) (note : Bool) (ws : List Lw), lexAll (lexGo r i note ws).1 ≤ lexAll ws + r.length
  | [], i, note, ws => Nat.le_refl _
  | c :: r, i, note, ws => by
    unfold lexGo
    split
    · have := lexGo_all r (i + 1) (decide (c.toNat = 35 ∨ (note = true ∧ c.toNat ≠ 10))) ws
      simp only [List.length_cons]
      omega
    · split
      · exact Nat.zero_le _
      · have h1 := lexGo_all r (i + 1) false (lexPut ws i c)
        have h2 := lexPut_all ws i c
        simp only [List.length_cons]
        omega
theorem lexRight_of {k : Int} {l : List UInt8} {R : List Lw × Int} (h : lexScan l = R) : lexRight k l = true ↔ ∃ x, R.1 = [x] ∧ R.2 < 0 ∧ (x.k : Int) = k ∧ x.t = l := by
  unfold lexRight
  rw [h]
  obtain ⟨L, a⟩ := R
  match L with
  | [] => simp
  | [x] => simp [and_assoc]
  | x :: y :: r => simp
/-- Right, by the word with which the text begins. -/
theorem lexRight_first (k : Int) (l : List UInt8) (hl : l.length ≤ 4000) :
    lexRight k l = (decide ((lexFirst l).1 ≠ 0) && decide (((lexFirst l).1 : Int) = k) && decide ((lexFirst l).2 = l.length) && decide ((lexFirst l).2 ≤ lexMost (lexFirst l).1)) := by
  have hs : lexScan l = lexGo l 0 false [] := if_neg (by omega)
  rw [Bool.eq_iff_iff, lexRight_of hs]
  simp only [Bool.and_eq_true, decide_eq_true_eq]
  by_cases hk : (lexFirst l).1 = 0
  · constructor
    · rintro ⟨x, hx, hneg, hxk, hxt⟩
      exfalso
      cases l with
      | nil => simp [lexGo] at hx
      | cons c r =>
        by_cases hb : c.toNat = 35 ∨ lexBlank c.toNat = true
        · have hg : lexGo (c :: r) 0 false [] = lexGo r 1 (decide (c.toNat = 35 ∨ (false = true ∧ c.toNat ≠ 10))) [] :=
            lexGo_skip _ rfl (by rcases hb with h | h; exact .inl (by simp [h]); exact .inr h)
          have ha := lexGo_all r 1 (decide (c.toNat = 35 ∨ (false = true ∧ c.toNat ≠ 10))) []
          rw [← hg, hx] at ha
          simp [lexAll, hxt] at ha
          omega
        · have h1 : c.toNat ≠ 35 := fun h => hb (.inl h)
          have h2 : lexBlank c.toNat = false := by simpa using fun h => hb (.inr h)
          rw [lexGo_none (Apart.nil _ _) h1 h2 hk] at hx
          simp at hx
    · rintro ⟨⟨⟨h, _⟩, _⟩, _⟩
      exact absurd hk h
  · by_cases hn : (lexFirst l).2 ≤ lexMost (lexFirst l).1
    · have hw := lexGo_word (ws := []) (i := 0) (Apart.nil 0 l) hk hn
      have hle := (lexFirst_le l).2
      rw [List.nil_append, Nat.zero_add] at hw
      by_cases hall : (lexFirst l).2 = l.length
      · rw [hw, hall, List.drop_length, List.take_length]
        constructor
        · rintro ⟨x, hx, _, hxk, _⟩
          simp only [lexGo, List.cons.injEq, and_true] at hx
          subst hx
          exact ⟨⟨⟨hk, hxk⟩, rfl⟩, by omega⟩
        · rintro ⟨⟨⟨_, h⟩, _⟩, _⟩
          exact ⟨_, rfl, by simp [lexGo], h, rfl⟩
      · constructor
        · rintro ⟨x, hx, _, hxk, hxt⟩
          exfalso
          have hlen : (l.take (lexFirst l).2).length = (lexFirst l).2 := by rw [List.length_take]; omega
          have hap : Apart [(⟨(lexFirst l).1, l.take (lexFirst l).2, 0⟩ : Lw)] (lexFirst l).2 (l.drop (lexFirst l).2) :=
            Apart.next (ws := []) (i := 0) (n := (lexFirst l).2) hlen (by omega) (fun c r h => lexFirst_end hk (by rw [Nat.zero_add] at h; exact h))
          rw [hw] at hx
          rcases lexGo_apart _ (l.drop (lexFirst l).2) (lexFirst l).2 false (.inr hap) (by
            intro W y e
            have e2 := List.append_inj' (s₁ := []) e rfl
            simp only [List.cons.injEq, and_true] at e2
            rw [← e2.2]
            simp only [hlen]
            omega) with h | ⟨Z, h⟩
          · rw [hx] at h; simp at h
          · rw [hx] at h
            simp only [List.singleton_append, List.cons.injEq] at h
            rw [h.1] at hxt
            simp only [] at hxt
            rw [hxt] at hlen
            exact hall hlen.symm
        · rintro ⟨⟨⟨_, _⟩, h⟩, _⟩
          exact absurd h hall
    · constructor
      · rintro ⟨x, hx, _⟩
        rw [lexGo_long (Apart.nil 0 l) hk (by omega)] at hx
        simp at hx
      · rintro ⟨_, h⟩
        exact absurd h hn
end Go.Proofs.Ytblnllilepfheaa
