/-
  The words of a text, word by word (layer 16): how the bytes that are no word's are skipped, how a word runs, and what a text that is just one word is. Of no program.
-/
import Derived.Test.YtblnllilepfheaaLexStep
namespace Go.Proofs.Ytblnllilepfheaa

/-- How many bytes at the beginning are such. -/
def lexSpan (p : Nat → Bool) : List UInt8 → Nat
  | [] => 0
  | c :: r => if p c.toNat = true then lexSpan p r + 1 else 0
theorem lexSpan_le (p : Nat → Bool) : ∀ l, lexSpan p l ≤ l.length
  | [] => Nat.le_refl _
  | c :: r => by
    have := lexSpan_le p r
    unfold lexSpan
    split <;> simp <;> omega
theorem lexSpan_yes {p : Nat → Bool} {c : UInt8} {r : List UInt8} (h : p c.toNat = true) : lexSpan p (c :: r) = lexSpan p r + 1 := if_pos h
theorem lexSpan_no {p : Nat → Bool} {c : UInt8} {r : List UInt8} (h : p c.toNat = false) : lexSpan p (c :: r) = 0 := if_neg (by rw [h]; decide)
theorem lexSpan_end (p : Nat → Bool) : ∀ (l : List UInt8) (c : UInt8) (r : List UInt8), l.drop (lexSpan p l) = c :: r → p c.toNat = false
  | [], c, r, h => by simp at h
  | x :: l, c, r, h => by
    cases hx : p x.toNat
    · rw [lexSpan_no hx] at h
      simp only [List.drop_zero, List.cons.injEq] at h
      rw [← h.1]; exact hx
    · rw [lexSpan_yes hx, List.drop_succ_cons] at h
      exact lexSpan_end p l c r h
/-- What a word of this kind runs over. -/
def lexIn (c : Nat) : Bool := lexLet c || lexDig c
def lexLine (c : Nat) : Bool := decide (c ≠ 10)
theorem lexMore1 (c : Nat) : lexMore 1 c = lexDig c := by simp [lexMore]
theorem lexMore2 (c : Nat) : lexMore 2 c = lexIn c := by simp [lexMore, lexIn, Bool.or_comm]
theorem lexMore3 {k : Nat} (h1 : k ≠ 1) (h2 : k ≠ 2) (c : Nat) : lexMore k c = false := by simp [lexMore, h1, h2]
/-- How long the word is with which a text begins whose first byte is of this kind. -/
def lexFirst : List UInt8 → Nat × Nat
  | [] => (0, 0)
  | c :: r => if lexKind c.toNat = 0 then (0, 0) else (lexKind c.toNat, lexSpan (lexMore (lexKind c.toNat)) r + 1)
theorem lexMore_not {k c : Nat} (h : lexMore k c = true) : c ≠ 35 ∧ lexBlank c = false := by
  simp only [lexMore, lexDig, lexLet, Bool.or_eq_true, Bool.and_eq_true, decide_eq_true_eq] at h
  simp only [lexBlank, Bool.or_eq_false_iff, decide_eq_false_iff_not]
  omega
theorem lexKind_not {c : Nat} (h : lexKind c ≠ 0) : c ≠ 35 ∧ lexBlank c = false := by
  by_cases h1 : lexDig c = true
  · exact lexMore_not (k := 1) (by rw [lexMore1]; exact h1)
  · by_cases h2 : lexLet c = true
    · exact lexMore_not (k := 2) (by rw [lexMore2]; simp [lexIn, h2])
    · by_cases h3 : lexSgn c = true
      · simp only [lexSgn, lexSigns, List.any_cons, List.any_nil, Bool.or_false, Bool.or_eq_true, beq_iff_eq] at h3
        simp only [lexBlank, Bool.or_eq_false_iff, decide_eq_false_iff_not]
        rcases h3 with h | h | h | h | h | h | h | h | h | h | h | h <;> (subst h; decide)
      · exact absurd (by unfold lexKind; rw [if_neg h1, if_neg h2, if_neg h3]) h
theorem lexBlank_kind {c : Nat} (h : lexBlank c = true) : lexKind c = 0 := by
  by_cases hk : lexKind c = 0
  · exact hk
  · exact absurd ((lexKind_not hk).2.symm.trans h) (by decide)
theorem lexMost_pos (k : Nat) : 1 ≤ lexMost k := by unfold lexMost; split <;> (try split) <;> omega
/-- A word runs on. -/
theorem lexGo_run (k i : Nat) (hk : k ≠ 0) (ws : List Lw) : ∀ (r t : List UInt8), t.length ≤ lexMost k →
    lexGo r (i + t.length) false (ws ++ [⟨k, t, i⟩]) =
      if lexMost k < t.length + lexSpan (lexMore k) r then ([], ((i + lexMost k : Nat) : Int))
      else lexGo (r.drop (lexSpan (lexMore k) r)) (i + t.length + lexSpan (lexMore k) r) false (ws ++ [⟨k, t ++ r.take (lexSpan (lexMore k) r), i⟩])
  | [], t, ht => by
    simp only [lexSpan, Nat.add_zero, List.drop_nil, List.take_nil, List.append_nil]
    rw [if_neg (by omega)]
  | c :: r, t, ht => by
    cases hc : lexMore k c.toNat
    · rw [lexSpan_no hc]
      simp only [Nat.add_zero, List.drop_zero, List.take_zero, List.append_nil]
      rw [if_neg (by omega)]
    · obtain ⟨h1, h2⟩ := lexMore_not hc
      rw [lexSpan_yes hc]
      have hp := lexPut_more (ws := ws) (y := ⟨k, t, i⟩) (i := i + t.length) (c := c) ⟨rfl, hc⟩
      by_cases hm : lexMost k < t.length + 1
      · rw [if_pos (by omega), lexGo_bad h1 h2 hp (by simp [lexBad, hk]; omega)]
        congr 2
        omega
      · rw [lexGo_on h1 h2 hp (by simp [lexBad, hk]; omega)]
        have ih := lexGo_run k i hk ws r (t ++ [c]) (by simp; omega)
        rw [List.length_append, List.length_singleton] at ih
        rw [show i + t.length + 1 = i + (t.length + 1) from by omega, ih]
        have e1 : t.length + 1 + lexSpan (lexMore k) r = t.length + (lexSpan (lexMore k) r + 1) := by omega
        rw [e1]
        simp only [List.drop_succ_cons, List.take_succ_cons]
        split
        · rfl
        · rw [show i + (t.length + 1) + lexSpan (lexMore k) r = i + t.length + (lexSpan (lexMore k) r + 1) from by omega]
          simp
/-- No word that is there runs on here. -/
def Apart (ws : List Lw) (i : Nat) (l : List UInt8) : Prop := ∀ W y c r, ws = W ++ [y] → l = c :: r → ¬ (y.p + y.t.length = i ∧ lexMore y.k c.toNat = true)
theorem lexPut_apart {ws : List Lw} {i : Nat} {c : UInt8} {r : List UInt8} (h : Apart ws i (c :: r)) : lexPut ws i c = ws ++ [⟨lexKind c.toNat, [c], i⟩] := by
  rcases List.eq_nil_or_concat ws with rfl | ⟨W, y, hw⟩
  · exact lexPut_nil i c
  · rw [List.concat_eq_append] at hw
    subst hw
    exact lexPut_new (h W y c r rfl rfl)
theorem lexFirst_yes {c : UInt8} {r : List UInt8} (h : lexKind c.toNat ≠ 0) : lexFirst (c :: r) = (lexKind c.toNat, lexSpan (lexMore (lexKind c.toNat)) r + 1) := if_neg h
theorem lexFirst_no {c : UInt8} {r : List UInt8} (h : lexKind c.toNat = 0) : lexFirst (c :: r) = (0, 0) := if_pos h
theorem lexFirst_le (l : List UInt8) : (lexFirst l).1 ≤ 3 ∧ (lexFirst l).2 ≤ l.length := by
  cases l with
  | nil => simp [lexFirst]
  | cons c r =>
    have h1 := lexSpan_le (lexMore (lexKind c.toNat)) r
    have h2 := lexKind_le c.toNat
    by_cases hk : lexKind c.toNat = 0
    · rw [lexFirst_no hk]; simp
    · rw [lexFirst_yes hk]; simp; omega
theorem lexFirst_pos {l : List UInt8} (h : (lexFirst l).1 ≠ 0) : 0 < (lexFirst l).2 := by
  cases l with
  | nil => exact absurd rfl h
  | cons c r =>
    by_cases hk : lexKind c.toNat = 0
    · rw [lexFirst_no hk] at h; exact absurd rfl h
    · rw [lexFirst_yes hk]; simp
/-- A word begins here: none does. -/
theorem lexGo_none {ws : List Lw} {i : Nat} {c : UInt8} {r : List UInt8} (ha : Apart ws i (c :: r)) (h1 : c.toNat ≠ 35) (h2 : lexBlank c.toNat = false) (h : (lexFirst (c :: r)).1 = 0) :
    lexGo (c :: r) i false ws = ([], (i : Int)) := by
  have hk : lexKind c.toNat = 0 := by
    by_cases hk : lexKind c.toNat = 0
    · exact hk
    · rw [lexFirst_yes hk] at h
      exact h
  exact lexGo_bad h1 h2 (lexPut_apart ha) (by simp [lexBad, hk])
/-- A word begins here: it is too long. -/
theorem lexGo_long {ws : List Lw} {i : Nat} {l : List UInt8} (ha : Apart ws i l) (hk : (lexFirst l).1 ≠ 0) (hn : lexMost (lexFirst l).1 < (lexFirst l).2) :
    lexGo l i false ws = ([], ((i + lexMost (lexFirst l).1 : Nat) : Int)) := by
  cases l with
  | nil => exact absurd rfl hk
  | cons c r =>
    have hk' : lexKind c.toNat ≠ 0 := fun e => hk (by simp [lexFirst, e])
    rw [lexFirst_yes hk'] at hn ⊢
    obtain ⟨h1, h2⟩ := lexKind_not hk'
    have hp := lexMost_pos (lexKind c.toNat)
    rw [lexGo_on h1 h2 (lexPut_apart ha) (by simp [lexBad, hk']; omega)]
    have hr := lexGo_run (lexKind c.toNat) i hk' ws r [c] (by simpa using hp)
    rw [List.length_singleton] at hr
    rw [hr, if_pos (by simp only [] at hn; omega)]
/-- A word begins here: it is gathered. -/
theorem lexGo_word {ws : List Lw} {i : Nat} {l : List UInt8} (ha : Apart ws i l) (hk : (lexFirst l).1 ≠ 0) (hn : (lexFirst l).2 ≤ lexMost (lexFirst l).1) :
    lexGo l i false ws = lexGo (l.drop (lexFirst l).2) (i + (lexFirst l).2) false (ws ++ [⟨(lexFirst l).1, l.take (lexFirst l).2, i⟩]) := by
  cases l with
  | nil => exact absurd rfl hk
  | cons c r =>
    have hk' : lexKind c.toNat ≠ 0 := fun e => hk (by simp [lexFirst, e])
    rw [lexFirst_yes hk'] at hn ⊢
    obtain ⟨h1, h2⟩ := lexKind_not hk'
    have hp := lexMost_pos (lexKind c.toNat)
    rw [lexGo_on h1 h2 (lexPut_apart ha) (by simp [lexBad, hk']; omega)]
    have hr := lexGo_run (lexKind c.toNat) i hk' ws r [c] (by simpa using hp)
    rw [List.length_singleton] at hr
    rw [hr, if_neg (by simp only [] at hn; omega)]
    simp only [List.drop_succ_cons, List.take_succ_cons]
    rw [show i + 1 + lexSpan (lexMore (lexKind c.toNat)) r = i + (lexSpan (lexMore (lexKind c.toNat)) r + 1) from by omega]
    rfl
/-- What stands behind a word does not run on. -/
theorem lexFirst_end {l : List UInt8} {c : UInt8} {r : List UInt8} (hk : (lexFirst l).1 ≠ 0) (h : l.drop (lexFirst l).2 = c :: r) : lexMore (lexFirst l).1 c.toNat = false := by
  cases l with
  | nil => exact absurd rfl hk
  | cons x l =>
    have hk' : lexKind x.toNat ≠ 0 := fun e => hk (by simp [lexFirst, e])
    rw [lexFirst_yes hk'] at h ⊢
    simp only [List.drop_succ_cons] at h
    exact lexSpan_end _ l c r h
/-- From place i on up to place j no word is. -/
def Skips (l : List UInt8) (i j : Nat) : Prop :=
  i ≤ j ∧ j ≤ l.length ∧ (∀ ws, lexGo (l.drop i) i false ws = lexGo (l.drop j) j false ws)
def Stops (l : List UInt8) (j : Nat) : Prop := ∀ c r, l.drop j = c :: r → c.toNat ≠ 35 ∧ lexBlank c.toNat = false
theorem Skips.refl {l : List UInt8} {i : Nat} (h : i ≤ l.length) : Skips l i i := ⟨Nat.le_refl _, h, fun _ => rfl⟩
theorem Skips.trans {l : List UInt8} {i j k : Nat} (h : Skips l i j) (g : Skips l j k) : Skips l i k := ⟨Nat.le_trans h.1 g.1, g.2.1, fun ws => (h.2.2 ws).trans (g.2.2 ws)⟩
theorem lexGo_note : ∀ (r : List UInt8) (i : Nat) (ws : List Lw), lexGo r i true ws = lexGo (r.drop (lexSpan lexLine r)) (i + lexSpan lexLine r) false ws
  | [], i, ws => rfl
  | c :: r, i, ws => by
    by_cases h : c.toNat = 10
    · have hl : lexLine c.toNat = false := by simp [lexLine, h]
      rw [lexSpan_no hl, List.drop_zero, Nat.add_zero]
      rw [lexGo_skip false (by simp [h]) (.inr (by simp [lexBlank, h])), lexGo_skip false (by simp [h]) (.inr (by simp [lexBlank, h]))]
    · have hl : lexLine c.toNat = true := by simp [lexLine, h]
      rw [lexSpan_yes hl, List.drop_succ_cons, lexGo_skip true (by simp [h]) (.inl rfl), lexGo_note r (i + 1) ws]
      congr 1
      omega
theorem Skips.blank {l : List UInt8} {i : Nat} {x : UInt8} (h : i < l.length) (hx : l.getD i 0 = x) (hb : lexBlank x.toNat = true) : Skips l i (i + 1) :=
  ⟨Nat.le_succ _, h, fun ws => by
    rw [lex_drop h hx]
    refine lexGo_skip false ?_ (.inr hb)
    rw [eq_comm, decide_eq_false_iff_not]
    rintro (h9 | h9)
    · rw [h9] at hb; exact absurd hb (by decide)
    · exact absurd h9.1 (by decide)⟩
theorem Skips.note {l : List UInt8} {i : Nat} {x : UInt8} (h : i < l.length) (hx : l.getD i 0 = x) (hb : x.toNat = 35) : Skips l i (i + lexSpan lexLine (l.drop i)) := by
  have hle := lexSpan_le lexLine (l.drop i)
  rw [List.length_drop] at hle
  refine ⟨Nat.le_add_right _ _, by omega, fun ws => ?_⟩
  rw [← List.drop_drop]
  rw [lex_drop h hx]
  have hl : lexLine x.toNat = true := by simp [lexLine, hb]
  rw [lexSpan_yes hl, List.drop_succ_cons, lexGo_skip true (by simp [hb]) (.inl rfl), lexGo_note]
  congr 1
  omega
theorem lexSpan_note {l : List UInt8} {i : Nat} {x : UInt8} (h : i < l.length) (hx : l.getD i 0 = x) (hb : x.toNat = 35) : 0 < lexSpan lexLine (l.drop i) := by
  rw [lex_drop h hx, lexSpan_yes (by simp [lexLine, hb])]
  omega
theorem Stops.at {l : List UInt8} {i : Nat} {x : UInt8} (hx : l.getD i 0 = x) (h : i < l.length) (h1 : x.toNat ≠ 35) (h2 : lexBlank x.toNat = false) : Stops l i := by
  intro c r hc
  rw [lex_drop h hx] at hc
  simp only [List.cons.injEq] at hc
  rw [← hc.1]
  exact ⟨h1, h2⟩
theorem Stops.end (l : List UInt8) : Stops l l.length := fun c r h => by simp at h
/-- Behind a word that has been gathered, and what is skipped, no word runs on. -/
theorem Apart.next {ws : List Lw} {l : List UInt8} {i j k n : Nat} {t : List UInt8} (ht : t.length = n) (hj : i + n ≤ j) (he : ∀ c r, l.drop (i + n) = c :: r → lexMore k c.toNat = false) : Apart (ws ++ [⟨k, t, i⟩]) j (l.drop j) := by
  intro W y c r hw hl
  have h := List.append_inj' hw rfl
  simp only [List.cons.injEq, and_true] at h
  obtain ⟨-, rfl⟩ := h
  rintro ⟨h1, h2⟩
  simp only [] at h1 h2
  rw [ht] at h1
  subst h1
  rw [he c r hl] at h2
  exact absurd h2 (by decide)
theorem Apart.nil (i : Nat) (l : List UInt8) : Apart [] i l := fun W y c r h => by simp at h
end Go.Proofs.Ytblnllilepfheaa
