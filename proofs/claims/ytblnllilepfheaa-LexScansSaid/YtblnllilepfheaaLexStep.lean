/-
  The words of a text, step by step (layer 16). Of no program.
-/
import Derived.Test.YtblnllilepfheaaLexCells
namespace Go.Proofs.Ytblnllilepfheaa
open Go.RowKit

theorem lb_mid {l : List UInt8} {k : Nat} {x : UInt8} (h : k < l.length) (hx : l.getD k 0 = x) : (bs l).extract k (k + 1) = bs [x] := by
  unfold bs
  rw [ByteArray.extract_mk]
  congr 1
  apply Array.ext'
  rw [List.getD_eq_getElem?_getD, List.getElem?_eq_getElem h] at hx
  simp only [Option.getD_some] at hx
  simp [List.take_one, List.head?_drop, List.getElem?_eq_getElem h, hx]
theorem lex_drop {l : List UInt8} {k : Nat} {x : UInt8} (h : k < l.length) (hx : l.getD k 0 = x) : l.drop k = x :: l.drop (k + 1) := by
  rw [List.drop_eq_getElem_cons h]
  rw [List.getD_eq_getElem?_getD, List.getElem?_eq_getElem h] at hx
  simp only [Option.getD_some] at hx
  rw [hx]
theorem lexGo_skip {c : UInt8} {r : List UInt8} {i : Nat} {note : Bool} {ws : List Lw} (n' : Bool) (hn : n' = decide (c.toNat = 35 ∨ (note = true ∧ c.toNat ≠ 10))) (h : n' = true ∨ lexBlank c.toNat = true) :
    lexGo (c :: r) i note ws = lexGo r (i + 1) n' ws := by
  conv => lhs; unfold lexGo
  rw [if_pos (by subst hn; rcases h with h | h; exact .inl (of_decide_eq_true h); exact .inr h), hn]
theorem lexGo_bad {c : UInt8} {r : List UInt8} {i : Nat} {ws Q : List Lw} {z : Lw} (h1 : c.toNat ≠ 35) (h2 : lexBlank c.toNat = false) (hp : lexPut ws i c = Q ++ [z]) (hb : lexBad z = true) :
    lexGo (c :: r) i false ws = ([], (i : Int)) := by
  conv => lhs; unfold lexGo
  rw [if_neg (by rintro ((h | h) | h); exact h1 h; exact absurd h.1 (by decide); rw [h2] at h; exact absurd h (by decide)), hp, if_pos (by simpa using hb)]
theorem lexGo_on {c : UInt8} {r : List UInt8} {i : Nat} {ws Q : List Lw} {z : Lw} (h1 : c.toNat ≠ 35) (h2 : lexBlank c.toNat = false) (hp : lexPut ws i c = Q ++ [z]) (hb : lexBad z = false) :
    lexGo (c :: r) i false ws = lexGo r (i + 1) false (Q ++ [z]) := by
  conv => lhs; unfold lexGo
  rw [if_neg (by rintro ((h | h) | h); exact h1 h; exact absurd h.1 (by decide); rw [h2] at h; exact absurd h (by decide)), hp, if_neg (by simp [hb])]
theorem lexPut_nil (i : Nat) (c : UInt8) : lexPut [] i c = [] ++ [⟨lexKind c.toNat, [c], i⟩] := rfl
theorem lexPut_new {ws : List Lw} {y : Lw} {i : Nat} {c : UInt8} (h : ¬ (y.p + y.t.length = i ∧ lexMore y.k c.toNat = true)) : lexPut (ws ++ [y]) i c = (ws ++ [y]) ++ [⟨lexKind c.toNat, [c], i⟩] := by
  unfold lexPut
  rw [List.getLast?_concat]
  exact if_neg h
theorem lexPut_more {ws : List Lw} {y : Lw} {i : Nat} {c : UInt8} (h : y.p + y.t.length = i ∧ lexMore y.k c.toNat = true) : lexPut (ws ++ [y]) i c = ws ++ [⟨y.k, y.t ++ [c], y.p⟩] := by
  unfold lexPut
  rw [List.getLast?_concat]
  simp only []
  rw [if_pos h, List.dropLast_concat]
theorem wx_last (W : List Lw) (y : Lw) : ((W ++ [y]).map Lw.x).getD W.length Wx.zero = y.x := by
  simp [List.getD_eq_getElem?_getD]
/-- What words that are gathered are. -/
def LwOk (k : Nat) (x : Lw) : Prop := x.k ≤ 3 ∧ x.t.length ≤ 60 ∧ x.p ≤ k
theorem LwOk.on {k : Nat} {x : Lw} (h : LwOk k x) : LwOk (k + 1) x := ⟨h.1, h.2.1, Nat.le_succ_of_le h.2.2⟩
theorem lexBad_not {x : Lw} (h : lexBad x = false) : x.k ≠ 0 ∧ x.t.length ≤ lexMost x.k := by
  unfold lexBad at h
  simp at h
  exact ⟨h.1, h.2⟩
theorem lexMost_le (k : Nat) : lexMost k ≤ 60 := by unfold lexMost; split <;> (try split) <;> omega
/-- This list of words, and this number. -/
def LstX (r : List Lw × Int) (w : World) (e : Ending) (w' : World) : Prop :=
  ∃ (a : Option Addr) (n cap : Nat), e = .returned (.tuple #[.slice a n cap, .int .i64 r.2]) ∧ Wxs w' a n cap (r.1.map Lw.x) ∧ Below w.heap.size w w'
end Go.Proofs.Ytblnllilepfheaa
