/-
  Words of a text, byte by byte (layer 16), as the document has them. Of no program.
-/
import Derived.Test.YtblnllilepfheaaDigitsSaid
namespace Go.Proofs.Ytblnllilepfheaa

def lexDig (c : Nat) : Bool := decide (48 ≤ c) && decide (c ≤ 57)
def lexLet (c : Nat) : Bool := decide (97 ≤ c ∧ c ≤ 122) || decide (65 ≤ c ∧ c ≤ 90) || decide (c = 95)
def lexSigns : List UInt8 := [43, 45, 42, 47, 94, 40, 41, 91, 93, 44, 59, 61]
def lexSgn (c : Nat) : Bool := lexSigns.any fun x => x.toNat == c
/-- What a byte begins; 0: nothing. -/
def lexKind (c : Nat) : Nat := if lexDig c = true then 1 else if lexLet c = true then 2 else if lexSgn c = true then 3 else 0
/-- Does a byte go on with a word? -/
def lexMore (k c : Nat) : Bool := decide (k = 1) && lexDig c || decide (k = 2) && (lexDig c || lexLet c)
def lexMost (k : Nat) : Nat := if k = 1 then 60 else if k = 2 then 12 else 1
def lexBlank (c : Nat) : Bool := decide (c = 32) || decide (c = 9) || decide (c = 10) || decide (c = 13)
/-- A word: its kind, its bytes, its place. -/
structure Lw where
  k : Nat
  t : List UInt8
  p : Nat
/-- One more byte, at place i. -/
def lexPut (ws : List Lw) (i : Nat) (c : UInt8) : List Lw :=
  match ws.getLast? with
  | none => [⟨lexKind c.toNat, [c], i⟩]
  | some x => if x.p + x.t.length = i ∧ lexMore x.k c.toNat = true then ws.dropLast ++ [⟨x.k, x.t ++ [c], x.p⟩] else ws ++ [⟨lexKind c.toNat, [c], i⟩]
def lexBad (x : Lw) : Bool := decide (x.k = 0) || decide (lexMost x.k < x.t.length)
/-- The words from place i on, and the place at which there is none. -/
def lexGo : List UInt8 → Nat → Bool → List Lw → List Lw × Int
  | [], _, _, ws => (ws, -1)
  | c :: r, i, note, ws =>
    if (c.toNat = 35 ∨ (note = true ∧ c.toNat ≠ 10)) ∨ lexBlank c.toNat = true then lexGo r (i + 1) (decide (c.toNat = 35 ∨ (note = true ∧ c.toNat ≠ 10))) ws
    else if ((lexPut ws i c).getLast?.map lexBad).getD true = true then ([], (i : Int))
    else lexGo r (i + 1) false (lexPut ws i c)
def lexScan (l : List UInt8) : List Lw × Int := if 4000 < l.length then ([], 4000) else lexGo l 0 false []
def lexRight (k : Int) (l : List UInt8) : Bool :=
  match lexScan l with
  | ([x], at') => decide (at' < 0) && decide ((x.k : Int) = k) && decide (x.t = l)
  | _ => false
def lexText : List (List UInt8) → List UInt8
  | [] => []
  | [x] => x
  | x :: y :: r => x ++ 32 :: lexText (y :: r)
theorem lexKind_le (c : Nat) : lexKind c ≤ 3 := by unfold lexKind; split <;> (try split) <;> (try split) <;> omega
end Go.Proofs.Ytblnllilepfheaa
