/-
  Nodes, expressions, fields in memory (layer 17). Of no program.
-/
import Derived.Test.YtdhfnlpolelcpaaKin
import Derived.Test.YtdhfnlpolelcpaaTreePlain
import Derived.Test.YtdhfnlpolelcpaaDigitsSaid
namespace Go.Proofs.Ytdhfnlpolelcpaa
open Go.WideShapes Go.RowKit Go.Deep

theorem Wd.only {w w' : World} {v : Value} {a : Option Addr} {n c : Nat} {l : List Nat} (h : Wd w a n c l) {p : Value → Prop} (ho : Only p w v) (hg : w.grownBy w' v.ownBlock) (hno : ∀ k : Int, ¬ p (.int .u32 k)) : Wd w' a n c l := by
  refine ⟨h.1, h.2.1, h.2.2.1, h.2.2.2.1, h.2.2.2.2.1, h.2.2.2.2.2.imp id fun ⟨b, off, e, hcl⟩ => ⟨b, off, e, fun j hj => ?_⟩⟩
  have h1 := hcl j hj
  have hlt : b < w.heap.size := by
    rcases Nat.lt_or_ge b w.heap.size with h2 | h2
    · exact h2
    · rw [World.cell?, Array.getElem?_eq_none h2] at h1; cases h1
  rw [World.cell?_of_block (hg.block b hlt (fun e2 => hno _ (ho b e2.symm _ _ h1)))]
  exact h1
/-- A node as it stands in memory. -/
structure Nd where
  op : Int
  i : Int
  a : Option Addr
  n : Nat
  c : Nat
  l : List Nat
def Nd.zero : Nd := ⟨0, 0, none, 0, 0, []⟩
instance : Inhabited Nd := ⟨Nd.zero⟩
def Nd.cells (x : Nd) : List Value := [.int .i64 x.op, .int .i64 x.i, .slice x.a x.n x.c]
/-- What it means. -/
def Nd.sem (x : Nd) : Int × Int × Nat := (x.op, x.i, val x.l)
def isNode (u : Value) : Prop := (∃ k : Int, u = .int .i64 k) ∨ ∃ (a : Option Addr) (n c : Nat), u = .slice a n c
def ndK : Kin Nd where
  cells := Nd.cells
  size := 3
  bytes := 40
  p := isNode
  pos := by decide
  len := fun _ => rfl
  one := fun x u hu => by
    simp [Nd.cells] at hu
    rcases hu with rfl | rfl | rfl <;> rfl
  ok := fun x u hu => by
    simp [Nd.cells] at hu
    rcases hu with rfl | rfl | rfl
    · exact .inl ⟨_, rfl⟩
    · exact .inl ⟨_, rfl⟩
    · exact .inr ⟨_, _, _, rfl⟩
  good := fun w x => Wd w x.a x.n x.c x.l
  later := fun h hb => h.later hb
  aside := fun h ho hg => h.only ho hg (fun k h9 => by
    rcases h9 with ⟨k', e⟩ | ⟨a, n, c, e⟩ <;> cases e)
/-- An expression in memory. -/
abbrev Nds (w : World) (a : Option Addr) (n cap : Nat) (L : List Nd) : Prop := ndK.All w a n cap L
theorem Nds.get {w : World} {a : Option Addr} {n cap : Nat} {L : List Nd} (h : Nds w a n cap L) {j : Nat} {x : Nd} (hj : L[j]? = some x) : ∃ b off, a = some ⟨b, off, none⟩ ∧
    w.cell? ⟨b, off + j * 3, none⟩ = some (.int .i64 x.op) ∧ w.cell? ⟨b, off + j * 3 + 1, none⟩ = some (.int .i64 x.i) ∧ w.cell? ⟨b, off + j * 3 + 2, none⟩ = some (.slice x.a x.n x.c) ∧ Wd w x.a x.n x.c x.l := by
  obtain ⟨b, off, e, hc, hg⟩ := Kin.All.at h hj
  exact ⟨b, off, e, hc 0 _ rfl, hc 1 _ rfl, hc 2 _ rfl, hg⟩
theorem Nds.only {w w' : World} {v : Value} {a : Option Addr} {n cap : Nat} {L : List Nd} (h : Nds w a n cap L) {p : Value → Prop} (ho : Only p w v) (hg : w.grownBy w' v.ownBlock) (hno : ∀ (k : IntKind) (n : Int), ¬ p (.int k n)) : Nds w' a n cap L :=
  ⟨h.1.aside ho hg fun _ => ⟨0, _, rfl, hno _ _⟩, fun x hx => (h.2 x hx).only ho hg fun _ => hno _ _⟩
/-- An expression as it stands in a row of such. -/
structure Sn where
  a : Option Addr
  n : Nat
  c : Nat
  L : List Nd
def Sn.zero : Sn := ⟨none, 0, 0, []⟩
instance : Inhabited Sn := ⟨Sn.zero⟩
def Sn.sem (x : Sn) : List (Int × Int × Nat) := x.L.map Nd.sem
def isSlice (u : Value) : Prop := ∃ (a : Option Addr) (n c : Nat), u = .slice a n c
def snK : Kin Sn where
  cells := fun x => [.slice x.a x.n x.c]
  size := 1
  bytes := 24
  p := isSlice
  pos := by decide
  len := fun _ => rfl
  one := fun x u hu => by
    simp at hu
    subst hu; rfl
  ok := fun x u hu => by
    simp at hu
    exact ⟨_, _, _, hu⟩
  good := fun w x => Nds w x.a x.n x.c x.L
  later := fun h hb => Kin.All.later h hb
  aside := fun h ho hg => Nds.only h ho hg fun k n h9 => by
    obtain ⟨a, n, c, e⟩ := h9
    cases e
/-- Expressions side by side in memory. -/
abbrev Sns (w : World) (a : Option Addr) (n cap : Nat) (K : List Sn) : Prop := snK.All w a n cap K
theorem Sns.get {w : World} {a : Option Addr} {n cap : Nat} {K : List Sn} (h : Sns w a n cap K) {j : Nat} {x : Sn} (hj : K[j]? = some x) : ∃ b off, a = some ⟨b, off, none⟩ ∧
    w.cell? ⟨b, off + j, none⟩ = some (.slice x.a x.n x.c) ∧ Nds w x.a x.n x.c x.L := by
  obtain ⟨b, off, e, hc, hg⟩ := Kin.All.at h hj
  have h9 := hc 0 _ rfl
  exact ⟨b, off, e, by simpa [snK] using h9, hg⟩
/-- A let as it stands in memory. -/
structure Lt where
  t : List UInt8
  a : Option Addr
  n : Nat
  c : Nat
  L : List Nd
def Lt.zero : Lt := ⟨[], none, 0, 0, []⟩
instance : Inhabited Lt := ⟨Lt.zero⟩
def Lt.sn (x : Lt) : Sn := ⟨x.a, x.n, x.c, x.L⟩
def isLet (u : Value) : Prop := (∃ s : ByteArray, u = .string s) ∨ ∃ (a : Option Addr) (n c : Nat), u = .slice a n c
def ltK : Kin Lt where
  cells := fun x => [.string (bs x.t), .slice x.a x.n x.c]
  size := 2
  bytes := 40
  p := isLet
  pos := by decide
  len := fun _ => rfl
  one := fun x u hu => by
    simp at hu
    rcases hu with rfl | rfl <;> rfl
  ok := fun x u hu => by
    simp at hu
    rcases hu with rfl | rfl
    · exact .inl ⟨_, rfl⟩
    · exact .inr ⟨_, _, _, rfl⟩
  good := fun w x => Nds w x.a x.n x.c x.L
  later := fun h hb => Kin.All.later h hb
  aside := fun h ho hg => Nds.only h ho hg fun k n h9 => by
    rcases h9 with ⟨s, e⟩ | ⟨a, n, c, e⟩ <;> cases e
/-- Lets side by side in memory. -/
abbrev Lts (w : World) (a : Option Addr) (n cap : Nat) (K : List Lt) : Prop := ltK.All w a n cap K
theorem Lts.get {w : World} {a : Option Addr} {n cap : Nat} {K : List Lt} (h : Lts w a n cap K) {j : Nat} {x : Lt} (hj : K[j]? = some x) : ∃ b off, a = some ⟨b, off, none⟩ ∧
    w.cell? ⟨b, off + j * 2, none⟩ = some (.string (bs x.t)) ∧ w.cell? ⟨b, off + j * 2 + 1, none⟩ = some (.slice x.a x.n x.c) ∧ Nds w x.a x.n x.c x.L := by
  obtain ⟨b, off, e, hc, hg⟩ := Kin.All.at h hj
  exact ⟨b, off, e, hc 0 _ rfl, hc 1 _ rfl, hg⟩
/-- Nodes of at most so many words each. -/
def thinN (N : Nat) (L : List Nd) : Prop := ∀ x ∈ L, x.l.length ≤ N
end Go.Proofs.Ytdhfnlpolelcpaa
