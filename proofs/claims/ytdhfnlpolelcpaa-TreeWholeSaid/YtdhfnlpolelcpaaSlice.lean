/-
  Lists of words in memory: what a slice of uint32 holds. Of no program.
-/
import Derived.Test.YtdhfnlpolelcpaaWords
import Derived.WalkKit
import Derived.WalkSpells
import Derived.WalkLawsBesides
import Derived.Lib.Hide
namespace Go.Proofs.Ytdhfnlpolelcpaa
open Go.RowKit

theorem ret_bool {a b : Bool} (h : a = b) : Ending.returned (.bool a) = .returned (.bool b) := by rw [h]
theorem ret_i64 {a b : Int} (h : a = b) : Ending.returned (.int .i64 a) = .returned (.int .i64 b) := by rw [h]

/-- In the world w the slice ⟨a, n, cap⟩ holds just the words l. -/
def Wd (w : World) (a : Option Addr) (n cap : Nat) (l : List Nat) : Prop :=
  l.length = n ∧ n ≤ cap ∧ cap ≤ 9223372036854775807 ∧ okw l ∧ (a = none → cap = 0) ∧ (n = 0 ∨ ∃ b off, a = some ⟨b, off, none⟩ ∧ ∀ j, j < n → w.cell? ⟨b, off + j, none⟩ = some (.int .u32 ((atw l j : Nat) : Int)))

theorem Wd.len {w : World} {a : Option Addr} {n cap : Nat} {l : List Nat} (h : Wd w a n cap l) : l.length = n := h.1
theorem Wd.ok {w : World} {a : Option Addr} {n cap : Nat} {l : List Nat} (h : Wd w a n cap l) : okw l := h.2.2.2.1
theorem Wd.bound {w : World} {a : Option Addr} {n cap : Nat} {l : List Nat} (h : Wd w a n cap l) : n ≤ cap ∧ cap ≤ 9223372036854775807 := ⟨h.2.1, h.2.2.1⟩
theorem Wd.ofNone {w : World} {n cap : Nat} {l : List Nat} (h : Wd w none n cap l) : n = 0 ∧ cap = 0 ∧ l = [] := by
  have h1 := h.2.2.2.2.1 rfl
  have h2 := h.2.1
  have h3 := h.1
  exact ⟨by omega, h1, List.eq_nil_of_length_eq_zero (by omega)⟩
-- the address of its first word
theorem Wd.at {w : World} {a : Option Addr} {n cap : Nat} {l : List Nat} (h : Wd w a n cap l) (hn : 0 < n) : ∃ b off, a = some ⟨b, off, none⟩ ∧ ∀ j, j < n → w.cell? ⟨b, off + j, none⟩ = some (.int .u32 ((atw l j : Nat) : Int)) := by
  rcases h.2.2.2.2.2 with h0 | h0
  · omega
  · exact h0
theorem Wd.later {w w' : World} {a : Option Addr} {n cap : Nat} {l : List Nat} (h : Wd w a n cap l) (hb : Below w.heap.size w w') : Wd w' a n cap l :=
  ⟨h.1, h.2.1, h.2.2.1, h.2.2.2.1, h.2.2.2.2.1, h.2.2.2.2.2.imp id fun ⟨b, off, e, hc⟩ => ⟨b, off, e, fun j hj => cell_later hb (hc j hj)⟩⟩
theorem Wd.ofNil (w : World) : Wd w none 0 0 [] := ⟨rfl, Nat.le_refl _, by omega, okw_nil, fun _ => rfl, .inl rfl⟩
theorem Wd.empty (w : World) (ad : Addr) (cap : Nat) (h : cap ≤ 9223372036854775807) : Wd w (some ad) 0 cap [] := ⟨rfl, Nat.zero_le _, h, okw_nil, fun e => (by cases e), .inl rfl⟩
/-- Its first k words. -/
theorem Wd.take {w : World} {a : Option Addr} {n cap : Nat} {l : List Nat} (h : Wd w a n cap l) {k : Nat} (hk : k ≤ n) : Wd w a k cap (l.take k) := by
  obtain ⟨h1, h2, h3, h4, h6, h5⟩ := h
  refine ⟨by rw [List.length_take]; omega, by omega, h3, okw_take h4 k, h6, ?_⟩
  by_cases hk0 : k = 0
  · exact .inl hk0
  · rcases h5 with h0 | ⟨b, off, e, hc⟩
    · omega
    · exact .inr ⟨b, off, e, fun j hj => by rw [hc j (by omega), atw_take hj]⟩

/-- In the world w the slice ⟨a, n, cap⟩ of slices holds just these lists of words. -/
def Wds (w : World) (a : Option Addr) (n cap : Nat) (ls : List (List Nat)) : Prop :=
  ls.length = n ∧ n ≤ cap ∧ cap ≤ 9223372036854775807 ∧ (a = none → cap = 0) ∧ (n = 0 ∨ ∃ b off, a = some ⟨b, off, none⟩ ∧ ∀ j, j < n → ∃ a' n' c', w.cell? ⟨b, off + j, none⟩ = some (.slice a' n' c') ∧ Wd w a' n' c' (ls.getD j []))
theorem Wds.len {w : World} {a : Option Addr} {n cap : Nat} {l : List (List Nat)} (h : Wds w a n cap l) : l.length = n := h.1
theorem Wds.bound {w : World} {a : Option Addr} {n cap : Nat} {l : List (List Nat)} (h : Wds w a n cap l) : n ≤ cap ∧ cap ≤ 9223372036854775807 := ⟨h.2.1, h.2.2.1⟩
theorem Wds.at {w : World} {a : Option Addr} {n cap : Nat} {l : List (List Nat)} (h : Wds w a n cap l) {j : Nat} (hj : j < n) : ∃ b off, a = some ⟨b, off, none⟩ ∧ ∃ a' n' c', w.cell? ⟨b, off + j, none⟩ = some (.slice a' n' c') ∧ Wd w a' n' c' (l.getD j []) := by
  rcases h.2.2.2.2 with h0 | ⟨b, off, e, hc⟩
  · omega
  · exact ⟨b, off, e, hc j hj⟩
theorem Wds.oks {w : World} {a : Option Addr} {n cap : Nat} {l : List (List Nat)} (h : Wds w a n cap l) : ∀ x ∈ l, okw x := by
  intro x hx
  obtain ⟨j, hj, rfl⟩ := List.getElem_of_mem hx
  obtain ⟨b, off, _, a', n', c', _, hw⟩ := h.at (j := j) (by rw [← h.len]; exact hj)
  have := hw.ok
  rwa [List.getD_eq_getElem?_getD, List.getElem?_eq_getElem hj] at this
theorem Wds.later {w w' : World} {a : Option Addr} {n cap : Nat} {l : List (List Nat)} (h : Wds w a n cap l) (hb : Below w.heap.size w w') : Wds w' a n cap l :=
  ⟨h.1, h.2.1, h.2.2.1, h.2.2.2.1, h.2.2.2.2.imp id fun ⟨b, off, e, hc⟩ => ⟨b, off, e, fun j hj => by
    obtain ⟨a', n', c', h1, h2⟩ := hc j hj
    exact ⟨a', n', c', cell_later hb h1, h2.later hb⟩⟩⟩

/-- The words as cells. -/
def wcells (l : List Nat) : List Value := l.map fun x => Value.int .u32 ((x : Nat) : Int)
theorem wcells_length (l : List Nat) : (wcells l).length = l.length := by simp [wcells]
theorem wcells_append (a b : List Nat) : wcells (a ++ b) = wcells a ++ wcells b := by simp [wcells]
theorem wcells_at {l : List Nat} {j : Nat} (h : j < l.length) : (wcells l)[j]? = some (.int .u32 ((atw l j : Nat) : Int)) := by
  simp [wcells, atw, h, List.getD_eq_getElem?_getD]
theorem wcells_one (l : List Nat) : ∀ u ∈ wcells l, u.oneCell' = true := by
  intro u hu
  simp only [wcells, List.mem_map] at hu
  obtain ⟨x, _, rfl⟩ := hu
  rfl
/-- What it holds, as the cells that an append copies. -/
theorem Wd.cells {w : World} {b off n cap : Nat} {l : List Nat} (h : Wd w (some ⟨b, off, none⟩) n cap l) : ∀ j u, (wcells l)[j]? = some u → w.cell? ((⟨b, off, none⟩ : Addr).add j) = some u := by
  intro j u hu
  have hj : j < l.length := by
    rcases Nat.lt_or_ge j l.length with h1 | h1
    · exact h1
    · rw [List.getElem?_eq_none (by rw [wcells_length]; exact h1)] at hu; cases hu
  rw [wcells_at hj] at hu
  have hn := h.len
  obtain ⟨b', off', e, hc⟩ := h.at (by omega)
  simp only [Option.some.injEq, Addr.mk.injEq, and_true] at e
  obtain ⟨rfl, rfl⟩ := e
  rw [← hu]
  have := hc j (by omega)
  by_cases h0 : j = 0
  · subst h0; simpa [Addr.add] using this
  · simpa [Addr.add, h0] using this
/-- What the call owns, it holds. -/
theorem Wd.own {w : World} {base : Nat} {e : TypeId} {a : Option Addr} {n cap : Nat} {l : List Nat} (h : w.ownsRow base e 1 (.slice a n cap) n (wcells l)) (ho : okw l) : Wd w a n cap l := by
  have hl : l.length = n := by have := h.1; rw [wcells_length] at this; omega
  rcases h.2 with ⟨h', h0⟩ | ⟨g, cap', cur, h', hb, hg, hnc, hcm, hcs, htake⟩
  · simp only [Value.slice.injEq] at h'
    obtain ⟨rfl, rfl, rfl⟩ := h'
    exact ⟨hl, Nat.le_refl _, by omega, ho, fun _ => rfl, .inl rfl⟩
  · simp only [Value.slice.injEq] at h'
    obtain ⟨rfl, _, rfl⟩ := h'
    refine ⟨hl, hnc, by unfold maxLen at hcm; omega, ho, fun e => (by cases e), .inr ⟨g, 0, rfl, fun j hj => ?_⟩⟩
    rw [Nat.zero_add, h.cellAt j (by omega), wcells_at (by omega)]
theorem wcells_set (l : List Nat) (k r : Nat) : (wcells l).set k (.int .u32 ((r : Nat) : Int)) = wcells (l.set k r) := by simp [wcells, List.map_set]
/-- What a make leaves. -/
theorem wcells_made (n : Nat) : (madeCells (Value.int .u32 0).cells (n * 1)).toList = wcells (List.replicate n 0) := by
  rw [Nat.mul_one]
  show (madeCells #[Value.int .u32 0] n).toList = _
  rw [toList_madeCells_one]
  simp [wcells]
/-- A list of two words, written out. -/
theorem Wd.lit2 (w : World) (e : TypeId) {x y : Nat} (hx : x < 4294967296) (hy : y < 4294967296) : Wd (w.alloc (.cells #[.int .u32 (x : Int), .int .u32 (y : Int)] e)) (some ⟨w.heap.size, 0, none⟩) 2 2 [x, y] :=
  Wd.own (base := 0) (World.ownsRow_lit (base := 0) w #[.int .u32 (x : Int), .int .u32 (y : Int)] 2 (Nat.zero_le _) (by decide) rfl) (okw_cons.2 ⟨hx, okw_cons.2 ⟨hy, okw_nil⟩⟩)
theorem Wd.lit1 (w : World) (e : TypeId) {x : Nat} (hx : x < 4294967296) : Wd (w.alloc (.cells #[.int .u32 (x : Int)] e)) (some ⟨w.heap.size, 0, none⟩) 1 1 [x] :=
  Wd.own (base := 0) (World.ownsRow_lit (base := 0) w #[.int .u32 (x : Int)] 1 (Nat.zero_le _) (by decide) rfl) (okw_cons.2 ⟨hx, okw_nil⟩)
/-- Two, three slices, written out as one of slices (a call of a variadic function). -/
theorem Wds.lit2 (w : World) (e : TypeId) {a1 a2 : Option Addr} {n1 n2 c1 c2 : Nat} {l1 l2 : List Nat} (h1 : Wd w a1 n1 c1 l1) (h2 : Wd w a2 n2 c2 l2) :
    Wds (w.alloc (.cells #[.slice a1 n1 c1, .slice a2 n2 c2] e)) (some ⟨w.heap.size, 0, none⟩) 2 2 [l1, l2] := by
  have hb : Below w.heap.size w (w.alloc (.cells #[.slice a1 n1 c1, .slice a2 n2 c2] e)) := (Below.refl _ _).alloc (Nat.le_refl _) _
  refine ⟨rfl, Nat.le_refl _, by omega, fun h => (by cases h), .inr ⟨w.heap.size, 0, rfl, fun j hj => ?_⟩⟩
  match j, hj with
  | 0, _ => exact ⟨a1, n1, c1, by simp, h1.later hb⟩
  | 1, _ => exact ⟨a2, n2, c2, by simp, h2.later hb⟩
theorem Wds.lit3 (w : World) (e : TypeId) {a1 a2 a3 : Option Addr} {n1 n2 n3 c1 c2 c3 : Nat} {l1 l2 l3 : List Nat} (h1 : Wd w a1 n1 c1 l1) (h2 : Wd w a2 n2 c2 l2) (h3 : Wd w a3 n3 c3 l3) :
    Wds (w.alloc (.cells #[.slice a1 n1 c1, .slice a2 n2 c2, .slice a3 n3 c3] e)) (some ⟨w.heap.size, 0, none⟩) 3 3 [l1, l2, l3] := by
  have hb : Below w.heap.size w (w.alloc (.cells #[.slice a1 n1 c1, .slice a2 n2 c2, .slice a3 n3 c3] e)) := (Below.refl _ _).alloc (Nat.le_refl _) _
  refine ⟨rfl, Nat.le_refl _, by omega, fun h => (by cases h), .inr ⟨w.heap.size, 0, rfl, fun j hj => ?_⟩⟩
  match j, hj with
  | 0, _ => exact ⟨a1, n1, c1, by simp, h1.later hb⟩
  | 1, _ => exact ⟨a2, n2, c2, by simp, h2.later hb⟩
  | 2, _ => exact ⟨a3, n3, c3, by simp, h3.later hb⟩
theorem below_alloc (w : World) (o : Obj) : Below w.heap.size w (w.alloc o) := (Below.refl _ _).alloc (Nat.le_refl _) o
theorem below_draws (w : World) (n : Nat) : Below w.heap.size w (w.drewN n) := below_drewN (Below.refl _ _) n
/-- One step behind another. -/
theorem below_then {w w1 w2 : World} (h : Below w.heap.size w w1) (k : Below w1.heap.size w1 w2) : Below w.heap.size w w2 := h.trans (k.mono h.size)
/-- Where an owned slice lies. -/
theorem own_slice {w : World} {base : Nat} {e : TypeId} {v : Value} {n : Nat} {xs : List Value} (h : w.ownsRow base e 1 v n xs) : ∃ a cap, v = .slice a n cap := by
  rcases h.2 with ⟨h', h0⟩ | ⟨g, cap', cur, h', _⟩
  · exact ⟨none, 0, by rw [h', h0]⟩
  · exact ⟨_, _, h'⟩
/-- A callee that leaves the world as it is, in a region that draws: whatever is asked of the world behind it is asked of the one before. -/
theorem quiet_here {P : Program} {f : FuncId} {args : Array Value} {W : World} {v : Value} {Z : World → Prop} (h : Calls P f args W fun e w' => e = .returned v ∧ W = w') (hz : Z W) : Calls P f args W fun e w' => e = .returned v ∧ Z w' :=
  h.mono fun _ _ ⟨he, hw⟩ => ⟨he, hw ▸ hz⟩
theorem quiet_there {P : Program} {f : FuncId} {args : Array Value} {W : World} {v : Value} {Z : World → Prop} (h : Calls P f args W fun e w' => e = .returned v ∧ ∃ q, w' = W.drewN q) (hz : ∀ q, Z (W.drewN q)) : Calls P f args W fun e w' => e = .returned v ∧ Z w' :=
  h.mono fun _ _ ⟨he, q, hw⟩ => ⟨he, hw ▸ hz q⟩
def lenOf : Value → Nat | .slice _ n _ => n | _ => 0
/-- Just this comes back; nothing is made. -/
def Same1 (v : Value) (w : World) (e : Ending) (w' : World) : Prop := e = .returned v ∧ w = w'
end Go.Proofs.Ytdhfnlpolelcpaa
