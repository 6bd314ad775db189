/-
  Several texts of this claim as one, group 23.
-/
import Derived.Test.YtjeigdlhjghinaaGreatDoorG22
import Derived.Test.YtjeigdlhjghinaaGreatDoorG17
import Derived.Test.YtjeigdlhjghinaaGreatDoorG18
import Derived.Lib.BufferWrite
import Derived.Test.YtjeigdlhjghinaaGreatDoorG19
import Derived.Test.YtjeigdlhjghinaaGreatDoorG20
import Derived.Test.YtjeigdlhjghinaaGreatDoorG21
import Derived.WalkKit
import Derived.ProofKit
import Derived.OpenShut
import Derived.Test.YtjeigdlhjghinaaGreatDoorG13
/-
  Package row at this seat: Read.
-/
namespace Go.Proofs.YtjeigdlhjghinaaGreatDoor
open Go.RowKit Go.Shelf
attribute [local go_sem] Oper.semAt_some

/-- The boxes of Read: its results, the row so far, where the next piece begins; the iterator's three. -/
def RB (g : Nat) (v : Value) (st : Nat) (A : World) : Prop :=
  A.heap[g]? = some (.cells #[.slice none 0 0] 28 (0, 0)) ∧ A.heap[g + 1]? = some (.cells #[.int .i64 0, .int .i64 0, .int .i64 0, .int .i64 0] 69 (0, 0)) ∧
  A.heap[g + 1 + 1]? = some (.cells #[v] 28 (0, 0)) ∧ A.heap[g + 1 + 1 + 1]? = some (.cells #[.int .i64 (st : Int)] 3 (0, 0)) ∧
  (∃ x, A.heap[g + 1 + 1 + 1 + 1]? = some (.cells #[.string x] 9 (0, 0))) ∧ A.heap[g + 1 + 1 + 1 + 1 + 1]? = some (.cells #[.string ⟨#[44]⟩] 9 (0, 0)) ∧ A.heap[g + 1 + 1 + 1 + 1 + 1 + 1]? = some (.cells #[.int .i64 0] 3 (0, 0))
theorem RB.same {g : Nat} {v : Value} {st : Nat} {A A' : World} (h : RB g v st A) (hs : ∀ k, g ≤ k → k < g + 7 → A'.heap[k]? = A.heap[k]?) : RB g v st A' := by
  obtain ⟨h1, h2, h3, h4, ⟨x, h5⟩, h6, h7⟩ := h
  exact ⟨(hs _ (by omega) (by omega)).trans h1, (hs _ (by omega) (by omega)).trans h2, (hs _ (by omega) (by omega)).trans h3, (hs _ (by omega) (by omega)).trans h4, ⟨x, (hs _ (by omega) (by omega)).trans h5⟩, (hs _ (by omega) (by omega)).trans h6, (hs _ (by omega) (by omega)).trans h7⟩
theorem RB.size {g : Nat} {v : Value} {st : Nat} {A : World} (h : RB g v st A) : g + 7 ≤ A.heap.size := by
  have := blk_lt h.2.2.2.2.2.2
  omega
theorem RB.later {g : Nat} {v : Value} {st : Nat} {A A' : World} (h : RB g v st A) (hb : Below A.heap.size A A') : RB g v st A' := h.same fun k _ hk => hb.block k (by have := h.size; omega)
theorem RB.grown {g : Nat} {v : Value} {st : Nat} {A A' : World} (h : RB g v st A) {row : Option Nat} (hg : A.grownBy A' row) (hrow : ∀ k, row = some k → g + 9 ≤ k) : RB g v st A' := h.same fun k _ hk => hg.block k (by have := h.size; omega) (fun e => by have := hrow k e.symm; omega)
theorem RB.put {g : Nat} {v : Value} {st : Nat} {A : World} (h : RB g v st A) {r : Nat} (hr : g + 7 ≤ r) (o : Obj) : RB g v st (A.putObj r o) := h.same fun k _ hk => World.putObj_heap_other (by omega)
theorem RB.setv {g : Nat} {v : Value} {st : Nat} {A : World} (h : RB g v st A) (v' : Value) : RB g v' st (A.setCell ⟨g + 1 + 1, 0, none⟩ v') := by
  obtain ⟨h1, h2, h3, h4, ⟨x, h5⟩, h6, h7⟩ := h
  exact ⟨blk_apart h1 (by omega) 0 v', blk_apart h2 (by omega) 0 v', by simpa using blk_set h3 0 v', blk_apart h4 (by omega) 0 v', ⟨x, blk_apart h5 (by omega) 0 v'⟩, blk_apart h6 (by omega) 0 v', blk_apart h7 (by omega) 0 v'⟩
theorem RB.setst {g : Nat} {v : Value} {st : Nat} {A : World} (h : RB g v st A) (st' : Nat) : RB g v st' (A.setCell ⟨g + 1 + 1 + 1, 0, none⟩ (.int .i64 (st' : Int))) := by
  obtain ⟨h1, h2, h3, h4, ⟨x, h5⟩, h6, h7⟩ := h
  exact ⟨blk_apart h1 (by omega) 0 _, blk_apart h2 (by omega) 0 _, blk_apart h3 (by omega) 0 _, by simpa using blk_set h4 0 (.int .i64 (st' : Int)), ⟨x, blk_apart h5 (by omega) 0 _⟩, blk_apart h6 (by omega) 0 _, blk_apart h7 (by omega) 0 _⟩
theorem RB.sets {g : Nat} {v : Value} {st : Nat} {A : World} (h : RB g v st A) (y : ByteArray) : RB g v st (A.setCell ⟨g + 1 + 1 + 1 + 1, 0, none⟩ (.string y)) := by
  obtain ⟨h1, h2, h3, h4, ⟨x, h5⟩, h6, h7⟩ := h
  exact ⟨blk_apart h1 (by omega) 0 _, blk_apart h2 (by omega) 0 _, blk_apart h3 (by omega) 0 _, blk_apart h4 (by omega) 0 _, ⟨y, by simpa using blk_set h5 0 (.string y)⟩, blk_apart h6 (by omega) 0 _, blk_apart h7 (by omega) 0 _⟩
/-- Between two rounds. -/
def RI (w : World) (pre : List (List UInt8)) (A : World) : Prop := ∃ v, RB w.heap.size v (offOf pre) A ∧ Row A (w.heap.size + 9) 41 v (pre.map figVal) ∧ (∀ p ∈ pre, figKind p = 0) ∧ Below w.heap.size w A ∧ w.heap.size + 9 ≤ A.heap.size
/-- Behind a round that has found a fault. -/
def RX (w : World) (l : List UInt8) (A : World) : Prop := A.heap[w.heap.size]? = some (.cells #[.slice none 0 0] 28 (0, 0)) ∧ A.heap[w.heap.size + 1]? = some (.cells #[.int .i64 (rowKind l), .int .i64 0, .int .i64 0, .int .i64 (rowPlace l)] 69 (0, 0)) ∧ rowVals l = [] ∧ Below w.heap.size w A
theorem RX.drew {w : World} {l : List UInt8} {A : World} (h : RX w l A) : RX w l A.drew := ⟨h.1, h.2.1, h.2.2.1, below_then h.2.2.2 ((Below.refl _ _).drew)⟩
theorem Rounds.drew {N B : Nat} {W A : World} (h : Rounds N B W A) : Rounds N B W A.drew := ⟨h.1, h.2⟩
theorem round_ret {N B : Nat} {I : List (List UInt8) → World → Prop} {Ix : World → Prop} {pre : List (List UInt8)} {W : World} {a : Act} {A : World} (h1 : Rounds N B W A) (h2 : Ix A) : roundEnd N B I Ix pre W .ret a A := ⟨h1, h2⟩
theorem rx_made {w V : World} {l : List UInt8} {kd e : Int} (h1 : V.heap[w.heap.size]? = some (.cells #[.slice none 0 0] 28 (0, 0))) (h2 : V.heap[w.heap.size + 1]? = some (.cells #[.int .i64 0, .int .i64 0, .int .i64 0, .int .i64 0] 69 (0, 0))) (hb : Below w.heap.size w V)
    (hk : rowKind l = kd) (hp : rowPlace l = e) (hv : rowVals l = []) : RX w l (((((V.setCell ⟨w.heap.size, 0, none⟩ (.slice none 0 0)).setCell ⟨w.heap.size + 1, 0, none⟩ (.int .i64 kd)).setCell ⟨w.heap.size + 1, 1, none⟩ (.int .i64 0)).setCell ⟨w.heap.size + 1, 2, none⟩ (.int .i64 0)).setCell ⟨w.heap.size + 1, 3, none⟩ (.int .i64 e)) := by
  have e0 := blk_set h1 0 (.slice none 0 0)
  simp only [List.setIfInBounds_toArray, List.set_cons_zero] at e0
  have e1 := blk_set4 (blk_apart h2 (show w.heap.size + 1 ≠ w.heap.size by omega) 0 (.slice none 0 0)) (.int .i64 kd) (.int .i64 0) (.int .i64 0) (.int .i64 e)
  refine ⟨blk_apart (blk_apart (blk_apart (blk_apart e0 (by omega) 0 _) (by omega) 1 _) (by omega) 2 _) (by omega) 3 _, ?_, hv, ?_⟩
  · rw [hk, hp]; exact e1
  · exact ((((hb.setCell (p := ⟨w.heap.size, 0, none⟩) (show w.heap.size ≤ w.heap.size by omega) (.slice none 0 0)).setCell (p := ⟨w.heap.size + 1, 0, none⟩) (show w.heap.size ≤ w.heap.size + 1 by omega) (.int .i64 kd)).setCell (p := ⟨w.heap.size + 1, 1, none⟩) (show w.heap.size ≤ w.heap.size + 1 by omega) (.int .i64 0)).setCell (p := ⟨w.heap.size + 1, 2, none⟩) (show w.heap.size ≤ w.heap.size + 1 by omega) (.int .i64 0)).setCell (p := ⟨w.heap.size + 1, 3, none⟩) (show w.heap.size ≤ w.heap.size + 1 by omega) (.int .i64 e)
theorem rounds_made {N B g : Nat} {W V : World} {kd e : Int} (h : Rounds N B W V) (hg : g + 1 < N) (hB : g + 1 < B) : Rounds N B W (((((V.setCell ⟨g, 0, none⟩ (.slice none 0 0)).setCell ⟨g + 1, 0, none⟩ (.int .i64 kd)).setCell ⟨g + 1, 1, none⟩ (.int .i64 0)).setCell ⟨g + 1, 2, none⟩ (.int .i64 0)).setCell ⟨g + 1, 3, none⟩ (.int .i64 e)) :=
  ((((h.set (g := g) (by omega) (by omega) 0 (.slice none 0 0)).set (g := g + 1) (by omega) (by omega) 0 (.int .i64 kd)).set (g := g + 1) (by omega) (by omega) 1 (.int .i64 0)).set (g := g + 1) (by omega) (by omega) 2 (.int .i64 0)).set (g := g + 1) (by omega) (by omega) 3 (.int .i64 e)
theorem no_word1 {x : Value} (hx : ∀ k : Int, x ≠ .int .u32 k) : noWords (#[x] : Array Value).toList := fun u hu k => by
  simp at hu
  rw [hu]; exact hx k
theorem RI.put {w : World} {pre : List (List UInt8)} {A : World} (h : RI w pre A) {r : Nat} (hr : r = w.heap.size + 8) {o : Obj} (o' : Obj) (h1 : A.heap[r]? = some o) (h2 : o.isCells = false) : RI w pre (A.putObj r o') := by
  obtain ⟨v, k1, k2, k3, k4, k5⟩ := h
  exact ⟨v, k1.put (by omega) o', k2.turned (X := r) (by omega) (clean_other h1 h2 1 1) (grownBy_putObj' A r o'), k3, k4.grown (grownBy_putObj' A r o') k4.size (fun k e => by have := Option.some.inj e; omega), by rw [World.putObj_size]; exact k5⟩
theorem RX.put {w : World} {l : List UInt8} {A : World} (h : RX w l A) {r : Nat} (hr : w.heap.size + 7 ≤ r) (o' : Obj) : RX w l (A.putObj r o') := by
  obtain ⟨h1, h2, h3, h4⟩ := h
  exact ⟨(World.putObj_heap_other (by omega)).trans h1, (World.putObj_heap_other (by omega)).trans h2, h3, h4.grown (grownBy_putObj' A r o') h4.size (fun k e => by have := Option.some.inj e; omega)⟩
theorem RI.sets {w : World} {pre : List (List UInt8)} {A : World} (h : RI w pre A) (y : ByteArray) : RI w pre (A.setCell ⟨w.heap.size + 1 + 1 + 1 + 1, 0, none⟩ (.string y)) := by
  obtain ⟨v, k1, k2, k3, k4, k5⟩ := h
  obtain ⟨x, hx⟩ := k1.2.2.2.2.1
  refine ⟨v, k1.sets y, k2.turned (X := w.heap.size + 1 + 1 + 1 + 1) (by omega) (clean_block hx (no_word1 (fun k e => by cases e))) (grownBy_setCell' A _ _), k3, k4.setCell (p := ⟨w.heap.size + 1 + 1 + 1 + 1, 0, none⟩) (show w.heap.size ≤ w.heap.size + 1 + 1 + 1 + 1 by omega) _, ?_⟩
  exact Nat.le_trans k5 (grownBy_setCell' A (w.heap.size + 1 + 1 + 1 + 1) (.string y)).size
theorem no_word4 {a b c d : Int} : noWords (#[.int .i64 a, .int .i64 b, .int .i64 c, .int .i64 d] : Array Value).toList := fun u hu k => by
  simp at hu
  rcases hu with rfl | rfl | rfl | rfl <;> simp
theorem done_made {w W : World} {d base : Nat} {e t1 t2 : TypeId} {a9 : Option Addr} {n cap9 : Nat} {qs : List Rat} {x : Option (List Deferred)} (h1 : W.heap[w.heap.size]? = some (.cells #[.slice none 0 0] t1 (0, 0))) (h2 : W.heap[w.heap.size + 1]? = some (.cells #[.int .i64 0, .int .i64 0, .int .i64 0, .int .i64 0] t2 (0, 0)))
    (hrow : Row W base e (.slice a9 n cap9) qs) (hd : W.heap[d]? = some (.deferred x)) (hdw : d = w.heap.size + 7) (hbase : d < base) (hb : Below w.heap.size w W) {X : World}
    (hX : X = ((((W.setCell ⟨w.heap.size, 0, none⟩ (.slice a9 n cap9)).setCell ⟨w.heap.size + 1, 0, none⟩ (.int .i64 0)).setCell ⟨w.heap.size + 1, 1, none⟩ (.int .i64 0)).setCell ⟨w.heap.size + 1, 2, none⟩ (.int .i64 0)).setCell ⟨w.heap.size + 1, 3, none⟩ (.int .i64 0)) :
    X.heap[d]? = some (.deferred x) ∧ (X.putObj d (.deferred none)).heap[w.heap.size]? = some (.cells #[.slice a9 n cap9] t1 (0, 0)) ∧ (X.putObj d (.deferred none)).heap[w.heap.size + 1]? = some (.cells #[.int .i64 0, .int .i64 0, .int .i64 0, .int .i64 0] t2 (0, 0)) ∧ Row (X.putObj d (.deferred none)) base e (.slice a9 n cap9) qs ∧ Below w.heap.size w (X.putObj d (.deferred none)) := by
  subst hX hdw
  have e0 := blk_set h1 0 (.slice a9 n cap9)
  simp only [List.setIfInBounds_toArray, List.set_cons_zero] at e0
  have f0 := blk_apart h2 (show w.heap.size + 1 ≠ w.heap.size by omega) 0 (.slice a9 n cap9)
  have f1 := blk_set f0 0 (.int .i64 0)
  simp only [List.setIfInBounds_toArray, List.set_cons_zero] at f1
  have f2 := blk_set f1 1 (.int .i64 0)
  simp only [List.setIfInBounds_toArray, List.set_cons_zero, List.set_cons_succ] at f2
  have f3 := blk_set f2 2 (.int .i64 0)
  simp only [List.setIfInBounds_toArray, List.set_cons_zero, List.set_cons_succ] at f3
  have f4 := blk_set f3 3 (.int .i64 0)
  simp only [List.setIfInBounds_toArray, List.set_cons_zero, List.set_cons_succ] at f4
  have r0 := hrow.turned (X := w.heap.size) (by omega) (clean_block h1 (no_word1 (fun k e => by cases e))) (grownBy_setCell' W w.heap.size (.slice a9 n cap9))
  have r1 := r0.turned (X := w.heap.size + 1) (by omega) (clean_block f0 no_word4) (Go.Lib.grownBy_setCell _ (w.heap.size + 1) 0 (.int .i64 0))
  have r2 := r1.turned (X := w.heap.size + 1) (by omega) (clean_block f1 no_word4) (Go.Lib.grownBy_setCell _ (w.heap.size + 1) 1 (.int .i64 0))
  have r3 := r2.turned (X := w.heap.size + 1) (by omega) (clean_block f2 no_word4) (Go.Lib.grownBy_setCell _ (w.heap.size + 1) 2 (.int .i64 0))
  have r4 := r3.turned (X := w.heap.size + 1) (by omega) (clean_block f3 no_word4) (Go.Lib.grownBy_setCell _ (w.heap.size + 1) 3 (.int .i64 0))
  have d4 := blk_apart (blk_apart (blk_apart (blk_apart (blk_apart hd (show w.heap.size + 7 ≠ w.heap.size by omega) 0 (.slice a9 n cap9)) (show w.heap.size + 7 ≠ w.heap.size + 1 by omega) 0 (.int .i64 0)) (show w.heap.size + 7 ≠ w.heap.size + 1 by omega) 1 (.int .i64 0)) (show w.heap.size + 7 ≠ w.heap.size + 1 by omega) 2 (.int .i64 0)) (show w.heap.size + 7 ≠ w.heap.size + 1 by omega) 3 (.int .i64 0)
  have b4 := ((((hb.setCell (p := ⟨w.heap.size, 0, none⟩) (show w.heap.size ≤ w.heap.size by omega) (.slice a9 n cap9)).setCell (p := ⟨w.heap.size + 1, 0, none⟩) (show w.heap.size ≤ w.heap.size + 1 by omega) (.int .i64 0)).setCell (p := ⟨w.heap.size + 1, 1, none⟩) (show w.heap.size ≤ w.heap.size + 1 by omega) (.int .i64 0)).setCell (p := ⟨w.heap.size + 1, 2, none⟩) (show w.heap.size ≤ w.heap.size + 1 by omega) (.int .i64 0)).setCell (p := ⟨w.heap.size + 1, 3, none⟩) (show w.heap.size ≤ w.heap.size + 1 by omega) (.int .i64 0)
  have e4 := blk_apart (blk_apart (blk_apart (blk_apart e0 (show w.heap.size ≠ w.heap.size + 1 by omega) 0 (.int .i64 0)) (show w.heap.size ≠ w.heap.size + 1 by omega) 1 (.int .i64 0)) (show w.heap.size ≠ w.heap.size + 1 by omega) 2 (.int .i64 0)) (show w.heap.size ≠ w.heap.size + 1 by omega) 3 (.int .i64 0)
  exact ⟨d4, (World.putObj_heap_other (by omega)).trans e4, (World.putObj_heap_other (by omega)).trans f4, r4.turned (X := w.heap.size + 7) (by omega) (clean_other d4 rfl 1 1) (grownBy_putObj' _ _ _), b4.grown (grownBy_putObj' _ (w.heap.size + 7) _) b4.size (fun k e => by have := Option.some.inj e; omega)⟩
theorem results_slice_row {P : Program} {fn : Func} {p q : Tmp} {ty tz : TypeId} (h : fn.results = #[.cell p ty, .cell q tz]) (tmps : Array Value) (w : World) (g k : Nat) (v : Value) (t s : TypeId) (ds : Array Value) (fs : Nat × Nat) (e : TypeDesc)
    (hp : tmps.getD p undef = .pointer (some ⟨g, 0, none⟩)) (hg : w.heap[g]? = some (.cells #[v] t (0, 0)))
    (ha : ∀ w, (isAgg ty).run P w = .ok false w)
    (hq : tmps.getD q undef = .pointer (some ⟨k, 0, none⟩)) (hk : w.heap[k]? = some (.cells ds s fs))
    (hu2 : P.underlying tz = some e) (hd2 : (match e with | .struct _ | .array _ _ => true | _ => false) = true) (hi2 : (P.info? tz).map (·.size) = some ds.size) :
    (results fn tmps).run P w = .ok (.tuple #[v, .agg ds]) w := by
  have hp' : tmps[p]?.getD undef = .pointer (some ⟨g, 0, none⟩) := by simpa using hp
  have hq' : tmps[q]?.getD undef = .pointer (some ⟨k, 0, none⟩) := by simpa using hq
  have hc : w.cell? ⟨g, 0, none⟩ = some v := blk_cell hg 0
  have hl : (loadVar ty ⟨g, 0, none⟩).run P w = .ok v w := by simp [loadVar, ha, hc, go_sem]
  simp [results, h, hp', hq', asAddr, Sem.run_bind, Result.andThen, hl, run_loadVar_row w k s tz ds fs e hk hu2 hd2 hi2]
theorem RB.start (w : World) (x : ByteArray) : RB w.heap.size (.slice none 0 0) 0 (((((((w.alloc (.cells #[.slice none 0 0] 28)).alloc (.cells #[.int .i64 0, .int .i64 0, .int .i64 0, .int .i64 0] 69)).alloc (.cells #[.slice none 0 0] 28)).alloc (.cells #[.int .i64 0] 3)).alloc (.cells #[.string x] 9)).alloc (.cells #[.string ⟨#[44]⟩] 9)).alloc (.cells #[.int .i64 0] 3)) ∧ Below w.heap.size w (((((((w.alloc (.cells #[.slice none 0 0] 28)).alloc (.cells #[.int .i64 0, .int .i64 0, .int .i64 0, .int .i64 0] 69)).alloc (.cells #[.slice none 0 0] 28)).alloc (.cells #[.int .i64 0] 3)).alloc (.cells #[.string x] 9)).alloc (.cells #[.string ⟨#[44]⟩] 9)).alloc (.cells #[.int .i64 0] 3)) ∧ (((((((w.alloc (.cells #[.slice none 0 0] 28)).alloc (.cells #[.int .i64 0, .int .i64 0, .int .i64 0, .int .i64 0] 69)).alloc (.cells #[.slice none 0 0] 28)).alloc (.cells #[.int .i64 0] 3)).alloc (.cells #[.string x] 9)).alloc (.cells #[.string ⟨#[44]⟩] 9)).alloc (.cells #[.int .i64 0] 3)).heap.size = w.heap.size + 7 := by
  have b0 := blk_new w #[.slice none 0 0] 28
  have l0 := below_alloc w (.cells #[.slice none 0 0] 28)
  have b1 := blk_new (w.alloc (.cells #[.slice none 0 0] 28)) #[.int .i64 0, .int .i64 0, .int .i64 0, .int .i64 0] 69
  simp only [blk_size] at b1
  have l1 := below_alloc (w.alloc (.cells #[.slice none 0 0] 28)) (.cells #[.int .i64 0, .int .i64 0, .int .i64 0, .int .i64 0] 69)
  have b2 := blk_new ((w.alloc (.cells #[.slice none 0 0] 28)).alloc (.cells #[.int .i64 0, .int .i64 0, .int .i64 0, .int .i64 0] 69)) #[.slice none 0 0] 28
  simp only [blk_size] at b2
  have l2 := below_alloc ((w.alloc (.cells #[.slice none 0 0] 28)).alloc (.cells #[.int .i64 0, .int .i64 0, .int .i64 0, .int .i64 0] 69)) (.cells #[.slice none 0 0] 28)
  have b3 := blk_new (((w.alloc (.cells #[.slice none 0 0] 28)).alloc (.cells #[.int .i64 0, .int .i64 0, .int .i64 0, .int .i64 0] 69)).alloc (.cells #[.slice none 0 0] 28)) #[.int .i64 0] 3
  simp only [blk_size] at b3
  have l3 := below_alloc (((w.alloc (.cells #[.slice none 0 0] 28)).alloc (.cells #[.int .i64 0, .int .i64 0, .int .i64 0, .int .i64 0] 69)).alloc (.cells #[.slice none 0 0] 28)) (.cells #[.int .i64 0] 3)
  have b4 := blk_new ((((w.alloc (.cells #[.slice none 0 0] 28)).alloc (.cells #[.int .i64 0, .int .i64 0, .int .i64 0, .int .i64 0] 69)).alloc (.cells #[.slice none 0 0] 28)).alloc (.cells #[.int .i64 0] 3)) #[.string x] 9
  simp only [blk_size] at b4
  have l4 := below_alloc ((((w.alloc (.cells #[.slice none 0 0] 28)).alloc (.cells #[.int .i64 0, .int .i64 0, .int .i64 0, .int .i64 0] 69)).alloc (.cells #[.slice none 0 0] 28)).alloc (.cells #[.int .i64 0] 3)) (.cells #[.string x] 9)
  have b5 := blk_new (((((w.alloc (.cells #[.slice none 0 0] 28)).alloc (.cells #[.int .i64 0, .int .i64 0, .int .i64 0, .int .i64 0] 69)).alloc (.cells #[.slice none 0 0] 28)).alloc (.cells #[.int .i64 0] 3)).alloc (.cells #[.string x] 9)) #[.string ⟨#[44]⟩] 9
  simp only [blk_size] at b5
  have l5 := below_alloc (((((w.alloc (.cells #[.slice none 0 0] 28)).alloc (.cells #[.int .i64 0, .int .i64 0, .int .i64 0, .int .i64 0] 69)).alloc (.cells #[.slice none 0 0] 28)).alloc (.cells #[.int .i64 0] 3)).alloc (.cells #[.string x] 9)) (.cells #[.string ⟨#[44]⟩] 9)
  have b6 := blk_new ((((((w.alloc (.cells #[.slice none 0 0] 28)).alloc (.cells #[.int .i64 0, .int .i64 0, .int .i64 0, .int .i64 0] 69)).alloc (.cells #[.slice none 0 0] 28)).alloc (.cells #[.int .i64 0] 3)).alloc (.cells #[.string x] 9)).alloc (.cells #[.string ⟨#[44]⟩] 9)) #[.int .i64 0] 3
  simp only [blk_size] at b6
  have l6 := below_alloc ((((((w.alloc (.cells #[.slice none 0 0] 28)).alloc (.cells #[.int .i64 0, .int .i64 0, .int .i64 0, .int .i64 0] 69)).alloc (.cells #[.slice none 0 0] 28)).alloc (.cells #[.int .i64 0] 3)).alloc (.cells #[.string x] 9)).alloc (.cells #[.string ⟨#[44]⟩] 9)) (.cells #[.int .i64 0] 3)
  exact ⟨⟨(blk_later (blk_later (blk_later (blk_later (blk_later (blk_later b0 l1) l2) l3) l4) l5) l6), (blk_later (blk_later (blk_later (blk_later (blk_later b1 l2) l3) l4) l5) l6), (blk_later (blk_later (blk_later (blk_later b2 l3) l4) l5) l6), (blk_later (blk_later (blk_later b3 l4) l5) l6), ⟨_, (blk_later (blk_later b4 l5) l6)⟩, (blk_later b5 l6), b6⟩, below_then (below_then (below_then (below_then (below_then (below_then l0 l1) l2) l3) l4) l5) l6, by simp only [blk_size]⟩
theorem RB.start_s (w : World) (x : ByteArray) : (((((((w.alloc (.cells #[.slice none 0 0] 28)).alloc (.cells #[.int .i64 0, .int .i64 0, .int .i64 0, .int .i64 0] 69)).alloc (.cells #[.slice none 0 0] 28)).alloc (.cells #[.int .i64 0] 3)).alloc (.cells #[.string x] 9)).alloc (.cells #[.string ⟨#[44]⟩] 9)).alloc (.cells #[.int .i64 0] 3)).cell? ⟨w.heap.size + 1 + 1 + 1 + 1, 0, none⟩ = some (.string x) := by
  have b0 := blk_new w #[.slice none 0 0] 28
  have l0 := below_alloc w (.cells #[.slice none 0 0] 28)
  have b1 := blk_new (w.alloc (.cells #[.slice none 0 0] 28)) #[.int .i64 0, .int .i64 0, .int .i64 0, .int .i64 0] 69
  simp only [blk_size] at b1
  have l1 := below_alloc (w.alloc (.cells #[.slice none 0 0] 28)) (.cells #[.int .i64 0, .int .i64 0, .int .i64 0, .int .i64 0] 69)
  have b2 := blk_new ((w.alloc (.cells #[.slice none 0 0] 28)).alloc (.cells #[.int .i64 0, .int .i64 0, .int .i64 0, .int .i64 0] 69)) #[.slice none 0 0] 28
  simp only [blk_size] at b2
  have l2 := below_alloc ((w.alloc (.cells #[.slice none 0 0] 28)).alloc (.cells #[.int .i64 0, .int .i64 0, .int .i64 0, .int .i64 0] 69)) (.cells #[.slice none 0 0] 28)
  have b3 := blk_new (((w.alloc (.cells #[.slice none 0 0] 28)).alloc (.cells #[.int .i64 0, .int .i64 0, .int .i64 0, .int .i64 0] 69)).alloc (.cells #[.slice none 0 0] 28)) #[.int .i64 0] 3
  simp only [blk_size] at b3
  have l3 := below_alloc (((w.alloc (.cells #[.slice none 0 0] 28)).alloc (.cells #[.int .i64 0, .int .i64 0, .int .i64 0, .int .i64 0] 69)).alloc (.cells #[.slice none 0 0] 28)) (.cells #[.int .i64 0] 3)
  have b4 := blk_new ((((w.alloc (.cells #[.slice none 0 0] 28)).alloc (.cells #[.int .i64 0, .int .i64 0, .int .i64 0, .int .i64 0] 69)).alloc (.cells #[.slice none 0 0] 28)).alloc (.cells #[.int .i64 0] 3)) #[.string x] 9
  simp only [blk_size] at b4
  have l4 := below_alloc ((((w.alloc (.cells #[.slice none 0 0] 28)).alloc (.cells #[.int .i64 0, .int .i64 0, .int .i64 0, .int .i64 0] 69)).alloc (.cells #[.slice none 0 0] 28)).alloc (.cells #[.int .i64 0] 3)) (.cells #[.string x] 9)
  have b5 := blk_new (((((w.alloc (.cells #[.slice none 0 0] 28)).alloc (.cells #[.int .i64 0, .int .i64 0, .int .i64 0, .int .i64 0] 69)).alloc (.cells #[.slice none 0 0] 28)).alloc (.cells #[.int .i64 0] 3)).alloc (.cells #[.string x] 9)) #[.string ⟨#[44]⟩] 9
  simp only [blk_size] at b5
  have l5 := below_alloc (((((w.alloc (.cells #[.slice none 0 0] 28)).alloc (.cells #[.int .i64 0, .int .i64 0, .int .i64 0, .int .i64 0] 69)).alloc (.cells #[.slice none 0 0] 28)).alloc (.cells #[.int .i64 0] 3)).alloc (.cells #[.string x] 9)) (.cells #[.string ⟨#[44]⟩] 9)
  have b6 := blk_new ((((((w.alloc (.cells #[.slice none 0 0] 28)).alloc (.cells #[.int .i64 0, .int .i64 0, .int .i64 0, .int .i64 0] 69)).alloc (.cells #[.slice none 0 0] 28)).alloc (.cells #[.int .i64 0] 3)).alloc (.cells #[.string x] 9)).alloc (.cells #[.string ⟨#[44]⟩] 9)) #[.int .i64 0] 3
  simp only [blk_size] at b6
  have l6 := below_alloc ((((((w.alloc (.cells #[.slice none 0 0] 28)).alloc (.cells #[.int .i64 0, .int .i64 0, .int .i64 0, .int .i64 0] 69)).alloc (.cells #[.slice none 0 0] 28)).alloc (.cells #[.int .i64 0] 3)).alloc (.cells #[.string x] 9)).alloc (.cells #[.string ⟨#[44]⟩] 9)) (.cells #[.int .i64 0] 3)
  exact blk_cell (blk_later (blk_later b4 l5) l6) 0
set_option maxRecDepth 100000 in
set_option maxHeartbeats 8000000 in
theorem row_read_some (l : List UInt8) (w : World) (hl0 : l ≠ []) (hl : l.length ≤ 5000) (hp : ∀ p ∈ pieces l, p.length ≤ 1000) : Calls Tryz.prog 38 #[.string (bs l)] w (LstRwV (rowVals l) (faultV (rowKind l) 0 0 (rowPlace l)) w) := by
  have HL0 := Lib.hid hl0
  have HPL := Lib.hid hp
  have hq : ((bs l).toList == []) = false := by
    rw [bs_list]
    cases l with
    | nil => exact absurd rfl hl0
    | cons x r => rfl
  have hz := bs_size l
  have hne : ¬ l.length = 0 := fun h => hl0 (List.eq_nil_of_length_eq_zero h)
  clear hp
  refine (callsIn_wide (n := 3)).1 ?_
  refine callsIn_of_wp_marks Tryz.func38 rfl trivial ?_ rfl
  simp only [Tryz.ntmps38, List.size_toArray, List.length_cons, List.length_nil, Nat.reduceAdd, Nat.reduceSub, Array.replicate_succ, Array.replicate_zero, List.push_toArray, List.append_toArray, List.nil_append, List.cons_append]
  gi_wp2_with (refine ⟨trivial, ?_⟩; gi_at_call 71; refine (callsIn_wide.2 (row_SplitSeq (bs l) ⟨#[44]⟩ _)).mono ?_; rintro e w' ⟨rfl, rfl⟩)
  obtain ⟨hRB0, hBW0, hsz0⟩ := RB.start w (bs l)
  have HRB0 := Lib.hid hRB0
  have HBW0 := Lib.hid hBW0
  obtain ⟨i0, hi, hz0, hz1, hz2⟩ := info_parts infoFracR
  clear hRB0 hBW0
  have HSB : Hid (((((((((w.alloc (.cells #[.slice none 0 0] 28)).alloc (.cells #[.int .i64 0, .int .i64 0, .int .i64 0, .int .i64 0] 69)).alloc (.cells #[.slice none 0 0] 28)).alloc (.cells #[.int .i64 0] 3)).alloc (.cells #[.string (bs l)] 9)).alloc (.cells #[.string ⟨#[44]⟩] 9)).alloc (.cells #[.int .i64 0] 3))).cell? ⟨w.heap.size + 1 + 1 + 1 + 1, 0, none⟩ = some (.string (bs l))) := Lib.hid (RB.start_s w (bs l))
  generalize (((((((w.alloc (.cells #[.slice none 0 0] 28)).alloc (.cells #[.int .i64 0, .int .i64 0, .int .i64 0, .int .i64 0] 69)).alloc (.cells #[.slice none 0 0] 28)).alloc (.cells #[.int .i64 0] 3)).alloc (.cells #[.string (bs l)] 9)).alloc (.cells #[.string ⟨#[44]⟩] 9)).alloc (.cells #[.int .i64 0] 3)) = W0 at *
  refine range_split (gf := 141) (lb := #[.pointer (some ⟨w.heap.size + 1 + 1 + 1 + 1 + 1, 0, none⟩), .pointer (some ⟨w.heap.size + 1 + 1 + 1 + 1, 0, none⟩), .pointer (some ⟨w.heap.size + 1 + 1 + 1 + 1 + 1 + 1, 0, none⟩)]) (B := w.heap.size + 1 + 1 + 1 + 1) (ll := l) rfl (enters_of Tryz.func141 (by kernel_rfl) rfl) (row_splits _ l (by omega)) rfl (by omega) ?hs (RI w) (RX w l) ?h0 ?hput ?hputx ?hset ?hbox
    (fun x => { tmps := #[.string (bs l), undef, .pointer (some ⟨w.heap.size, 0, none⟩), .pointer (some ⟨w.heap.size + 1, 0, none⟩), .pointer (some ⟨w.heap.size + 1 + 1, 0, none⟩), .pointer (some ⟨w.heap.size + 1 + 1 + 1, 0, none⟩), .string (bs x), undef, undef, .string (bs l), .bool false, undef, .string (bs l), .func (.func 141) #[] #[.pointer (some ⟨w.heap.size + 1 + 1 + 1 + 1 + 1, 0, none⟩), .pointer (some ⟨w.heap.size + 1 + 1 + 1 + 1, 0, none⟩), .pointer (some ⟨w.heap.size + 1 + 1 + 1 + 1 + 1 + 1, 0, none⟩)], .string (bs x), undef, undef, undef, undef, undef, undef, undef, undef, undef, undef, undef, undef, undef, undef, undef, undef, undef, undef, undef, undef, undef, undef, undef, undef, undef], defers := [] }) ?assign ?body ?done ?stop
  case hs => exact HSB.out
  case h0 =>
    intro r
    have hb := below_then (below_alloc W0 (.deferred (some []))) (below_alloc _ (.loop r))
    exact ⟨.slice none 0 0, HRB0.out.later hb, Row.nil _ _ _, fun p hp => by simp at hp, below_then HBW0.out hb, by rw [World.size_alloc, World.size_alloc]; omega⟩
  case hput => exact fun pre A o o' h h1 h2 => h.put (by omega) o' h1 h2
  case hputx => exact fun A o o' h _ _ => h.put (by omega) o'
  case hset => exact fun pre A x h => h.sets x
  case hbox =>
    rintro pre A ⟨v, ⟨-, -, -, -, ⟨x, h5⟩, h6, h7⟩, -⟩
    exact ⟨⟨x, blk_cell h5 0⟩, blk_cell h6 0, blk_cell h7 0, blk_free h5 0⟩
  case assign =>
    intro l' x W K hK
    gi_wp2
    exact hK
  case body =>
    rintro l' pre p W ⟨v, hB, hrow, hg, hbel, hsz9⟩ hpre
    have hplen : p.length ≤ 1000 := HPL.out p (by obtain ⟨r, hr⟩ := hpre; rw [← hr]; simp)
    have hoff : offOf pre + (p.length + 1) ≤ 5001 := by
      have h1 := offOf_prefix hpre
      rw [offOf_more, offOf_pieces] at h1
      omega
    have hprl : pre.length ≤ 1000000 := by have := offOf_ge pre; omega
    have hpb := figPlace_bound p
    have HRB := Lib.hid hB
    have HRW := Lib.hid hrow
    have HG := Lib.hid hg
    have HBE := Lib.hid hbel
    have HPRE := Lib.hid hpre
    clear hB hrow hg hbel hpre
    by_cases hk : figKind p = 0
    · have hpl0 := fig_none p hk
      have HFR : ∀ w' : World, Calls Tryz.prog 72 #[.string (bs p)] w' (LstQV (figVal p) (faultV 0 0 0 0) w') := fun w' => by
        have h9 := figureSaid.read p w' hplen
        rwa [hk, hpl0] at h9
      obtain ⟨q, hq9⟩ : ∃ q, figVal p = q := ⟨_, rfl⟩
      rw [hq9] at HFR
      have HQ := Lib.hid hq9
      have HK := Lib.hid hk
      unfold faultV at HFR
      clear hq9 hk hpl0 hpb
      gi_wp2_with fail
      refine ⟨trivial, (CallsIn.inRound l' (callsIn_wide.2 (HFR _))).mono ?_⟩
      rintro e w1 ⟨a1, n1, c1, b1, m1, d1, rfl, h1, g1, bw⟩
      unfold frV
      have ba := below_alloc w1 (.cells #[.bool (zneg q.num), .slice a1 n1 c1, .slice b1 m1 d1] 41)
      have bb := below_alloc (w1.alloc (.cells #[.bool (zneg q.num), .slice a1 n1 c1, .slice b1 m1 d1] 41)) (.cells #[.int .i64 0, .int .i64 0, .int .i64 0, .int .i64 0] 69)
      have bc := below_alloc ((w1.alloc (.cells #[.bool (zneg q.num), .slice a1 n1 c1, .slice b1 m1 d1] 41)).alloc (.cells #[.int .i64 0, .int .i64 0, .int .i64 0, .int .i64 0] 69)) (.cells #[.bool (zneg q.num), .slice a1 n1 c1, .slice b1 m1 d1] 41)
      have bt := below_then (below_then (below_then bw ba) bb) bc
      have HX7 := Lib.hid (blk_later (blk_new w1 #[.bool (zneg q.num), .slice a1 n1 c1, .slice b1 m1 d1] 41) bb)
      have hx8 := blk_new (w1.alloc (.cells #[.bool (zneg q.num), .slice a1 n1 c1, .slice b1 m1 d1] 41)) #[.int .i64 0, .int .i64 0, .int .i64 0, .int .i64 0] 69
      rw [blk_size] at hx8
      have HX8 := Lib.hid hx8
      have HRB2 := Lib.hid (HRB.out.later (below_then (below_then bw ba) bb))
      have HRB3 := Lib.hid (HRB.out.later bt)
      have HRW3 := Lib.hid (HRW.out.later bt)
      have HA3 := Lib.hid (h1.later (below_then (below_then ba bb) bc))
      have HC3 := Lib.hid (g1.later (below_then (below_then ba bb) bc))
      have HBE3 := Lib.hid (below_then HBE.out bt)
      have hsz3 : w.heap.size + 9 ≤ w1.heap.size := Nat.le_trans hsz9 bw.size
      have HRD3 := Lib.hid ((Rounds.refl (w.heap.size + 7) (w.heap.size + 1 + 1 + 1 + 1) W).later bt (by omega))
      clear bw ba bb bc bt h1 g1 hx8 HRB HRW HBE
      obtain ⟨y0, y1, y2, y3⟩ := fcells_4 HX8.out
      obtain ⟨x0, x1, x2⟩ := fcells_3 HX7.out
      have k4 : ((w1.alloc (.cells #[.bool (zneg q.num), .slice a1 n1 c1, .slice b1 m1 d1] 41)).alloc (.cells #[.int .i64 0, .int .i64 0, .int .i64 0, .int .i64 0] 69)).cell? ⟨w.heap.size + 1 + 1, 0, none⟩ = some v := blk_cell HRB2.out.2.2.1 0
      have hnews := rx_news ((w1.alloc (.cells #[.bool (zneg q.num), .slice a1 n1 c1, .slice b1 m1 d1] 41)).alloc (.cells #[.int .i64 0, .int .i64 0, .int .i64 0, .int .i64 0] 69)) q a1 n1 c1 b1 m1 d1 41
      simp only [blk_size] at hnews
      have HNW := Lib.hid hnews
      obtain ⟨st, hst⟩ : ∃ st, offOf pre + (p.length + 1) = st := ⟨_, rfl⟩
      have hw1 : wrap64 ((p.length : Int) + 1) = (p.length : Int) + 1 := by unfold wrap64; omega
      have hw2 : wrap64 ((offOf pre : Int) + ((p.length : Int) + 1)) = (st : Int) := by unfold wrap64; omega
      have hzp := bs_size p
      have HST := Lib.hid hst
      clear hnews hst
      gi_wp2_with (gi_at_builtin; refine wpListIn_append_row _ rfl _ _ 28 rfl (w.heap.size + 9) 41 i0 Tryz.underlying28 hi hz0 hz1 hz2 v (pre.map figVal) rfl HRW3.out ⟨w1.heap.size + 1 + 1, 0, none⟩ q a1 n1 c1 b1 m1 d1 rfl HNW.out HA3.out HC3.out (by rw [List.length_map]; exact hprl) (by rw [blk_size, blk_size, blk_size]; omega) ?_; intro g cap w4 hr4 hg4; simp only [List.length_map] at hr4; have hown := HRW3.out.own_cells; have HRB4 := Lib.hid (HRB3.out.grown hg4 (fun k hk => (hown k hk).1)); have HRW4 := Lib.hid hr4; have HG4 := Lib.hid hg4; have HOWN := Lib.hid hown; clear hr4 hg4 hown; have HRB5 := Lib.hid (HRB4.out.setv (.slice (some ⟨g, 0, none⟩) (pre.length + 1) cap)); have j4 := blk_cell HRB4.out.2.2.1 0; have f4 := blk_free HRB4.out.2.2.1 0; have j5 := blk_cell HRB5.out.2.2.2.1 0; have f5 := blk_free HRB5.out.2.2.2.1 0; simp only [List.getElem?_toArray, List.getElem?_cons_zero] at j4 j5)
      have HRB6 := Lib.hid (HRB5.out.setst st)
      have hgo := fun k hk => (HOWN.out k hk).1
      have hs4 : w.heap.size + 9 ≤ w4.heap.size := Nat.le_trans (by rw [blk_size, blk_size, blk_size]; omega) HG4.out.size
      have HBE4 := HBE3.out.grown HG4.out (by rw [blk_size, blk_size, blk_size]; omega) (fun k hk => by have := hgo k hk; omega)
      have HRD4 := HRD3.out.grown HG4.out (fun k hk => ⟨by have := hgo k hk; omega, (HOWN.out k hk).2⟩) (by rw [blk_size, blk_size, blk_size]; omega)
      have HRD6 := Lib.hid ((HRD4.set (g := w.heap.size + 1 + 1) (by omega) (by omega) 0 (.slice (some ⟨g, 0, none⟩) (pre.length + 1) cap)).set (g := w.heap.size + 1 + 1 + 1) (by omega) (by omega) 0 (.int .i64 (st : Int)))
      rw [← hsz0] at HRD6
      refine ⟨HRD6.out, .slice (some ⟨g, 0, none⟩) (pre.length + 1) cap, ?_, ?_, ?_, ?_, ?_⟩
      · rw [offOf_more, HST.out]; exact HRB6.out
      · rw [List.map_append]
        show Row _ _ _ _ (pre.map figVal ++ [figVal p])
        rw [HQ.out]
        refine (HRW4.out.turned (X := w.heap.size + 1 + 1) (by omega) (clean_block HRB4.out.2.2.1 (no_word1 ?_)) (grownBy_setCell' _ _ _)).turned (X := w.heap.size + 1 + 1 + 1) (by omega) (clean_block HRB5.out.2.2.2.1 (no_word1 ?_)) (grownBy_setCell' _ _ _)
        · intro k e
          obtain ⟨a9, cap9, e9, -⟩ := HRW3.out.out
          rw [e9] at e
          cases e
        · intro k e; cases e
      · intro x hx
        rcases List.mem_append.1 hx with hx | hx
        · exact HG.out x hx
        · rw [List.mem_singleton.1 hx]; exact HK.out
      · exact (HBE4.setCell (p := ⟨w.heap.size + 1 + 1, 0, none⟩) (show w.heap.size ≤ w.heap.size + 1 + 1 by omega) _).setCell (p := ⟨w.heap.size + 1 + 1 + 1, 0, none⟩) (show w.heap.size ≤ w.heap.size + 1 + 1 + 1 by omega) _
      · exact Nat.le_trans hs4 (Nat.le_trans (grownBy_setCell' w4 (w.heap.size + 1 + 1) _).size (grownBy_setCell' _ (w.heap.size + 1 + 1 + 1) _).size)
    · have HFR : ∀ w' : World, Calls Tryz.prog 72 #[.string (bs p)] w' (LstQV (figVal p) (faultV (figKind p) 0 0 (figPlace p)) w') := fun w' => figureSaid.read p w' hplen
      obtain ⟨hk1, hk2, hk3⟩ := read_bad HL0.out HPRE.out HG.out hk
      obtain ⟨kd, hkd⟩ : ∃ kd, figKind p = kd := ⟨_, rfl⟩
      obtain ⟨pl, hpl⟩ : ∃ pl, figPlace p = pl := ⟨_, rfl⟩
      obtain ⟨q, hq9⟩ : ∃ q, figVal p = q := ⟨_, rfl⟩
      obtain ⟨rp, hrp⟩ : ∃ rp, rowPlace l = rp := ⟨_, rfl⟩
      rw [hq9, hkd, hpl] at HFR
      rw [hkd] at hk hk1
      rw [hpl] at hk2 hpb
      rw [hrp] at hk2
      have HK1 := Lib.hid hk1
      have HK3 := Lib.hid hk3
      have HRP := Lib.hid hrp
      have HK2 : Hid (pl + (offOf pre : Int) = rp) := Lib.hid (by omega)
      have hkb : (kd == 0) = false := by simpa using hk
      unfold faultV at HFR
      have hw2 : wrap64 (pl + (offOf pre : Int)) = rp := by unfold wrap64; omega
      clear hq9 hkd hpl hrp hk1 hk2 hk3 hk
      gi_wp2_with fail
      refine ⟨trivial, (CallsIn.inRound l' (callsIn_wide.2 (HFR _))).mono ?_⟩
      rintro e w1 ⟨a1, n1, c1, b1, m1, d1, rfl, -, -, bw⟩
      unfold frV
      have ba := below_alloc w1 (.cells #[.bool (zneg q.num), .slice a1 n1 c1, .slice b1 m1 d1] 41)
      have bb := below_alloc (w1.alloc (.cells #[.bool (zneg q.num), .slice a1 n1 c1, .slice b1 m1 d1] 41)) (.cells #[.int .i64 kd, .int .i64 0, .int .i64 0, .int .i64 pl] 69)
      have bt := below_then (below_then bw ba) bb
      have hx8 := blk_new (w1.alloc (.cells #[.bool (zneg q.num), .slice a1 n1 c1, .slice b1 m1 d1] 41)) #[.int .i64 kd, .int .i64 0, .int .i64 0, .int .i64 pl] 69
      rw [blk_size] at hx8
      have HX8 := Lib.hid hx8
      have HRB2 := Lib.hid (HRB.out.later bt)
      have hsz3 : w.heap.size + 9 ≤ w1.heap.size := Nat.le_trans hsz9 bw.size
      have bb2 := below_alloc (w1.alloc (.cells #[.bool (zneg q.num), .slice a1 n1 c1, .slice b1 m1 d1] 41)) (.cells #[.int .i64 kd, .int .i64 0, .int .i64 0, .int .i64 (pl + (offOf pre : Int))] 69)
      have bt2 := below_then (below_then bw ba) bb2
      have hx9 := blk_new (w1.alloc (.cells #[.bool (zneg q.num), .slice a1 n1 c1, .slice b1 m1 d1] 41)) #[.int .i64 kd, .int .i64 0, .int .i64 0, .int .i64 (pl + (offOf pre : Int))] 69
      rw [blk_size] at hx9
      have HX9 := Lib.hid hx9
      have HRB9 := Lib.hid (HRB.out.later bt2)
      have HBE9 := Lib.hid (below_then HBE.out bt2)
      have HRD9 := Lib.hid ((Rounds.refl (w.heap.size + 7) (w.heap.size + 1 + 1 + 1 + 1) W).later bt2 (by omega))
      have hmx : Tryz.prog.follows .mixedOrders = true := by kernel_rfl
      clear bw ba bb bt bb2 bt2 hx8 hx9 HRB HRW HBE
      obtain ⟨y0, y1, y2, y3⟩ := fcells_4 HX8.out
      have fy := blk_free HX8.out 3
      have k5 : ((w1.alloc (.cells #[.bool (zneg q.num), .slice a1 n1 c1, .slice b1 m1 d1] 41)).alloc (.cells #[.int .i64 kd, .int .i64 0, .int .i64 0, .int .i64 pl] 69)).cell? ⟨w.heap.size + 1 + 1 + 1, 0, none⟩ = some (.int .i64 (offOf pre : Int)) := blk_cell HRB2.out.2.2.2.1 0
      gi_wp2
      clear y0 y1 y2 y3 fy k5 HX8 HRB2
      generalize ((w1.alloc (.cells #[.bool (zneg q.num), .slice a1 n1 c1, .slice b1 m1 d1] 41)).alloc (.cells #[.int .i64 kd, .int .i64 0, .int .i64 0, .int .i64 (pl + (offOf pre : Int))] 69)) = V at *
      obtain ⟨z0, z1, z2, z3⟩ := fcells_4 HX9.out
      obtain ⟨u0, u1, u2, u3⟩ := fcells_4 HRB9.out.2.1
      have s0 : V.cell? ⟨w.heap.size, 0, none⟩ = some (.slice none 0 0) := blk_cell HRB9.out.1 0
      have g0 := blk_free HRB9.out.1 0
      have v0 := blk_free HRB9.out.2.1 0
      have v1 := blk_free HRB9.out.2.1 1
      have v2 := blk_free HRB9.out.2.1 2
      have v3 := blk_free HRB9.out.2.1 3
      gi_region_with_o (fail)
      all_goals gi_wp2
      all_goals (
        have HRD := HRD9.out
        rw [← hsz0] at HRD
        have HX := rx_made HRB9.out.1 HRB9.out.2.1 HBE9.out HK1.out (HRP.out.trans HK2.out.symm) HK3.out
        exact round_ret (rounds_made HRD (by omega) (by omega)).drew HX.drew)
  case done =>
    rintro W ⟨v, hB, hrow, hg, hbel, hsz9⟩ hK
    obtain ⟨a9, cap9, rfl, hrw⟩ := hrow.out
    have s0 : W.cell? ⟨w.heap.size, 0, none⟩ = some (.slice none 0 0) := blk_cell hB.1 0
    have g0 := blk_free hB.1 0
    have k4 : W.cell? ⟨w.heap.size + 1 + 1, 0, none⟩ = some (.slice a9 ((pieces l).map figVal).length cap9) := blk_cell hB.2.2.1 0
    obtain ⟨u0, u1, u2, u3⟩ := fcells_4 hB.2.1
    have v0 := blk_free hB.2.1 0
    have v1 := blk_free hB.2.1 1
    have v2 := blk_free hB.2.1 2
    have v3 := blk_free hB.2.1 3
    simp only [List.length_map] at hrow
    have hall := read_good hl0 hg
    gi_wp2
    obtain ⟨X, hX⟩ : ∃ X, X = ((((W.setCell ⟨w.heap.size, 0, none⟩ (.slice a9 (pieces l).length cap9)).setCell ⟨w.heap.size + 1, 0, none⟩ (.int .i64 0)).setCell ⟨w.heap.size + 1, 1, none⟩ (.int .i64 0)).setCell ⟨w.heap.size + 1, 2, none⟩ (.int .i64 0)).setCell ⟨w.heap.size + 1, 3, none⟩ (.int .i64 0) := ⟨_, rfl⟩
    obtain ⟨x1, x2, x3, x4, x5⟩ := done_made hB.1 hB.2.1 hrow hK hsz0 (by omega) hbel hX
    rw [← hX]
    refine ⟨by simp, .inl ⟨_, _, rfl, run_takeDeferred x1, ?_⟩⟩
    obtain ⟨a8, cap8, e8, hrw8⟩ := x4.out
    injection e8 with p1 p2 p3
    subst p1
    subst p3
    rw [List.length_map] at hrw8
    refine ⟨_, results_slice_row Tryz.results38 _ _ w.heap.size (w.heap.size + 1) _ _ _ _ _ _ rfl x2 (fun v => by simp [isAgg, go_sem]) rfl x3 Tryz.underlying69 rfl (by kernel_rfl), ?_⟩
    refine ⟨a9, (pieces l).length, cap9, ?_, ?_, x5⟩
    · rw [hall.1, hall.2.1]; rfl
    · rw [hall.2.2]; exact hrw8
  case stop =>
    rintro W ⟨h1, h2, h3, h4⟩ hK
    gi_wp2
    refine ⟨by simp, .inl ⟨_, _, rfl, run_takeDeferred hK, ?_⟩⟩
    have y1 := (World.putObj_heap_other (w := W) (o := .deferred none) (show w.heap.size ≠ W0.heap.size by omega)).trans h1
    have y2 := (World.putObj_heap_other (w := W) (o := .deferred none) (show w.heap.size + 1 ≠ W0.heap.size by omega)).trans h2
    refine ⟨_, results_slice_row Tryz.results38 _ _ w.heap.size (w.heap.size + 1) _ _ _ _ _ _ rfl y1 (fun v => by simp [isAgg, go_sem]) rfl y2 Tryz.underlying69 rfl (by kernel_rfl), ?_⟩
    rw [h3]
    exact ⟨none, 0, 0, rfl, Rw.nil _, h4.grown (grownBy_putObj' _ W0.heap.size _) h4.size (fun k e => by have := Option.some.inj e; omega)⟩
end Go.Proofs.YtjeigdlhjghinaaGreatDoor

/-
  What package row's functions owe, proved.
-/
namespace Go.Proofs.YtjeigdlhjghinaaGreatDoor
open Go.RowKit Go.Shelf

set_option maxRecDepth 4096 in
set_option maxHeartbeats 4000000 in
theorem row_read_none (w : World) : Calls Tryz.prog 38 #[.string (bs [])] w (LstRwV (rowVals []) (faultV (rowKind []) 0 0 (rowPlace [])) w) := by
  have hq : ((bs []).toList == []) = true := by rw [bs_list]; rfl
  refine (callsIn_wide (n := 3)).1 ?_
  refine callsIn_of_wp_marks Tryz.func38 rfl trivial ?_ rfl
  simp only [Tryz.ntmps38, List.size_toArray, List.length_cons, List.length_nil, Nat.reduceAdd, Nat.reduceSub, Array.replicate_succ, Array.replicate_zero, List.push_toArray, List.append_toArray, List.nil_append, List.cons_append]
  gi_wp2
  have y1 := blk_later (blk_new w #[.slice none 0 0] 28) (below_alloc (w.alloc (.cells #[.slice none 0 0] 28)) (.cells #[.int .i64 0, .int .i64 0, .int .i64 0, .int .i64 0] 69))
  have y2 := blk_new (w.alloc (.cells #[.slice none 0 0] 28)) #[.int .i64 0, .int .i64 0, .int .i64 0, .int .i64 0] 69
  rw [blk_size] at y2
  have hb := below_then (below_alloc w (.cells #[.slice none 0 0] 28)) (below_alloc _ (.cells #[.int .i64 0, .int .i64 0, .int .i64 0, .int .i64 0] 69))
  refine ⟨_, results_slice_row Tryz.results38 _ _ w.heap.size (w.heap.size + 1) _ _ _ _ _ _ rfl y1 (fun v => by simp [isAgg, go_sem]) rfl y2 Tryz.underlying69 rfl (by kernel_rfl), ?_⟩
  refine ⟨none, 0, 0, ?_, ?_, hb⟩
  · unfold rowKind rowPlace; rw [if_pos rfl, if_pos rfl]; rfl
  · unfold rowVals; rw [if_pos (.inl rfl)]; exact Rw.nil _
theorem row_read (l : List UInt8) (w : World) (hl : l.length ≤ 5000) (hp : ∀ p ∈ pieces l, p.length ≤ 1000) : Calls Tryz.prog 38 #[.string (bs l)] w (LstRwV (rowVals l) (faultV (rowKind l) 0 0 (rowPlace l)) w) := by
  by_cases h : l = []
  · subst h; exact row_read_none w
  · exact row_read_some l w h hl hp
theorem row_add_yes (a : Option Addr) (n c : Nat) (LL : List (List Fx)) (w : World) (h : Fxss w a n c LL) (hn : n ≤ 10) (hl : ∀ L ∈ LL, L.length ≤ 300 ∧ thin 100 L) (hb : even (LL.map fqs)) : Calls Tryz.prog 27 #[.slice a n c] w (LstRwV (raddAll (LL.map fqs)) (.bool true) w) := by
  have hlen := h.len
  match n, hlen with
  | 0, hlen =>
    rw [List.length_eq_zero_iff.1 hlen]
    exact row_add_none a c w
  | 1, _ => exact row_add_one a c LL w h hl
  | n + 2, _ => exact row_add_even a (n + 2) c LL w h hn hl (by omega) hb
theorem row_add_no (a : Option Addr) (n c : Nat) (LL : List (List Fx)) (w : World) (h : Fxss w a n c LL) (hb : ¬ even (LL.map fqs)) : Calls Tryz.prog 27 #[.slice a n c] w (LstRwV [] (.bool false) w) := by
  have hlen := h.len
  refine row_add_uneven a n c LL w h ?_ hb
  by_cases h2 : 2 ≤ n
  · exact h2
  · refine absurd (fun x hx y hy => ?_) hb
    match LL, hlen with
    | [], _ => simp at hx
    | [L], _ =>
      simp only [List.map_cons, List.map_nil, List.mem_cons, List.not_mem_nil, or_false] at hx hy
      rw [hx, hy]
    | _ :: _ :: _, hlen => simp only [List.length_cons] at hlen; omega
theorem row_mix_no (a : Option Addr) (n c : Nat) (b : Option Addr) (m d : Nat) (LL : List (List Fx)) (k : Int) (w : World) (h8 : Fxss w b m d LL) (hno : Hid (¬ (n = m ∧ 0 ≤ k ∧ k ≤ 300 ∧ ∀ M ∈ LL, (M.length : Int) = k))) :
    Calls Tryz.prog 37 #[.slice a n c, .slice b m d, .int .i64 k] w (LstRwV [] (.bool false) w) := by
  have hno := hno.out
  by_cases h1 : n = m
  · by_cases h2 : k < 0
    · exact row_mix_no2 a n c b m d k w h1 h2
    · by_cases h3 : 300 < k
      · exact row_mix_no3 a n c b m d k w h1 h3
      · exact row_mix_no4 a n c b m d k w h1 (by omega) (by omega) LL h8 (fun h => hno ⟨h1, by omega, by omega, h⟩)
  · exact row_mix_no1 a n c b m d k w h1
theorem row_mix_all (a : Option Addr) (n c : Nat) (L : List Fx) (b : Option Addr) (m d : Nat) (LL : List (List Fx)) (k : Int) (w : World) (h : Fxs w a n c L) (h8 : Fxss w b m d LL) (hn : n ≤ 10) (ht : thin 4 L) (hl : ∀ M ∈ LL, M.length ≤ 10 ∧ thin 4 M) (hyes : Hid (n = m ∧ 0 ≤ k ∧ k ≤ 300 ∧ ∀ M ∈ LL, (M.length : Int) = k)) :
    Calls Tryz.prog 37 #[.slice a n c, .slice b m d, .int .i64 k] w (LstRwV (rmix (List.replicate k.toNat 0) (fqs L) (LL.map fqs)) (.bool true) w) := by
  obtain ⟨h1, h2, h3, h4⟩ := hyes.out
  subst h1
  obtain ⟨z, rfl⟩ := Int.eq_ofNat_of_zero_le h2
  rw [Int.toNat_natCast]
  exact row_mix_yes a n c L b d LL z w h h8 hn ht hl (by omega) (fun M hM => by have := h4 M hM; omega)
theorem rowSaid : RowSaid where
  zero := fun n w h => row_zero n w h
  unit := fun n i w h1 h2 => row_unit n i w h1 h2
  same := fun a n c L b m d M w h k hn _ t u => row_same a n c L b m d M w h k hn t u
  add_yes := fun a n c LL w h hn hl hb => row_add_yes a n c LL w h hn hl hb
  add_no := fun a n c LL w h _ _ hb => row_add_no a n c LL w h hb
  sub_yes := fun a n c L b m d M w h k hn _ t u hs => row_sub_yes a n c L b m d M w h k hn t u hs
  sub_no := fun a n c _ b m d _ w _ _ _ _ _ _ hs => row_sub_no a n c b m d w hs
  scale := fun v q a n c L w hv h hn t => row_scale v q a n c L w hv h hn t
  dot_yes := fun a n c L b m d M w h k hn _ t u hs => row_dot_yes a n c L b m d M w h k hn t u hs
  dot_no := fun a n c _ b m d _ w _ _ _ _ _ _ hs => row_dot_no a n c b m d w hs
  mix_yes := fun a n c L b m d LL k w h k8 hn _ t hl _ hy => row_mix_all a n c L b m d LL k w h k8 hn t hl hy
  mix_no := fun a n c _ b m d LL k w _ k8 _ _ _ _ _ hy => row_mix_no a n c b m d LL k w k8 hy
  norm := fun a n c L w h hn t => row_norm a n c L w h hn t
  size := fun a n c L w h hn t => row_size a n c L w h hn t
  text := fun a n c L w h hn t hT => row_text a n c L w h hn t hT
  read := fun l w hl hp => row_read l w hl hp
end Go.Proofs.YtjeigdlhjghinaaGreatDoor

/-
  What every law's row asks behind its walk, said once: a law that returned true and left all that was there as it was meets its specification. Of no program.
-/
namespace Go.Proofs.YtjeigdlhjghinaaGreatDoor
open Go.ChangeShapes Go.WideShapes Go.ChangeAt Go.RowKit

/-- The arguments read again as they read before. -/
theorem stays_all {H : Type} {enc : TypeId × Value → H} {P : Program} (hl : laidOutB P = true) {W W' : World} (hb : Below W.heap.size W W') :
    ∀ (ts : List TypeId) (vs : List Value) (ds : List (DataW H)) (ps : List MemPlace), (ts.all fun t => P.readableRec t && decide (t < P.types.size)) = true →
      DataW.TrodAll enc P W 0 (fun _ => true) true ts vs ds ps → (∀ x ∈ ps, x.block < W.heap.size) →
      DataW.TrodAll enc P W' 0 (fun b => decide (b < W.heap.size)) true ts vs ds ps
  | [], [], [], _, _, h, _ => h
  | t :: ts, v :: vs, d :: ds, ps, hr, h, hlt => by
    obtain ⟨p, q, h1, h2, rfl⟩ := h
    simp only [List.all_cons, Bool.and_eq_true, decide_eq_true_eq] at hr
    exact ⟨p, q, Below.trod hl hr.1.1 hr.1.2 h1 hb (fun x hx => hlt x (by simp [hx])), stays_all hl hb ts vs ds q hr.2 h2 (fun x hx => hlt x (by simp [hx])), rfl⟩
  | [], [], _ :: _, _, _, h, _ => h.elim
  | [], _ :: _, _, _, _, h, _ => h.elim
  | _ :: _, [], _, _, _, h, _ => h.elim
  | _ :: _, _ :: _, [], _, _, h, _ => h.elim

theorem law_post {H : Type} {enc : TypeId × Value → H} {P : Program} {f : Func} {s : ChangeSpec} {apart fresh handsOn : Bool} {W W' : World} {args : Array Value} {ds gs : List (DataW H)} {before : List MemPlace} {tb : TypeId}
    (hl : laidOutB P = true) (hr : (f.params.toList.all fun t => P.readableRec t && decide (t < P.types.size)) = true) (hrt : f.resultTypes = #[tb]) (htb : P.underlying tb = some .bool) (hvars : s.vars = [])
    (hs : s.fn H ds = { results := [.lit (.bool true)], args := ds })
    (hW : DataW.Whole enc P f.params.toList s.vars apart W args.toList ds gs before) (hb : Below W.heap.size W W') :
    s.post enc P f apart fresh handsOn false W args (.bool true) W' := by
  have hW0 := hW
  obtain ⟨p, q, hA, hV, rfl, _, _⟩ := hW
  rw [hvars] at hV
  obtain ⟨rfl, rfl⟩ := trodVars_none hV
  have hlt : ∀ x ∈ p, x.block < W.heap.size := fun x hx => hW0.lt x (by simp [hx])
  refine ⟨ds, [], p ++ [], [], p, [], hW0, ?_, ?_, ?_, hb.frame _, fun h => by cases h⟩
  · rw [List.append_nil, hs, hrt]
    exact trodAll_mk1 (shut_bool htb true)
  · rw [List.append_nil, hs]
    exact stays_all hl hb _ _ _ _ hr hA hlt
  · rw [List.append_nil, hs, hvars]
    rfl
end Go.Proofs.YtjeigdlhjghinaaGreatDoor

/-
  What package row owes, for rows of right fractions; examples of rows.
-/
namespace Go.Proofs.YtjeigdlhjghinaaGreatDoor
open Go.RowKit

theorem dot_rw (S : RowSaid) (a : Option Addr) (n c : Nat) (qs : List Rat) (b : Option Addr) (m d : Nat) (rs : List Rat) (w : World) (h : Rw w a n c qs) (k : Rw w b m d rs) (hn : n ≤ 20) (hnm : n = m) (hq : ∀ q ∈ qs, qlen q ≤ 30) (hr : ∀ q ∈ rs, qlen q ≤ 30) :
    Calls Tryz.prog 29 #[.slice a n c, .slice b m d] w (LstQV (rdot qs rs) (.bool true) w) := by
  obtain ⟨L, h1, rfl, h3⟩ := h.thin hq
  obtain ⟨M, k1, rfl, k3⟩ := k.thin hr
  exact S.dot_yes a n c L b m d M w h1 k1 hn (by omega) h3 k3 (Lib.hid hnm)
theorem add2_rw (S : RowSaid) (a : Option Addr) (n c : Nat) (qs : List Rat) (b : Option Addr) (m d : Nat) (rs : List Rat) (w : World) (g : Nat) (hg : w.heap.size = g) (h : Rw w a n c qs) (k : Rw w b m d rs) (hn : n ≤ 300) (hnm : n = m) (hq : ∀ q ∈ qs, qlen q ≤ 100) (hr : ∀ q ∈ rs, qlen q ≤ 100) :
    Calls Tryz.prog 27 #[.slice (some ⟨g, 0, none⟩) 2 2] (w.alloc (.cells #[.slice a n c, .slice b m d] 28)) (LstRwV (radd qs rs) (.bool true) w) := by
  subst hg
  obtain ⟨L, h1, rfl, h3⟩ := h.thin hq
  obtain ⟨M, k1, rfl, k3⟩ := k.thin hr
  have hl := h1.len
  have hm := k1.len
  refine (S.add_yes _ 2 2 [L, M] _ (Fxss.lit2 w 28 h1 k1) (by omega) (fun X hX => ?_) (fun x hx y hy => ?_)).mono fun _ _ ⟨a', n', c', he, h5, hb⟩ => ⟨a', n', c', he, h5, below_then (below_alloc _ _) hb⟩
  · simp only [List.mem_cons, List.not_mem_nil, or_false] at hX
    rcases hX with rfl | rfl
    · exact ⟨by omega, h3⟩
    · exact ⟨by omega, k3⟩
  · simp only [List.map_cons, List.map_nil, List.mem_cons, List.not_mem_nil, or_false] at hx hy
    have e1 := fqs_length L
    have e2 := fqs_length M
    rcases hx with rfl | rfl <;> rcases hy with rfl | rfl <;> omega
theorem text_rw (S : RowSaid) (a : Option Addr) (n c : Nat) (qs : List Rat) (w : World) (h : Rw w a n c qs) (hn : n ≤ 300) (hq : ∀ q ∈ qs, qlen q ≤ 100) (hT : Hid (Dec10 w)) : Calls Tryz.prog 40 #[.slice a n c] w (Gives (.string (bs (rowTxt qs))) w) := by
  obtain ⟨L, h1, rfl, h3⟩ := h.thin hq
  exact S.text a n c L w h1 hn h3 hT
theorem row_ex1 : pieces [49, 44, 50] = [[49], [50]] := by rw [pieces_more (by decide), pieces_one (by decide)]; rfl
theorem row_ex2 : pieces [51, 44, 52] = [[51], [52]] := by rw [pieces_more (by decide), pieces_one (by decide)]; rfl
theorem row_ex3 : pieces [49, 44, 44, 50] = [[49], [], [50]] := by rw [pieces_more (by decide), pieces_more (by decide), pieces_one (by decide)]; rfl
theorem fig_ex9 : figKind [49] = 0 ∧ figKind [50] = 0 ∧ figKind [51] = 0 ∧ figKind [52] = 0 ∧ figVal [49] = 1 ∧ figVal [50] = 2 ∧ figVal [51] = 3 ∧ figVal [52] = 4 ∧ figKind [] = 1 ∧ figPlace [] = 0 := by decide +kernel
theorem row_12 : rowKind [49, 44, 50] = 0 ∧ rowPlace [49, 44, 50] = 0 ∧ rowVals [49, 44, 50] = [1, 2] := by
  obtain ⟨k1, k2, k3, k4, v1, v2, v3, v4, _, _⟩ := fig_ex9
  have h : kindOf [[49], [50]] = 0 := by simp [kindOf, k1, k2]
  refine ⟨?_, ?_, ?_⟩
  · unfold rowKind; rw [if_neg (by decide), row_ex1]; exact h
  · unfold rowPlace; rw [if_neg (by decide), row_ex1]; exact place_none _ _ h
  · unfold rowVals; rw [row_ex1, if_neg (by rintro (h2 | h2); exact absurd h2 (by decide); exact h2 h)]; simp [v1, v2]
theorem row_34 : rowKind [51, 44, 52] = 0 ∧ rowPlace [51, 44, 52] = 0 ∧ rowVals [51, 44, 52] = [3, 4] := by
  obtain ⟨k1, k2, k3, k4, v1, v2, v3, v4, _, _⟩ := fig_ex9
  have h : kindOf [[51], [52]] = 0 := by simp [kindOf, k3, k4]
  refine ⟨?_, ?_, ?_⟩
  · unfold rowKind; rw [if_neg (by decide), row_ex2]; exact h
  · unfold rowPlace; rw [if_neg (by decide), row_ex2]; exact place_none _ _ h
  · unfold rowVals; rw [row_ex2, if_neg (by rintro (h2 | h2); exact absurd h2 (by decide); exact h2 h)]; simp [v3, v4]
theorem row_bad : rowKind [49, 44, 44, 50] = 1 ∧ rowPlace [49, 44, 44, 50] = 2 := by
  obtain ⟨k1, _, _, _, _, _, _, _, k5, p5⟩ := fig_ex9
  refine ⟨?_, ?_⟩
  · unfold rowKind; rw [if_neg (by decide), row_ex3]; simp [kindOf, k1, k5]
  · unfold rowPlace; rw [if_neg (by decide), row_ex3]; simp [placeOf, k1, k5, p5]
theorem row_sum : radd [1, 2] [3, 4] = [4, 6] := by decide +kernel
theorem row_dot : rdot [1, 2] [3, 4] = 11 := by decide +kernel
theorem row_46 : rowTxt [4, 6] = [52, 44, 54] := by
  show ftxt 4 ++ 44 :: ftxt 6 = _
  unfold ftxt ztxt
  rw [show (4 : Rat).num = 4 from rfl, show (4 : Rat).den = 1 from rfl, show (6 : Rat).num = 6 from rfl, show (6 : Rat).den = 1 from rfl, if_pos rfl, if_neg (by decide), if_neg (by decide), show (4 : Int).natAbs = 4 from rfl, show (6 : Int).natAbs = 6 from rfl, txt_small (by decide), txt_small (by decide)]; rfl
theorem qlen_nat {q : Rat} (z : Int) (h : q = (z : Rat)) (hz : isInt z) : qlen q ≤ 2 := h ▸ qlen_int hz
theorem small_qs {x y : Rat} {A : List Rat} (u v : Int) (hu : isInt u) (hv : isInt v) (h1 : x = (u : Rat)) (h2 : y = (v : Rat)) (hA : A = [x, y]) : (∀ q ∈ A, qlen q ≤ 2) ∧ A.length = 2 := by
  subst hA
  refine ⟨fun q hq => ?_, rfl⟩
  simp only [List.mem_cons, List.not_mem_nil, or_false] at hq
  rcases hq with rfl | rfl
  · exact qlen_nat u h1 hu
  · exact qlen_nat v h2 hv
theorem small_12 {A : List Rat} (hA : A = [1, 2]) : (∀ q ∈ A, qlen q ≤ 2) ∧ A.length = 2 := small_qs 1 2 (by decide) (by decide) rfl rfl hA
theorem small_34 {A : List Rat} (hA : A = [3, 4]) : (∀ q ∈ A, qlen q ≤ 2) ∧ A.length = 2 := small_qs 3 4 (by decide) (by decide) rfl rfl hA
theorem small_46 {A : List Rat} (hA : A = [4, 6]) : (∀ q ∈ A, qlen q ≤ 2) ∧ A.length = 2 := small_qs 4 6 (by decide) (by decide) rfl rfl hA
theorem dot_11 : rdot [1, 2] [3, 4] = ((11 : Int) : Rat) := row_dot.trans rfl
end Go.Proofs.YtjeigdlhjghinaaGreatDoor
