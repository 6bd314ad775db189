/-
  One more word behind a row of one's own, as a statement by itself; parts of a text; a box that stays. Of no program.
-/
import Derived.Test.YtblnllilepfheaaLexCells
import Derived.Test.YtblnllilepfheaaLexRun
import Derived.Test.YtblnllilepfheaaFaultKit
import Derived.OwnWalk
namespace Go.Proofs.Ytblnllilepfheaa
open Go.WideShapes Go.RowKit Go.Deep

theorem wpList_append_x {P : Program} {w : World} {ops : Array Oper} {rest : List Oper} {o : Oper} {a : Act} {Q : Exit → Act → World → Prop} (hgd : o.guard = none) (s x : Operand) (t : TypeId)
    (ho : o.op = .call { callee := .builtin .append, args := #[s, x], argTypes := #[t, t] })
    (base : Nat) (e : TypeId) (i : TypeInfo) (z : Value) (ht : P.underlying t = some (.slice e)) (hi : P.info? e = some i) (hz : i.zero = some z)
    (hsize : i.size = 3) (hby : i.bytes = 32) (hzs : z.cells.size = 3) (v : Value) (L : List Wx) (hs : a.eval s = v) (hrow : OwnX w base e v L)
    (ad : Addr) (y : Wx) (hx : a.eval x = .slice (some ad) 1 1) (hnews : ∀ j u, (Wx.cells y)[j]? = some u → w.cell? (ad.add j) = some u)
    (hlen : L.length ≤ 1000000) (hbase : base ≤ w.heap.size)
    (h : ∀ v' w', OwnX w' base e v' (L ++ [y]) → w.grownBy w' v.ownBlock → wpList P ops Q rest (a.put o.dst v') w') : wpList P ops Q (o :: rest) a w :=
  wpList_append_own w hgd s x t ho base e i z 3 32 ht hi hz hsize hby hzs (by decide) v L.length (L.flatMap Wx.cells) hs hrow ad 1 1 (Wx.cells y) hx rfl hnews (wone_cells y) (by unfold maxLen; omega) (by omega) hbase
    fun v' w' h1 h2 _ => h v' w' (OwnX.push h1) h2
theorem lb_cut (l : List UInt8) (k n : Nat) : (bs l).extract k (k + n) = bs ((l.drop k).take n) := by
  unfold bs
  rw [ByteArray.extract_mk]
  congr 1
  apply Array.ext'
  simp
theorem blk_keep {w w' : World} {g : Nat} {o : Obj} {row : Option Nat} (h : w.heap[g]? = some o) (hg : w.grownBy w' row) (hn : ∀ k, row = some k → g ≠ k) : w'.heap[g]? = some o := by
  have hlt : g < w.heap.size := (Array.getElem?_eq_some_iff.1 h).1
  rw [hg.block g hlt (fun e => hn g e.symm rfl)]
  exact h
theorem lexGo_len : ∀ (r : List UInt8) (i : Nat) (note : Bool) (ws : List Lw), (lexGo r i note ws).1.length ≤ ws.length + r.length
  | [], i, note, ws => Nat.le_refl _
  | c :: r, i, note, ws => by
    have hp : (lexPut ws i c).length ≤ ws.length + 1 := by
      rcases List.eq_nil_or_concat ws with rfl | ⟨W, y, hw⟩
      · exact Nat.le_refl _
      · rw [List.concat_eq_append] at hw
        subst hw
        by_cases h : y.p + y.t.length = i ∧ lexMore y.k c.toNat = true
        · rw [lexPut_more h]; simp
        · rw [lexPut_new h]; simp
    unfold lexGo
    split
    · have := lexGo_len r (i + 1) (decide (c.toNat = 35 ∨ (note = true ∧ c.toNat ≠ 10))) ws
      simp only [List.length_cons]
      omega
    · split
      · exact Nat.zero_le _
      · have h1 := lexGo_len r (i + 1) false (lexPut ws i c)
        simp only [List.length_cons]
        omega
theorem lexScan_len (l : List UInt8) : (lexScan l).1.length ≤ 4000 := by
  unfold lexScan
  split
  · simp
  · have := lexGo_len l 0 false []
    simp at this
    omega
/-- A store into a box that holds no text. -/
theorem Wxs.stored {w : World} {a : Option Addr} {n cap : Nat} {L : List Wx} (h : Wxs w a n cap L) {g : Nat} {cur : Array Value} {t : TypeId} (hg : w.heap[g]? = some (.cells cur t (0, 0))) (hno : ∀ (j : Nat) (s : ByteArray), cur[j]? ≠ some (.string s)) (i : Nat) (u : Value) : Wxs (w.setCell ⟨g, i, none⟩ u) a n cap L := by
  refine ⟨h.1, h.2.1, h.2.2.1, h.2.2.2.1, h.2.2.2.2.imp id ?_⟩
  rintro ⟨b, off, e, hc⟩
  refine ⟨b, off, e, fun j hj => ?_⟩
  obtain ⟨h1, h2, h3⟩ := hc j hj
  have hb : b ≠ g := by
    rintro rfl
    rw [blk_cell hg] at h2
    exact hno _ _ h2
  have key : ∀ k x, w.cell? ⟨b, k, none⟩ = some x → (w.setCell ⟨g, i, none⟩ u).cell? ⟨b, k, none⟩ = some x := fun k x hx => by
    rw [World.cell?_setCell_other _ _ _ _ (by intro e; exact hb (Addr.mk.inj e).1.symm)]
    exact hx
  exact ⟨key _ _ h1, key _ _ h2, key _ _ h3⟩
theorem no_texts4 {a b c d : Int} : ∀ (j : Nat) (s : ByteArray), (#[Value.int .i64 a, .int .i64 b, .int .i64 c, .int .i64 d] : Array Value)[j]? ≠ some (.string s) := by
  intro j k
  match j with
  | 0 => simp
  | 1 => simp
  | 2 => simp
  | 3 => simp
  | j + 4 => simp
theorem Wxs.stored4 {w : World} {a : Option Addr} {n cap : Nat} {L : List Wx} (h : Wxs w a n cap L) {g : Nat} {x0 x1 x2 x3 : Int} {t : TypeId} (hg : w.heap[g]? = some (.cells #[.int .i64 x0, .int .i64 x1, .int .i64 x2, .int .i64 x3] t (0, 0))) (y0 y1 y2 y3 : Int) :
    Wxs ((((w.setCell ⟨g, 0, none⟩ (.int .i64 y0)).setCell ⟨g, 1, none⟩ (.int .i64 y1)).setCell ⟨g, 2, none⟩ (.int .i64 y2)).setCell ⟨g, 3, none⟩ (.int .i64 y3)) a n cap L := by
  have h0 := h.stored hg no_texts4 0 (.int .i64 y0)
  have g0 : (w.setCell ⟨g, 0, none⟩ (.int .i64 y0)).heap[g]? = some (.cells #[.int .i64 y0, .int .i64 x1, .int .i64 x2, .int .i64 x3] t (0, 0)) := by simpa using blk_set hg 0 (.int .i64 y0)
  have h1 := h0.stored g0 no_texts4 1 (.int .i64 y1)
  have g1 : ((w.setCell ⟨g, 0, none⟩ (.int .i64 y0)).setCell ⟨g, 1, none⟩ (.int .i64 y1)).heap[g]? = some (.cells #[.int .i64 y0, .int .i64 y1, .int .i64 x2, .int .i64 x3] t (0, 0)) := by simpa using blk_set g0 1 (.int .i64 y1)
  have h2 := h1.stored g1 no_texts4 2 (.int .i64 y2)
  have g2 : (((w.setCell ⟨g, 0, none⟩ (.int .i64 y0)).setCell ⟨g, 1, none⟩ (.int .i64 y1)).setCell ⟨g, 2, none⟩ (.int .i64 y2)).heap[g]? = some (.cells #[.int .i64 y0, .int .i64 y1, .int .i64 y2, .int .i64 x3] t (0, 0)) := by simpa using blk_set g1 2 (.int .i64 y2)
  exact h2.stored g2 no_texts4 3 (.int .i64 y3)
/-- The fault that stands for this place. -/
def lexFault (a : Int) : Value := if a < 0 then faultV 0 0 0 0 else faultV 1 0 0 a
theorem lexFault_none : lexFault (-1) = faultV 0 0 0 0 := rfl
theorem lexFault_at (k : Nat) : lexFault (k : Int) = faultV 1 0 0 (k : Int) := if_neg (by omega)
/-- These words, and this fault. -/
def LstS (r : List Lw × Int) (w : World) (e : Ending) (w' : World) : Prop :=
  ∃ (a : Option Addr) (n cap : Nat), e = .returned (.tuple #[.slice a n cap, lexFault r.2]) ∧ Wxs w' a n cap (r.1.map Lw.x) ∧ Below w.heap.size w w'
end Go.Proofs.Ytblnllilepfheaa
