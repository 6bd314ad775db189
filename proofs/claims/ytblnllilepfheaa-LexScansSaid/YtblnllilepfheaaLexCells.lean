/-
  Rows of words (a number, a text, a number) in memory, element by element; a row of one's own that holds them: one more behind it, another text in an element. Of no program.
-/
import Derived.Test.YtblnllilepfheaaLexPlain
import Derived.Test.YtblnllilepfheaaSlice
import Derived.Deep.Slices
import Derived.Below
import Derived.WalkSpells
import Derived.WideShapes
import Derived.Laws.AppendOwn
import Derived.Laws.OwnMore
namespace Go.Proofs.Ytblnllilepfheaa
open Go.WideShapes Go.RowKit Go.Deep

/-- A word as it stands in memory. -/
structure Wx where
  k : Int
  t : List UInt8
  p : Int
def Wx.zero : Wx := ⟨0, [], 0⟩
instance : Inhabited Wx := ⟨Wx.zero⟩
def Wx.str (x : Wx) : Value := .string (bs x.t)
def Wx.cells (x : Wx) : List Value := [.int .i64 x.k, x.str, .int .i64 x.p]
def Lw.x (w : Lw) : Wx := ⟨w.k, w.t, w.p⟩
def Wxs (w : World) (a : Option Addr) (n cap : Nat) (L : List Wx) : Prop :=
  L.length = n ∧ n ≤ cap ∧ cap ≤ 9223372036854775807 ∧ (a = none → cap = 0) ∧ (n = 0 ∨ ∃ b off, a = some ⟨b, off, none⟩ ∧ ∀ j, j < n →
    w.cell? ⟨b, off + j * 3, none⟩ = some (.int .i64 (L.getD j Wx.zero).k) ∧ w.cell? ⟨b, off + j * 3 + 1, none⟩ = some (L.getD j Wx.zero).str ∧ w.cell? ⟨b, off + j * 3 + 2, none⟩ = some (.int .i64 (L.getD j Wx.zero).p))
theorem Wxs.len {w : World} {a : Option Addr} {n cap : Nat} {L : List Wx} (h : Wxs w a n cap L) : L.length = n := h.1
theorem Wxs.bound {w : World} {a : Option Addr} {n cap : Nat} {L : List Wx} (h : Wxs w a n cap L) : n ≤ cap ∧ cap ≤ 9223372036854775807 := ⟨h.2.1, h.2.2.1⟩
theorem Wxs.nil (w : World) : Wxs w none 0 0 [] := ⟨rfl, Nat.le_refl _, by omega, fun _ => rfl, .inl rfl⟩
theorem Wxs.void (w : World) (a : Addr) : Wxs w (some a) 0 0 [] := ⟨rfl, Nat.le_refl _, by omega, fun _ => rfl, .inl rfl⟩
theorem Wxs.later {w w' : World} {a : Option Addr} {n cap : Nat} {L : List Wx} (h : Wxs w a n cap L) (hb : Below w.heap.size w w') : Wxs w' a n cap L :=
  ⟨h.1, h.2.1, h.2.2.1, h.2.2.2.1, h.2.2.2.2.imp id fun ⟨b, off, e, hc⟩ => ⟨b, off, e, fun j hj => by
    obtain ⟨h1, h2, h3⟩ := hc j hj
    exact ⟨cell_later hb h1, cell_later hb h2, cell_later hb h3⟩⟩⟩
theorem Wxs.at {w : World} {a : Option Addr} {n cap : Nat} {L : List Wx} (h : Wxs w a n cap L) {j : Nat} (hj : j < n) : ∃ b off, a = some ⟨b, off, none⟩ ∧
    w.cell? ⟨b, off + j * 3, none⟩ = some (.int .i64 (L.getD j Wx.zero).k) ∧ w.cell? ⟨b, off + j * 3 + 1, none⟩ = some (L.getD j Wx.zero).str ∧ w.cell? ⟨b, off + j * 3 + 2, none⟩ = some (.int .i64 (L.getD j Wx.zero).p) := by
  rcases h.2.2.2.2 with h0 | ⟨b, off, e, hc⟩
  · omega
  · exact ⟨b, off, e, hc j hj⟩
theorem wflat_length (L : List Wx) : (L.flatMap Wx.cells).length = L.length * 3 := by
  induction L with
  | nil => rfl
  | cons x r ih => rw [List.flatMap_cons, List.length_append, ih]; simp [Wx.cells]; omega
theorem wflat_at : ∀ (L : List Wx) (j : Nat), j < L.length → (L.flatMap Wx.cells)[j * 3]? = some (.int .i64 (L.getD j Wx.zero).k) ∧ (L.flatMap Wx.cells)[j * 3 + 1]? = some (L.getD j Wx.zero).str ∧ (L.flatMap Wx.cells)[j * 3 + 2]? = some (.int .i64 (L.getD j Wx.zero).p)
  | [], j, h => by simp at h
  | x :: r, 0, _ => by simp [Wx.cells]
  | x :: r, j + 1, h => by
    have ih := wflat_at r j (by simpa using h)
    have e : ∀ i, (List.flatMap Wx.cells (x :: r))[(j + 1) * 3 + i]? = (r.flatMap Wx.cells)[j * 3 + i]? := fun i => by
      rw [List.flatMap_cons, List.getElem?_append_right (by simp [Wx.cells]; omega)]
      congr 1
      simp [Wx.cells]; omega
    have e0 := e 0
    simp only [Nat.add_zero] at e0
    rw [e0, e 1, e 2]
    simpa using ih
theorem Wxs.own {w : World} {base : Nat} {e : TypeId} {a : Option Addr} {n cap : Nat} {L : List Wx} (h : w.ownsRow base e 3 (.slice a n cap) L.length (L.flatMap Wx.cells)) (hn : n = L.length) : Wxs w a n cap L := by
  subst hn
  rcases h.2 with ⟨h', h0⟩ | ⟨g, cap', cur, h', hb, hg, hnc, hcm, hcs, htake⟩
  · simp only [Value.slice.injEq] at h'
    obtain ⟨rfl, _, rfl⟩ := h'
    exact ⟨rfl, by omega, by omega, fun _ => rfl, .inl h0⟩
  · simp only [Value.slice.injEq] at h'
    obtain ⟨rfl, _, rfl⟩ := h'
    refine ⟨rfl, hnc, by unfold maxLen at hcm; omega, fun e => (by cases e), .inr ⟨g, 0, rfl, fun j hj => ?_⟩⟩
    have key : ∀ i u, (L.flatMap Wx.cells)[i]? = some u → w.cell? ⟨g, 0 + i, none⟩ = some u := fun i u hu => by
      have h9 := h.cells (g := g) rfl i u hu
      rw [add_plain] at h9
      exact h9
    obtain ⟨h1, h2, h3⟩ := wflat_at L j hj
    exact ⟨key _ _ h1, by rw [Nat.add_assoc]; exact key _ _ h2, by rw [Nat.add_assoc]; exact key _ _ h3⟩
/-- A row of one's own that holds these words. -/
def OwnX (w : World) (base : Nat) (e : TypeId) (v : Value) (L : List Wx) : Prop := w.ownsRow base e 3 v L.length (L.flatMap Wx.cells)
theorem OwnX.nil (w : World) (base : Nat) (e : TypeId) : OwnX w base e (.slice none 0 0) [] := World.ownsRow_nil _ _ _ _
theorem OwnX.kept {w w' : World} {base : Nat} {e : TypeId} {v : Value} {L : List Wx} (h : OwnX w base e v L) (hk : ∀ k, base ≤ k → k < w.heap.size → w'.heap[k]? = w.heap[k]?) : OwnX w' base e v L := by
  obtain ⟨h1, h2⟩ := h
  rcases h2 with ⟨rfl, h0⟩ | ⟨g, cap, cur, rfl, hbg, hg, h4, h5, h6, h7⟩
  · exact ⟨h1, .inl ⟨rfl, h0⟩⟩
  · have hlt : g < w.heap.size := (Array.getElem?_eq_some_iff.1 hg).1
    exact ⟨h1, .inr ⟨g, cap, cur, rfl, hbg, (hk g hbg hlt).trans hg, h4, h5, h6, h7⟩⟩
theorem OwnX.later {w w' : World} {base : Nat} {e : TypeId} {v : Value} {L : List Wx} (h : OwnX w base e v L) (hb : Below w.heap.size w w') : OwnX w' base e v L := h.kept fun k _ hk => hb.block k hk
theorem OwnX.base {w : World} {base : Nat} {e : TypeId} {v : Value} {L : List Wx} (h : OwnX w base e v L) (k : Nat) (hk : v.ownBlock = some k) : base ≤ k := by
  rcases h.2 with ⟨rfl, _⟩ | ⟨g, cap, cur, rfl, hbg, _⟩
  · simp [Value.ownBlock] at hk
  · simp [Value.ownBlock] at hk
    omega
theorem OwnX.slice {w : World} {base : Nat} {e : TypeId} {v : Value} {L : List Wx} (h : OwnX w base e v L) : ∃ (a : Option Addr) (cap : Nat), v = .slice a L.length cap ∧ Wxs w a L.length cap L := by
  rcases h.2 with ⟨rfl, h0⟩ | ⟨g, cap, cur, rfl, hbg, hg⟩
  · exact ⟨none, 0, by rw [h0], Wxs.own (by unfold OwnX at h; rw [h0] at h ⊢; exact h) rfl⟩
  · exact ⟨_, cap, rfl, Wxs.own h rfl⟩
/-- A row that is not empty: its block. -/
theorem OwnX.some {w : World} {base : Nat} {e : TypeId} {v : Value} {L : List Wx} (h : OwnX w base e v L) (hn : 0 < L.length) : ∃ g cap, v = .slice (.some ⟨g, 0, none⟩) L.length cap ∧ base ≤ g ∧ L.length ≤ cap := by
  rcases h.2 with ⟨rfl, h0⟩ | ⟨g, cap, cur, rfl, hbg, hg, h4, _⟩
  · omega
  · exact ⟨g, cap, rfl, hbg, h4⟩
theorem wflat_set (L : List Wx) (x y : Wx) (hk : y.k = x.k) (hp : y.p = x.p) : ((L ++ [x]).flatMap Wx.cells).set (L.length * 3 + 1) y.str = (L ++ [y]).flatMap Wx.cells := by
  have hf := wflat_length L
  rw [List.flatMap_append, List.flatMap_append, List.set_append, if_neg (by omega), hf]
  congr 1
  simp [Wx.cells, hk, hp, Nat.add_sub_cancel_left]
/-- Another text in the last word. -/
theorem OwnX.stored {w : World} {base g cap : Nat} {e : TypeId} {L : List Wx} {x y : Wx} (h : OwnX w base e (.slice (.some ⟨g, 0, none⟩) (L.length + 1) cap) (L ++ [x])) (hk : y.k = x.k) (hp : y.p = x.p) :
    OwnX (w.setCell ⟨g, L.length * 3 + 1, none⟩ y.str) base e (.slice (.some ⟨g, 0, none⟩) (L.length + 1) cap) (L ++ [y]) ∧ w.grownBy (w.setCell ⟨g, L.length * 3 + 1, none⟩ y.str) (.some g) := by
  have h1 := h
  unfold OwnX at h1
  rw [List.length_append, List.length_singleton] at h1
  have h2 := World.ownsRow.stored h1 (L.length * 3 + 1) y.str
  rw [wflat_set L x y hk hp] at h2
  refine ⟨?_, h2.2⟩
  unfold OwnX
  rw [List.length_append, List.length_singleton]
  exact h2.1
theorem OwnX.push {w : World} {base : Nat} {e : TypeId} {v : Value} {L : List Wx} {x : Wx} (h : w.ownsRow base e 3 v (L.length + 1) (L.flatMap Wx.cells ++ Wx.cells x)) : OwnX w base e v (L ++ [x]) := by
  unfold OwnX
  rw [List.flatMap_append, List.length_append]
  simpa using h
theorem wcells_news (w : World) (x : Wx) (e : TypeId) : ∀ j u, (Wx.cells x)[j]? = some u → (w.alloc (.cells #[.int .i64 x.k, x.str, .int .i64 x.p] e)).cell? ((⟨w.heap.size, 0, none⟩ : Addr).add j) = some u := by
  intro j u hu
  rw [add_plain, Nat.zero_add]
  match j, hu with
  | 0, hu => simpa [Wx.cells] using hu
  | 1, hu => simpa [Wx.cells] using hu
  | 2, hu => simpa [Wx.cells] using hu
  | j + 3, hu => simp [Wx.cells] at hu
theorem wone_cells (x : Wx) : ∀ u ∈ Wx.cells x, u.oneCell' = true := by
  intro u hu
  simp [Wx.cells, Wx.str] at hu
  rcases hu with rfl | rfl | rfl <;> rfl
theorem step_append_x {P : Program} {ops : Array Oper} {o : Oper} {act : Act} {w : World} {K : Act → World → Prop} {Q9 : Exit → Act → World → Prop} {E : Prop} (hgd : o.guard = none) (s x : Operand) (t : TypeId)
    (ho : o.op = .call { callee := .builtin .append, args := #[s, x], argTypes := #[t, t] })
    (base : Nat) (e : TypeId) (i : TypeInfo) (z : Value) (ht : P.underlying t = some (.slice e)) (hi : P.info? e = some i) (hz : i.zero = some z)
    (hsize : i.size = 3) (hby : i.bytes = 32) (hzs : z.cells.size = 3) (v : Value) (L : List Wx) (hs : act.eval s = v) (hrow : OwnX w base e v L)
    (ad : Addr) (y : Wx) (hx : act.eval x = .slice (some ad) 1 1) (hnews : ∀ j u, (Wx.cells y)[j]? = some u → w.cell? (ad.add j) = some u)
    (hlen : L.length ≤ 1000000) (hbase : base ≤ w.heap.size)
    (h : ∀ v' w', OwnX w' base e v' (L ++ [y]) → w.grownBy w' v.ownBlock → K (act.put o.dst v') w') : if Region.wanted o (yielded ops act.tmps) = true then Oper.wp P o act w K Q9 else E := by
  have hwt : Region.wanted o (yielded ops act.tmps) = true := by simp [Region.wanted, hgd]
  rw [if_pos hwt]
  obtain ⟨v', w', hr, h1, h2, _⟩ := run_append_own (P := P) w base t o.type e i z 3 32 ht hi hz hsize hby hzs (by decide) v L.length (L.flatMap Wx.cells) hrow ad 1 1 (Wx.cells y) rfl hnews (wone_cells y) (by unfold maxLen; omega) (by omega) hbase
  unfold Oper.wp execOp
  simp only [ho, resolve, invoke, builtin, Sem.run_bind, Sem.run_pure, Result.andThen_ok, List.map_toArray, List.map_cons, List.map_nil, hs, hx, hr]
  exact h v' w' (OwnX.push h1) h2
end Go.Proofs.Ytblnllilepfheaa
