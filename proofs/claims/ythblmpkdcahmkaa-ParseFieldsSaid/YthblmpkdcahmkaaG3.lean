/-
  Several texts of this claim as one, group 3.
-/
import Derived.Test.YthblmpkdcahmkaaG2
import Derived.Test.YthblmpkdcahmkaaG1
import Derived.Deep.Slices
import Derived.Below
import Derived.WalkSpells
import Derived.WideShapes
import Derived.Laws.AppendOwn
import Derived.Laws.OwnMore
/-
  Words of a text, byte by byte (layer 16), as the document has them. Of no program.
-/
namespace Go.Proofs.Ythblmpkdcahmkaa

def lexDig (c : Nat) : Bool := decide (48 ≤ c) && decide (c ≤ 57)
def lexLet (c : Nat) : Bool := decide (97 ≤ c ∧ c ≤ 122) || decide (65 ≤ c ∧ c ≤ 90) || decide (c = 95)
def lexSigns : List UInt8 := [43, 45, 42, 47, 94, 40, 41, 91, 93, 44, 59, 61]
def lexSgn (c : Nat) : Bool := lexSigns.any fun x => x.toNat == c
/-- What a byte begins; 0: nothing. -/
def lexKind (c : Nat) : Nat := if lexDig c = true then 1 else if lexLet c = true then 2 else if lexSgn c = true then 3 else 0
/-- Does a byte go on with a word? -/
def lexMore (k c : Nat) : Bool := decide (k = 1) && lexDig c || decide (k = 2) && (lexDig c || lexLet c)
def lexMost (k : Nat) : Nat := if k = 1 then 60 else if k = 2 then 12 else 1
def lexBlank (c : Nat) : Bool := decide (c = 32) || decide (c = 9) || decide (c = 10) || decide (c = 13)
/-- A word: its kind, its bytes, its place. -/
structure Lw where
  k : Nat
  t : List UInt8
  p : Nat
/-- One more byte, at place i. -/
def lexPut (ws : List Lw) (i : Nat) (c : UInt8) : List Lw :=
  match ws.getLast? with
  | none => [⟨lexKind c.toNat, [c], i⟩]
  | some x => if x.p + x.t.length = i ∧ lexMore x.k c.toNat = true then ws.dropLast ++ [⟨x.k, x.t ++ [c], x.p⟩] else ws ++ [⟨lexKind c.toNat, [c], i⟩]
def lexBad (x : Lw) : Bool := decide (x.k = 0) || decide (lexMost x.k < x.t.length)
/-- The words from place i on, and the place at which there is none. -/
def lexGo : List UInt8 → Nat → Bool → List Lw → List Lw × Int
  | [], _, _, ws => (ws, -1)
  | c :: r, i, note, ws =>
    if (c.toNat = 35 ∨ (note = true ∧ c.toNat ≠ 10)) ∨ lexBlank c.toNat = true then lexGo r (i + 1) (decide (c.toNat = 35 ∨ (note = true ∧ c.toNat ≠ 10))) ws
    else if ((lexPut ws i c).getLast?.map lexBad).getD true = true then ([], (i : Int))
    else lexGo r (i + 1) false (lexPut ws i c)
def lexScan (l : List UInt8) : List Lw × Int := if 4000 < l.length then ([], 4000) else lexGo l 0 false []
def lexRight (k : Int) (l : List UInt8) : Bool :=
  match lexScan l with
  | ([x], at') => decide (at' < 0) && decide ((x.k : Int) = k) && decide (x.t = l)
  | _ => false
def lexText : List (List UInt8) → List UInt8
  | [] => []
  | [x] => x
  | x :: y :: r => x ++ 32 :: lexText (y :: r)
theorem lexKind_le (c : Nat) : lexKind c ≤ 3 := by unfold lexKind; split <;> (try split) <;> (try split) <;> omega
end Go.Proofs.Ythblmpkdcahmkaa

/-
  Rows of words (a number, a text, a number) in memory, element by element; a row of one's own that holds them: one more behind it, another text in an element. Of no program.
-/
namespace Go.Proofs.Ythblmpkdcahmkaa
open Go.WideShapes Go.RowKit Go.Deep

/-- A word as it stands in memory. -/
structure Wx where
  k : Int
  t : List UInt8
  p : Int
def Wx.zero : Wx := ⟨0, [], 0⟩
instance : Inhabited Wx := ⟨Wx.zero⟩
def Wx.str (x : Wx) : Value := .string (bs x.t)
def Wx.cells (x : Wx) : List Value := [.int .i64 x.k, x.str, .int .i64 x.p]
def Lw.x (w : Lw) : Wx := ⟨w.k, w.t, w.p⟩
def Wxs (w : World) (a : Option Addr) (n cap : Nat) (L : List Wx) : Prop :=
  L.length = n ∧ n ≤ cap ∧ cap ≤ 9223372036854775807 ∧ (a = none → cap = 0) ∧ (n = 0 ∨ ∃ b off, a = some ⟨b, off, none⟩ ∧ ∀ j, j < n →
    w.cell? ⟨b, off + j * 3, none⟩ = some (.int .i64 (L.getD j Wx.zero).k) ∧ w.cell? ⟨b, off + j * 3 + 1, none⟩ = some (L.getD j Wx.zero).str ∧ w.cell? ⟨b, off + j * 3 + 2, none⟩ = some (.int .i64 (L.getD j Wx.zero).p))
theorem Wxs.len {w : World} {a : Option Addr} {n cap : Nat} {L : List Wx} (h : Wxs w a n cap L) : L.length = n := h.1
theorem Wxs.bound {w : World} {a : Option Addr} {n cap : Nat} {L : List Wx} (h : Wxs w a n cap L) : n ≤ cap ∧ cap ≤ 9223372036854775807 := ⟨h.2.1, h.2.2.1⟩
theorem Wxs.nil (w : World) : Wxs w none 0 0 [] := ⟨rfl, Nat.le_refl _, by omega, fun _ => rfl, .inl rfl⟩
theorem Wxs.void (w : World) (a : Addr) : Wxs w (some a) 0 0 [] := ⟨rfl, Nat.le_refl _, by omega, fun _ => rfl, .inl rfl⟩
theorem Wxs.later {w w' : World} {a : Option Addr} {n cap : Nat} {L : List Wx} (h : Wxs w a n cap L) (hb : Below w.heap.size w w') : Wxs w' a n cap L :=
  ⟨h.1, h.2.1, h.2.2.1, h.2.2.2.1, h.2.2.2.2.imp id fun ⟨b, off, e, hc⟩ => ⟨b, off, e, fun j hj => by
    obtain ⟨h1, h2, h3⟩ := hc j hj
    exact ⟨cell_later hb h1, cell_later hb h2, cell_later hb h3⟩⟩⟩
theorem Wxs.at {w : World} {a : Option Addr} {n cap : Nat} {L : List Wx} (h : Wxs w a n cap L) {j : Nat} (hj : j < n) : ∃ b off, a = some ⟨b, off, none⟩ ∧
    w.cell? ⟨b, off + j * 3, none⟩ = some (.int .i64 (L.getD j Wx.zero).k) ∧ w.cell? ⟨b, off + j * 3 + 1, none⟩ = some (L.getD j Wx.zero).str ∧ w.cell? ⟨b, off + j * 3 + 2, none⟩ = some (.int .i64 (L.getD j Wx.zero).p) := by
  rcases h.2.2.2.2 with h0 | ⟨b, off, e, hc⟩
  · omega
  · exact ⟨b, off, e, hc j hj⟩
theorem wflat_length (L : List Wx) : (L.flatMap Wx.cells).length = L.length * 3 := by
  induction L with
  | nil => rfl
  | cons x r ih => rw [List.flatMap_cons, List.length_append, ih]; simp [Wx.cells]; omega
theorem wflat_at : ∀ (L : List Wx) (j : Nat), j < L.length → (L.flatMap Wx.cells)[j * 3]? = some (.int .i64 (L.getD j Wx.zero).k) ∧ (L.flatMap Wx.cells)[j * 3 + 1]? = some (L.getD j Wx.zero).str ∧ (L.flatMap Wx.cells)[j * 3 + 2]? = some (.int .i64 (L.getD j Wx.zero).p)
  | [], j, h => by simp at h
  | x :: r, 0, _ => by simp [Wx.cells]
  | x :: r, j + 1, h => by
    have ih := wflat_at r j (by simpa using h)
    have e : ∀ i, (List.flatMap Wx.cells (x :: r))[(j + 1) * 3 + i]? = (r.flatMap Wx.cells)[j * 3 + i]? := fun i => by
      rw [List.flatMap_cons, List.getElem?_append_right (by simp [Wx.cells]; omega)]
      congr 1
      simp [Wx.cells]; omega
    have e0 := e 0
    simp only [Nat.add_zero] at e0
    rw [e0, e 1, e 2]
    simpa using ih
theorem Wxs.own {w : World} {base : Nat} {e : TypeId} {a : Option Addr} {n cap : Nat} {L : List Wx} (h : w.ownsRow base e 3 (.slice a n cap) L.length (L.flatMap Wx.cells)) (hn : n = L.length) : Wxs w a n cap L := by
  subst hn
  rcases h.2 with ⟨h', h0⟩ | ⟨g, cap', cur, h', hb, hg, hnc, hcm, hcs, htake⟩
  · simp only [Value.slice.injEq] at h'
    obtain ⟨rfl, _, rfl⟩ := h'
    exact ⟨rfl, by omega, by omega, fun _ => rfl, .inl h0⟩
  · simp only [Value.slice.injEq] at h'
    obtain ⟨rfl, _, rfl⟩ := h'
    refine ⟨rfl, hnc, by unfold maxLen at hcm; omega, fun e => (by cases e), .inr ⟨g, 0, rfl, fun j hj => ?_⟩⟩
    have key : ∀ i u, (L.flatMap Wx.cells)[i]? = some u → w.cell? ⟨g, 0 + i, none⟩ = some u := fun i u hu => by
      have h9 := h.cells (g := g) rfl i u hu
      rw [add_plain] at h9
      exact h9
    obtain ⟨h1, h2, h3⟩ := wflat_at L j hj
    exact ⟨key _ _ h1, by rw [Nat.add_assoc]; exact key _ _ h2, by rw [Nat.add_assoc]; exact key _ _ h3⟩
/-- A row of one's own that holds these words. -/
def OwnX (w : World) (base : Nat) (e : TypeId) (v : Value) (L : List Wx) : Prop := w.ownsRow base e 3 v L.length (L.flatMap Wx.cells)
theorem OwnX.nil (w : World) (base : Nat) (e : TypeId) : OwnX w base e (.slice none 0 0) [] := World.ownsRow_nil _ _ _ _
theorem OwnX.kept {w w' : World} {base : Nat} {e : TypeId} {v : Value} {L : List Wx} (h : OwnX w base e v L) (hk : ∀ k, base ≤ k → k < w.heap.size → w'.heap[k]? = w.heap[k]?) : OwnX w' base e v L := by
  obtain ⟨h1, h2⟩ := h
  rcases h2 with ⟨rfl, h0⟩ | ⟨g, cap, cur, rfl, hbg, hg, h4, h5, h6, h7⟩
  · exact ⟨h1, .inl ⟨rfl, h0⟩⟩
  · have hlt : g < w.heap.size := (Array.getElem?_eq_some_iff.1 hg).1
    exact ⟨h1, .inr ⟨g, cap, cur, rfl, hbg, (hk g hbg hlt).trans hg, h4, h5, h6, h7⟩⟩
theorem OwnX.later {w w' : World} {base : Nat} {e : TypeId} {v : Value} {L : List Wx} (h : OwnX w base e v L) (hb : Below w.heap.size w w') : OwnX w' base e v L := h.kept fun k _ hk => hb.block k hk
theorem OwnX.base {w : World} {base : Nat} {e : TypeId} {v : Value} {L : List Wx} (h : OwnX w base e v L) (k : Nat) (hk : v.ownBlock = some k) : base ≤ k := by
  rcases h.2 with ⟨rfl, _⟩ | ⟨g, cap, cur, rfl, hbg, _⟩
  · simp [Value.ownBlock] at hk
  · simp [Value.ownBlock] at hk
    omega
theorem OwnX.slice {w : World} {base : Nat} {e : TypeId} {v : Value} {L : List Wx} (h : OwnX w base e v L) : ∃ (a : Option Addr) (cap : Nat), v = .slice a L.length cap ∧ Wxs w a L.length cap L := by
  rcases h.2 with ⟨rfl, h0⟩ | ⟨g, cap, cur, rfl, hbg, hg⟩
  · exact ⟨none, 0, by rw [h0], Wxs.own (by unfold OwnX at h; rw [h0] at h ⊢; exact h) rfl⟩
  · exact ⟨_, cap, rfl, Wxs.own h rfl⟩
/-- A row that is not empty: its block. -/
theorem OwnX.some {w : World} {base : Nat} {e : TypeId} {v : Value} {L : List Wx} (h : OwnX w base e v L) (hn : 0 < L.length) : ∃ g cap, v = .slice (.some ⟨g, 0, none⟩) L.length cap ∧ base ≤ g ∧ L.length ≤ cap := by
  rcases h.2 with ⟨rfl, h0⟩ | ⟨g, cap, cur, rfl, hbg, hg, h4, _⟩
  · omega
  · exact ⟨g, cap, rfl, hbg, h4⟩
theorem wflat_set (L : List Wx) (x y : Wx) (hk : y.k = x.k) (hp : y.p = x.p) : ((L ++ [x]).flatMap Wx.cells).set (L.length * 3 + 1) y.str = (L ++ [y]).flatMap Wx.cells := by
  have hf := wflat_length L
  rw [List.flatMap_append, List.flatMap_append, List.set_append, if_neg (by omega), hf]
  congr 1
  simp [Wx.cells, hk, hp, Nat.add_sub_cancel_left]
/-- Another text in the last word. -/
theorem OwnX.stored {w : World} {base g cap : Nat} {e : TypeId} {L : List Wx} {x y : Wx} (h : OwnX w base e (.slice (.some ⟨g, 0, none⟩) (L.length + 1) cap) (L ++ [x])) (hk : y.k = x.k) (hp : y.p = x.p) :
    OwnX (w.setCell ⟨g, L.length * 3 + 1, none⟩ y.str) base e (.slice (.some ⟨g, 0, none⟩) (L.length + 1) cap) (L ++ [y]) ∧ w.grownBy (w.setCell ⟨g, L.length * 3 + 1, none⟩ y.str) (.some g) := by
  have h1 := h
  unfold OwnX at h1
  rw [List.length_append, List.length_singleton] at h1
  have h2 := World.ownsRow.stored h1 (L.length * 3 + 1) y.str
  rw [wflat_set L x y hk hp] at h2
  refine ⟨?_, h2.2⟩
  unfold OwnX
  rw [List.length_append, List.length_singleton]
  exact h2.1
theorem OwnX.push {w : World} {base : Nat} {e : TypeId} {v : Value} {L : List Wx} {x : Wx} (h : w.ownsRow base e 3 v (L.length + 1) (L.flatMap Wx.cells ++ Wx.cells x)) : OwnX w base e v (L ++ [x]) := by
  unfold OwnX
  rw [List.flatMap_append, List.length_append]
  simpa using h
theorem wcells_news (w : World) (x : Wx) (e : TypeId) : ∀ j u, (Wx.cells x)[j]? = some u → (w.alloc (.cells #[.int .i64 x.k, x.str, .int .i64 x.p] e)).cell? ((⟨w.heap.size, 0, none⟩ : Addr).add j) = some u := by
  intro j u hu
  rw [add_plain, Nat.zero_add]
  match j, hu with
  | 0, hu => simpa [Wx.cells] using hu
  | 1, hu => simpa [Wx.cells] using hu
  | 2, hu => simpa [Wx.cells] using hu
  | j + 3, hu => simp [Wx.cells] at hu
theorem wone_cells (x : Wx) : ∀ u ∈ Wx.cells x, u.oneCell' = true := by
  intro u hu
  simp [Wx.cells, Wx.str] at hu
  rcases hu with rfl | rfl | rfl <;> rfl
theorem step_append_x {P : Program} {ops : Array Oper} {o : Oper} {act : Act} {w : World} {K : Act → World → Prop} {Q9 : Exit → Act → World → Prop} {E : Prop} (hgd : o.guard = none) (s x : Operand) (t : TypeId)
    (ho : o.op = .call { callee := .builtin .append, args := #[s, x], argTypes := #[t, t] })
    (base : Nat) (e : TypeId) (i : TypeInfo) (z : Value) (ht : P.underlying t = some (.slice e)) (hi : P.info? e = some i) (hz : i.zero = some z)
    (hsize : i.size = 3) (hby : i.bytes = 32) (hzs : z.cells.size = 3) (v : Value) (L : List Wx) (hs : act.eval s = v) (hrow : OwnX w base e v L)
    (ad : Addr) (y : Wx) (hx : act.eval x = .slice (some ad) 1 1) (hnews : ∀ j u, (Wx.cells y)[j]? = some u → w.cell? (ad.add j) = some u)
    (hlen : L.length ≤ 1000000) (hbase : base ≤ w.heap.size)
    (h : ∀ v' w', OwnX w' base e v' (L ++ [y]) → w.grownBy w' v.ownBlock → K (act.put o.dst v') w') : if Region.wanted o (yielded ops act.tmps) = true then Oper.wp P o act w K Q9 else E := by
  have hwt : Region.wanted o (yielded ops act.tmps) = true := by simp [Region.wanted, hgd]
  rw [if_pos hwt]
  obtain ⟨v', w', hr, h1, h2, _⟩ := run_append_own (P := P) w base t o.type e i z 3 32 ht hi hz hsize hby hzs (by decide) v L.length (L.flatMap Wx.cells) hrow ad 1 1 (Wx.cells y) rfl hnews (wone_cells y) (by unfold maxLen; omega) (by omega) hbase
  unfold Oper.wp execOp
  simp only [ho, resolve, invoke, builtin, Sem.run_bind, Sem.run_pure, Result.andThen_ok, List.map_toArray, List.map_cons, List.map_nil, hs, hx, hr]
  exact h v' w' (OwnX.push h1) h2
end Go.Proofs.Ythblmpkdcahmkaa

/-
  The words of a text, step by step (layer 16). Of no program.
-/
namespace Go.Proofs.Ythblmpkdcahmkaa
open Go.RowKit

theorem lb_mid {l : List UInt8} {k : Nat} {x : UInt8} (h : k < l.length) (hx : l.getD k 0 = x) : (bs l).extract k (k + 1) = bs [x] := by
  unfold bs
  rw [ByteArray.extract_mk]
  congr 1
  apply Array.ext'
  rw [List.getD_eq_getElem?_getD, List.getElem?_eq_getElem h] at hx
  simp only [Option.getD_some] at hx
  simp [List.take_one, List.head?_drop, List.getElem?_eq_getElem h, hx]
theorem lex_drop {l : List UInt8} {k : Nat} {x : UInt8} (h : k < l.length) (hx : l.getD k 0 = x) : l.drop k = x :: l.drop (k + 1) := by
  rw [List.drop_eq_getElem_cons h]
  rw [List.getD_eq_getElem?_getD, List.getElem?_eq_getElem h] at hx
  simp only [Option.getD_some] at hx
  rw [hx]
theorem lexGo_skip {c : UInt8} {r : List UInt8} {i : Nat} {note : Bool} {ws : List Lw} (n' : Bool) (hn : n' = decide (c.toNat = 35 ∨ (note = true ∧ c.toNat ≠ 10))) (h : n' = true ∨ lexBlank c.toNat = true) :
    lexGo (c :: r) i note ws = lexGo r (i + 1) n' ws := by
  conv => lhs; unfold lexGo
  rw [if_pos (by subst hn; rcases h with h | h; exact .inl (of_decide_eq_true h); exact .inr h), hn]
theorem lexGo_bad {c : UInt8} {r : List UInt8} {i : Nat} {ws Q : List Lw} {z : Lw} (h1 : c.toNat ≠ 35) (h2 : lexBlank c.toNat = false) (hp : lexPut ws i c = Q ++ [z]) (hb : lexBad z = true) :
    lexGo (c :: r) i false ws = ([], (i : Int)) := by
  conv => lhs; unfold lexGo
  rw [if_neg (by rintro ((h | h) | h); exact h1 h; exact absurd h.1 (by decide); rw [h2] at h; exact absurd h (by decide)), hp, if_pos (by simpa using hb)]
theorem lexGo_on {c : UInt8} {r : List UInt8} {i : Nat} {ws Q : List Lw} {z : Lw} (h1 : c.toNat ≠ 35) (h2 : lexBlank c.toNat = false) (hp : lexPut ws i c = Q ++ [z]) (hb : lexBad z = false) :
    lexGo (c :: r) i false ws = lexGo r (i + 1) false (Q ++ [z]) := by
  conv => lhs; unfold lexGo
  rw [if_neg (by rintro ((h | h) | h); exact h1 h; exact absurd h.1 (by decide); rw [h2] at h; exact absurd h (by decide)), hp, if_neg (by simp [hb])]
theorem lexPut_nil (i : Nat) (c : UInt8) : lexPut [] i c = [] ++ [⟨lexKind c.toNat, [c], i⟩] := rfl
theorem lexPut_new {ws : List Lw} {y : Lw} {i : Nat} {c : UInt8} (h : ¬ (y.p + y.t.length = i ∧ lexMore y.k c.toNat = true)) : lexPut (ws ++ [y]) i c = (ws ++ [y]) ++ [⟨lexKind c.toNat, [c], i⟩] := by
  unfold lexPut
  rw [List.getLast?_concat]
  exact if_neg h
theorem lexPut_more {ws : List Lw} {y : Lw} {i : Nat} {c : UInt8} (h : y.p + y.t.length = i ∧ lexMore y.k c.toNat = true) : lexPut (ws ++ [y]) i c = ws ++ [⟨y.k, y.t ++ [c], y.p⟩] := by
  unfold lexPut
  rw [List.getLast?_concat]
  simp only []
  rw [if_pos h, List.dropLast_concat]
theorem wx_last (W : List Lw) (y : Lw) : ((W ++ [y]).map Lw.x).getD W.length Wx.zero = y.x := by
  simp [List.getD_eq_getElem?_getD]
/-- What words that are gathered are. -/
def LwOk (k : Nat) (x : Lw) : Prop := x.k ≤ 3 ∧ x.t.length ≤ 60 ∧ x.p ≤ k
theorem LwOk.on {k : Nat} {x : Lw} (h : LwOk k x) : LwOk (k + 1) x := ⟨h.1, h.2.1, Nat.le_succ_of_le h.2.2⟩
theorem lexBad_not {x : Lw} (h : lexBad x = false) : x.k ≠ 0 ∧ x.t.length ≤ lexMost x.k := by
  unfold lexBad at h
  simp at h
  exact ⟨h.1, h.2⟩
theorem lexMost_le (k : Nat) : lexMost k ≤ 60 := by unfold lexMost; split <;> (try split) <;> omega
/-- This list of words, and this number. -/
def LstX (r : List Lw × Int) (w : World) (e : Ending) (w' : World) : Prop :=
  ∃ (a : Option Addr) (n cap : Nat), e = .returned (.tuple #[.slice a n cap, .int .i64 r.2]) ∧ Wxs w' a n cap (r.1.map Lw.x) ∧ Below w.heap.size w w'
end Go.Proofs.Ythblmpkdcahmkaa

/-
  The words of a text, word by word (layer 16): how the bytes that are no word's are skipped, how a word runs, and what a text that is just one word is. Of no program.
-/
namespace Go.Proofs.Ythblmpkdcahmkaa

/-- How many bytes at the beginning are such. -/
def lexSpan (p : Nat → Bool) : List UInt8 → Nat
  | [] => 0
  | c :: r => if p c.toNat = true then lexSpan p r + 1 else 0
theorem lexSpan_le (p : Nat → Bool) : ∀ l, lexSpan p l ≤ l.length
  | [] => Nat.le_refl _
  | c :: r => by
    have := lexSpan_le p r
    unfold lexSpan
    split <;> simp <;> omega
theorem lexSpan_yes {p : Nat → Bool} {c : UInt8} {r : List UInt8} (h : p c.toNat = true) : lexSpan p (c :: r) = lexSpan p r + 1 := if_pos h
theorem lexSpan_no {p : Nat → Bool} {c : UInt8} {r : List UInt8} (h : p c.toNat = false) : lexSpan p (c :: r) = 0 := if_neg (by rw [h]; decide)
theorem lexSpan_end (p : Nat → Bool) : ∀ (l : List UInt8) (c : UInt8) (r : List UInt8), l.drop (lexSpan p l) = c :: r → p c.toNat = false
  | [], c, r, h => by simp at h
  | x :: l, c, r, h => by
    cases hx : p x.toNat
    · rw [lexSpan_no hx] at h
      simp only [List.drop_zero, List.cons.injEq] at h
      rw [← h.1]; exact hx
    · rw [lexSpan_yes hx, List.drop_succ_cons] at h
      exact lexSpan_end p l c r h
/-- What a word of this kind runs over. -/
def lexIn (c : Nat) : Bool := lexLet c || lexDig c
def lexLine (c : Nat) : Bool := decide (c ≠ 10)
theorem lexMore1 (c : Nat) : lexMore 1 c = lexDig c := by simp [lexMore]
theorem lexMore2 (c : Nat) : lexMore 2 c = lexIn c := by simp [lexMore, lexIn, Bool.or_comm]
theorem lexMore3 {k : Nat} (h1 : k ≠ 1) (h2 : k ≠ 2) (c : Nat) : lexMore k c = false := by simp [lexMore, h1, h2]
/-- How long the word is with which a text begins whose first byte is of this kind. -/
def lexFirst : List UInt8 → Nat × Nat
  | [] => (0, 0)
  | c :: r => if lexKind c.toNat = 0 then (0, 0) else (lexKind c.toNat, lexSpan (lexMore (lexKind c.toNat)) r + 1)
theorem lexMore_not {k c : Nat} (h : lexMore k c = true) : c ≠ 35 ∧ lexBlank c = false := by
  simp only [lexMore, lexDig, lexLet, Bool.or_eq_true, Bool.and_eq_true, decide_eq_true_eq] at h
  simp only [lexBlank, Bool.or_eq_false_iff, decide_eq_false_iff_not]
  omega
theorem lexKind_not {c : Nat} (h : lexKind c ≠ 0) : c ≠ 35 ∧ lexBlank c = false := by
  by_cases h1 : lexDig c = true
  · exact lexMore_not (k := 1) (by rw [lexMore1]; exact h1)
  · by_cases h2 : lexLet c = true
    · exact lexMore_not (k := 2) (by rw [lexMore2]; simp [lexIn, h2])
    · by_cases h3 : lexSgn c = true
      · simp only [lexSgn, lexSigns, List.any_cons, List.any_nil, Bool.or_false, Bool.or_eq_true, beq_iff_eq] at h3
        simp only [lexBlank, Bool.or_eq_false_iff, decide_eq_false_iff_not]
        rcases h3 with h | h | h | h | h | h | h | h | h | h | h | h <;> (subst h; decide)
      · exact absurd (by unfold lexKind; rw [if_neg h1, if_neg h2, if_neg h3]) h
theorem lexBlank_kind {c : Nat} (h : lexBlank c = true) : lexKind c = 0 := by
  by_cases hk : lexKind c = 0
  · exact hk
  · exact absurd ((lexKind_not hk).2.symm.trans h) (by decide)
theorem lexMost_pos (k : Nat) : 1 ≤ lexMost k := by unfold lexMost; split <;> (try split) <;> omega
/-- A word runs on. -/
theorem lexGo_run (k i : Nat) (hk : k ≠ 0) (ws : List Lw) : ∀ (r t : List UInt8), t.length ≤ lexMost k →
    lexGo r (i + t.length) false (ws ++ [⟨k, t, i⟩]) =
      if lexMost k < t.length + lexSpan (lexMore k) r then ([], ((i + lexMost k : Nat) : Int))
      else lexGo (r.drop (lexSpan (lexMore k) r)) (i + t.length + lexSpan (lexMore k) r) false (ws ++ [⟨k, t ++ r.take (lexSpan (lexMore k) r), i⟩])
  | [], t, ht => by
    simp only [lexSpan, Nat.add_zero, List.drop_nil, List.take_nil, List.append_nil]
    rw [if_neg (by omega)]
  | c :: r, t, ht => by
    cases hc : lexMore k c.toNat
    · rw [lexSpan_no hc]
      simp only [Nat.add_zero, List.drop_zero, List.take_zero, List.append_nil]
      rw [if_neg (by omega)]
    · obtain ⟨h1, h2⟩ := lexMore_not hc
      rw [lexSpan_yes hc]
      have hp := lexPut_more (ws := ws) (y := ⟨k, t, i⟩) (i := i + t.length) (c := c) ⟨rfl, hc⟩
      by_cases hm : lexMost k < t.length + 1
      · rw [if_pos (by omega), lexGo_bad h1 h2 hp (by simp [lexBad, hk]; omega)]
        congr 2
        omega
      · rw [lexGo_on h1 h2 hp (by simp [lexBad, hk]; omega)]
        have ih := lexGo_run k i hk ws r (t ++ [c]) (by simp; omega)
        rw [List.length_append, List.length_singleton] at ih
        rw [show i + t.length + 1 = i + (t.length + 1) from by omega, ih]
        have e1 : t.length + 1 + lexSpan (lexMore k) r = t.length + (lexSpan (lexMore k) r + 1) := by omega
        rw [e1]
        simp only [List.drop_succ_cons, List.take_succ_cons]
        split
        · rfl
        · rw [show i + (t.length + 1) + lexSpan (lexMore k) r = i + t.length + (lexSpan (lexMore k) r + 1) from by omega]
          simp
/-- No word that is there runs on here. -/
def Apart (ws : List Lw) (i : Nat) (l : List UInt8) : Prop := ∀ W y c r, ws = W ++ [y] → l = c :: r → ¬ (y.p + y.t.length = i ∧ lexMore y.k c.toNat = true)
theorem lexPut_apart {ws : List Lw} {i : Nat} {c : UInt8} {r : List UInt8} (h : Apart ws i (c :: r)) : lexPut ws i c = ws ++ [⟨lexKind c.toNat, [c], i⟩] := by
  rcases List.eq_nil_or_concat ws with rfl | ⟨W, y, hw⟩
  · exact lexPut_nil i c
  · rw [List.concat_eq_append] at hw
    subst hw
    exact lexPut_new (h W y c r rfl rfl)
theorem lexFirst_yes {c : UInt8} {r : List UInt8} (h : lexKind c.toNat ≠ 0) : lexFirst (c :: r) = (lexKind c.toNat, lexSpan (lexMore (lexKind c.toNat)) r + 1) := if_neg h
theorem lexFirst_no {c : UInt8} {r : List UInt8} (h : lexKind c.toNat = 0) : lexFirst (c :: r) = (0, 0) := if_pos h
theorem lexFirst_le (l : List UInt8) : (lexFirst l).1 ≤ 3 ∧ (lexFirst l).2 ≤ l.length := by
  cases l with
  | nil => simp [lexFirst]
  | cons c r =>
    have h1 := lexSpan_le (lexMore (lexKind c.toNat)) r
    have h2 := lexKind_le c.toNat
    by_cases hk : lexKind c.toNat = 0
    · rw [lexFirst_no hk]; simp
    · rw [lexFirst_yes hk]; simp; omega
theorem lexFirst_pos {l : List UInt8} (h : (lexFirst l).1 ≠ 0) : 0 < (lexFirst l).2 := by
  cases l with
  | nil => exact absurd rfl h
  | cons c r =>
    by_cases hk : lexKind c.toNat = 0
    · rw [lexFirst_no hk] at h; exact absurd rfl h
    · rw [lexFirst_yes hk]; simp
/-- A word begins here: none does. -/
theorem lexGo_none {ws : List Lw} {i : Nat} {c : UInt8} {r : List UInt8} (ha : Apart ws i (c :: r)) (h1 : c.toNat ≠ 35) (h2 : lexBlank c.toNat = false) (h : (lexFirst (c :: r)).1 = 0) :
    lexGo (c :: r) i false ws = ([], (i : Int)) := by
  have hk : lexKind c.toNat = 0 := by
    by_cases hk : lexKind c.toNat = 0
    · exact hk
    · rw [lexFirst_yes hk] at h
      exact h
  exact lexGo_bad h1 h2 (lexPut_apart ha) (by simp [lexBad, hk])
/-- A word begins here: it is too long. -/
theorem lexGo_long {ws : List Lw} {i : Nat} {l : List UInt8} (ha : Apart ws i l) (hk : (lexFirst l).1 ≠ 0) (hn : lexMost (lexFirst l).1 < (lexFirst l).2) :
    lexGo l i false ws = ([], ((i + lexMost (lexFirst l).1 : Nat) : Int)) := by
  cases l with
  | nil => exact absurd rfl hk
  | cons c r =>
    have hk' : lexKind c.toNat ≠ 0 := fun e => hk (by simp [lexFirst, e])
    rw [lexFirst_yes hk'] at hn ⊢
    obtain ⟨h1, h2⟩ := lexKind_not hk'
    have hp := lexMost_pos (lexKind c.toNat)
    rw [lexGo_on h1 h2 (lexPut_apart ha) (by simp [lexBad, hk']; omega)]
    have hr := lexGo_run (lexKind c.toNat) i hk' ws r [c] (by simpa using hp)
    rw [List.length_singleton] at hr
    rw [hr, if_pos (by simp only [] at hn; omega)]
/-- A word begins here: it is gathered. -/
theorem lexGo_word {ws : List Lw} {i : Nat} {l : List UInt8} (ha : Apart ws i l) (hk : (lexFirst l).1 ≠ 0) (hn : (lexFirst l).2 ≤ lexMost (lexFirst l).1) :
    lexGo l i false ws = lexGo (l.drop (lexFirst l).2) (i + (lexFirst l).2) false (ws ++ [⟨(lexFirst l).1, l.take (lexFirst l).2, i⟩]) := by
  cases l with
  | nil => exact absurd rfl hk
  | cons c r =>
    have hk' : lexKind c.toNat ≠ 0 := fun e => hk (by simp [lexFirst, e])
    rw [lexFirst_yes hk'] at hn ⊢
    obtain ⟨h1, h2⟩ := lexKind_not hk'
    have hp := lexMost_pos (lexKind c.toNat)
    rw [lexGo_on h1 h2 (lexPut_apart ha) (by simp [lexBad, hk']; omega)]
    have hr := lexGo_run (lexKind c.toNat) i hk' ws r [c] (by simpa using hp)
    rw [List.length_singleton] at hr
    rw [hr, if_neg (by simp only [] at hn; omega)]
    simp only [List.drop_succ_cons, List.take_succ_cons]
    rw [show i + 1 + lexSpan (lexMore (lexKind c.toNat)) r = i + (lexSpan (lexMore (lexKind c.toNat)) r + 1) from by omega]
    rfl
/-- What stands behind a word does not run on. -/
theorem lexFirst_end {l : List UInt8} {c : UInt8} {r : List UInt8} (hk : (lexFirst l).1 ≠ 0) (h : l.drop (lexFirst l).2 = c :: r) : lexMore (lexFirst l).1 c.toNat = false := by
  cases l with
  | nil => exact absurd rfl hk
  | cons x l =>
    have hk' : lexKind x.toNat ≠ 0 := fun e => hk (by simp [lexFirst, e])
    rw [lexFirst_yes hk'] at h ⊢
    simp only [List.drop_succ_cons] at h
    exact lexSpan_end _ l c r h
/-- From place i on up to place j no word is. -/
def Skips (l : List UInt8) (i j : Nat) : Prop :=
  i ≤ j ∧ j ≤ l.length ∧ (∀ ws, lexGo (l.drop i) i false ws = lexGo (l.drop j) j false ws)
def Stops (l : List UInt8) (j : Nat) : Prop := ∀ c r, l.drop j = c :: r → c.toNat ≠ 35 ∧ lexBlank c.toNat = false
theorem Skips.refl {l : List UInt8} {i : Nat} (h : i ≤ l.length) : Skips l i i := ⟨Nat.le_refl _, h, fun _ => rfl⟩
theorem Skips.trans {l : List UInt8} {i j k : Nat} (h : Skips l i j) (g : Skips l j k) : Skips l i k := ⟨Nat.le_trans h.1 g.1, g.2.1, fun ws => (h.2.2 ws).trans (g.2.2 ws)⟩
theorem lexGo_note : ∀ (r : List UInt8) (i : Nat) (ws : List Lw), lexGo r i true ws = lexGo (r.drop (lexSpan lexLine r)) (i + lexSpan lexLine r) false ws
  | [], i, ws => rfl
  | c :: r, i, ws => by
    by_cases h : c.toNat = 10
    · have hl : lexLine c.toNat = false := by simp [lexLine, h]
      rw [lexSpan_no hl, List.drop_zero, Nat.add_zero]
      rw [lexGo_skip false (by simp [h]) (.inr (by simp [lexBlank, h])), lexGo_skip false (by simp [h]) (.inr (by simp [lexBlank, h]))]
    · have hl : lexLine c.toNat = true := by simp [lexLine, h]
      rw [lexSpan_yes hl, List.drop_succ_cons, lexGo_skip true (by simp [h]) (.inl rfl), lexGo_note r (i + 1) ws]
      congr 1
      omega
theorem Skips.blank {l : List UInt8} {i : Nat} {x : UInt8} (h : i < l.length) (hx : l.getD i 0 = x) (hb : lexBlank x.toNat = true) : Skips l i (i + 1) :=
  ⟨Nat.le_succ _, h, fun ws => by
    rw [lex_drop h hx]
    refine lexGo_skip false ?_ (.inr hb)
    rw [eq_comm, decide_eq_false_iff_not]
    rintro (h9 | h9)
    · rw [h9] at hb; exact absurd hb (by decide)
    · exact absurd h9.1 (by decide)⟩
theorem Skips.note {l : List UInt8} {i : Nat} {x : UInt8} (h : i < l.length) (hx : l.getD i 0 = x) (hb : x.toNat = 35) : Skips l i (i + lexSpan lexLine (l.drop i)) := by
  have hle := lexSpan_le lexLine (l.drop i)
  rw [List.length_drop] at hle
  refine ⟨Nat.le_add_right _ _, by omega, fun ws => ?_⟩
  rw [← List.drop_drop]
  rw [lex_drop h hx]
  have hl : lexLine x.toNat = true := by simp [lexLine, hb]
  rw [lexSpan_yes hl, List.drop_succ_cons, lexGo_skip true (by simp [hb]) (.inl rfl), lexGo_note]
  congr 1
  omega
theorem lexSpan_note {l : List UInt8} {i : Nat} {x : UInt8} (h : i < l.length) (hx : l.getD i 0 = x) (hb : x.toNat = 35) : 0 < lexSpan lexLine (l.drop i) := by
  rw [lex_drop h hx, lexSpan_yes (by simp [lexLine, hb])]
  omega
theorem Stops.at {l : List UInt8} {i : Nat} {x : UInt8} (hx : l.getD i 0 = x) (h : i < l.length) (h1 : x.toNat ≠ 35) (h2 : lexBlank x.toNat = false) : Stops l i := by
  intro c r hc
  rw [lex_drop h hx] at hc
  simp only [List.cons.injEq] at hc
  rw [← hc.1]
  exact ⟨h1, h2⟩
theorem Stops.end (l : List UInt8) : Stops l l.length := fun c r h => by simp at h
/-- Behind a word that has been gathered, and what is skipped, no word runs on. -/
theorem Apart.next {ws : List Lw} {l : List UInt8} {i j k n : Nat} {t : List UInt8} (ht : t.length = n) (hj : i + n ≤ j) (he : ∀ c r, l.drop (i + n) = c :: r → lexMore k c.toNat = false) : Apart (ws ++ [⟨k, t, i⟩]) j (l.drop j) := by
  intro W y c r hw hl
  have h := List.append_inj' hw rfl
  simp only [List.cons.injEq, and_true] at h
  obtain ⟨-, rfl⟩ := h
  rintro ⟨h1, h2⟩
  simp only [] at h1 h2
  rw [ht] at h1
  subst h1
  rw [he c r hl] at h2
  exact absurd h2 (by decide)
theorem Apart.nil (i : Nat) (l : List UInt8) : Apart [] i l := fun W y c r h => by simp at h
end Go.Proofs.Ythblmpkdcahmkaa

/-
  A text that is just one word (layer 16). Of no program.
-/
namespace Go.Proofs.Ythblmpkdcahmkaa

/-- A word is gathered once it has been begun: it stays, if it isn't the last one. -/
theorem lexPut_ne (Z : List Lw) (i : Nat) (c : UInt8) : ∃ Z', Z' ≠ [] ∧ ∀ V, Z ≠ [] → lexPut (V ++ Z) i c = V ++ Z' := by
  rcases List.eq_nil_or_concat Z with rfl | ⟨Y, y, hz⟩
  · exact ⟨[⟨0, [], 0⟩], by simp, fun V h => absurd rfl h⟩
  · rw [List.concat_eq_append] at hz
    subst hz
    by_cases h : y.p + y.t.length = i ∧ lexMore y.k c.toNat = true
    · refine ⟨Y ++ [⟨y.k, y.t ++ [c], y.p⟩], by simp, fun V _ => ?_⟩
      rw [← List.append_assoc, lexPut_more h, List.append_assoc]
    · refine ⟨Y ++ [y] ++ [⟨lexKind c.toNat, [c], i⟩], by simp, fun V _ => ?_⟩
      rw [← List.append_assoc, lexPut_new h]
      simp
theorem lexGo_keeps (V : List Lw) : ∀ (r : List UInt8) (i : Nat) (note : Bool) (Z : List Lw), Z ≠ [] →
    (lexGo r i note (V ++ Z)).1 = [] ∨ ∃ Z', Z' ≠ [] ∧ (lexGo r i note (V ++ Z)).1 = V ++ Z'
  | [], i, note, Z, hz => .inr ⟨Z, hz, rfl⟩
  | c :: r, i, note, Z, hz => by
    obtain ⟨Z', h', hp⟩ := lexPut_ne Z i c
    unfold lexGo
    rw [hp V hz]
    split
    · exact lexGo_keeps V r _ _ Z hz
    · split
      · exact .inl rfl
      · exact lexGo_keeps V r _ _ Z' h'
/-- Where no word runs on what is there stays. -/
theorem lexGo_apart (V : List Lw) : ∀ (r : List UInt8) (i : Nat) (note : Bool), (note = true ∨ Apart V i r) → (∀ W y, V = W ++ [y] → y.p + y.t.length ≤ i) →
    (lexGo r i note V).1 = [] ∨ ∃ Z, (lexGo r i note V).1 = V ++ Z
  | [], i, note, _, _ => .inr ⟨[], by rw [List.append_nil]; rfl⟩
  | c :: r, i, note, ha, hl => by
    have hl' : ∀ W y, V = W ++ [y] → y.p + y.t.length ≤ i + 1 := fun W y e => Nat.le_succ_of_le (hl W y e)
    have ha' : ∀ r, Apart V (i + 1) r := fun r W y c' r' hw _ h => by
      have := hl W y hw
      omega
    by_cases hs : (c.toNat = 35 ∨ (note = true ∧ c.toNat ≠ 10)) ∨ lexBlank c.toNat = true
    · unfold lexGo
      rw [if_pos hs]
      exact lexGo_apart V r (i + 1) _ (.inr (ha' r)) hl'
    · have hn : note = false := by
        cases hnote : note
        · rfl
        · exact absurd (by
            by_cases h10 : c.toNat = 10
            · exact .inr (by simp [lexBlank, h10])
            · exact .inl (.inr ⟨hnote, h10⟩)) hs
      have hp := lexPut_apart (ha.resolve_left (by rw [hn]; decide))
      unfold lexGo
      rw [if_neg hs, hp]
      split
      · exact .inl rfl
      · rcases lexGo_keeps V r (i + 1) false [⟨lexKind c.toNat, [c], i⟩] (by simp) with h | ⟨Z', _, h⟩
        · exact .inl h
        · exact .inr ⟨Z', h⟩
/-- How many bytes all words have. -/
def lexAll (ws : List Lw) : Nat := (ws.map fun x => x.t.length).sum
theorem lexPut_all (ws : List Lw) (i : Nat) (c : UInt8) : lexAll (lexPut ws i c) = lexAll ws + 1 := by
  rcases List.eq_nil_or_concat ws with rfl | ⟨W, y, hw⟩
  · rfl
  · rw [List.concat_eq_append] at hw
    subst hw
    by_cases h : y.p + y.t.length = i ∧ lexMore y.k c.toNat = true
    · rw [lexPut_more h]
      simp [lexAll]
      omega
    · rw [lexPut_new h]
      simp [lexAll]
      omega
theorem lexGo_all : ∀ (r : List UInt8) (i : Nat) (note : Bool) (ws : List Lw), lexAll (lexGo r i note ws).1 ≤ lexAll ws + r.length
  | [], i, note, ws => Nat.le_refl _
  | c :: r, i, note, ws => by
    unfold lexGo
    split
    · have := lexGo_all r (i + 1) (decide (c.toNat = 35 ∨ (note = true ∧ c.toNat ≠ 10))) ws
      simp only [List.length_cons]
      omega
    · split
      · exact Nat.zero_le _
      · have h1 := lexGo_all r (i + 1) false (lexPut ws i c)
        have h2 := lexPut_all ws i c
        simp only [List.length_cons]
        omega
theorem lexRight_of {k : Int} {l : List UInt8} {R : List Lw × Int} (h : lexScan l = R) : lexRight k l = true ↔ ∃ x, R.1 = [x] ∧ R.2 < 0 ∧ (x.k : Int) = k ∧ x.t = l := by
  unfold lexRight
  rw [h]
  obtain ⟨L, a⟩ := R
  match L with
  | [] => simp
  | [x] => simp [and_assoc]
  | x :: y :: r => simp
/-- Right, by the word with which the text begins. -/
theorem lexRight_first (k : Int) (l : List UInt8) (hl : l.length ≤ 4000) :
    lexRight k l = (decide ((lexFirst l).1 ≠ 0) && decide (((lexFirst l).1 : Int) = k) && decide ((lexFirst l).2 = l.length) && decide ((lexFirst l).2 ≤ lexMost (lexFirst l).1)) := by
  have hs : lexScan l = lexGo l 0 false [] := if_neg (by omega)
  rw [Bool.eq_iff_iff, lexRight_of hs]
  simp only [Bool.and_eq_true, decide_eq_true_eq]
  by_cases hk : (lexFirst l).1 = 0
  · constructor
    · rintro ⟨x, hx, hneg, hxk, hxt⟩
      exfalso
      cases l with
      | nil => simp [lexGo] at hx
      | cons c r =>
        by_cases hb : c.toNat = 35 ∨ lexBlank c.toNat = true
        · have hg : lexGo (c :: r) 0 false [] = lexGo r 1 (decide (c.toNat = 35 ∨ (false = true ∧ c.toNat ≠ 10))) [] :=
            lexGo_skip _ rfl (by rcases hb with h | h; exact .inl (by simp [h]); exact .inr h)
          have ha := lexGo_all r 1 (decide (c.toNat = 35 ∨ (false = true ∧ c.toNat ≠ 10))) []
          rw [← hg, hx] at ha
          simp [lexAll, hxt] at ha
          omega
        · have h1 : c.toNat ≠ 35 := fun h => hb (.inl h)
          have h2 : lexBlank c.toNat = false := by simpa using fun h => hb (.inr h)
          rw [lexGo_none (Apart.nil _ _) h1 h2 hk] at hx
          simp at hx
    · rintro ⟨⟨⟨h, _⟩, _⟩, _⟩
      exact absurd hk h
  · by_cases hn : (lexFirst l).2 ≤ lexMost (lexFirst l).1
    · have hw := lexGo_word (ws := []) (i := 0) (Apart.nil 0 l) hk hn
      have hle := (lexFirst_le l).2
      rw [List.nil_append, Nat.zero_add] at hw
      by_cases hall : (lexFirst l).2 = l.length
      · rw [hw, hall, List.drop_length, List.take_length]
        constructor
        · rintro ⟨x, hx, _, hxk, _⟩
          simp only [lexGo, List.cons.injEq, and_true] at hx
          subst hx
          exact ⟨⟨⟨hk, hxk⟩, rfl⟩, by omega⟩
        · rintro ⟨⟨⟨_, h⟩, _⟩, _⟩
          exact ⟨_, rfl, by simp [lexGo], h, rfl⟩
      · constructor
        · rintro ⟨x, hx, _, hxk, hxt⟩
          exfalso
          have hlen : (l.take (lexFirst l).2).length = (lexFirst l).2 := by rw [List.length_take]; omega
          have hap : Apart [(⟨(lexFirst l).1, l.take (lexFirst l).2, 0⟩ : Lw)] (lexFirst l).2 (l.drop (lexFirst l).2) :=
            Apart.next (ws := []) (i := 0) (n := (lexFirst l).2) hlen (by omega) (fun c r h => lexFirst_end hk (by rw [Nat.zero_add] at h; exact h))
          rw [hw] at hx
          rcases lexGo_apart _ (l.drop (lexFirst l).2) (lexFirst l).2 false (.inr hap) (by
            intro W y e
            have e2 := List.append_inj' (s₁ := []) e rfl
            simp only [List.cons.injEq, and_true] at e2
            rw [← e2.2]
            simp only [hlen]
            omega) with h | ⟨Z, h⟩
          · rw [hx] at h; simp at h
          · rw [hx] at h
            simp only [List.singleton_append, List.cons.injEq] at h
            rw [h.1] at hxt
            simp only [] at hxt
            rw [hxt] at hlen
            exact hall hlen.symm
        · rintro ⟨⟨⟨_, _⟩, h⟩, _⟩
          exact absurd h hall
    · constructor
      · rintro ⟨x, hx, _⟩
        rw [lexGo_long (Apart.nil 0 l) hk (by omega)] at hx
        simp at hx
      · rintro ⟨_, h⟩
        exact absurd h hn
end Go.Proofs.Ythblmpkdcahmkaa

/-
  Fields and expressions, plain (layer 18): words read one by one, with the place at which it can't go on. Of no program.
-/
namespace Go.Proofs.Ythblmpkdcahmkaa

/-- How many words are read, how many levels are open, the place at which it can't go on (below 0: none). -/
structure Ps where
  i : Nat
  deep : Nat
  bad : Int
/-- A node: its operation, its number, its value. -/
abbrev Np := Int × Int × Nat
section
variable (W : List Lw) (E : Nat) (N : List (List UInt8))
def pBad (s : Ps) : Ps := if 0 ≤ s.bad then s else { s with bad := match W[s.i]? with | some w => (w.p : Int) | none => (E : Int) }
def pSees (s : Ps) (t : List UInt8) : Bool := decide (s.bad < 0) && match W[s.i]? with | some w => decide (w.t = t) | none => false
def pKind (s : Ps) : Nat := if s.bad < 0 then (match W[s.i]? with | some w => w.k | none => 0) else 0
def pText (s : Ps) : List UInt8 := match W[s.i]? with | some w => w.t | none => []
def pMust (t : List UInt8) (s : Ps) : Ps := if pSees W s t = true then { s with i := s.i + 1 } else pBad W E s
def pSmall (s : Ps) : Nat × Ps := if pKind W s = 1 ∧ (pText W s).length ≤ 3 then (readV (pText W s), { s with i := s.i + 1 }) else (0, pBad W E s)
def pLevel (s : Ps) : Ps := { (if 40 ≤ s.deep then pBad W E s else s) with deep := s.deep + 1, i := s.i + 1 }
def pFree (s : Ps) : Bool := decide (pKind W s = 2) && !pSees W s [116] && !pSees W s [121] && !pSees W s [112] && !pSees W s [108, 101, 116]
def pFind (t : List UInt8) : List (List UInt8) → Nat → Int
  | [], _ => -1
  | x :: r, k => if x = t then (k : Int) else pFind t r (k + 1)
def pAtom (ex : Ps → List Np × Ps) (s : Ps) : List Np × Ps :=
  if pKind W s = 1 then ([(1, 0, readV (pText W s))], { s with i := s.i + 1 })
  else if pSees W s [116] = true then ([(2, 0, 0)], { s with i := s.i + 1 })
  else if pSees W s [121] = true ∨ pSees W s [112] = true then
    let r := pSmall W E (pMust W E [91] { s with i := s.i + 1 })
    ([(if pSees W s [112] = true then 4 else 3, (r.1 : Int), 0)], pMust W E [93] r.2)
  else if pSees W s [40] = true then
    let r := ex (pLevel W E s)
    let s2 := pMust W E [41] r.2
    (r.1, { s2 with deep := s2.deep - 1 })
  else if pFree W s = true then ([(5, pFind (pText W s) N 0, 0)], { s with i := s.i + 1 })
  else ([], pBad W E s)
def pFac (fa ex : Ps → List Np × Ps) (s : Ps) : List Np × Ps :=
  if pSees W s [45] = true then
    let s1 := pLevel W E s
    let r := if s1.bad < 0 then fa s1 else ([], s1)
    (r.1 ++ [(6, 0, 0)], { r.2 with deep := r.2.deep - 1 })
  else
    let r := pAtom W E N ex s
    if pSees W r.2 [94] = true then
      let s1 : Ps := { r.2 with i := r.2.i + 1 }
      if pSees W s1 [45] = true then
        let q := pSmall W E { s1 with i := s1.i + 1 }
        (r.1 ++ [(11, -(q.1 : Int), 0)], q.2)
      else
        let q := pSmall W E s1
        (r.1 ++ [(11, (q.1 : Int), 0)], q.2)
    else r
/-- Parts with either of two signs between. -/
def pMany (f : Ps → List Np × Ps) (a b : List UInt8) (oa ob : Int) : Nat → List Np → Ps → List Np × Ps
  | 0, c, s => (c, s)
  | n + 1, c, s =>
    if pSees W s a = true ∨ pSees W s b = true then
      let r := f { s with i := s.i + 1 }
      pMany f a b oa ob n (c ++ r.1 ++ [(if pSees W s b = true then ob else oa, 0, 0)]) r.2
    else (c, s)
def pTerm (fa : Ps → List Np × Ps) (s : Ps) : List Np × Ps := let r := fa s; pMany W fa [42] [47] 9 10 W.length r.1 r.2
def pExpr (fa : Ps → List Np × Ps) (s : Ps) : List Np × Ps :=
  if 0 ≤ s.bad then ([], s) else let r := pTerm W fa s; pMany W (pTerm W fa) [43] [45] 7 8 W.length r.1 r.2
/-- A factor and an expression, with so many levels to be had. -/
def pAll : Nat → (Ps → List Np × Ps) × (Ps → List Np × Ps)
  | 0 => (fun s => ([], s), fun s => ([], s))
  | l + 1 => (pFac W E N (pAll l).1 (pAll l).2, pExpr W (pFac W E N (pAll l).1 (pAll l).2))
def pOver (s : Ps) : Ps := if s.bad < 0 ∧ s.i < W.length then pBad W E s else s
/-- An expression, from a text whose words end in so far (at: below 0, or the place at which there is none). -/
def pCode (at' : Int) : List Np × Int :=
  let r := (pAll W E N 41).2 ⟨0, 0, at'⟩
  let s := pOver W E r.2
  if 0 ≤ s.bad then ([], s.bad) else (r.1, -1)
/-- Lets, with the names behind them; and whether it stopped at a name. -/
def pLets : Nat → List (List UInt8) → List (List UInt8 × List Np) → Ps → List (List UInt8 × List Np) × List (List UInt8) × Ps × Bool
  | 0, M, K, s => (K, M, s, false)
  | n + 1, M, K, s =>
    if pSees W s [108, 101, 116] = true then
      let s1 : Ps := { s with i := s.i + 1 }
      if pFree W s1 = true then
        let r := (pAll W E M 41).2 (pMust W E [61] { s1 with i := s1.i + 1 })
        pLets n (M ++ [pText W s1]) (K ++ [(pText W s1, r.1)]) (pMust W E [59] r.2)
      else (K, M, pBad W E s1, true)
    else (K, M, s, false)
def pOuts (ex : Ps → List Np × Ps) : Nat → List (List Np) → Ps → List (List Np) × Ps
  | 0, O, s => (O, s)
  | n + 1, O, s => if pSees W s [44] = true then let r := ex { s with i := s.i + 1 }; pOuts ex n (O ++ [r.1]) r.2 else (O, s)
def pField (s : Ps) : List (List UInt8 × List Np) × List (List Np) × Ps :=
  let l := pLets W E W.length [] [] s
  if l.2.2.2 = true then (l.1, [], l.2.2.1)
  else
    let ex := (pAll W E l.2.1 41).2
    let r := ex (pMust W E [91] l.2.2.1)
    let o := pOuts W ex W.length [r.1] r.2
    (l.1, o.1, pMust W E [93] o.2)
def pParse (at' : Int) : List (List UInt8 × List Np) × List (List Np) × Int :=
  if 0 ≤ at' then ([], [], at')
  else
    let r := pField W E ⟨0, 0, at'⟩
    let s := pOver W E r.2.2
    if 0 ≤ s.bad then ([], [], s.bad) else (r.1, r.2.1, -1)
end
section
variable (W : List Lw) (E : Nat) (N : List (List UInt8))
theorem pSees_i {s : Ps} {t : List UInt8} (h : pSees W s t = true) : s.bad < 0 ∧ s.i < W.length := by
  unfold pSees at h
  rw [Bool.and_eq_true, decide_eq_true_eq] at h
  refine ⟨h.1, ?_⟩
  cases hw : W[s.i]? with
  | none => rw [hw] at h; simp at h
  | some w => exact (List.getElem?_eq_some_iff.1 hw).1
theorem pKind_i {s : Ps} (h : pKind W s ≠ 0) : s.bad < 0 ∧ s.i < W.length := by
  unfold pKind at h
  by_cases hb : s.bad < 0
  · rw [if_pos hb] at h
    refine ⟨hb, ?_⟩
    cases hw : W[s.i]? with
    | none => rw [hw] at h; simp at h
    | some w => exact (List.getElem?_eq_some_iff.1 hw).1
  · rw [if_neg hb] at h; exact absurd rfl h
theorem pBad_i (s : Ps) : (pBad W E s).i = s.i ∧ (pBad W E s).deep = s.deep ∧ 0 ≤ (pBad W E s).bad ∧ (0 ≤ s.bad → (pBad W E s).bad = s.bad) := by
  unfold pBad
  split
  · exact ⟨rfl, rfl, by assumption, fun _ => rfl⟩
  · refine ⟨rfl, rfl, ?_, fun h => absurd h (by assumption)⟩
    dsimp only
    split <;> omega
/-- A step that tells no more than it reads. -/
structure Fine (f : Ps → List Np × Ps) : Prop where
  stays : ∀ s, 0 ≤ s.bad → (f s).2.bad = s.bad
  deep : ∀ s, (f s).2.deep = s.deep
  len : ∀ s, (f s).1.length + s.i ≤ (f s).2.i
  within : ∀ s, s.i ≤ W.length → (f s).2.i ≤ W.length
theorem Fine.none : Fine W fun s => ([], s) := ⟨fun _ _ => rfl, fun _ => rfl, fun s => by simp, fun s h => h⟩
/-- What only reads on. -/
structure Onw (f : Ps → Ps) : Prop where
  stays : ∀ s, 0 ≤ s.bad → (f s).bad = s.bad
  deep : ∀ s, (f s).deep = s.deep
  len : ∀ s, s.i ≤ (f s).i
  within : ∀ s, s.i ≤ W.length → (f s).i ≤ W.length
theorem on_of {f : Ps → Ps} (h : ∀ s, (s.bad < 0 ∧ s.i < W.length ∧ f s = { s with i := s.i + 1 }) ∨ f s = pBad W E s) : Onw W f := by
  refine ⟨fun s hs => ?_, fun s => ?_, fun s => ?_, fun s hs => ?_⟩
  · rcases h s with ⟨h1, h2, e⟩ | e
    · omega
    · rw [e]; exact (pBad_i W E s).2.2.2 hs
  · rcases h s with ⟨h1, h2, e⟩ | e
    · rw [e]
    · rw [e]; exact (pBad_i W E s).2.1
  · rcases h s with ⟨h1, h2, e⟩ | e
    · rw [e]; exact Nat.le_succ _
    · rw [e]; exact Nat.le_of_eq (pBad_i W E s).1.symm
  · rcases h s with ⟨h1, h2, e⟩ | e
    · rw [e]; exact h2
    · rw [e, (pBad_i W E s).1]; exact hs
theorem pMust_on (t : List UInt8) : Onw W (pMust W E t) := on_of W E fun s => by
  unfold pMust
  by_cases h : pSees W s t = true
  · rw [if_pos h]; exact .inl ⟨(pSees_i W h).1, (pSees_i W h).2, rfl⟩
  · rw [if_neg h]; exact .inr rfl
theorem pSmall_on : Onw W fun s => (pSmall W E s).2 := on_of W E fun s => by
  unfold pSmall
  by_cases h : pKind W s = 1 ∧ (pText W s).length ≤ 3
  · have hk := pKind_i W (s := s) (by omega)
    rw [if_pos h]; exact .inl ⟨hk.1, hk.2, rfl⟩
  · rw [if_neg h]; exact .inr rfl
theorem pLevel_i (s : Ps) : (pLevel W E s).i = s.i + 1 ∧ (pLevel W E s).deep = s.deep + 1 ∧ (0 ≤ s.bad → (pLevel W E s).bad = s.bad) := by
  unfold pLevel
  refine ⟨rfl, rfl, fun h => ?_⟩
  dsimp only
  split
  · exact (pBad_i W E s).2.2.2 h
  · rfl
theorem pAtom_fine {ex : Ps → List Np × Ps} (hx : Fine W ex) : Fine W (pAtom W E N ex) := by
  have hm : ∀ t, Onw W (pMust W E t) := pMust_on W E
  have hs : Onw W fun s => (pSmall W E s).2 := pSmall_on W E
  have key : ∀ s, (0 ≤ s.bad → (pAtom W E N ex s).2.bad = s.bad) ∧ (pAtom W E N ex s).2.deep = s.deep ∧ (pAtom W E N ex s).1.length + s.i ≤ (pAtom W E N ex s).2.i ∧ (s.i ≤ W.length → (pAtom W E N ex s).2.i ≤ W.length) := by
    intro s
    unfold pAtom
    by_cases h1 : pKind W s = 1
    · have := pKind_i W (s := s) (by omega)
      rw [if_pos h1]
      exact ⟨fun h => by omega, rfl, by simp; omega, fun _ => this.2⟩
    rw [if_neg h1]
    by_cases h2 : pSees W s [116] = true
    · have := pSees_i W h2
      rw [if_pos h2]
      exact ⟨fun h => by omega, rfl, by simp; omega, fun _ => this.2⟩
    rw [if_neg h2]
    by_cases h3 : pSees W s [121] = true ∨ pSees W s [112] = true
    · have h9 : s.bad < 0 ∧ s.i < W.length := h3.elim (pSees_i W) (pSees_i W)
      rw [if_pos h3]
      have e1 := (hm [91]).deep { s with i := s.i + 1 }
      have e2 := hs.deep (pMust W E [91] { s with i := s.i + 1 })
      have e3 := (hm [93]).deep (pSmall W E (pMust W E [91] { s with i := s.i + 1 })).2
      have l1 := (hm [91]).len { s with i := s.i + 1 }
      have l2 := hs.len (pMust W E [91] { s with i := s.i + 1 })
      have l3 := (hm [93]).len (pSmall W E (pMust W E [91] { s with i := s.i + 1 })).2
      dsimp only at *
      exact ⟨fun h => by omega, by rw [e3, e2, e1], by simp; omega, fun _ => (hm [93]).within _ (hs.within _ ((hm [91]).within { s with i := s.i + 1 } (by dsimp only; omega)))⟩
    rw [if_neg h3]
    by_cases h4 : pSees W s [40] = true
    · have h9 := pSees_i W h4
      rw [if_pos h4]
      obtain ⟨p1, p2, p3⟩ := pLevel_i W E s
      have e1 := hx.deep (pLevel W E s)
      have e2 := (hm [41]).deep (ex (pLevel W E s)).2
      have l1 := hx.len (pLevel W E s)
      have l2 := (hm [41]).len (ex (pLevel W E s)).2
      dsimp only at *
      exact ⟨fun h => by omega, by rw [e2, e1, p2]; rfl, by omega, fun _ => (hm [41]).within _ (hx.within _ (by omega))⟩
    rw [if_neg h4]
    by_cases h5 : pFree W s = true
    · have : pKind W s = 2 := by unfold pFree at h5; simp at h5; exact h5.1.1.1.1
      have := pKind_i W (s := s) (by omega)
      rw [if_pos h5]
      exact ⟨fun h => by omega, rfl, by simp; omega, fun _ => this.2⟩
    rw [if_neg h5]
    exact ⟨(pBad_i W E s).2.2.2, (pBad_i W E s).2.1, by have := (pBad_i W E s).1; simp; omega, fun h => by have := (pBad_i W E s).1; dsimp only; omega⟩
  exact ⟨fun s => (key s).1, fun s => (key s).2.1, fun s => (key s).2.2.1, fun s => (key s).2.2.2⟩
theorem pFac_fine {fa ex : Ps → List Np × Ps} (hf : Fine W fa) (hx : Fine W ex) : Fine W (pFac W E N fa ex) := by
  have hs : Onw W fun s => (pSmall W E s).2 := pSmall_on W E
  have ha := pAtom_fine W E N hx
  have key : ∀ s, (0 ≤ s.bad → (pFac W E N fa ex s).2.bad = s.bad) ∧ (pFac W E N fa ex s).2.deep = s.deep ∧ (pFac W E N fa ex s).1.length + s.i ≤ (pFac W E N fa ex s).2.i ∧ (s.i ≤ W.length → (pFac W E N fa ex s).2.i ≤ W.length) := by
    intro s
    unfold pFac
    by_cases h1 : pSees W s [45] = true
    · have h9 := pSees_i W h1
      rw [if_pos h1]
      obtain ⟨p1, p2, p3⟩ := pLevel_i W E s
      by_cases hb : (pLevel W E s).bad < 0
      · have e1 := hf.deep (pLevel W E s)
        have l1 := hf.len (pLevel W E s)
        simp only [if_pos hb]
        exact ⟨fun h => by omega, by rw [e1, p2]; rfl, by simp; omega, fun _ => hf.within _ (by omega)⟩
      · simp only [if_neg hb]
        exact ⟨fun h => by omega, by rw [p2]; rfl, by simp; omega, fun _ => by rw [p1]; exact h9.2⟩
    rw [if_neg h1]
    dsimp only
    have a1 := ha.stays s
    have a2 := ha.deep s
    have a3 := ha.len s
    have a4 := ha.within s
    by_cases h2 : pSees W (pAtom W E N ex s).2 [94] = true
    · have h9 := pSees_i W h2
      rw [if_pos h2]
      by_cases h3 : pSees W { (pAtom W E N ex s).2 with i := (pAtom W E N ex s).2.i + 1 } [45] = true
      · have h8 := pSees_i W h3
        rw [if_pos h3]
        have e1 := hs.deep { (pAtom W E N ex s).2 with i := (pAtom W E N ex s).2.i + 1 + 1 }
        have l1 := hs.len { (pAtom W E N ex s).2 with i := (pAtom W E N ex s).2.i + 1 + 1 }
        have w1 := hs.within { (pAtom W E N ex s).2 with i := (pAtom W E N ex s).2.i + 1 + 1 }
        dsimp only at *
        exact ⟨fun h => by have := a1 h; omega, by rw [e1, a2], by simp; omega, fun _ => w1 (by omega)⟩
      · rw [if_neg h3]
        have e1 := hs.deep { (pAtom W E N ex s).2 with i := (pAtom W E N ex s).2.i + 1 }
        have l1 := hs.len { (pAtom W E N ex s).2 with i := (pAtom W E N ex s).2.i + 1 }
        have w1 := hs.within { (pAtom W E N ex s).2 with i := (pAtom W E N ex s).2.i + 1 }
        dsimp only at *
        exact ⟨fun h => by have := a1 h; omega, by rw [e1, a2], by simp; omega, fun _ => w1 (by omega)⟩
    · rw [if_neg h2]
      exact ⟨a1, a2, a3, a4⟩
  exact ⟨fun s => (key s).1, fun s => (key s).2.1, fun s => (key s).2.2.1, fun s => (key s).2.2.2⟩
theorem pMany_fine {f : Ps → List Np × Ps} (hf : Fine W f) (a b : List UInt8) (oa ob : Int) : ∀ (n : Nat) (c : List Np) (s : Ps), (0 ≤ s.bad → pMany W f a b oa ob n c s = (c, s)) ∧ (pMany W f a b oa ob n c s).2.deep = s.deep ∧ (pMany W f a b oa ob n c s).1.length + s.i ≤ c.length + (pMany W f a b oa ob n c s).2.i ∧ (s.i ≤ W.length → (pMany W f a b oa ob n c s).2.i ≤ W.length)
  | 0, c, s => ⟨fun _ => rfl, rfl, Nat.le_refl _, fun h => h⟩
  | n + 1, c, s => by
    unfold pMany
    by_cases h : pSees W s a = true ∨ pSees W s b = true
    · have h9 : s.bad < 0 ∧ s.i < W.length := h.elim (pSees_i W) (pSees_i W)
      rw [if_pos h]
      dsimp only
      obtain ⟨i1, i2, i3, i4⟩ := pMany_fine hf a b oa ob n (c ++ (f { s with i := s.i + 1 }).1 ++ [(if pSees W s b = true then ob else oa, 0, 0)]) (f { s with i := s.i + 1 }).2
      have f2 := hf.deep { s with i := s.i + 1 }
      have f3 := hf.len { s with i := s.i + 1 }
      have f4 := hf.within { s with i := s.i + 1 }
      dsimp only at f2 f3 f4
      exact ⟨fun h => by omega, by rw [i2, f2], by simp only [List.length_append, List.length_cons, List.length_nil] at i3; omega, fun _ => i4 (f4 (by omega))⟩
    · rw [if_neg h]
      exact ⟨fun _ => rfl, rfl, Nat.le_refl _, fun h => h⟩
theorem many_fine {g f : Ps → List Np × Ps} (hg : Fine W g) (hf : Fine W f) (a b : List UInt8) (oa ob : Int) (n : Nat) : Fine W fun s => pMany W f a b oa ob n (g s).1 (g s).2 := by
  have hm := fun s => pMany_fine W hf a b oa ob n (g s).1 (g s).2
  refine ⟨fun s h => ?_, fun s => (hm s).2.1.trans (hg.deep s), fun s => ?_, fun s h => (hm s).2.2.2 (hg.within s h)⟩
  · have h1 := hg.stays s h
    rw [(hm s).1 (by omega)]; exact h1
  · have := (hm s).2.2.1
    have := hg.len s
    omega
theorem pTerm_fine {fa : Ps → List Np × Ps} (hf : Fine W fa) : Fine W (pTerm W fa) := many_fine W hf hf [42] [47] 9 10 W.length
theorem pExpr_fine {fa : Ps → List Np × Ps} (hf : Fine W fa) : Fine W (pExpr W fa) := by
  have hm := many_fine W (pTerm_fine W hf) (pTerm_fine W hf) [43] [45] 7 8 W.length
  have key : ∀ s, (s.bad < 0 → pExpr W fa s = pMany W (pTerm W fa) [43] [45] 7 8 W.length (pTerm W fa s).1 (pTerm W fa s).2) ∧ (0 ≤ s.bad → pExpr W fa s = ([], s)) := fun s => by
    unfold pExpr
    exact ⟨fun h => by rw [if_neg (by omega)], fun h => if_pos h⟩
  refine ⟨fun s h => by rw [(key s).2 h], fun s => ?_, fun s => ?_, fun s h => ?_⟩
  · rcases Int.lt_or_le s.bad 0 with h | h
    · rw [(key s).1 h]; exact hm.deep s
    · rw [(key s).2 h]
  · rcases Int.lt_or_le s.bad 0 with h | h
    · rw [(key s).1 h]; exact hm.len s
    · rw [(key s).2 h]; simp
  · rcases Int.lt_or_le s.bad 0 with h9 | h9
    · rw [(key s).1 h9]; exact hm.within s h
    · rw [(key s).2 h9]; exact h
theorem pAll_fine : ∀ l : Nat, Fine W (pAll W E N l).1 ∧ Fine W (pAll W E N l).2
  | 0 => ⟨Fine.none W, Fine.none W⟩
  | l + 1 => by
    obtain ⟨h1, h2⟩ := pAll_fine l
    have h3 := pFac_fine W E N h1 h2
    exact ⟨h3, pExpr_fine W h3⟩
/-- Rounds enough. -/
theorem pMany_enough {f : Ps → List Np × Ps} (hf : Fine W f) (a b : List UInt8) (oa ob : Int) : ∀ (n m : Nat) (c : List Np) (s : Ps), W.length ≤ s.i + n → W.length ≤ s.i + m → pMany W f a b oa ob n c s = pMany W f a b oa ob m c s
  | 0, 0, c, s, _, _ => rfl
  | 0, m + 1, c, s, h, _ => by
    rw [pMany, pMany, if_neg]
    intro h9
    have : s.bad < 0 ∧ s.i < W.length := h9.elim (pSees_i W) (pSees_i W)
    omega
  | n + 1, 0, c, s, _, h => by
    rw [pMany, pMany, if_neg]
    intro h9
    have : s.bad < 0 ∧ s.i < W.length := h9.elim (pSees_i W) (pSees_i W)
    omega
  | n + 1, m + 1, c, s, h, k => by
    rw [pMany, pMany]
    split
    · have := hf.len { s with i := s.i + 1 }
      dsimp only at this ⊢
      exact pMany_enough hf a b oa ob n m _ _ (by omega) (by omega)
    · rfl
end
end Go.Proofs.Ythblmpkdcahmkaa
