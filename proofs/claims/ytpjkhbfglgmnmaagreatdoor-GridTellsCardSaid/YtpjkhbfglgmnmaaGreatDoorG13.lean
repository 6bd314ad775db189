/-
  Several texts of this claim as one, group 13.
-/
import Derived.Test.YtpjkhbfglgmnmaaGreatDoorG9
import Derived.Test.YtpjkhbfglgmnmaaGreatDoorG12
import Derived.Deep.AppendLies
import Derived.Laws.MakeOwn
import Derived.OwnWalk
import Derived.Test.YtpjkhbfglgmnmaaGreatDoorRows
import Derived.Lib.LaidTab
import Derived.Test.YtpjkhbfglgmnmaaGreatDoorG11
import Derived.Deep.RegionHeld3
/-
  Rows of right fractions in memory: in a row of the call's own, appended to; as they are handed on. Of no program.
-/
namespace Go.Proofs.YtpjkhbfglgmnmaaGreatDoor
open Go.RowKit

/-- A right fraction, as it lies in memory. -/
def rx (q : Rat) (a : Option Addr) (n c : Nat) (b : Option Addr) (m d : Nat) : Fx := ⟨zneg q.num, a, n, c, dg q.num.natAbs, b, m, d, dg q.den⟩
theorem rx_q (q : Rat) (a : Option Addr) (n c : Nat) (b : Option Addr) (m d : Nat) : (rx q a n c b m d).q = q := qval_dg q
def Fx.right (x : Fx) : Prop := x.s = zneg x.q.num ∧ x.la = dg x.q.num.natAbs ∧ x.lb = dg x.q.den
theorem rx_right (q : Rat) (a : Option Addr) (n c : Nat) (b : Option Addr) (m d : Nat) : (rx q a n c b m d).right := by
  unfold Fx.right
  rw [rx_q]
  exact ⟨rfl, rfl, rfl⟩
/-- A row of right fractions: its values. -/
def Rw (w : World) (a : Option Addr) (n cap : Nat) (qs : List Rat) : Prop := ∃ L, Fxs w a n cap L ∧ L.map Fx.q = qs ∧ ∀ x ∈ L, x.right
theorem Rw.later {w w' : World} {a : Option Addr} {n cap : Nat} {qs : List Rat} (h : Rw w a n cap qs) (hb : Below w.heap.size w w') : Rw w' a n cap qs := by
  obtain ⟨L, h1, h2, h3⟩ := h
  exact ⟨L, h1.later hb, h2, h3⟩
theorem Rw.len {w : World} {a : Option Addr} {n cap : Nat} {qs : List Rat} (h : Rw w a n cap qs) : qs.length = n := by
  obtain ⟨L, h1, h2, _⟩ := h
  rw [← h2, List.length_map]; exact h1.len
/-- What comes back. -/
def LstRw (qs : List Rat) (w : World) (e : Ending) (w' : World) : Prop := ∃ (a : Option Addr) (n cap : Nat), e = .returned (.slice a n cap) ∧ Rw w' a n cap qs ∧ Below w.heap.size w w'
def LstRwV (qs : List Rat) (v : Value) (w : World) (e : Ending) (w' : World) : Prop := ∃ (a : Option Addr) (n cap : Nat), e = .returned (.tuple #[.slice a n cap, v]) ∧ Rw w' a n cap qs ∧ Below w.heap.size w w'
/-- A row of the call's own that is being made. -/
def Row (w : World) (base : Nat) (e : TypeId) (v : Value) (qs : List Rat) : Prop := ∃ L, OwnC w base e v L ∧ L.map Fx.q = qs ∧ ∀ x ∈ L, x.ok w ∧ x.right
theorem Row.nil (w : World) (base : Nat) (e : TypeId) : Row w base e (.slice none 0 0) [] := ⟨[], OwnC.nil _ _ _, rfl, fun x hx => by simp at hx⟩
theorem Row.later {w w' : World} {base : Nat} {e : TypeId} {v : Value} {qs : List Rat} (h : Row w base e v qs) (hb : Below w.heap.size w w') : Row w' base e v qs := by
  obtain ⟨L, h1, h2, h3⟩ := h
  exact ⟨L, h1.later hb, h2, fun x hx => ⟨(h3 x hx).1.later hb, (h3 x hx).2⟩⟩
theorem Row.out {w : World} {base : Nat} {e : TypeId} {v : Value} {qs : List Rat} (h : Row w base e v qs) : ∃ (a : Option Addr) (cap : Nat), v = .slice a qs.length cap ∧ Rw w a qs.length cap qs := by
  obtain ⟨L, h1, h2, h3⟩ := h
  obtain ⟨a, cap, rfl, hf⟩ := h1.slice (fun x hx => (h3 x hx).1)
  have hl : L.length = qs.length := by rw [← h2, List.length_map]
  rw [hl] at hf ⊢
  exact ⟨a, cap, rfl, L, hf, h2, fun x hx => (h3 x hx).2⟩
/-- One more fraction behind a row of the call's own. -/
theorem wpList_append_row {P : Program} (w : World) {ops : Array Oper} {rest : List Oper} {o : Oper} {act : Act} {Q : Exit → Act → World → Prop} (hgd : o.guard = none) (s x : Operand) (t : TypeId)
    (ho : o.op = .call { callee := .builtin .append, args := #[s, x], argTypes := #[t, t] })
    (base : Nat) (e : TypeId) (i : TypeInfo) (ht : P.underlying t = some (.slice e)) (hi : P.info? e = some i) (hz : i.zero = some (.agg #[.bool false, .slice none 0 0, .slice none 0 0]))
    (hsize : i.size = 3) (hby : i.bytes = 56) (v : Value) (qs : List Rat) (hs : act.eval s = v) (hrow : Row w base e v qs)
    (ad : Addr) (q : Rat) (a : Option Addr) (n c : Nat) (b : Option Addr) (m d : Nat) (hx : act.eval x = .slice (some ad) 1 1)
    (hnews : ∀ j u, (rx q a n c b m d).cells[j]? = some u → w.cell? (ad.add j) = some u) (ha : Wd w a n c (dg q.num.natAbs)) (hb : Wd w b m d (dg q.den))
    (hlen : qs.length ≤ 1000000) (hbase : base ≤ w.heap.size)
    (h : ∀ v' w', Row w' base e v' (qs ++ [q]) → w.grownBy w' v.ownBlock → (∀ k, v.ownBlock = some k → base ≤ k) → clean w v → wpList P ops Q rest (act.put o.dst v') w') : wpList P ops Q (o :: rest) act w := by
  obtain ⟨L, h1, h2, h3⟩ := hrow
  have hl : L.length = qs.length := by rw [← h2, List.length_map]
  have hzw : noWords (Value.agg #[.bool false, .slice none 0 0, .slice none 0 0]).cells.toList := by
    intro u hu k
    simp [Value.cells] at hu
    rcases hu with rfl | rfl <;> simp
  refine wpList_append_clean w hgd s x t ho base e i (.agg #[.bool false, .slice none 0 0, .slice none 0 0]) 3 56 ht hi hz hsize hby rfl (by decide) v L.length (L.flatMap Fx.cells) hs h1.1 ad 1 1 (rx q a n c b m d).cells hx rfl hnews (cells_one _) (by unfold maxLen; omega) (by omega) hbase (by decide) h1.2 hzw (noWords_cells _) (noWords_flat _) ?_
  intro v' w' hown hgrow hcl
  refine h v' w' ⟨L ++ [rx q a n c b m d], ⟨by simpa [List.flatMap_append] using hown, hcl⟩, by rw [List.map_append, h2]; simp [rx_q], fun y hy => ?_⟩ hgrow (fun k hk => h1.base k hk) h1.2
  rcases List.mem_append.1 hy with hy | hy
  · exact ⟨Fx.aside (h3 y hy).1 h1.2 hgrow, (h3 y hy).2⟩
  · rw [List.mem_singleton.1 hy]
    exact ⟨⟨ha.aside h1.2 hgrow, hb.aside h1.2 hgrow⟩, rx_right _ _ _ _ _ _ _⟩
theorem rx_news (w : World) (q : Rat) (a : Option Addr) (n c : Nat) (b : Option Addr) (m d : Nat) (e : TypeId) : ∀ j u, (rx q a n c b m d).cells[j]? = some u → (w.alloc (.cells #[.bool (zneg q.num), .slice a n c, .slice b m d] e)).cell? ((⟨w.heap.size, 0, none⟩ : Addr).add j) = some u := cells_news w (rx q a n c b m d) e
end Go.Proofs.YtpjkhbfglgmnmaaGreatDoor

/-
  Rows of rows of fractions in memory; how long the fractions of a row become; sums of many rows. Of no program.
-/
namespace Go.Proofs.YtpjkhbfglgmnmaaGreatDoor
open Go.RowKit

/-- In the world w the slice ⟨a, n, cap⟩ of slices holds just these rows of fractions. -/
def Fxss (w : World) (a : Option Addr) (n cap : Nat) (ls : List (List Fx)) : Prop :=
  ls.length = n ∧ n ≤ cap ∧ cap ≤ 9223372036854775807 ∧ (a = none → cap = 0) ∧ (n = 0 ∨ ∃ b off, a = some ⟨b, off, none⟩ ∧ ∀ j, j < n → ∃ a' n' c', w.cell? ⟨b, off + j, none⟩ = some (.slice a' n' c') ∧ Fxs w a' n' c' (ls.getD j []))
theorem Fxss.len {w : World} {a : Option Addr} {n cap : Nat} {l : List (List Fx)} (h : Fxss w a n cap l) : l.length = n := h.1
theorem Fxss.bound {w : World} {a : Option Addr} {n cap : Nat} {l : List (List Fx)} (h : Fxss w a n cap l) : n ≤ cap ∧ cap ≤ 9223372036854775807 := ⟨h.2.1, h.2.2.1⟩
theorem Fxss.at {w : World} {a : Option Addr} {n cap : Nat} {l : List (List Fx)} (h : Fxss w a n cap l) {j : Nat} (hj : j < n) : ∃ b off, a = some ⟨b, off, none⟩ ∧ ∃ a' n' c', w.cell? ⟨b, off + j, none⟩ = some (.slice a' n' c') ∧ Fxs w a' n' c' (l.getD j []) := by
  rcases h.2.2.2.2 with h0 | ⟨b, off, e, hc⟩
  · omega
  · exact ⟨b, off, e, hc j hj⟩
theorem Fxss.later {w w' : World} {a : Option Addr} {n cap : Nat} {l : List (List Fx)} (h : Fxss w a n cap l) (hb : Below w.heap.size w w') : Fxss w' a n cap l :=
  ⟨h.1, h.2.1, h.2.2.1, h.2.2.2.1, h.2.2.2.2.imp id fun ⟨b, off, e, hc⟩ => ⟨b, off, e, fun j hj => by
    obtain ⟨a', n', c', h1, h2⟩ := hc j hj
    exact ⟨a', n', c', cell_later hb h1, h2.later hb⟩⟩⟩
theorem Fxss.ofNil (w : World) : Fxss w none 0 0 [] := ⟨rfl, Nat.le_refl _, by omega, fun _ => rfl, .inl rfl⟩
theorem Fxss.lit2 (w : World) (e : TypeId) {a1 a2 : Option Addr} {n1 n2 c1 c2 : Nat} {l1 l2 : List Fx} (h1 : Fxs w a1 n1 c1 l1) (h2 : Fxs w a2 n2 c2 l2) :
    Fxss (w.alloc (.cells #[.slice a1 n1 c1, .slice a2 n2 c2] e)) (some ⟨w.heap.size, 0, none⟩) 2 2 [l1, l2] := by
  have hb : Below w.heap.size w (w.alloc (.cells #[.slice a1 n1 c1, .slice a2 n2 c2] e)) := (Below.refl _ _).alloc (Nat.le_refl _) _
  refine ⟨rfl, Nat.le_refl _, by omega, fun h => (by cases h), .inr ⟨w.heap.size, 0, rfl, fun j hj => ?_⟩⟩
  match j, hj with
  | 0, _ => exact ⟨a1, n1, c1, by simp, h1.later hb⟩
  | 1, _ => exact ⟨a2, n2, c2, by simp, h2.later hb⟩
/-- Of at most N words each. -/
def thin (N : Nat) (L : List Fx) : Prop := ∀ x ∈ L, x.n ≤ N ∧ x.m ≤ N
theorem thin.mono {M N : Nat} {L : List Fx} (h : thin M L) (hn : M ≤ N) : thin N L := fun x hx => ⟨Nat.le_trans (h x hx).1 hn, Nat.le_trans (h x hx).2 hn⟩
theorem Fx.ok.fr {w : World} {x : Fx} {N : Nat} (h : x.ok w) (hn : x.n ≤ N) (hm : x.m ≤ N) : Fr w (frV x.s x.a x.n x.c x.b x.m x.d) x.q N := Fr.of h.1 h.2 hn hm rfl
/-- Their values. -/
def fqs (L : List Fx) : List Rat := L.map Fx.q
theorem fqs_length (L : List Fx) : (fqs L).length = L.length := List.length_map _
theorem fqs_at (L : List Fx) (j : Nat) (hj : j < L.length) : (fqs L)[j]? = some (L.getD j Fx.zero).q := by
  unfold fqs
  rw [List.getElem?_map, List.getD_eq_getElem?_getD, List.getElem?_eq_getElem hj]; rfl
theorem Rw.thin {w : World} {a : Option Addr} {n cap : Nat} {qs : List Rat} (h : Rw w a n cap qs) {N : Nat} (hq : ∀ q ∈ qs, qlen q ≤ N) : ∃ L, Fxs w a n cap L ∧ fqs L = qs ∧ Go.Proofs.YtpjkhbfglgmnmaaGreatDoor.thin N L := by
  obtain ⟨L, h1, h2, h3⟩ := h
  refine ⟨L, h1, h2, fun x hx => ?_⟩
  obtain ⟨h4, h5, h6⟩ := h3 x hx
  have h7 := hq x.q (h2 ▸ List.mem_map.2 ⟨x, hx, rfl⟩)
  obtain ⟨h8, h9⟩ := h1.ok hx
  have := h8.len
  have := h9.len
  have := qlen_num x.q
  have := qlen_den x.q
  rw [h5] at *
  rw [h6] at *
  constructor <;> omega
/-- The sum of rows of one length. -/
def raddAll : List (List Rat) → List Rat
  | [] => []
  | l :: r => r.foldl radd l
/-- Have they all one length? -/
def even (LL : List (List Rat)) : Prop := ∀ x ∈ LL, ∀ y ∈ LL, x.length = y.length
instance (LL : List (List Rat)) : Decidable (even LL) := by unfold even; infer_instance
/-- A row of noughts, with a 1 at a place. -/
def rcut (n : Int) : Nat := (min n 300).toNat
def runit (k : Nat) (i : Int) : List Rat := if 0 ≤ i ∧ i < k then (List.replicate k 0).set i.toNat 1 else List.replicate k 0
/-- The sum of rows, each taken so many times. -/
def rmix : List Rat → List Rat → List (List Rat) → List Rat
  | s, c :: cs, l :: ls => rmix (radd s (rscale c l)) cs ls
  | s, _, _ => s
end Go.Proofs.YtpjkhbfglgmnmaaGreatDoor

/-
  Rows of fractions: what lies at a place; a row's first so many; copies of fractions that are any. Of no program.
-/
namespace Go.Proofs.YtpjkhbfglgmnmaaGreatDoor
open Go.RowKit

theorem fx_mem {L : List Fx} {k : Nat} (h : k < L.length) : L.getD k Fx.zero ∈ L := by
  rw [List.getD_eq_getElem?_getD, List.getElem?_eq_getElem h]; exact List.getElem_mem h
theorem fx_more {L : List Fx} {k : Nat} (h : k < L.length) : L.take (k + 1) = L.take k ++ [L.getD k Fx.zero] := by
  rw [List.take_succ_eq_append_getElem h, List.getD_eq_getElem?_getD, List.getElem?_eq_getElem h]; rfl
theorem q_mem {L : List Rat} {k : Nat} (h : k < L.length) : L.getD k 0 ∈ L := by
  rw [List.getD_eq_getElem?_getD, List.getElem?_eq_getElem h]; exact List.getElem_mem h
theorem q_more {L : List Rat} {k : Nat} (h : k < L.length) : L.take (k + 1) = L.take k ++ [L.getD k 0] := by
  rw [List.take_succ_eq_append_getElem h, List.getD_eq_getElem?_getD, List.getElem?_eq_getElem h]; rfl
theorem fqs_getD {L : List Fx} {k : Nat} (h : k < L.length) : (fqs L).getD k 0 = (L.getD k Fx.zero).q := by
  rw [List.getD_eq_getElem?_getD, fqs_at L k h]; rfl
theorem take_len {α : Type} {L : List α} {k : Nat} (h : k ≤ L.length) : (L.take k).length = k := by rw [List.length_take]; omega
theorem three_on {w w' : World} {p q r : Addr} {x y z : Value} (h : w.cell? p = some x ∧ w.cell? q = some y ∧ w.cell? r = some z) (hb : Below w.heap.size w w') : w'.cell? p = some x ∧ w'.cell? q = some y ∧ w'.cell? r = some z := ⟨cell_later hb h.1, cell_later hb h.2.1, cell_later hb h.2.2⟩
/-- What lies at a place of a row of right fractions. -/
theorem Rw.at {w : World} {a : Option Addr} {n cap : Nat} {qs : List Rat} (h : Rw w a n cap qs) {j : Nat} (hj : j < n) : ∃ b off, a = some ⟨b, off, none⟩ ∧ ∃ (a' : Option Addr) (n' c' : Nat) (b' : Option Addr) (m' d' : Nat),
    (w.cell? ⟨b, off + j * 3, none⟩ = some (.bool (zneg (qs.getD j 0).num)) ∧ w.cell? ⟨b, off + j * 3 + 1, none⟩ = some (.slice a' n' c') ∧ w.cell? ⟨b, off + j * 3 + 2, none⟩ = some (.slice b' m' d')) ∧
    Wd w a' n' c' (dg (qs.getD j 0).num.natAbs) ∧ Wd w b' m' d' (dg (qs.getD j 0).den) := by
  obtain ⟨L, h1, h2, h3⟩ := h
  obtain ⟨b, off, rfl, e0, e1, e2, hok⟩ := h1.at hj
  have hl : j < L.length := by rw [h1.len]; exact hj
  have hq : qs.getD j 0 = (L.getD j Fx.zero).q := by rw [← h2]; exact fqs_getD hl
  obtain ⟨r1, r2, r3⟩ := h3 _ (fx_mem hl)
  rw [hq, ← r1, ← r2, ← r3]
  exact ⟨b, off, rfl, _, _, _, _, _, _, ⟨e0, e1, e2⟩, hok.1, hok.2⟩
theorem Rw.bound {w : World} {a : Option Addr} {n cap : Nat} {qs : List Rat} (h : Rw w a n cap qs) : n ≤ cap ∧ cap ≤ 9223372036854775807 := by
  obtain ⟨L, h1, _⟩ := h
  exact h1.bound
theorem Rw.nil (w : World) : Rw w none 0 0 [] := ⟨[], ⟨rfl, Nat.le_refl _, by omega, fun _ => rfl, fun x hx => by (simp at hx), .inl rfl⟩, rfl, fun x hx => by simp at hx⟩
/-- Copies of fractions, side by side in a row of the call's own. -/
def Cop (w : World) (base : Nat) (e : TypeId) (v : Value) (L : List Fx) : Prop := OwnC w base e v L ∧ ∀ x ∈ L, x.ok w
theorem Cop.nil (w : World) (base : Nat) (e : TypeId) : Cop w base e (.slice none 0 0) [] := ⟨OwnC.nil _ _ _, fun x hx => by simp at hx⟩
theorem Cop.later {w w' : World} {base : Nat} {e : TypeId} {v : Value} {L : List Fx} (h : Cop w base e v L) (hb : Below w.heap.size w w') : Cop w' base e v L := ⟨h.1.later hb, fun x hx => (h.2 x hx).later hb⟩
theorem Cop.out {w : World} {base : Nat} {e : TypeId} {v : Value} {L : List Fx} (h : Cop w base e v L) : ∃ (a : Option Addr) (cap : Nat), v = .slice a L.length cap ∧ Fxs w a L.length cap L := h.1.slice h.2
theorem wpList_append_cop {P : Program} (w : World) {ops : Array Oper} {rest : List Oper} {o : Oper} {act : Act} {Q : Exit → Act → World → Prop} (hgd : o.guard = none) (s x : Operand) (t : TypeId)
    (ho : o.op = .call { callee := .builtin .append, args := #[s, x], argTypes := #[t, t] })
    (base : Nat) (e : TypeId) (i : TypeInfo) (ht : P.underlying t = some (.slice e)) (hi : P.info? e = some i) (hz : i.zero = some (.agg #[.bool false, .slice none 0 0, .slice none 0 0]))
    (hsize : i.size = 3) (hby : i.bytes = 56) (v : Value) (L : List Fx) (hs : act.eval s = v) (hrow : Cop w base e v L)
    (ad : Addr) (y : Fx) (hx : act.eval x = .slice (some ad) 1 1)
    (hnews : ∀ j u, y.cells[j]? = some u → w.cell? (ad.add j) = some u) (hy : y.ok w)
    (hlen : L.length ≤ 1000000) (hbase : base ≤ w.heap.size)
    (h : ∀ v' w', Cop w' base e v' (L ++ [y]) → w.grownBy w' v.ownBlock → (∀ k, v.ownBlock = some k → base ≤ k) → clean w v → wpList P ops Q rest (act.put o.dst v') w') : wpList P ops Q (o :: rest) act w := by
  obtain ⟨h1, h3⟩ := hrow
  have hzw : noWords (Value.agg #[.bool false, .slice none 0 0, .slice none 0 0]).cells.toList := by
    intro u hu k
    simp [Value.cells] at hu
    rcases hu with rfl | rfl <;> simp
  refine wpList_append_clean w hgd s x t ho base e i (.agg #[.bool false, .slice none 0 0, .slice none 0 0]) 3 56 ht hi hz hsize hby rfl (by decide) v L.length (L.flatMap Fx.cells) hs h1.1 ad 1 1 y.cells hx rfl hnews (cells_one _) (by unfold maxLen; omega) (by omega) hbase (by decide) h1.2 hzw (noWords_cells _) (noWords_flat _) ?_
  intro v' w' hown hgrow hcl
  refine h v' w' ⟨⟨by simpa [List.flatMap_append] using hown, hcl⟩, fun z hz => ?_⟩ hgrow (fun k hk => h1.base k hk) h1.2
  rcases List.mem_append.1 hz with hz | hz
  · exact Fx.aside (h3 z hz) h1.2 hgrow
  · rw [List.mem_singleton.1 hz]
    exact Fx.aside hy h1.2 hgrow
theorem clean_store {w : World} {g k cap j : Nat} {u x : Value} (h : clean w (.slice (some ⟨g, 0, none⟩) k cap)) (hx : w.cell? ⟨g, j, none⟩ = some x) (hu : ∀ y : Int, u ≠ .int .u32 y) : clean (w.setCell ⟨g, j, none⟩ u) (.slice (some ⟨g, 0, none⟩) k cap) := by
  intro g' hg' i y hc
  have h2 := h g' hg' i y
  simp [Value.ownBlock] at hg'
  subst hg'
  by_cases hij : i = j
  · subst hij
    rw [World.cell?_setCell_same _ _ _ hx] at hc
    exact hu y (Option.some.inj hc)
  · rw [World.cell?_setCell_other _ ⟨g, j, none⟩ ⟨g, i, none⟩ _ (fun e => hij (congrArg Addr.off e).symm)] at hc
    exact h2 hc
theorem fr_flat_set : ∀ (L : List Fx) (i : Nat) (x : Fx), i < L.length → (L.set i x).flatMap Fx.cells = (((L.flatMap Fx.cells).set (i * 3) (.bool x.s)).set (i * 3 + 1) (.slice x.a x.n x.c)).set (i * 3 + 2) (.slice x.b x.m x.d)
  | [], _, _, h => by simp at h
  | y :: L, 0, x, _ => by simp [Fx.cells]
  | y :: L, i + 1, x, h => by
    have h1 := fr_flat_set L i x (by simpa using h)
    have h2 : (y :: L).flatMap Fx.cells = .bool y.s :: .slice y.a y.n y.c :: .slice y.b y.m y.d :: L.flatMap Fx.cells := by simp [Fx.cells]
    rw [h2, List.set_cons_succ, List.flatMap_cons, h1]
    have e0 : (i + 1) * 3 = i * 3 + 1 + 1 + 1 := by omega
    rw [e0]
    simp [Fx.cells]
/-- A fraction put at a place of a row of the call's own. -/
theorem Row.stored {w : World} {base : Nat} {e : TypeId} {g k cap : Nat} {qs : List Rat} (h : Row w base e (.slice (some ⟨g, 0, none⟩) k cap) qs) (hk : k = qs.length) {i : Nat} (hi : i < qs.length) (q : Rat) (a : Option Addr) (n c : Nat) (b : Option Addr) (m d : Nat) (ha : Wd w a n c (dg q.num.natAbs)) (hb : Wd w b m d (dg q.den)) :
    Row (((w.setCell ⟨g, i * 3, none⟩ (.bool (zneg q.num))).setCell ⟨g, i * 3 + 1, none⟩ (.slice a n c)).setCell ⟨g, i * 3 + 2, none⟩ (.slice b m d)) base e (.slice (some ⟨g, 0, none⟩) k cap) (qs.set i q) ∧
    w.grownBy (((w.setCell ⟨g, i * 3, none⟩ (.bool (zneg q.num))).setCell ⟨g, i * 3 + 1, none⟩ (.slice a n c)).setCell ⟨g, i * 3 + 2, none⟩ (.slice b m d)) (some g) := by
  obtain ⟨L, ⟨h1, h2⟩, h3, h4⟩ := h
  have hL : L.length = qs.length := by rw [← h3, List.length_map]
  have hkL : k = L.length := hk.trans hL.symm
  subst hkL
  have hf := flat_length L
  obtain ⟨c0, c1, c2⟩ := flat_at L i (by omega)
  have p0 := h1.cellAt (i * 3) (by omega)
  have p1 := h1.cellAt (i * 3 + 1) (by omega)
  have p2 := h1.cellAt (i * 3 + 2) (by omega)
  rw [c0] at p0; rw [c1] at p1; rw [c2] at p2
  obtain ⟨s0, g0⟩ := h1.stored (i * 3) (.bool (zneg q.num))
  obtain ⟨s1, g1⟩ := s0.stored (i * 3 + 1) (.slice a n c)
  obtain ⟨s2, g2⟩ := s1.stored (i * 3 + 2) (.slice b m d)
  have l0 := clean_store (j := i * 3) (u := .bool (zneg q.num)) h2 p0 (fun y e => by cases e)
  have l1 := clean_store (j := i * 3 + 1) (u := .slice a n c) l0 ((World.cell?_setCell_other _ ⟨g, i * 3, none⟩ ⟨g, i * 3 + 1, none⟩ _ (fun e => by simp at e)).trans p1) (fun y e => by cases e)
  have l2 := clean_store (j := i * 3 + 2) (u := .slice b m d) l1 (((World.cell?_setCell_other _ ⟨g, i * 3 + 1, none⟩ ⟨g, i * 3 + 2, none⟩ _ (fun e => by simp at e)).trans (World.cell?_setCell_other _ ⟨g, i * 3, none⟩ ⟨g, i * 3 + 2, none⟩ _ (fun e => by simp at e))).trans p2) (fun y e => by cases e)
  have hg := (g0.trans g1).trans g2
  refine ⟨⟨L.set i (rx q a n c b m d), ⟨?_, l2⟩, ?_, fun x hx => ?_⟩, hg⟩
  · rw [fr_flat_set L i _ (by omega), List.length_set]
    exact s2
  · rw [List.map_set, rx_q, h3]
  · rcases List.mem_or_eq_of_mem_set hx with hx | rfl
    · exact ⟨Fx.aside (h4 x hx).1 h2 hg, (h4 x hx).2⟩
    · exact ⟨⟨ha.aside h2 hg, hb.aside h2 hg⟩, rx_right _ _ _ _ _ _ _⟩
theorem Row.block {w : World} {base : Nat} {e : TypeId} {v : Value} {qs : List Rat} (h : Row w base e v qs) : ∀ k, v.ownBlock = some k → base ≤ k ∧ k < w.heap.size := by
  obtain ⟨L, h1, _⟩ := h
  exact h1.1.lt
/-- A row that nobody else holds comes back. -/
def LstRow (e9 : TypeId) (qs : List Rat) (w : World) (e : Ending) (w' : World) : Prop := ∃ v, e = .returned v ∧ Row w' w.heap.size e9 v qs ∧ Below w.heap.size w w'
theorem LstRow.out {e9 : TypeId} {qs : List Rat} {w w' : World} {e : Ending} (h : LstRow e9 qs w e w') : LstRw qs w e w' := by
  obtain ⟨v, rfl, h, hb⟩ := h
  obtain ⟨a, cap, rfl, h9⟩ := h.out
  exact ⟨a, _, cap, rfl, h9, hb⟩
def thinI (N : Int) (L : List Fx) : Prop := ∀ x ∈ L, (x.n : Int) ≤ N ∧ (x.m : Int) ≤ N
theorem thinI.out {N : Nat} {L : List Fx} (h : thinI (N : Int) L) : thin N L := fun x hx => by
  have := h x hx
  omega
theorem Row.whole {w : World} {base : Nat} {e : TypeId} {v : Value} {T : List Rat} {k : Nat} (h : Row w base e v (T.take k)) (hk : T.length = k) : Row w base e v T := by
  rwa [List.take_of_length_le (Nat.le_of_eq hk)] at h
theorem Cop.whole {w : World} {base : Nat} {e : TypeId} {v : Value} {T : List Fx} {k : Nat} (h : Cop w base e v (T.take k)) (hk : T.length = k) : Cop w base e v T := by
  rwa [List.take_of_length_le (Nat.le_of_eq hk)] at h
theorem Row.form {w : World} {base : Nat} {e : TypeId} {v : Value} {qs : List Rat} (h : Row w base e v qs) (hn : 0 < qs.length) : ∃ g cap, v = .slice (some ⟨g, 0, none⟩) qs.length cap ∧ base ≤ g ∧ g < w.heap.size := by
  obtain ⟨L, ⟨h1, _⟩, h3, _⟩ := h
  have hL : L.length = qs.length := by rw [← h3, List.length_map]
  obtain ⟨g, cap, h5, h6, h7⟩ := h1.form (by omega)
  exact ⟨g, cap, by rw [h5, hL], h6, h7⟩
/-- The cells of a row of the call's own can be written. -/
theorem Row.free {w : World} {base : Nat} {e : TypeId} {g k cap : Nat} {qs : List Rat} (h : Row w base e (.slice (some ⟨g, 0, none⟩) k cap) qs) (hk : k = qs.length) {i : Nat} (hi : i < qs.length) :
    ∃ x y z, (w.cell? ⟨g, i * 3, none⟩ = some x ∧ w.cell? ⟨g, i * 3 + 1, none⟩ = some y ∧ w.cell? ⟨g, i * 3 + 2, none⟩ = some z) ∧ w.frozen? ⟨g, i * 3, none⟩ = false ∧ w.frozen? ⟨g, i * 3 + 1, none⟩ = false ∧ w.frozen? ⟨g, i * 3 + 2, none⟩ = false := by
  obtain ⟨L, ⟨h1, _⟩, h3, _⟩ := h
  have hL : L.length = qs.length := by rw [← h3, List.length_map]
  have hkL : k = L.length := hk.trans hL.symm
  subst hkL
  obtain ⟨c0, c1, c2⟩ := flat_at L i (by omega)
  have p0 := h1.cellAt (i * 3) (by omega)
  have p1 := h1.cellAt (i * 3 + 1) (by omega)
  have p2 := h1.cellAt (i * 3 + 2) (by omega)
  rw [c0] at p0; rw [c1] at p1; rw [c2] at p2
  exact ⟨_, _, _, ⟨p0, p1, p2⟩, h1.frozenAt _, h1.frozenAt _, h1.frozenAt _⟩
end Go.Proofs.YtpjkhbfglgmnmaaGreatDoor

/-
  A made row of fractions that is filled place by place: the fractions so far, noughts (empty ones) behind. Of no program.
-/
namespace Go.Proofs.YtpjkhbfglgmnmaaGreatDoor
open Go.RowKit

def zcells : Array Value := #[.bool false, .slice none 0 0, .slice none 0 0]
theorem flat_zeros : ∀ n : Nat, (madeCells zcells (n * 3)).toList = (List.replicate n Fx.zero).flatMap Fx.cells := by
  intro n
  refine List.ext_getElem? fun j => ?_
  have hf := flat_length (List.replicate n Fx.zero)
  rw [List.length_replicate] at hf
  by_cases hj : j < n * 3
  · obtain ⟨q, r, rfl, hr⟩ : ∃ q r, j = q * 3 + r ∧ r < 3 := ⟨j / 3, j % 3, by omega, by omega⟩
    have hq : q < n := by omega
    obtain ⟨c0, c1, c2⟩ := flat_at (List.replicate n Fx.zero) q (by rw [List.length_replicate]; exact hq)
    have hz : (List.replicate n Fx.zero).getD q Fx.zero = Fx.zero := by
      rw [List.getD_eq_getElem?_getD, List.getElem?_replicate]; split <;> rfl
    rw [hz] at c0 c1 c2
    have hl : (madeCells zcells (n * 3)).toList[q * 3 + r]? = some (zcells[r]!) := by
      have h3 : (q * 3 + r) % zcells.size = r := by
        show (q * 3 + r) % 3 = r
        omega
      simp only [madeCells, Array.toList_map, Array.toList_range, List.getElem?_map, List.getElem?_range hj, Option.map_some, h3]
    rw [hl]
    match r, hr with
    | 0, _ => exact c0.symm
    | 1, _ => exact c1.symm
    | 2, _ => exact c2.symm
  · rw [List.getElem?_eq_none (by rw [Array.length_toList, size_madeCells]; omega), List.getElem?_eq_none (by omega)]
/-- A made row: the fractions L so far, r empty ones behind. -/
def HalfC (w : World) (base : Nat) (e : TypeId) (v : Value) (L : List Fx) (r : Nat) : Prop := OwnC w base e v (L ++ List.replicate r Fx.zero) ∧ ∀ x ∈ L, x.ok w
theorem HalfC.later {w w' : World} {base : Nat} {e : TypeId} {v : Value} {L : List Fx} {r : Nat} (h : HalfC w base e v L r) (hb : Below w.heap.size w w') : HalfC w' base e v L r := ⟨h.1.later hb, fun x hx => (h.2 x hx).later hb⟩
theorem HalfC.done {w : World} {base : Nat} {e : TypeId} {v : Value} {L : List Fx} (h : HalfC w base e v L 0) : Cop w base e v L := by
  obtain ⟨h1, h2⟩ := h
  rw [List.replicate_zero, List.append_nil] at h1
  exact ⟨h1, h2⟩
theorem halfC_made (w : World) (base : Nat) (e : TypeId) (n : Nat) (hn : n ≤ maxLen) (hb : base ≤ w.heap.size) :
    HalfC (w.alloc (.cells (madeCells zcells (n * 3)) e)) base e (.slice (some ⟨w.heap.size, 0, none⟩) n n) [] n := by
  have hh := heap_alloc_new w (.cells (madeCells zcells (n * 3)) e)
  have hf := flat_length (List.replicate n Fx.zero)
  rw [List.length_replicate] at hf
  refine ⟨⟨?_, clean_block hh ?_⟩, fun x hx => by simp at hx⟩
  · rw [List.nil_append, List.length_replicate]
    refine ⟨hf, .inr ⟨w.heap.size, n, madeCells zcells (n * 3), rfl, hb, hh, Nat.le_refl _, hn, size_madeCells _ _, ?_⟩⟩
    rw [flat_zeros, List.take_of_length_le (Nat.le_of_eq hf)]
  · rw [flat_zeros]
    exact noWords_flat _
theorem wpList_make_fracs {P : Program} (w : World) {ops : Array Oper} {rest : List Oper} {o : Oper} {a : Act} {Q : Exit → Act → World → Prop}
    (hg : o.guard = none) (l c : Operand) (t : TypeId) (hop : o.op = Op.makeSlice t l c)
    (base : Nat) (e : TypeId) (i : TypeInfo) (h1 : P.underlying t = some (.slice e)) (h2 : P.info? e = some i) (h3 : i.zero = some (.agg #[.bool false, .slice none 0 0, .slice none 0 0])) (h4 : i.size = 3) (h5 : i.bytes = 56)
    (kl kc : IntKind) (L C : Int) (n : Nat) (hl : a.eval l = .int kl L) (hc : a.eval c = .int kc C) (hL : L = (n : Int)) (hC : C = (n : Int)) (b3 : n ≤ 1000000) (b4 : base ≤ w.heap.size)
    (hK : ∀ w', HalfC w' base e (.slice (some ⟨w.heap.size, 0, none⟩) n n) [] n → w.grownBy w' none → w'.heap.size = w.heap.size + 1 → wpList P ops Q rest (a.put o.dst (.slice (some ⟨w.heap.size, 0, none⟩) n n)) w') :
    wpList P ops Q (o :: rest) a w := by
  refine wpList_plain hg fun K hK' => ?_
  have hb' : (i.bytes : Int) * (n : Int) ≤ 281474976710656 := by rw [h5]; omega
  have hrun := run_make (P := P) w t e i _ h1 h2 h3 kl kc n n (by omega) (by omega) hb' (by omega)
  simp only [Int.toNat_natCast, h4] at hrun
  subst hL
  subst hC
  unfold Oper.wp
  simp [execOp, hop, hl, hc, hrun, Result.andThen]
  exact hK' _ _ (hK _ (halfC_made w base e n (by unfold maxLen; omega) b4) (World.grownBy_alloc w _ none) (World.size_alloc _ _))
theorem owns_len {w : World} {base : Nat} {e : TypeId} {g n cap K : Nat} {xs : List Value} (h1 : w.ownsRow base e 3 (.slice (some ⟨g, 0, none⟩) n cap) K xs) : n = K := by
  rcases h1.2 with ⟨e1, e2⟩ | ⟨g', cap', cur, e1, _⟩
  · cases e1
  · simp only [Value.slice.injEq] at e1
    exact e1.2.1
theorem half_cell {w : World} {base : Nat} {e : TypeId} {g n cap : Nat} {L : List Fx} {r : Nat} (h : HalfC w base e (.slice (some ⟨g, 0, none⟩) n cap) L (r + 1)) {k : Nat} (hk : k = L.length) :
    (w.cell? ⟨g, k * 3, none⟩ = some (.bool false) ∧ w.cell? ⟨g, k * 3 + 1, none⟩ = some (.slice none 0 0) ∧ w.cell? ⟨g, k * 3 + 2, none⟩ = some (.slice none 0 0)) ∧ w.frozen? ⟨g, k * 3, none⟩ = false ∧ w.frozen? ⟨g, k * 3 + 1, none⟩ = false ∧ w.frozen? ⟨g, k * 3 + 2, none⟩ = false := by
  obtain ⟨⟨h1, _⟩, _⟩ := h
  subst hk
  obtain rfl := owns_len h1
  have hl : (L ++ List.replicate (r + 1) Fx.zero).length = L.length + (r + 1) := by rw [List.length_append, List.length_replicate]
  have hz : (L ++ List.replicate (r + 1) Fx.zero).getD L.length Fx.zero = Fx.zero := by
    rw [List.getD_eq_getElem?_getD, List.getElem?_append_right (Nat.le_refl _), Nat.sub_self]; rfl
  obtain ⟨c0, c1, c2⟩ := flat_at (L ++ List.replicate (r + 1) Fx.zero) L.length (by omega)
  rw [hz] at c0 c1 c2
  have hf := flat_length (L ++ List.replicate (r + 1) Fx.zero)
  have p0 := h1.cellAt (L.length * 3) (by omega)
  have p1 := h1.cellAt (L.length * 3 + 1) (by omega)
  have p2 := h1.cellAt (L.length * 3 + 2) (by omega)
  rw [c0] at p0; rw [c1] at p1; rw [c2] at p2
  exact ⟨⟨p0, p1, p2⟩, h1.frozenAt _, h1.frozenAt _, h1.frozenAt _⟩
/-- The next fraction put at its place. -/
theorem HalfC.stored {w : World} {base : Nat} {e : TypeId} {g n cap : Nat} {L : List Fx} {r : Nat} (h : HalfC w base e (.slice (some ⟨g, 0, none⟩) n cap) L (r + 1)) {k : Nat} (hk : k = L.length) (x : Fx) (hx : x.ok w) :
    HalfC (((w.setCell ⟨g, k * 3, none⟩ (.bool x.s)).setCell ⟨g, k * 3 + 1, none⟩ (.slice x.a x.n x.c)).setCell ⟨g, k * 3 + 2, none⟩ (.slice x.b x.m x.d)) base e (.slice (some ⟨g, 0, none⟩) n cap) (L ++ [x]) r ∧
    w.grownBy (((w.setCell ⟨g, k * 3, none⟩ (.bool x.s)).setCell ⟨g, k * 3 + 1, none⟩ (.slice x.a x.n x.c)).setCell ⟨g, k * 3 + 2, none⟩ (.slice x.b x.m x.d)) (some g) := by
  obtain ⟨⟨p0, p1, p2⟩, -⟩ := half_cell h hk
  obtain ⟨⟨h1, h2⟩, h4⟩ := h
  subst hk
  have hl : (L ++ List.replicate (r + 1) Fx.zero).length = L.length + (r + 1) := by rw [List.length_append, List.length_replicate]
  obtain rfl := owns_len h1
  have hset : (L ++ List.replicate (r + 1) Fx.zero).set L.length x = (L ++ [x]) ++ List.replicate r Fx.zero := by
    rw [List.set_append_right _ _ (Nat.le_refl _), Nat.sub_self, List.replicate_succ, List.set_cons_zero, List.append_assoc]; rfl
  obtain ⟨s0, g0⟩ := h1.stored (L.length * 3) (.bool x.s)
  obtain ⟨s1, g1⟩ := s0.stored (L.length * 3 + 1) (.slice x.a x.n x.c)
  obtain ⟨s2, g2⟩ := s1.stored (L.length * 3 + 2) (.slice x.b x.m x.d)
  have l0 := clean_store (j := L.length * 3) (u := .bool x.s) h2 p0 (fun y e => by cases e)
  have l1 := clean_store (j := L.length * 3 + 1) (u := .slice x.a x.n x.c) l0 ((World.cell?_setCell_other _ ⟨g, L.length * 3, none⟩ ⟨g, L.length * 3 + 1, none⟩ _ (fun e => by simp at e)).trans p1) (fun y e => by cases e)
  have l2 := clean_store (j := L.length * 3 + 2) (u := .slice x.b x.m x.d) l1 (((World.cell?_setCell_other _ ⟨g, L.length * 3 + 1, none⟩ ⟨g, L.length * 3 + 2, none⟩ _ (fun e => by simp at e)).trans (World.cell?_setCell_other _ ⟨g, L.length * 3, none⟩ ⟨g, L.length * 3 + 2, none⟩ _ (fun e => by simp at e))).trans p2) (fun y e => by cases e)
  have hg := (g0.trans g1).trans g2
  refine ⟨⟨⟨?_, l2⟩, fun y hy => ?_⟩, hg⟩
  · rw [← hset, fr_flat_set _ _ _ (by omega), List.length_set]
    exact s2
  · rcases List.mem_append.1 hy with hy | hy
    · exact Fx.aside (h4 y hy) h2 hg
    · rw [List.mem_singleton.1 hy]
      exact Fx.aside hx h2 hg
/-- A made row: right fractions so far. -/
def Half (w : World) (base : Nat) (e : TypeId) (v : Value) (qs : List Rat) (r : Nat) : Prop := ∃ L, HalfC w base e v L r ∧ L.map Fx.q = qs ∧ ∀ x ∈ L, x.right
theorem Half.later {w w' : World} {base : Nat} {e : TypeId} {v : Value} {qs : List Rat} {r : Nat} (h : Half w base e v qs r) (hb : Below w.heap.size w w') : Half w' base e v qs r := by
  obtain ⟨L, h1, h2, h3⟩ := h
  exact ⟨L, h1.later hb, h2, h3⟩
theorem Half.start {w : World} {base : Nat} {e : TypeId} {v : Value} {r : Nat} (h : HalfC w base e v [] r) : Half w base e v [] r := ⟨[], h, rfl, fun x hx => by simp at hx⟩
theorem Half.done {w : World} {base : Nat} {e : TypeId} {v : Value} {qs : List Rat} (h : Half w base e v qs 0) : Row w base e v qs := by
  obtain ⟨L, h1, h2, h3⟩ := h
  exact ⟨L, h1.done.1, h2, fun x hx => ⟨h1.done.2 x hx, h3 x hx⟩⟩
theorem Half.cell {w : World} {base : Nat} {e : TypeId} {g n cap : Nat} {qs : List Rat} {r : Nat} (h : Half w base e (.slice (some ⟨g, 0, none⟩) n cap) qs (r + 1)) {k : Nat} (hk : k = qs.length) :
    (w.cell? ⟨g, k * 3, none⟩ = some (.bool false) ∧ w.cell? ⟨g, k * 3 + 1, none⟩ = some (.slice none 0 0) ∧ w.cell? ⟨g, k * 3 + 2, none⟩ = some (.slice none 0 0)) ∧ w.frozen? ⟨g, k * 3, none⟩ = false ∧ w.frozen? ⟨g, k * 3 + 1, none⟩ = false ∧ w.frozen? ⟨g, k * 3 + 2, none⟩ = false := by
  obtain ⟨L, h1, h2, h3⟩ := h
  exact half_cell h1 (by rw [hk, ← h2, List.length_map])
theorem Half.stored {w : World} {base : Nat} {e : TypeId} {g n cap : Nat} {qs : List Rat} {r : Nat} (h : Half w base e (.slice (some ⟨g, 0, none⟩) n cap) qs (r + 1)) {k : Nat} (hk : k = qs.length) (q : Rat) (a : Option Addr) (m c : Nat) (b : Option Addr) (l d : Nat) (ha : Wd w a m c (dg q.num.natAbs)) (hb : Wd w b l d (dg q.den)) :
    Half (((w.setCell ⟨g, k * 3, none⟩ (.bool (zneg q.num))).setCell ⟨g, k * 3 + 1, none⟩ (.slice a m c)).setCell ⟨g, k * 3 + 2, none⟩ (.slice b l d)) base e (.slice (some ⟨g, 0, none⟩) n cap) (qs ++ [q]) r ∧
    w.grownBy (((w.setCell ⟨g, k * 3, none⟩ (.bool (zneg q.num))).setCell ⟨g, k * 3 + 1, none⟩ (.slice a m c)).setCell ⟨g, k * 3 + 2, none⟩ (.slice b l d)) (some g) := by
  obtain ⟨L, h1, h2, h3⟩ := h
  obtain ⟨h5, h6⟩ := h1.stored (k := k) (by rw [hk, ← h2, List.length_map]) (rx q a m c b l d) ⟨ha, hb⟩
  refine ⟨⟨L ++ [rx q a m c b l d], h5, by rw [List.map_append, h2]; simp [rx_q], fun y hy => ?_⟩, h6⟩
  rcases List.mem_append.1 hy with hy | hy
  · exact h3 y hy
  · rw [List.mem_singleton.1 hy]
    exact rx_right _ _ _ _ _ _ _
theorem Half.whole {w : World} {base : Nat} {e : TypeId} {v : Value} {T : List Rat} {k r : Nat} (h : Half w base e v (T.take k) r) (hk : T.length = k) (hr : r = 0) : Row w base e v T := by
  subst hr
  exact h.done.whole hk
end Go.Proofs.YtpjkhbfglgmnmaaGreatDoor

/-
  What package row's functions owe (layer 11), as one hypothesis: the contracts that the laws' walks lean on.
-/
namespace Go.Proofs.YtpjkhbfglgmnmaaGreatDoor
open Go.RowKit

structure RowSaid : Prop where
  zero : ∀ (n : Int) (w : World), isInt n → Calls Tryz.prog 55 #[.int .i64 n] w (LstRw (List.replicate (rcut n) 0) w)
  unit : ∀ (n i : Int) (w : World), isInt n → isInt i → Calls Tryz.prog 35 #[.int .i64 n, .int .i64 i] w (LstRw (runit (rcut n) i) w)
  same : ∀ (a : Option Addr) (n c : Nat) (L : List Fx) (b : Option Addr) (m d : Nat) (M : List Fx) (w : World), Fxs w a n c L → Fxs w b m d M → n ≤ 300 → m ≤ 300 → thin 1000 L → thin 1000 M → Calls Tryz.prog 42 #[.slice a n c, .slice b m d] w (Gives (.bool (decide (fqs L = fqs M))) w)
  add_yes : ∀ (a : Option Addr) (n c : Nat) (LL : List (List Fx)) (w : World), Fxss w a n c LL → n ≤ 10 → (∀ L ∈ LL, L.length ≤ 300 ∧ thin 100 L) → even (LL.map fqs) → Calls Tryz.prog 50 #[.slice a n c] w (LstRwV (raddAll (LL.map fqs)) (.bool true) w)
  add_no : ∀ (a : Option Addr) (n c : Nat) (LL : List (List Fx)) (w : World), Fxss w a n c LL → n ≤ 10 → (∀ L ∈ LL, L.length ≤ 300 ∧ thin 100 L) → ¬ even (LL.map fqs) → Calls Tryz.prog 50 #[.slice a n c] w (LstRwV [] (.bool false) w)
  scale : ∀ (v : Value) (q : Rat) (a : Option Addr) (n c : Nat) (L : List Fx) (w : World), Fr w v q 300 → Fxs w a n c L → n ≤ 300 → thin 300 L → Calls Tryz.prog 36 #[v, .slice a n c] w (LstRw (rscale q (fqs L)) w)
  dot_yes : ∀ (a : Option Addr) (n c : Nat) (L : List Fx) (b : Option Addr) (m d : Nat) (M : List Fx) (w : World), Fxs w a n c L → Fxs w b m d M → n ≤ 20 → m ≤ 20 → thin 30 L → thin 30 M → Hid (n = m) → Calls Tryz.prog 33 #[.slice a n c, .slice b m d] w (LstQV (rdot (fqs L) (fqs M)) (.bool true) w)
  dot_no : ∀ (a : Option Addr) (n c : Nat) (L : List Fx) (b : Option Addr) (m d : Nat) (M : List Fx) (w : World), Fxs w a n c L → Fxs w b m d M → n ≤ 20 → m ≤ 20 → thin 30 L → thin 30 M → Hid (n ≠ m) → Calls Tryz.prog 33 #[.slice a n c, .slice b m d] w (LstQV 0 (.bool false) w)
  dot_more : ∀ (a : Option Addr) (n c : Nat) (L : List Fx) (b : Option Addr) (m d : Nat) (M : List Fx) (N : Nat) (w : World), Fxs w a n c L → Fxs w b m d M → n ≤ 300 → thin N L → thin N M → Hid (n = m) → 1 + n * (N + N + 6) ≤ 2000 → N ≤ 900 → Calls Tryz.prog 33 #[.slice a n c, .slice b m d] w (LstQV (rdot (fqs L) (fqs M)) (.bool true) w)
  text : ∀ (a : Option Addr) (n c : Nat) (L : List Fx) (w : World), Fxs w a n c L → n ≤ 300 → thin 100 L → Hid (Dec10 w) → Calls Tryz.prog 38 #[.slice a n c] w (Gives (.string (bs (rowTxt (fqs L)))) w)
end Go.Proofs.YtpjkhbfglgmnmaaGreatDoor

/-
  What a row lists of the library's tables, wherever it stands on the list. Of no program.
-/
namespace Go.Proofs.YtpjkhbfglgmnmaaGreatDoor

theorem laidMet_rest {P : Program} {x : String × DataW Unit} {r : List (String × DataW Unit)} {w : World} (h : laidMet P (x :: r) w) : laidMet P r w := by
  obtain ⟨ps, hv, hnd, hrows⟩ := h
  obtain ⟨n, d⟩ := x
  obtain ⟨g, t, cs, fuel, p, q, _, _, _, _, hq, rfl⟩ := hv
  exact ⟨q, hq, List.Nodup.sublist (List.sublist_append_right _ _) hnd, fun b off hm => hrows b off (List.mem_append_right _ hm)⟩
theorem laidMet_drop {P : Program} {w : World} (k : Nat) {laid : List (String × DataW Unit)} (h : laidMet P laid w) : laidMet P (laid.drop k) w := by
  induction k generalizing laid with
  | zero => exact h
  | succ k ih =>
    cases laid with
    | nil => exact h
    | cons x r => exact ih (laidMet_rest h)
theorem tab_of_laid {P : Program} {W : World} {laid : List (String × DataW Unit)} {k : IntKind} {zs : List Int} {g : Nat} {t e : TypeId} {n : Nat} (K : Nat) (nm : String) (hl : laid.drop K = (nm, Lib.tabData k zs) :: laid.drop (K + 1))
    (hg : P.globalNamed nm = some g) (hty : (P.globals[g]?).map (·.type) = some t) (ht : P.underlying t = some (.array n e)) (he : P.underlying e = some (.int k)) (hce : P.cellsOf e = 1) (hct : P.cellsOf t = n)
    (h : laidMet P laid W) (name : String) (hn : P.globalNamed name = some g) : Lib.TabIs P W name k zs := by
  have h1 := laidMet_drop K h
  rw [hl] at h1
  have h2 := Lib.tabIs_of_head hg hty ht he hce hct h1
  unfold Lib.TabIs World.var? at h2 ⊢
  rw [hn]
  rwa [hg] at h2
end Go.Proofs.YtpjkhbfglgmnmaaGreatDoor

/-
  Package row at this seat: Zero, Unit.
-/
namespace Go.Proofs.YtpjkhbfglgmnmaaGreatDoor
open Go.RowKit

theorem infoFracR : (Tryz.prog.info? 58).map (fun i => (i.zero, i.size, i.bytes)) = some (some (.agg #[.bool false, .slice none 0 0, .slice none 0 0]), 3, 56) := by kernel_rfl
theorem rcut_lt9 {n : Int} : ((min (max n 0) 300 : Int) = ((rcut n : Nat) : Int)) := by unfold rcut; omega
theorem rcut_le9 (n : Int) : rcut n ≤ 300 := by unfold rcut; omega
theorem reps_more9 {k m : Nat} (h : k < m) : (List.replicate m (0 : Rat)).take (k + 1) = (List.replicate m (0 : Rat)).take k ++ [0] := by
  rw [List.take_replicate, List.take_replicate, Nat.min_eq_left (by omega), Nat.min_eq_left (by omega), List.replicate_succ']
set_option maxRecDepth 4096 in
set_option maxHeartbeats 4000000 in
theorem row_zero_row (z : Int) (w : World) (_hz : isInt z) : Calls Tryz.prog 55 #[.int .i64 z] w (LstRow 58 (List.replicate (rcut z) 0) w) := by
  obtain ⟨n, hnz⟩ : ∃ n, rcut z = n := ⟨_, rfl⟩
  have hn3 : n ≤ 300 := hnz ▸ rcut_le9 z
  have hM : (min (max z 0) 300 : Int) = (n : Int) := hnz ▸ rcut_lt9
  rw [hnz]
  clear hnz
  obtain ⟨T, hT⟩ : ∃ T, List.replicate n (0 : Rat) = T := ⟨_, rfl⟩
  have HTm : Hid (∀ k, k < n → T.take (k + 1) = T.take k ++ [0]) := Lib.hid (fun k hk => hT ▸ reps_more9 hk)
  have HTL : Hid (T.length = n) := Lib.hid (by rw [← hT, List.length_replicate])
  rw [hT]
  clear hT
  obtain ⟨tk, hq0⟩ : ∃ q : Rat, ((0 : Int) : Rat) = q := ⟨_, rfl⟩
  have HQ0 : Hid (tk = 0) := Lib.hid (by rw [← hq0]; rfl)
  have EQ := Lib.hid hq0
  clear hq0
  obtain ⟨i0, hi, hz0, hz1, hz2⟩ := info_parts infoFracR
  go_enter Tryz.func55, Tryz.ntmps55
  go_wp2_with (at_make; refine wpList_make_fracs _ rfl _ _ 41 rfl (w.heap.size) 58 i0 Tryz.underlying41 hi hz0 hz1 hz2 _ _ _ _ n rfl rfl (by omega) (by omega) (by omega) (by simp) ?_; intro wm hmade hgm hszm)
  have HO0 := Lib.hid (Half.start hmade)
  have HB0 : Hid (Below w.heap.size w wm) := Lib.hid ((Below.refl _ _).grown hgm (Nat.le_refl _) (fun k hk => by cases hk))
  clear hmade hgm hM
  go_loopw [11] (fun iv wr => ∃ k r : Nat, k + r = n ∧ iv = .int .i64 (k : Int) ∧ Hid (Half wr w.heap.size 58 (.slice (some ⟨w.heap.size, 0, none⟩) n n) (T.take k) r) ∧ Hid (Below w.heap.size w wr) ∧ w.heap.size < wr.heap.size) (fun iv _ => n - (intOf iv).toNat)
  case atStart => exact ⟨0, n, by omega, rfl, HO0, HB0, by omega⟩
  case round =>
    clear HO0 HB0
    obtain ⟨k, r, hk, rfl, HO, HB, hsz⟩ := hrel
    by_cases hlt : k < n
    · have hkT : k < T.length := by rw [HTL.out]; exact hlt
      obtain ⟨r, rfl⟩ : ∃ r', r = r' + 1 := ⟨r - 1, by omega⟩
      have HT : Hid (T.take (k + 1) = T.take k ++ [tk]) := Lib.hid (by rw [HTm.out k hlt, HQ0.out])
      have hki : (k : Int) < (n : Int) := by omega
      have hk0 : (0 : Int) ≤ (k : Int) := by omega
      go_wp2_with fail
      refine (frac_of 0 _ (by decide)).mono ?_
      rintro e w4 ⟨a4, n4, c4, b4, m4, d4, rfl, h4, g4, bw⟩
      rw [EQ.out] at h4 g4 ⊢
      replace HB := Lib.hid (below_then HB.out bw)
      replace HO := Lib.hid (HO.out.later bw)
      have hsz4 : w.heap.size < w4.heap.size := Nat.lt_of_lt_of_le hsz bw.size
      clear bw hsz
      obtain ⟨⟨p0, p1, p2⟩, f0, f1, f2⟩ := HO.out.cell (k := k) (by rw [take_len (Nat.le_of_lt hkT)])
      obtain ⟨hst, hgr⟩ := HO.out.stored (k := k) (by rw [take_len (Nat.le_of_lt hkT)]) tk a4 n4 c4 b4 m4 d4 h4 g4
      rw [← HT.out] at hst
      have HS := Lib.hid hst
      have HB5 := Lib.hid (HB.out.grown hgr HB.out.size (fun g' hg' => by simp at hg'; omega))
      have hsz5 := Nat.lt_of_lt_of_le hsz4 hgr.size
      clear hst hgr h4 g4 HO HB HT
      unfold frV
      go_wp2
      go_roundw
      case rel => exact ⟨k + 1, r, by omega, by go_num, HS, HB5, hsz5⟩
      case measure => simp [intOf]; omega
    · obtain rfl : k = n := by omega
      have HF := Lib.hid (HO.out.whole HTL.out (by omega))
      clear HO
      go_wp2
      go_ret
      exact ⟨_, rfl, HF.out, HB.out⟩
theorem row_zero (z : Int) (w : World) (hz : isInt z) : Calls Tryz.prog 55 #[.int .i64 z] w (LstRw (List.replicate (rcut z) 0) w) := (row_zero_row z w hz).mono fun _ _ h => h.out
theorem runit_yes9 {k j : Nat} (h : j < k) : runit k (j : Int) = (List.replicate k 0).set j 1 := by
  unfold runit
  rw [if_pos (by omega), Int.toNat_natCast]
theorem runit_no9 {k : Nat} {i : Int} (h : ¬ (0 ≤ i ∧ i < k)) : runit k i = List.replicate k 0 := by
  unfold runit
  rw [if_neg h]
set_option maxRecDepth 4096 in
set_option maxHeartbeats 4000000 in
theorem row_unit (z i : Int) (w : World) (hz : isInt z) (_hi : isInt i) : Calls Tryz.prog 35 #[.int .i64 z, .int .i64 i] w (LstRw (runit (rcut z) i) w) := by
  obtain ⟨n, hnz⟩ : ∃ n, rcut z = n := ⟨_, rfl⟩
  have hn3 : n ≤ 300 := hnz ▸ rcut_le9 z
  have HZ : ∀ w', Calls Tryz.prog 55 #[.int .i64 z] w' (LstRow 58 (List.replicate n 0) w') := fun w' => hnz ▸ row_zero_row z w' hz
  rw [hnz]
  clear hnz hz
  obtain ⟨T, hT⟩ : ∃ T, List.replicate n (0 : Rat) = T := ⟨_, rfl⟩
  have HTL : Hid (T.length = n) := Lib.hid (by rw [← hT, List.length_replicate])
  obtain ⟨q1, hq1⟩ : ∃ q : Rat, ((1 : Int) : Rat) = q := ⟨_, rfl⟩
  have EQ := Lib.hid hq1
  by_cases hin : 0 ≤ i ∧ i < n
  · obtain ⟨j, rfl⟩ : ∃ j : Nat, i = (j : Int) := ⟨i.toNat, by omega⟩
    have hj : j < n := by omega
    have hji : (j : Int) < (n : Int) := by omega
    have hj0 : (0 : Int) ≤ (j : Int) := by omega
    have ER : Hid (runit n (j : Int) = T.set j q1) := Lib.hid (by rw [runit_yes9 hj, ← hT, ← hq1]; rfl)
    rw [ER.out]
    rw [hT] at HZ
    clear hT hq1 hin
    go_enter Tryz.func35, Tryz.ntmps35
    go_wp2_with fail
    refine (HZ _).mono ?_
    rintro e w1 ⟨v, rfl, hrow, b⟩
    obtain ⟨g, cap, rfl, hg1, hg2⟩ := hrow.form (by rw [HTL.out]; omega)
    rw [HTL.out] at hrow ⊢
    have HO := Lib.hid hrow
    have HB := Lib.hid b
    clear hrow b
    go_wp2_with fail
    refine (frac_of 1 _ (by decide)).mono ?_
    rintro e w2 ⟨a4, n4, c4, b4, m4, d4, rfl, h4, g4, bw⟩
    rw [EQ.out] at h4 g4 ⊢
    replace HB := Lib.hid (below_then HB.out bw)
    replace HO := Lib.hid (HO.out.later bw)
    have hg3 : g < w2.heap.size := Nat.lt_of_lt_of_le hg2 bw.size
    clear bw hg2
    obtain ⟨x, y, u, ⟨p0, p1, p2⟩, f0, f1, f2⟩ := HO.out.free HTL.out.symm (i := j) (by rw [HTL.out]; exact hj)
    obtain ⟨hst, hgr⟩ := HO.out.stored HTL.out.symm (i := j) (by rw [HTL.out]; exact hj) q1 a4 n4 c4 b4 m4 d4 h4 g4
    have HS := Lib.hid hst
    have HB5 := Lib.hid (HB.out.grown hgr HB.out.size (fun g' hg' => by simp at hg'; omega))
    clear hst hgr h4 g4 HO HB
    unfold frV
    go_wp2
    go_ret
    obtain ⟨a9, c9, e9, h9⟩ := HS.out.out
    rw [List.length_set, HTL.out] at e9 h9
    cases e9
    exact ⟨_, n, _, rfl, h9, HB5.out⟩
  · rw [runit_no9 hin, hT]
    clear EQ hq1
    go_enter Tryz.func35, Tryz.ntmps35
    go_wp2_with fail
    refine (HZ _).mono ?_
    rintro e w1 ⟨v, rfl, hrow, b⟩
    obtain ⟨a9, c9, rfl, h9⟩ := hrow.out
    rw [hT, HTL.out] at h9 ⊢
    have HF := Lib.hid h9
    have HB := Lib.hid b
    clear hrow b h9
    by_cases h0 : 0 ≤ i
    · have h1 : ¬ i < (n : Int) := fun h => hin ⟨h0, h⟩
      clear hin
      go_wp2
      go_ret
      exact ⟨a9, n, c9, rfl, HF.out, HB.out⟩
    · clear hin
      go_wp2
      go_ret
      exact ⟨a9, n, c9, rfl, HF.out, HB.out⟩
end Go.Proofs.YtpjkhbfglgmnmaaGreatDoor

/-
  Package row at this seat: allOf, column.
-/
namespace Go.Proofs.YtpjkhbfglgmnmaaGreatDoor
open Go.RowKit

theorem lens_take {α : Type} {LL : List (List α)} {k : Nat} (h : k < LL.length) (c : Int) : (∀ M ∈ LL.take (k + 1), (M.length : Int) = c) ↔ (∀ M ∈ LL.take k, (M.length : Int) = c) ∧ ((LL.getD k []).length : Int) = c := by
  have h1 : LL.take (k + 1) = LL.take k ++ [LL.getD k []] := by
    rw [List.take_succ_eq_append_getElem h, List.getD_eq_getElem?_getD, List.getElem?_eq_getElem h]; rfl
  rw [h1]
  constructor
  · intro h2
    exact ⟨fun M hM => h2 M (List.mem_append_left _ hM), h2 _ (List.mem_append_right _ (List.mem_singleton.2 rfl))⟩
  · rintro ⟨h2, h3⟩ M hM
    rcases List.mem_append.1 hM with hM | hM
    · exact h2 M hM
    · rw [List.mem_singleton.1 hM]; exact h3
theorem ll_mem {α : Type} {LL : List (List α)} {k : Nat} (h : k < LL.length) : LL.getD k [] ∈ LL := by
  rw [List.getD_eq_getElem?_getD, List.getElem?_eq_getElem h]; exact List.getElem_mem h
set_option maxRecDepth 4096 in
set_option maxHeartbeats 4000000 in
theorem row_allOf (a : Option Addr) (n c : Nat) (LL : List (List Fx)) (z : Int) (r : Bool) (w : World) (h : Fxss w a n c LL) (hr : Hid (r = true ↔ ∀ M ∈ LL, (M.length : Int) = z)) : Calls Tryz.prog 71 #[.slice a n c, .int .i64 z] w (fun e w' => e = .returned (.bool r) ∧ w = w') := by
  have HK := Lib.hid h
  have HLl := Lib.hid h.len
  have hbd := h.bound
  clear h
  go_enter Tryz.func71, Tryz.ntmps71
  go_wp2
  go_loopw [8] (fun iv wr => Hid (wr = w) ∧ ∃ k : Nat, k ≤ n ∧ iv = .int .i64 (k : Int) ∧ Hid (∀ M ∈ LL.take k, (M.length : Int) = z)) (fun iv _ => n - (intOf iv).toNat)
  case atStart => exact ⟨Lib.hid rfl, 0, by omega, rfl, Lib.hid (fun M hM => by simp at hM)⟩
  case round =>
    obtain ⟨HWE, k, hk, rfl, HA⟩ := hrel
    obtain rfl := HWE.out
    by_cases hlt : k < n
    · obtain ⟨bb, off, rfl, a', n', c', e0, h1⟩ := HK.out.at hlt
      have hl1 := h1.len
      have hbd1 := h1.bound
      have HT := Lib.hid (lens_take (show k < LL.length by rw [HLl.out]; exact hlt) z)
      have HM : Hid (LL.getD k [] ∈ LL) := Lib.hid (ll_mem (by rw [HLl.out]; exact hlt))
      have hki : (k : Int) < (n : Int) := by omega
      have HL1 : Hid ((LL.getD k []).length = n') := Lib.hid hl1
      clear h1 hl1
      by_cases hnz : (n' : Int) = z
      · have HA9 : Hid (∀ M ∈ LL.take (k + 1), (M.length : Int) = z) := Lib.hid (HT.out.2 ⟨HA.out, by rw [HL1.out]; exact hnz⟩)
        have hq : ((n' : Int) == z) = true := by simp [hnz]
        clear hnz HA HT HM HL1
        go_wp2
        go_roundw
        case rel => exact ⟨Lib.hid trivial, k + 1, by omega, by go_num, HA9⟩
        case measure => simp [intOf]; omega
      · have hrf : r = false := by
          cases r with
          | false => rfl
          | true => exact absurd (hr.out.1 rfl _ HM.out) (by rw [HL1.out]; exact hnz)
        subst hrf
        have hq : ((n' : Int) == z) = false := by simp [hnz]
        clear HA HT HM HL1
        go_wp2
        go_ret
        exact ⟨rfl, rfl⟩
    · obtain rfl : k = n := by omega
      have hrt : r = true := hr.out.2 (fun M hM => HA.out M (by rw [List.take_of_length_le (by rw [HLl.out]; exact Nat.le_refl _)]; exact hM))
      subst hrt
      go_wp2
      go_ret
      exact ⟨rfl, rfl⟩
/-- What the rows have at a place. -/
def colF (LL : List (List Fx)) (i : Nat) : List Fx := LL.map (fun L => L.getD i Fx.zero)
theorem colF_length (LL : List (List Fx)) (i : Nat) : (colF LL i).length = LL.length := List.length_map _
theorem colF_at {LL : List (List Fx)} {i k : Nat} (h : k < LL.length) : (colF LL i).getD k Fx.zero = (LL.getD k []).getD i Fx.zero := by
  unfold colF
  rw [List.getD_eq_getElem?_getD, List.getElem?_map, List.getD_eq_getElem?_getD (l := LL), List.getElem?_eq_getElem h]; rfl
set_option maxRecDepth 4096 in
set_option maxHeartbeats 4000000 in
theorem row_column (a : Option Addr) (n c : Nat) (LL : List (List Fx)) (i : Nat) (w : World) (h : Fxss w a n c LL) (hn : n ≤ 1000) (hi9 : ∀ M ∈ LL, i < M.length) : Calls Tryz.prog 72 #[.slice a n c, .int .i64 (i : Int)] w (fun e w' => ∃ (a' : Option Addr) (c' : Nat), e = .returned (.slice a' n c') ∧ Fxs w' a' n c' (colF LL i) ∧ Below w.heap.size w w') := by
  have HK := Lib.hid h
  have HLl := Lib.hid h.len
  have hbd := h.bound
  have HI := Lib.hid hi9
  clear h hi9
  obtain ⟨T, hT⟩ : ∃ T, colF LL i = T := ⟨_, rfl⟩
  have HTL : Hid (T.length = n) := Lib.hid (by rw [← hT, colF_length, HLl.out])
  have HTA : Hid (∀ k, k < n → T.getD k Fx.zero = (LL.getD k []).getD i Fx.zero) := Lib.hid (fun k hk => hT ▸ colF_at (by rw [HLl.out]; exact hk))
  rw [hT]
  clear hT
  obtain ⟨i0, hi, hz0, hz1, hz2⟩ := info_parts infoFracR
  go_enter Tryz.func72, Tryz.ntmps72
  go_wp2_with (at_make; refine wpList_make_fracs _ rfl _ _ 41 rfl (w.heap.size) 58 i0 Tryz.underlying41 hi hz0 hz1 hz2 _ _ _ _ n rfl rfl (by omega) (by omega) (by omega) (by simp) ?_; intro wm hmade hgm hszm)
  have HO0 := Lib.hid hmade
  have HB0 : Hid (Below w.heap.size w wm) := Lib.hid ((Below.refl _ _).grown hgm (Nat.le_refl _) (fun k hk => by cases hk))
  clear hmade hgm
  go_loopw [12] (fun iv wr => ∃ k r : Nat, k + r = n ∧ iv = .int .i64 (k : Int) ∧ Hid (HalfC wr w.heap.size 58 (.slice (some ⟨w.heap.size, 0, none⟩) n n) (T.take k) r) ∧ Hid (Below w.heap.size w wr) ∧ w.heap.size < wr.heap.size) (fun iv _ => n - (intOf iv).toNat)
  case atStart => exact ⟨0, n, by omega, rfl, HO0, HB0, by omega⟩
  case round =>
    clear HO0 HB0
    obtain ⟨k, r, hk, rfl, HO, HB, hsz⟩ := hrel
    by_cases hlt : k < n
    · have hkT : k < T.length := by rw [HTL.out]; exact hlt
      obtain ⟨r, rfl⟩ : ∃ r', r = r' + 1 := ⟨r - 1, by omega⟩
      have HT : Hid (T.take (k + 1) = T.take k ++ [T.getD k Fx.zero]) := Lib.hid (fx_more hkT)
      obtain ⟨bb, off, rfl, a', n', c', e0, h1⟩ := HK.out.at hlt
      have e0' := cell_later HB.out e0
      have hin : i < n' := by rw [← h1.len]; exact HI.out _ (ll_mem (by rw [HLl.out]; exact hlt))
      have hbd1 := h1.bound
      obtain ⟨b2, off2, rfl, q0, q1, q2, hok⟩ := h1.at hin
      rw [← HTA.out k hlt] at q0 q1 q2 hok
      generalize T.getD k Fx.zero = x at *
      obtain ⟨sx, ax, nx, cx, lax, bx, mx, dx, lbx⟩ := x
      simp only at q0 q1 q2
      obtain ⟨q0, q1, q2⟩ := three_on ⟨q0, q1, q2⟩ HB.out
      have HX := Lib.hid (hok.later HB.out)
      have hki : (k : Int) < (n : Int) := by omega
      have hii : (i : Int) < (n' : Int) := by omega
      obtain ⟨⟨p0, p1, p2⟩, f0, f1, f2⟩ := half_cell HO.out (k := k) (by rw [take_len (Nat.le_of_lt hkT)])
      obtain ⟨hst, hgr⟩ := HO.out.stored (k := k) (by rw [take_len (Nat.le_of_lt hkT)]) _ HX.out
      rw [← HT.out] at hst
      have HS := Lib.hid hst
      have HB5 := Lib.hid (HB.out.grown hgr HB.out.size (fun g' hg' => by simp at hg'; omega))
      have hsz5 := Nat.lt_of_lt_of_le hsz hgr.size
      clear hst hgr HO HB HT h1 hok e0 HX
      go_wp2
      go_roundw
      case rel => exact ⟨k + 1, r, by omega, by go_num, HS, HB5, hsz5⟩
      case measure => simp [intOf]; omega
    · obtain rfl : k = n := by omega
      obtain rfl : r = 0 := by omega
      have HF := Lib.hid (HO.out.done.whole HTL.out)
      obtain ⟨a9, c9, e9, h9⟩ := HF.out.out
      rw [HTL.out] at e9 h9
      cases e9
      have HF9 := Lib.hid h9
      clear HO h9 HF
      go_wp2
      go_ret
      exact ⟨_, _, rfl, HF9.out, HB.out⟩
end Go.Proofs.YtpjkhbfglgmnmaaGreatDoor

/-
  The walks of the laws of layer 9: To, Of, Is, alike.
-/
namespace Go.Proofs.YtpjkhbfglgmnmaaGreatDoor
open Go.RowKit

set_option maxHeartbeats 1000000 in
theorem law09_to (neg : Bool) (a : Option Addr) (n cap : Nat) (b : Option Addr) (m cap' : Nat) (w : World) : Calls Tryz.prog 46 #[frV neg a n cap b m cap'] w (Gives (frV neg a n cap b m cap') w) := by
  have HG : Hid (((w.alloc (.cells #[.bool neg, .slice a n cap, .slice b m cap'] 70)).alloc (.cells #[.bool neg, .slice a n cap, .slice b m cap'] 58)).heap[w.heap.size + 1]? = some (.cells #[.bool neg, .slice a n cap, .slice b m cap'] 58 (0, 0))) := Lib.hid (boxes_at w ((w.alloc (.cells #[.bool neg, .slice a n cap, .slice b m cap'] 70)).alloc (.cells #[.bool neg, .slice a n cap, .slice b m cap'] 58)) _ _ _ _ (Below.refl _ _)).2
  have HB := Lib.hid (below_then (below_alloc w (.cells #[.bool neg, .slice a n cap, .slice b m cap'] 70)) (below_alloc _ (.cells #[.bool neg, .slice a n cap, .slice b m cap'] 58)))
  go_enter Tryz.func46, Tryz.ntmps46
  unfold frV
  go_wp2
  refine bodyPost_ret (results_cell_row Tryz.results46 _ _ (w.heap.size + 1) 58 #[.bool neg, .slice a n cap, .slice b m cap'] (0, 0) _ rfl HG.out Tryz.underlying58 rfl (by kernel_rfl)) rfl ?_
  exact ⟨rfl, HB.out⟩
set_option maxHeartbeats 1000000 in
theorem law09_of (neg : Bool) (a : Option Addr) (n cap : Nat) (b : Option Addr) (m cap' : Nat) (w : World) : Calls Tryz.prog 69 #[frV neg a n cap b m cap'] w (Gives (frV neg a n cap b m cap') w) := by
  have HG : Hid (((w.alloc (.cells #[.bool neg, .slice a n cap, .slice b m cap'] 58)).alloc (.cells #[.bool neg, .slice a n cap, .slice b m cap'] 70)).heap[w.heap.size + 1]? = some (.cells #[.bool neg, .slice a n cap, .slice b m cap'] 70 (0, 0))) := Lib.hid (boxes_at w ((w.alloc (.cells #[.bool neg, .slice a n cap, .slice b m cap'] 58)).alloc (.cells #[.bool neg, .slice a n cap, .slice b m cap'] 70)) _ _ _ _ (Below.refl _ _)).2
  have HB := Lib.hid (below_then (below_alloc w (.cells #[.bool neg, .slice a n cap, .slice b m cap'] 58)) (below_alloc _ (.cells #[.bool neg, .slice a n cap, .slice b m cap'] 70)))
  go_enter Tryz.func69, Tryz.ntmps69
  unfold frV
  go_wp2
  refine bodyPost_ret (results_cell_row Tryz.results69 _ _ (w.heap.size + 1) 70 #[.bool neg, .slice a n cap, .slice b m cap'] (0, 0) _ rfl HG.out Tryz.underlying70 rfl (by kernel_rfl)) rfl ?_
  exact ⟨rfl, HB.out⟩
end Go.Proofs.YtpjkhbfglgmnmaaGreatDoor
