/-
  Rows whose elements lead on to more memory: what each element must hold (a kin), slices of such, rows of one's own of such. Of no program.
-/
import Derived.Test.YtdhfnlpolelcpaaCls
namespace Go.Proofs.Ytdhfnlpolelcpaa
open Go.WideShapes Go.RowKit Go.Deep

/-- What elements hold, and that neither what is laid elsewhere nor what grows in a row of theirs turns it. -/
structure Kin (α : Type) extends Cls α where
  good : World → α → Prop
  later : ∀ {w w' : World} {x : α}, good w x → Below w.heap.size w w' → good w' x
  aside : ∀ {w w' : World} {v : Value} {x : α}, good w x → Only p w v → w.grownBy w' v.ownBlock → good w' x
namespace Kin
variable {α : Type} (K : Kin α)
/-- In the world w the slice ⟨a, n, cap⟩ holds just these elements, and they hold what they must. -/
def All (w : World) (a : Option Addr) (n cap : Nat) (L : List α) : Prop := K.toCls.Has w a n cap L ∧ ∀ x ∈ L, K.good w x
/-- A row of one's own. -/
def Mine (w : World) (base : Nat) (e : TypeId) (v : Value) (L : List α) : Prop := K.toCls.Own w base e v L ∧ ∀ x ∈ L, K.good w x
variable {K}
theorem All.len {w : World} {a : Option Addr} {n cap : Nat} {L : List α} (h : K.All w a n cap L) : L.length = n := h.1.len
theorem All.bound {w : World} {a : Option Addr} {n cap : Nat} {L : List α} (h : K.All w a n cap L) : n ≤ cap ∧ cap ≤ 9223372036854775807 := h.1.bound
theorem All.nil (w : World) : K.All w none 0 0 [] := ⟨Cls.Has.nil w, fun x hx => by cases hx⟩
theorem All.void (w : World) (a : Addr) {cap : Nat} (h : cap ≤ 9223372036854775807) : K.All w (some a) 0 cap [] := ⟨Cls.Has.void w a h, fun x hx => by cases hx⟩
theorem All.later {w w' : World} {a : Option Addr} {n cap : Nat} {L : List α} (h : K.All w a n cap L) (hb : Below w.heap.size w w') : K.All w' a n cap L := ⟨h.1.later hb, fun x hx => K.later (h.2 x hx) hb⟩
theorem All.at {w : World} {a : Option Addr} {n cap : Nat} {L : List α} (h : K.All w a n cap L) {j : Nat} {x : α} (hj : L[j]? = some x) : ∃ b off, a = some ⟨b, off, none⟩ ∧ (∀ (i : Nat) u, (K.cells x)[i]? = some u → w.cell? ⟨b, off + j * K.size + i, none⟩ = some u) ∧ K.good w x := by
  have hl : j < L.length := by
    rcases Nat.lt_or_ge j L.length with h9 | h9
    · exact h9
    · rw [List.getElem?_eq_none h9] at hj; cases hj
  obtain ⟨b, off, e, hc⟩ := h.1.at (by rw [← h.1.len]; omega)
  exact ⟨b, off, e, hc j x hj, h.2 x (List.mem_of_getElem? hj)⟩
theorem All.part {w : World} {b off n cap : Nat} {L : List α} (h : K.All w (some ⟨b, off, none⟩) n cap L) {i j c : Nat} (hi : i ≤ j) (hj : j ≤ n) (hc : j - i ≤ c) (hc2 : c ≤ 9223372036854775807) : K.All w (some ⟨b, off + i * K.size, none⟩) (j - i) c ((L.drop i).take (j - i)) :=
  ⟨h.1.part hi hj hc hc2, fun x hx => h.2 x (List.mem_of_mem_drop (List.mem_of_mem_take hx))⟩
theorem All.lit (w : World) (L : List α) (e : TypeId) {n : Nat} (hn : L.length = n) (h63 : n ≤ 9223372036854775807) (hg : ∀ x ∈ L, K.good w x) : K.All (w.alloc (.cells (L.flatMap K.cells).toArray e)) (some ⟨w.heap.size, 0, none⟩) n n L :=
  ⟨Cls.Has.lit w L e hn h63, fun x hx => K.later (hg x hx) (below_alloc _ _)⟩
theorem Mine.nil (w : World) (base : Nat) (e : TypeId) : K.Mine w base e (.slice none 0 0) [] := ⟨Cls.Own.nil w base e, fun x hx => by cases hx⟩
theorem Mine.later {w w' : World} {base : Nat} {e : TypeId} {v : Value} {L : List α} (h : K.Mine w base e v L) (hb : Below w.heap.size w w') : K.Mine w' base e v L := ⟨h.1.later hb, fun x hx => K.later (h.2 x hx) hb⟩
theorem Mine.base {w : World} {base : Nat} {e : TypeId} {v : Value} {L : List α} (h : K.Mine w base e v L) (k : Nat) (hk : v.ownBlock = some k) : base ≤ k := h.1.base k hk
theorem Mine.slice {w : World} {base : Nat} {e : TypeId} {v : Value} {L : List α} (h : K.Mine w base e v L) : ∃ (a : Option Addr) (cap : Nat), v = .slice a L.length cap ∧ K.All w a L.length cap L := by
  obtain ⟨a, cap, h1, h2⟩ := h.1.slice
  exact ⟨a, cap, h1, h2, h.2⟩
theorem Mine.grown {w w' : World} {base : Nat} {e : TypeId} {v v' : Value} {L M : List α} (h : K.Mine w base e v L) (hM : ∀ x ∈ M, K.good w x) (ho : K.toCls.Own w' base e v' (L ++ M)) (hg : w.grownBy w' v.ownBlock) : K.Mine w' base e v' (L ++ M) :=
  ⟨ho, fun x hx => K.aside ((List.mem_append.1 hx).elim (h.2 x) (hM x)) h.1.2 hg⟩
theorem wpList_append {P : Program} {t e : TypeId} (hA : K.toCls.At P t e) {w : World} {ops : Array Oper} {rest : List Oper} {o : Oper} {act : Act} {Q : Exit → Act → World → Prop} (hgd : o.guard = none) (s x : Operand)
    (ho : o.op = .call { callee := .builtin .append, args := #[s, x], argTypes := #[t, t] })
    (base : Nat) (v : Value) (L : List α) (hs : act.eval s = v) (h : K.Mine w base e v L) (ad : Addr) (m c : Nat) (M : List α) (hx : act.eval x = .slice (some ad) m c) (hm : M.length = m)
    (hnews : ∀ j u, (M.flatMap K.cells)[j]? = some u → w.cell? (ad.add j) = some u) (hgood : ∀ x ∈ M, K.good w x) (h63 : L.length + m ≤ maxLen) (hbytes : (L.length + m) * K.bytes ≤ 140737488355328) (hbase : base ≤ w.heap.size)
    (hk : ∀ v' w', K.Mine w' base e v' (L ++ M) → w.grownBy w' v.ownBlock → Cls.New w v v' → wpList P ops Q rest (act.put o.dst v') w') : wpList P ops Q (o :: rest) act w :=
  Cls.wpList_append hA hgd s x ho base v L hs h.1 ad m c M hx hm hnews h63 hbytes hbase fun v' w' h1 h2 h3 => hk v' w' (h.grown hgood h1 h2) h2 h3
theorem wpList_append_none {P : Program} {t e : TypeId} (hA : K.toCls.At P t e) {w : World} {ops : Array Oper} {rest : List Oper} {o : Oper} {act : Act} {Q : Exit → Act → World → Prop} (hgd : o.guard = none) (s x : Operand)
    (ho : o.op = .call { callee := .builtin .append, args := #[s, x], argTypes := #[t, t] })
    (base : Nat) (v : Value) (L : List α) (hs : act.eval s = v) (h : K.Mine w base e v L) (hx : act.eval x = .slice none 0 0)
    (hk : wpList P ops Q rest (act.put o.dst v) w) : wpList P ops Q (o :: rest) act w := by
  obtain ⟨ht, i, z, hi, hz, hsize, hby, hzs, hzp⟩ := hA
  exact wpList_append_own_none hgd s x t ho base e i K.size ht hi v L.length (L.flatMap K.cells) hs h.1.1 hx hk
theorem step_append {P : Program} {t e : TypeId} (hA : K.toCls.At P t e) {ops : Array Oper} {o : Oper} {act : Act} {w : World} {Kn : Act → World → Prop} {Q9 : Exit → Act → World → Prop} {E : Prop} (hgd : o.guard = none) (s x : Operand)
    (ho : o.op = .call { callee := .builtin .append, args := #[s, x], argTypes := #[t, t] })
    (base : Nat) (v : Value) (L : List α) (hs : act.eval s = v) (h : K.Mine w base e v L) (ad : Addr) (m c : Nat) (M : List α) (hx : act.eval x = .slice (some ad) m c) (hm : M.length = m)
    (hnews : ∀ j u, (M.flatMap K.cells)[j]? = some u → w.cell? (ad.add j) = some u) (hgood : ∀ x ∈ M, K.good w x) (h63 : L.length + m ≤ maxLen) (hbytes : (L.length + m) * K.bytes ≤ 140737488355328) (hbase : base ≤ w.heap.size)
    (hk : ∀ v' w', K.Mine w' base e v' (L ++ M) → w.grownBy w' v.ownBlock → Cls.New w v v' → Kn (act.put o.dst v') w') : if Region.wanted o (yielded ops act.tmps) = true then Oper.wp P o act w Kn Q9 else E :=
  Cls.step_append hA hgd s x ho base v L hs h.1 ad m c M hx hm hnews h63 hbytes hbase fun v' w' h1 h2 h3 => hk v' w' (h.grown hgood h1 h2) h2 h3
end Kin
end Go.Proofs.Ytdhfnlpolelcpaa
