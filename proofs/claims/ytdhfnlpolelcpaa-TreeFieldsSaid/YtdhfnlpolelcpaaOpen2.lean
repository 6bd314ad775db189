/-
  An argument of a struct type opened: a whole number, a fraction. Of no program.
-/
import Derived.Test.YtdhfnlpolelcpaaOpen
import Derived.Test.YtdhfnlpolelcpaaWhole
import Derived.Lib.SmallJoins
import Derived.ChangeArms
namespace Go.Proofs.Ytdhfnlpolelcpaa
open Go.ChangeShapes Go.WideShapes Go.ChangeAt Go.RowKit Go.Deep
section
variable {H : Type} {enc : TypeId × Value → H} {P : Program} {W : World} {base : Nat}

theorem words_cell {t e : TypeId} {n0 : Nat} {v : Value} {y : DataW H × List MemPlace} (ht : P.underlying t = some (.slice e)) (he : P.underlying e = some (.int .u32)) (hce : P.cellsOf e = 1)
    (hf : DataW.trod enc P W 0 (fun _ => true) true n0 t [v] = some y) : ∃ (a : Option Addr) (n cap : Nat) (l : List Nat), v = .slice a n cap ∧ Wd W a n cap l := by
  rcases open_ints ht he hce hf with ⟨hcs, _⟩ | ⟨a, len', cap', zs, hcs, _, hl, hm, hz, _, hc, hw⟩
  · simp at hcs
    exact ⟨_, _, _, [], hcs, Wd.ofNil W⟩
  · simp at hcs
    simp only [if_true] at hz
    obtain ⟨l, hl'⟩ := Wd.ofInts (W := W) (a := some a) hl hm (fun e => by cases e) (by omega) hw (fun a' e i hi => by cases e; exact hc i (by omega))
    exact ⟨_, _, _, l, hcs, hl'⟩
theorem open_whole {t : TypeId} {f0 f1 : Field} {e : TypeId} {v : Value} {d : DataW H} {p : List MemPlace} (hs : P.underlying t = some (.struct #[f0, f1])) (hone : oneCellFields P #[f0, f1] = true) (hC : P.cellsOf t = 2)
    (hb : P.underlying f0.type = some .bool) (ht : P.underlying f1.type = some (.slice e)) (he : P.underlying e = some (.int .u32)) (hce : P.cellsOf e = 1)
    (hv : Value.okWide P W .any base t v) (h : DataW.Trod enc P W 0 (fun _ => true) true t v d p) : ∃ (neg : Bool) (a : Option Addr) (n cap : Nat) (l : List Nat), v = whV neg a n cap ∧ Wd W a n cap l := by
  obtain ⟨v0, v1, y0, y1, m, rfl, _, _, h0, h1⟩ := Joins.open_agg2 hs hone hC hv h
  obtain ⟨b, e0, _⟩ := DataW.trod_bool hb h0
  simp at e0
  subst e0
  obtain ⟨a, n, cap, l, rfl, hw⟩ := words_cell ht he hce h1
  exact ⟨b, a, n, cap, l, rfl, hw⟩
/-- A fraction, as a value. -/
def frV (neg : Bool) (a : Option Addr) (n cap : Nat) (b : Option Addr) (m cap' : Nat) : Value := .agg #[.bool neg, .slice a n cap, .slice b m cap']
theorem open_frac {t : TypeId} {f0 f1 f2 : Field} {e : TypeId} {v : Value} {d : DataW H} {p : List MemPlace} (hs : P.underlying t = some (.struct #[f0, f1, f2])) (hone : oneCellFields P #[f0, f1, f2] = true) (hC : P.cellsOf t = 3)
    (hb : P.underlying f0.type = some .bool) (ht : P.underlying f1.type = some (.slice e)) (ht2 : P.underlying f2.type = some (.slice e)) (he : P.underlying e = some (.int .u32)) (hce : P.cellsOf e = 1)
    (hv : Value.okWide P W .any base t v) (h : DataW.Trod enc P W 0 (fun _ => true) true t v d p) :
    ∃ (neg : Bool) (a : Option Addr) (n cap : Nat) (l : List Nat) (b : Option Addr) (m cap' : Nat) (k : List Nat), v = frV neg a n cap b m cap' ∧ Wd W a n cap l ∧ Wd W b m cap' k := by
  obtain ⟨v0, v1, v2, y0, y1, y2, m, rfl, _, _, h0, h1, h2⟩ := Joins.open_agg3 hs hone hC hv h
  obtain ⟨b, e0, _⟩ := DataW.trod_bool hb h0
  simp at e0
  subst e0
  obtain ⟨a, n, cap, l, rfl, hw⟩ := words_cell ht he hce h1
  obtain ⟨a2, n2, cap2, l2, rfl, hw2⟩ := words_cell ht2 he hce h2
  exact ⟨b, a, n, cap, l, a2, n2, cap2, l2, rfl, hw, hw2⟩
end
end Go.Proofs.Ytdhfnlpolelcpaa
