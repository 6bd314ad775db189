/-
  What a row lists of the library's tables, wherever it stands on the list. Of no program.
-/
import Derived.Test.YtgncfkednfjbpaaDoorRows
import Derived.Lib.LaidTab
namespace Go.Proofs.YtgncfkednfjbpaaDoor

theorem laidMet_rest {P : Program} {x : String × DataW Unit} {r : List (String × DataW Unit)} {w : World} (h : laidMet P (x :: r) w) : laidMet P r w := by
  obtain ⟨ps, hv, hnd, hrows⟩ := h
  obtain ⟨n, d⟩ := x
  obtain ⟨g, t, cs, fuel, p, q, _, _, _, _, hq, rfl⟩ := hv
  exact ⟨q, hq, List.Nodup.sublist (List.sublist_append_right _ _) hnd, fun b off hm => hrows b off (List.mem_append_right _ hm)⟩
theorem laidMet_drop {P : Program} {w : World} (k : Nat) {laid : List (String × DataW Unit)} (h : laidMet P laid w) : laidMet P (laid.drop k) w := by
  induction k generalizing laid with
  | zero => exact h
  | succ k ih =>
    cases laid with
    | nil => exact h
    | cons x r => exact ih (laidMet_rest h)
theorem tab_of_laid {P : Program} {W : World} {laid : List (String × DataW Unit)} {k : IntKind} {zs : List Int} {g : Nat} {t e : TypeId} {n : Nat} (K : Nat) (nm : String) (hl : laid.drop K = (nm, Lib.tabData k zs) :: laid.drop (K + 1))
    (hg : P.globalNamed nm = some g) (hty : (P.globals[g]?).map (·.type) = some t) (ht : P.underlying t = some (.array n e)) (he : P.underlying e = some (.int k)) (hce : P.cellsOf e = 1) (hct : P.cellsOf t = n)
    (h : laidMet P laid W) (name : String) (hn : P.globalNamed name = some g) : Lib.TabIs P W name k zs := by
  have h1 := laidMet_drop K h
  rw [hl] at h1
  have h2 := Lib.tabIs_of_head hg hty ht he hce hct h1
  unfold Lib.TabIs World.var? at h2 ⊢
  rw [hn]
  rwa [hg] at h2
end Go.Proofs.YtgncfkednfjbpaaDoor
