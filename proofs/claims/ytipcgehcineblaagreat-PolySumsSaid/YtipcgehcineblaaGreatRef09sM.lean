/-
  The document's Same of two right fractions, in rational numbers.
-/
import Derived.Test.YtipcgehcineblaaGreatRef09kM
import Derived.Test.YtipcgehcineblaaGreatG11
namespace Go.Proofs.YtipcgehcineblaaGreat
open Go.RowKit

theorem rat_parts_iff (p q : Rat) : (zneg p.num = zneg q.num ∧ dg p.num.natAbs = dg q.num.natAbs ∧ dg p.den = dg q.den) ↔ p = q := by
  constructor
  · rintro ⟨h1, h2, h3⟩
    have e2 : p.num.natAbs = q.num.natAbs := by have := congrArg val h2; rwa [val_dg, val_dg] at this
    have e3 : p.den = q.den := by have := congrArg val h3; rwa [val_dg, val_dg] at this
    have e1 : p.num = q.num := by
      have a1 := zval_of p.num
      have a2 := zval_of q.num
      rw [← a1, ← a2, h1, e2]
    exact Rat.ext e1 e3
  · rintro rfl; exact ⟨rfl, rfl, rfl⟩
theorem ref09_same_rt (v u : Value) (p q : Rat) (w : World) (h : Rt w v p 15728640000) (k : Rt w u q 15728640000) : Calls Tryz.prog 46 #[v, u] w (Gives (.bool (decide (p = q))) w) := by
  obtain ⟨a, n, cap, b, m, cap', rfl, ha, hb, hn, hm⟩ := h
  obtain ⟨a', n', c', b', m', d', rfl, ha', hb', hn', hm'⟩ := k
  have e := ref09_same (zneg p.num) a n cap _ b m cap' _ (zneg q.num) a' n' c' _ b' m' d' _ w ha hb ha' hb'
  rwa [decide_eq_decide.2 (rat_parts_iff p q)] at e
end Go.Proofs.YtipcgehcineblaaGreat
