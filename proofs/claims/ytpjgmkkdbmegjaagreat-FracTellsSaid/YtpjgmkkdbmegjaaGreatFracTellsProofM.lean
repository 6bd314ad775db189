/-
  FracTells: the law returns true for every input, and leaves its arguments and all memory that was there as they were. No condition.
-/
import Derived.Test.YtpjgmkkdbmegjaaGreatG15
import Derived.Test.YtpjgmkkdbmegjaaGreatLaw09Walks11M
import Derived.Test.YtpjgmkkdbmegjaaGreatG10
import Derived.WalkKit
import Derived.ProofKit
import Derived.OpenShut
import Derived.Lib.SmallJoins
namespace Go.Proofs.YtpjgmkkdbmegjaaGreat.fracTells
open Go.ChangeShapes Go.WideShapes Go.ChangeAt Go.RowKit

theorem own : ownKnob Tryz.prog.godebug = none := by kernel_rfl
theorem laidOut : laidOutB Tryz.prog = true := by kernel_rfl

set_option maxRecDepth 100000 in
theorem contract (H : Type) (enc : TypeId × Value → H) (W : World) (base : Nat) (args : Array Value) (ds gs : List (DataW H)) (before : List MemPlace)
    (hval : ∀ (j : Nat) t v, Tryz.f3.params[j]? = some t → args[j]? = some v → Value.okWide Tryz.prog W .any base t v)
    (hW : DataW.Whole enc Tryz.prog Tryz.f3.params.toList Rows.fracTellsSpec.vars false W args.toList ds gs before) :
    Calls Tryz.prog 3 args W fun e W' => ∃ v, e = .returned v ∧ Rows.fracTellsSpec.post enc Tryz.prog Tryz.f3 false true false false W args v W' := by
  have hW' := hW
  obtain ⟨p, q, hA0, hV, rfl, hfz, hnd⟩ := hW
  have hA : DataW.TrodAll enc Tryz.prog W 0 (fun _ => true) true Tryz.f3.params.toList args.toList ds p := hA0
  rw [Tryz.params3] at hA hval
  obtain ⟨v0, vs0, d0, ds0, p0, q0, hargs, rfl, rfl, h0, r0⟩ := trodAll_cons hA
  obtain ⟨v1, vs1, d1, ds1, p1, q1, rfl, rfl, rfl, h1, r1⟩ := trodAll_cons r0
  obtain ⟨rfl, rfl, rfl⟩ := trodAll_nil r1
  obtain rfl : args = #[v0, v1] := by cases args; simp_all
  obtain ⟨g0, a0, n0, c0, l0, e0, m0, f0, k0, rfl, wd0, we0⟩ := open_frac Tryz.underlying24 (by kernel_rfl) (by kernel_rfl) Tryz.underlying4 Tryz.underlying22 Tryz.underlying22 Tryz.underlying50 (by kernel_rfl) (hval 0 24 v0 rfl rfl) h0
  obtain ⟨g1, a1, n1, c1, l1, e1, m1, f1, k1, rfl, wd1, we1⟩ := open_frac Tryz.underlying24 (by kernel_rfl) (by kernel_rfl) Tryz.underlying4 Tryz.underlying22 Tryz.underlying22 Tryz.underlying50 (by kernel_rfl) (hval 1 24 v1 rfl rfl) h1
  clear hA0
  refine (law09_tells fracSaid g0 a0 n0 c0 l0 e0 m0 f0 k0 g1 a1 n1 c1 l1 e1 m1 f1 k1 W wd0 we0 wd1 we1).mono fun e W' hg => ?_
  obtain ⟨he, hb⟩ := hg
  subst he
  exact ⟨_, rfl, law_post laidOut (by kernel_rfl) (by kernel_rfl) Tryz.underlying4 rfl rfl hW' hb⟩

set_option maxRecDepth 100000 in
theorem lifted (os : Os) (started : os.Started) (H : Type) (enc : TypeId × Value → H) :
    ReturnsInHanded {} Tryz.checked os 3 .any (Rows.fracTellsSpec.pre6 enc Tryz.prog Tryz.f3 Rows.fracTellsRow.domain false) (Rows.fracTellsSpec.post enc Tryz.prog Tryz.f3 false true false false) := by
  refine returnsInHanded_of_change (C := Tryz.checked) own started (by kernel_rfl) Tryz.func3
    (ChangeSpec.witness6 (enc := enc) (C := Tryz.checked) false ⟨#[], #[.agg #[.bool false, .slice none 0 0, .slice none 0 0], .agg #[.bool false, .slice none 0 0, .slice none 0 0]], []⟩ 8 (by kernel_rfl) (by kernel_rfl) (by kernel_rfl) (by kernel_rfl)) ?_
  intro W base args ds gs before hval hW _ _
  exact contract H enc W base args ds gs before hval hW

theorem said : Rows.FracTellsSaid :=
  OpenClaim.holds_of_wide 3 Tryz.f3 rfl rfl rfl rfl rfl rfl rfl ⟨rfl, rfl, rfl, rfl, rfl⟩ rfl rfl rfl rfl rfl (by kernel_rfl) Tryz.func3 (by kernel_rfl)
    (of_decide_eq_true (by kernel_rfl)) (by unfold Func.isWrapper; first | (rw [if_pos (by decide +kernel)]; kernel_rfl) | (rw [if_neg (by decide +kernel)]; exact ⟨rfl, rfl⟩))
    (fun os started H enc _ => lifted os started H enc)
#print axioms said
end Go.Proofs.YtpjgmkkdbmegjaaGreat.fracTells
