/-
  RowSums: the law returns true for every input, and leaves its arguments and all memory that was there as they were; the tables of the library that the row lists are tied to the program's text by the given tie. No other condition.
-/
import Derived.Test.YtjeigdlhjghinaaGreatDoorG23
import Derived.Test.YtjeigdlhjghinaaGreatDoorG18
import Derived.Test.YtjeigdlhjghinaaGreatDoorLaw11Walks6M
import Derived.Test.YtjeigdlhjghinaaGreatDoorG14
import Derived.Test.YtjeigdlhjghinaaGreatDoorG10
import Derived.Test.YtjeigdlhjghinaaGreatDoorCards
import Derived.Test.YtjeigdlhjghinaaGreatDoorTie
import Derived.WalkKit
import Derived.ProofKit
import Derived.OpenShut
import Derived.Lib.SmallJoins
import Derived.Deep.DeepWitnessRowRef
import Derived.Lib.LaidTab
import Derived.LaidMore
import Derived.SevenTiedAt
import Derived.Lay
import Derived.LaidOnce
namespace Go.Proofs.YtjeigdlhjghinaaGreatDoor.rowSums
open Go.ChangeShapes Go.WideShapes Go.ChangeAt Go.RowKit

theorem own : ownKnob Tryz.prog.godebug = none := by kernel_rfl
theorem laidOut : laidOutB Tryz.prog = true := by kernel_rfl
theorem table {W : World} (h : laidMetH Tryz.prog Rows.rowSumsRow.laid W) : Dec10 W :=
  tab_of_laid (laid := Rows.rowSumsRow.laid) (Rows.rowSumsRow.laid.findIdx fun x => Tryz.prog.globalNamed x.1 == some 3) (Rows.rowSumsRow.laid.getD (Rows.rowSumsRow.laid.findIdx fun x => Tryz.prog.globalNamed x.1 == some 3) (Rows.rowSumsRow.func, .nil)).1 (by kernel_rfl) (by kernel_rfl) (by kernel_rfl) Tryz.underlying227 Tryz.underlying99 (by kernel_rfl) (by kernel_rfl) h

set_option maxRecDepth 100000 in
theorem contract (H : Type) (enc : TypeId × Value → H) (W : World) (base : Nat) (args : Array Value) (ds gs : List (DataW H)) (before : List MemPlace)
    (hval : ∀ (j : Nat) t v, Tryz.f4.params[j]? = some t → args[j]? = some v → Value.okWide Tryz.prog W .any base t v)
    (hW : DataW.Whole enc Tryz.prog Tryz.f4.params.toList Rows.rowSumsSpec.vars false W args.toList ds gs before) (hL : laidMetH Tryz.prog Rows.rowSumsRow.laid W) :
    Calls Tryz.prog 4 args W fun e W' => ∃ v, e = .returned v ∧ Rows.rowSumsSpec.post enc Tryz.prog Tryz.f4 false true false false W args v W' := by
  have hW' := hW
  obtain ⟨p, q, hA0, hV, rfl, hfz, hnd⟩ := hW
  have hA : DataW.TrodAll enc Tryz.prog W 0 (fun _ => true) true Tryz.f4.params.toList args.toList ds p := hA0
  rw [Tryz.params4] at hA hval
  obtain ⟨v0, vs0, d0, ds0, p0, q0, hargs, rfl, rfl, h0, r0⟩ := trodAll_cons hA
  obtain ⟨v1, vs1, d1, ds1, p1, q1, rfl, rfl, rfl, h1, r1⟩ := trodAll_cons r0
  obtain ⟨v2, vs2, d2, ds2, p2, q2, rfl, rfl, rfl, h2, r2⟩ := trodAll_cons r1
  obtain ⟨rfl, rfl, rfl⟩ := trodAll_nil r2
  obtain rfl : args = #[v0, v1, v2] := by cases args; simp_all
  obtain ⟨a0, n0, c0, l0, rfl, wf0⟩ := open_fracs Tryz.underlying22 Tryz.underlying44 (by kernel_rfl) (by kernel_rfl) Tryz.underlying4 Tryz.underlying37 Tryz.underlying37 Tryz.underlying91 (by kernel_rfl) (hval 0 22 v0 rfl rfl) h0
  obtain ⟨K0, wd0⟩ := Frs.to wf0
  obtain ⟨a1, n1, c1, l1, rfl, wf1⟩ := open_fracs Tryz.underlying22 Tryz.underlying44 (by kernel_rfl) (by kernel_rfl) Tryz.underlying4 Tryz.underlying37 Tryz.underlying37 Tryz.underlying91 (by kernel_rfl) (hval 1 22 v1 rfl rfl) h1
  obtain ⟨K1, wd1⟩ := Frs.to wf1
  obtain ⟨g2, a2, n2, c2, l2, e2, m2, f2, k2, rfl, wd2, we2⟩ := open_frac Tryz.underlying44 (by kernel_rfl) (by kernel_rfl) Tryz.underlying4 Tryz.underlying37 Tryz.underlying37 Tryz.underlying91 (by kernel_rfl) (hval 2 44 v2 rfl rfl) h2
  clear hA0
  refine (law11_sums rowSaid fracSaid a0 n0 c0 K0 a1 n1 c1 K1 g2 a2 n2 c2 l2 e2 m2 f2 k2 W wd0 wd1 wd2 we2 (Lib.hid (table hL))).mono fun e W' hg => ?_
  obtain ⟨he, hb⟩ := hg
  subst he
  exact ⟨_, rfl, law_post laidOut (by kernel_rfl) (by kernel_rfl) Tryz.underlying4 rfl rfl hW' hb⟩

/-- The witness starts with the listed tables laid. -/
theorem laid_met (os : Os) (args : Array Value) : laidMetH Tryz.prog Rows.rowSumsRow.laid ((World.laidAll Tryz.prog os Rows.rowSumsRow.laid).forCall (fun _ _ => 0) ⟨#[], args, []⟩).memory :=
  (by rw [MakeChecks.laidMetH_plain _ _ _ (by kernel_rfl)]; exact laidMet_laidAll _ (by kernel_rfl) (by kernel_rfl))
theorem reads (os : Os) {H : Type} (enc : TypeId × Value → H) : ∃ places, DataW.whole enc Tryz.prog ((World.laidAll Tryz.prog os Rows.rowSumsRow.laid).forCall (fun _ _ => 0) ⟨#[], #[.slice none 0 0, .slice none 0 0, .agg #[.bool false, .slice none 0 0, .slice none 0 0]], []⟩).memory Tryz.f4.params.toList Rows.rowSumsSpec.vars false (#[.slice none 0 0, .slice none 0 0, .agg #[.bool false, .slice none 0 0, .slice none 0 0]] : Array Value).toList 8 = some ([.nil, .nil, .agg [.lit (.bool false), .nil, .nil]], [], places) :=
  ⟨[], by kernel_rfl⟩

set_option maxRecDepth 100000 in
theorem lifted (os : Os) (started : os.Started) (H : Type) (enc : TypeId × Value → H) (F : Stop.Interp) :
    ReturnsInHanded {} Tryz.checked os 4 .any ((OpenSpec.ofChange Rows.rowSumsSpec).preRow enc Tryz.prog Tryz.f4 Rows.rowSumsRow.domain false Rows.rowSumsRow.laid) (((OpenSpec.ofChange Rows.rowSumsSpec).at F).post enc Tryz.prog Tryz.f4 false true false false) := by
  obtain ⟨places, hx⟩ := reads os enc
  refine returnsInHanded_of_row (C := Tryz.checked) (s := OpenSpec.ofChange Rows.rowSumsSpec) own started (by kernel_rfl) Tryz.func4
    (witness_row_atRef (enc := enc) (C := Tryz.checked) false (World.laidAll Tryz.prog os Rows.rowSumsRow.laid) #[.slice none 0 0, .slice none 0 0, .agg #[.bool false, .slice none 0 0, .slice none 0 0]] (World.laidAll_os _ _ _) (by kernel_rfl) (by kernel_rfl) (by kernel_rfl)
      (OpenSpec.preRow_of_cond 8 hx (by kernel_rfl) (fun k hk => by cases hk) (by kernel_rfl) (laid_met os _))) ?_
  intro W base args ds gs before hval hW _ _ _ hL _ _
  exact contract H enc W base args ds gs before hval hW hL

theorem said : Rows.RowSumsSaid :=
  OpenClaim.holds_of_cond 4 Tryz.f4 rfl rfl rfl rfl rfl rfl rfl ⟨rfl, rfl, rfl, rfl, rfl⟩ rfl rfl rfl rfl rfl (by kernel_rfl) Tryz.func4 (by kernel_rfl)
    (of_decide_eq_true (by kernel_rfl)) (by unfold Func.isWrapper; first | (rw [if_pos (by decide +kernel)]; kernel_rfl) | (rw [if_neg (by decide +kernel)]; exact ⟨rfl, rfl⟩))
    (fun os started H enc _ F => by rw [OpenClaim.pre_eq_preRow]; exact lifted os started H enc F)

theorem plain (f : FuncId) (fn : Func) (hf : Tryz.pinned.checked.prog.funcNamed Rows.rowSumsRow.func = some f) (hfn : Tryz.pinned.checked.prog.funcs[f]? = some fn) :
    false = Tryz.pinned.checked.prog.looks [] ∧ ∀ (j : Nat) t, fn.params[j]? = some t → Tryz.pinned.checked.prog.wantsStandIn t = false := by
  obtain rfl : f = 4 := Option.some.inj ((show Tryz.prog.funcNamed Rows.rowSumsRow.func = some 4 by kernel_rfl).symm.trans hf) |>.symm
  obtain rfl : fn = Tryz.f4 := (Option.some.inj (Tryz.func4.symm.trans hfn)).symm
  refine ⟨by kernel_rfl, fun j t ht => ?_⟩
  have hm := Array.mem_of_getElem? ht
  have hall : (Tryz.f4.params.toList.all fun u => !Tryz.prog.wantsStandIn u) = true := by kernel_rfl
  exact (show Tryz.prog.wantsStandIn t = false by simpa using List.all_eq_true.1 hall t (by simpa using hm))

theorem card : Rows.RowSumsCardSaid :=
  Claim7.holds_tied_plain_at .later [] _ _ _ _ said (fun _ h => by cases h) (by kernel_rfl) (fun _ h => by cases h) rowSums_row_tie rfl ⟨rfl, rfl⟩ (by kernel_rfl) rfl plain (by kernel_rfl)
#print axioms card
end Go.Proofs.YtjeigdlhjghinaaGreatDoor.rowSums
