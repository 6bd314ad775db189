/-
  GridOrder: the law returns true for every input, and leaves its arguments and all memory that was there as they were; the tables of the library that the row lists are tied to the program's text by the given tie. No other condition.
-/
import Derived.Test.YtpjkhbfglgmnmaaGreatDoorG18
import Derived.Test.YtpjkhbfglgmnmaaGreatDoorG13
import Derived.Test.YtpjkhbfglgmnmaaGreatDoorLaw12Walks4M
import Derived.Test.YtpjkhbfglgmnmaaGreatDoorG17
import Derived.Test.YtpjkhbfglgmnmaaGreatDoorG15
import Derived.Test.YtpjkhbfglgmnmaaGreatDoorG12
import Derived.Test.YtpjkhbfglgmnmaaGreatDoorOpen4M
import Derived.Test.YtpjkhbfglgmnmaaGreatDoorCards
import Derived.Test.YtpjkhbfglgmnmaaGreatDoorTie
import Derived.WalkKit
import Derived.ProofKit
import Derived.OpenShut
import Derived.Lib.SmallJoins
import Derived.Deep.DeepWitnessRowRef
import Derived.Lib.LaidTab
import Derived.LaidMore
import Derived.SevenTiedAt
namespace Go.Proofs.YtpjkhbfglgmnmaaGreatDoor.gridOrder
open Go.ChangeShapes Go.WideShapes Go.ChangeAt Go.RowKit

theorem own : ownKnob Tryz.prog.godebug = none := by kernel_rfl
theorem laidOut : laidOutB Tryz.prog = true := by kernel_rfl
theorem table {W : World} (h : laidMetH Tryz.prog Rows.gridOrderRow.laid W) : Dec10 W :=
  tab_of_laid (laid := Rows.gridOrderRow.laid) (Rows.gridOrderRow.laid.findIdx fun x => Tryz.prog.globalNamed x.1 == some 1) (Rows.gridOrderRow.laid.getD (Rows.gridOrderRow.laid.findIdx fun x => Tryz.prog.globalNamed x.1 == some 1) (Rows.gridOrderRow.func, .nil)).1 (by kernel_rfl) (by kernel_rfl) (by kernel_rfl) Tryz.underlying178 Tryz.underlying88 (by kernel_rfl) (by kernel_rfl) h

set_option maxRecDepth 100000 in
theorem contract (H : Type) (enc : TypeId × Value → H) (W : World) (base : Nat) (args : Array Value) (ds gs : List (DataW H)) (before : List MemPlace)
    (hval : ∀ (j : Nat) t v, Tryz.f6.params[j]? = some t → args[j]? = some v → Value.okWide Tryz.prog W .any base t v)
    (hW : DataW.Whole enc Tryz.prog Tryz.f6.params.toList Rows.gridOrderSpec.vars false W args.toList ds gs before) (hL : laidMetH Tryz.prog Rows.gridOrderRow.laid W) :
    Calls Tryz.prog 6 args W fun e W' => ∃ v, e = .returned v ∧ Rows.gridOrderSpec.post enc Tryz.prog Tryz.f6 false true false false W args v W' := by
  have hW' := hW
  obtain ⟨p, q, hA0, hV, rfl, hfz, hnd⟩ := hW
  have hA : DataW.TrodAll enc Tryz.prog W 0 (fun _ => true) true Tryz.f6.params.toList args.toList ds p := hA0
  rw [Tryz.params6] at hA hval
  obtain ⟨v0, vs0, d0, ds0, p0, q0, hargs, rfl, rfl, h0, r0⟩ := trodAll_cons hA
  obtain ⟨v1, vs1, d1, ds1, p1, q1, rfl, rfl, rfl, h1, r1⟩ := trodAll_cons r0
  obtain ⟨v2, vs2, d2, ds2, p2, q2, rfl, rfl, rfl, h2, r2⟩ := trodAll_cons r1
  obtain ⟨rfl, rfl, rfl⟩ := trodAll_nil r2
  obtain rfl : args = #[v0, v1, v2] := by cases args; simp_all
  obtain ⟨a0, n0, c0, K0, rfl, wd0⟩ := open_fracss Tryz.underlying22 (by kernel_rfl) Tryz.underlying39 Tryz.underlying70 (by kernel_rfl) (by kernel_rfl) Tryz.underlying4 Tryz.underlying54 Tryz.underlying54 Tryz.underlying98 (by kernel_rfl) (hval 0 22 v0 rfl rfl) h0
  obtain ⟨a1, n1, c1, K1, rfl, wd1⟩ := open_fracss Tryz.underlying22 (by kernel_rfl) Tryz.underlying39 Tryz.underlying70 (by kernel_rfl) (by kernel_rfl) Tryz.underlying4 Tryz.underlying54 Tryz.underlying54 Tryz.underlying98 (by kernel_rfl) (hval 1 22 v1 rfl rfl) h1
  obtain ⟨a2, n2, c2, l2, rfl, wf2⟩ := open_fracs Tryz.underlying39 Tryz.underlying70 (by kernel_rfl) (by kernel_rfl) Tryz.underlying4 Tryz.underlying54 Tryz.underlying54 Tryz.underlying98 (by kernel_rfl) (hval 2 39 v2 rfl rfl) h2
  obtain ⟨K2, wd2⟩ := Frs.to wf2
  clear hA0
  refine (law12_order gridSaid rowSaid fracSaid a0 n0 c0 K0 a1 n1 c1 K1 a2 n2 c2 K2 W wd0 wd1 wd2 (Lib.hid (table hL))).mono fun e W' hg => ?_
  obtain ⟨he, hb⟩ := hg
  subst he
  exact ⟨_, rfl, law_post laidOut (by kernel_rfl) (by kernel_rfl) Tryz.underlying4 rfl rfl hW' hb⟩

/-- The witness starts in the heap that the door's own run leaves. -/
theorem laid_met (os : Os) (args : Array Value) : laidMetH Tryz.prog Rows.gridOrderRow.laid ((World.doorLaid Tryz.prog 400 os).forCall (fun _ _ => 0) ⟨#[], args, []⟩).memory :=
  laidMetH_of_parts3 (fuel := 8) (laidMet_of_run' 8 (by kernel_rfl) (by kernel_rfl)) (by kernel_rfl) (by kernel_rfl)
theorem reads (os : Os) {H : Type} (enc : TypeId × Value → H) : ∃ places, DataW.whole enc Tryz.prog ((World.doorLaid Tryz.prog 400 os).forCall (fun _ _ => 0) ⟨#[], #[.slice none 0 0, .slice none 0 0, .slice none 0 0], []⟩).memory Tryz.f6.params.toList Rows.gridOrderSpec.vars false (#[.slice none 0 0, .slice none 0 0, .slice none 0 0] : Array Value).toList 8 = some ([.nil, .nil, .nil], [], places) :=
  ⟨[], by kernel_rfl⟩

set_option maxRecDepth 100000 in
theorem lifted (os : Os) (started : os.Started) (H : Type) (enc : TypeId × Value → H) (F : Stop.Interp) :
    ReturnsInHanded {} Tryz.checked os 6 .any ((OpenSpec.ofChange Rows.gridOrderSpec).preRow enc Tryz.prog Tryz.f6 Rows.gridOrderRow.domain false Rows.gridOrderRow.laid) (((OpenSpec.ofChange Rows.gridOrderSpec).at F).post enc Tryz.prog Tryz.f6 false true false false) := by
  obtain ⟨places, hx⟩ := reads os enc
  refine returnsInHanded_of_row (C := Tryz.checked) (s := OpenSpec.ofChange Rows.gridOrderSpec) own started (by kernel_rfl) Tryz.func6
    (witness_row_atRef (enc := enc) (C := Tryz.checked) false (World.doorLaid Tryz.prog 400 os) #[.slice none 0 0, .slice none 0 0, .slice none 0 0] rfl (by kernel_rfl) (by kernel_rfl) (by kernel_rfl)
      (OpenSpec.preRow_of_cond 8 hx (by kernel_rfl) (fun k hk => by cases hk) (by kernel_rfl) (laid_met os _))) ?_
  intro W base args ds gs before hval hW _ _ _ hL _ _
  exact contract H enc W base args ds gs before hval hW hL

theorem said : Rows.GridOrderSaid :=
  OpenClaim.holds_of_cond 6 Tryz.f6 rfl rfl rfl rfl rfl rfl rfl ⟨rfl, rfl, rfl, rfl, rfl⟩ rfl rfl rfl rfl rfl (by kernel_rfl) Tryz.func6 (by kernel_rfl)
    (of_decide_eq_true (by kernel_rfl)) (by unfold Func.isWrapper; first | (rw [if_pos (by decide +kernel)]; kernel_rfl) | (rw [if_neg (by decide +kernel)]; exact ⟨rfl, rfl⟩))
    (fun os started H enc _ F => by rw [OpenClaim.pre_eq_preRow]; exact lifted os started H enc F)

theorem plain (f : FuncId) (fn : Func) (hf : Tryz.pinned.checked.prog.funcNamed Rows.gridOrderRow.func = some f) (hfn : Tryz.pinned.checked.prog.funcs[f]? = some fn) :
    false = Tryz.pinned.checked.prog.looks [] ∧ ∀ (j : Nat) t, fn.params[j]? = some t → Tryz.pinned.checked.prog.wantsStandIn t = false := by
  obtain rfl : f = 6 := Option.some.inj ((show Tryz.prog.funcNamed Rows.gridOrderRow.func = some 6 by kernel_rfl).symm.trans hf) |>.symm
  obtain rfl : fn = Tryz.f6 := (Option.some.inj (Tryz.func6.symm.trans hfn)).symm
  refine ⟨by kernel_rfl, fun j t ht => ?_⟩
  have hm := Array.mem_of_getElem? ht
  have hall : (Tryz.f6.params.toList.all fun u => !Tryz.prog.wantsStandIn u) = true := by kernel_rfl
  exact (show Tryz.prog.wantsStandIn t = false by simpa using List.all_eq_true.1 hall t (by simpa using hm))

theorem card : Rows.GridOrderCardSaid :=
  Claim7.holds_tied_plain_at .later [] _ _ _ _ said (fun _ h => by cases h) (by kernel_rfl) (fun _ h => by cases h) gridOrder_row_tie rfl ⟨rfl, rfl⟩ (by kernel_rfl) rfl plain (by kernel_rfl)
#print axioms card
end Go.Proofs.YtpjkhbfglgmnmaaGreatDoor.gridOrder
