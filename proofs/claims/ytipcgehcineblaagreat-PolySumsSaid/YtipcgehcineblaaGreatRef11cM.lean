/-
  The document's answer of layer 11: Same, Dot. Written by genref11.py.
-/
import Derived.Test.YtipcgehcineblaaGreatRef11bM
import Derived.Test.YtipcgehcineblaaGreatRef09sM
import Derived.StillTailTactics
namespace Go.Proofs.YtipcgehcineblaaGreat
open Go.RowKit

set_option maxRecDepth 4096 in
set_option maxHeartbeats 4000000 in
theorem ref11_same (a0 : Option Addr) (n0 c0 : Nat) (qs0 : List Rat) (a1 : Option Addr) (n1 c1 : Nat) (qs1 : List Rat) (w : World) (h0 : Rw w a0 n0 c0 qs0) (h1 : Rw w a1 n1 c1 qs1) (hn : n0 ≤ 1000) (ht0 : ∀ q ∈ qs0, qlen q ≤ 15728640000) (ht1 : ∀ q ∈ qs1, qlen q ≤ 15728640000) :
    Calls Tryz.prog 17 #[.slice a0 n0 c0, .slice a1 n1 c1] w (Gives (.bool (decide (qs0 = qs1))) w) := by
  have HK0 := Lib.hid h0
  have HK1 := Lib.hid h1
  have HLl0 := Lib.hid h0.len
  have HLl1 := Lib.hid h1.len
  have hbd0 := h0.bound
  have hbd1 := h1.bound
  have HTh0 := Lib.hid ht0
  have HTh1 := Lib.hid ht1
  clear h0 h1 ht0 ht1
  obtain ⟨r, hr⟩ : ∃ r, decide (qs0 = qs1) = r := ⟨_, rfl⟩
  have HR := Lib.hid hr
  rw [hr]
  clear hr
  go_enter Tryz.func17, Tryz.ntmps17
  by_cases hnm : n0 = n1
  · subst hnm
    go_wp2
    go_loopw [5] (fun iv wr => ∃ k : Nat, k ≤ n0 ∧ iv = .int .i64 (k : Int) ∧ Hid (qs0.take k = qs1.take k) ∧ Hid (Below w.heap.size w wr)) (fun iv _ => n0 - (intOf iv).toNat)
    case atStart => exact ⟨0, by omega, rfl, Lib.hid rfl, Lib.hid (Below.refl _ _)⟩
    case round =>
      obtain ⟨k, hk, rfl, HO, HB⟩ := hrel
      by_cases hlt : k < n0
      · have HT0 : Hid (qs0.take (k + 1) = qs0.take k ++ [qs0.getD k 0]) := Lib.hid (q_more (by rw [HLl0.out]; exact hlt))
        have HT1 : Hid (qs1.take (k + 1) = qs1.take k ++ [qs1.getD k 0]) := Lib.hid (q_more (by rw [HLl1.out]; exact hlt))
        obtain ⟨bb0, off0, rfl, ak0, nk0, ck0, bk0, mk0, dk0, he0, hA0, hB0⟩ := HK0.out.at hlt
        have hth0 : nk0 ≤ 15728640000 := by rw [← hA0.len]; exact Nat.le_trans (qlen_num _) (HTh0.out _ (q_mem (by rw [HLl0.out]; exact hlt)))
        have htj0 : mk0 ≤ 15728640000 := by rw [← hB0.len]; exact Nat.le_trans (qlen_den _) (HTh0.out _ (q_mem (by rw [HLl0.out]; exact hlt)))
        have HE0 := Lib.hid he0
        have AK0 := Lib.hid hA0
        have BK0 := Lib.hid hB0
        clear he0 hA0 hB0
        obtain ⟨bb1, off1, rfl, ak1, nk1, ck1, bk1, mk1, dk1, he1, hA1, hB1⟩ := HK1.out.at hlt
        have hth1 : nk1 ≤ 15728640000 := by rw [← hA1.len]; exact Nat.le_trans (qlen_num _) (HTh1.out _ (q_mem (by rw [HLl1.out]; exact hlt)))
        have htj1 : mk1 ≤ 15728640000 := by rw [← hB1.len]; exact Nat.le_trans (qlen_den _) (HTh1.out _ (q_mem (by rw [HLl1.out]; exact hlt)))
        have HE1 := Lib.hid he1
        have AK1 := Lib.hid hA1
        have BK1 := Lib.hid hB1
        clear he1 hA1 hB1
        generalize qs0.getD k 0 = qk0 at *
        generalize qs1.getD k 0 = qk1 at *
        have hki : (k : Int) < (n0 : Int) := by omega
        obtain ⟨e00, e10, e20⟩ := three_on HE0.out HB.out
        obtain ⟨e01, e11, e21⟩ := three_on HE1.out HB.out
        go_wp2
        go_still_tail 8, (by kernel_rfl)
        change wpList _ _ _ _ _ wr.drew
        have b0 : Below wr.heap.size wr wr.drew := (Below.refl _ _).drew
        replace HB := Lib.hid (below_then HB.out b0)
        clear e00 e10 e20 e01 e11 e21 b0
        generalize wr.drew = wr at *
        have HC : ∀ u v, u = frV (zneg qk0.num) ak0 nk0 ck0 bk0 mk0 dk0 → v = frV (zneg qk1.num) ak1 nk1 ck1 bk1 mk1 dk1 → Calls Tryz.prog 46 #[u, v] wr (Gives (.bool (decide (qk0 = qk1))) wr) := by
          rintro _ _ rfl rfl
          exact ref09_same_rt _ _ qk0 qk1 _ (Rt.of (AK0.out.later HB.out) (BK0.out.later HB.out) (by omega) (by omega)) (Rt.of (AK1.out.later HB.out) (BK1.out.later HB.out) (by omega) (by omega))
        go_wp2_with fail
        refine (HC _ _ rfl rfl).mono ?_
        rintro e w4 ⟨rfl, b4⟩
        replace HB := Lib.hid (below_then HB.out b4)
        clear b4 HC
        by_cases hq : qk0 = qk1
        · have HO5 : Hid (qs0.take (k + 1) = qs1.take (k + 1)) := Lib.hid (by rw [HT0.out, HT1.out, HO.out, hq])
          rw [decide_eq_true hq]
          clear hq HT0 HT1 HO
          go_wp2
          go_roundw
          case rel => exact ⟨k + 1, by omega, by go_num, HO5, HB⟩
          case measure => simp [intOf]; omega
        · have hne : ¬ qs0 = qs1 := fun e => by
            subst e
            have h8 := HT0.out.symm.trans HT1.out
            have h9 := List.append_cancel_left h8
            exact hq (by simpa using h9)
          obtain rfl : false = r := (decide_eq_false hne).symm.trans HR.out
          rw [decide_eq_false hq]
          clear hq hne HT0 HT1 HO
          go_wp2
          go_ret
          exact ⟨rfl, HB.out⟩
      · obtain rfl : k = n0 := by omega
        have he : qs0 = qs1 := by
          have h8 := HO.out
          rwa [List.take_of_length_le (by rw [HLl0.out]; exact Nat.le_refl _), List.take_of_length_le (by rw [HLl1.out]; exact Nat.le_refl _)] at h8
        obtain rfl : true = r := (decide_eq_true he).symm.trans HR.out
        clear he
        go_wp2
        go_ret
        exact ⟨rfl, HB.out⟩
  · have hne : ¬ qs0 = qs1 := fun e => hnm (by rw [← HLl0.out, ← HLl1.out, e])
    have hnmi : ((n0 : Int) != (n1 : Int)) = true := by simp; omega
    obtain rfl : false = r := (decide_eq_false hne).symm.trans HR.out
    clear hne
    go_wp2
    go_ret
    exact ⟨rfl, Below.refl _ _⟩
end Go.Proofs.YtipcgehcineblaaGreat
