/-
  The document's answer of layer 11: Text. Written by genref11d.py.
-/
import Derived.Test.YtjeigdlhjghinaaGreatDoorG24
import Derived.Test.YtjeigdlhjghinaaGreatDoorRef10M
namespace Go.Proofs.YtjeigdlhjghinaaGreatDoor
open Go.RowKit

theorem rowTxt_snoc : ∀ {l : List Rat} (q : Rat), l ≠ [] → rowTxt (l ++ [q]) = rowTxt l ++ (44 :: ftxt q)
  | [], _, h => absurd rfl h
  | [x], q, _ => rfl
  | x :: y :: l, q, _ => by
    have h := rowTxt_snoc (l := y :: l) q (by simp)
    show ftxt x ++ 44 :: rowTxt ((y :: l) ++ [q]) = (ftxt x ++ 44 :: rowTxt (y :: l)) ++ (44 :: ftxt q)
    rw [h]; simp
set_option maxRecDepth 4096 in
set_option maxHeartbeats 4000000 in
theorem ref11_text (a0 : Option Addr) (n0 c0 : Nat) (qs0 : List Rat) (w : World) (h0 : Rw w a0 n0 c0 qs0) (hn : n0 ≤ 1000) (ht0 : ∀ q ∈ qs0, qlen q ≤ 1000) :
    Calls Tryz.prog 41 #[.slice a0 n0 c0] w (Gives (.string (bs (rowTxt qs0))) w) := by
  have HK0 := Lib.hid h0
  have HLl0 := Lib.hid h0.len
  have hbd0 := h0.bound
  have HTh0 := Lib.hid ht0
  clear h0 ht0
  obtain ⟨R, hR⟩ : ∃ R, rowTxt qs0 = R := ⟨_, rfl⟩
  have HR := Lib.hid hR
  rw [hR]
  clear hR
  go_enter Tryz.func41, Tryz.ntmps41
  go_wp2
  go_loopw [3, 4] (fun sv iv wr => ∃ (k : Nat) (s : List UInt8), k ≤ n0 ∧ iv = .int .i64 (k : Int) ∧ sv = .string (bs s) ∧ s.length ≤ k * 65000 ∧ Hid (rowTxt (qs0.take k) = s) ∧ Hid (Below w.heap.size w wr)) (fun _ iv _ => n0 - (intOf iv).toNat)
  case atStart => exact ⟨0, [], by omega, rfl, rfl, by simp, Lib.hid rfl, Lib.hid (Below.refl _ _)⟩
  case round =>
    obtain ⟨k, s, hk, rfl, rfl, hsl, HS, HB⟩ := hrel
    by_cases hlt : k < n0
    · have HT0 : Hid (qs0.take (k + 1) = qs0.take k ++ [qs0.getD k 0]) := Lib.hid (q_more (by rw [HLl0.out]; exact hlt))
      have hTk : (qs0.take k).length = k := take_len (by rw [HLl0.out]; exact hk)
      obtain ⟨bb0, off0, rfl, ak0, nk0, ck0, bk0, mk0, dk0, he0, hA0, hB0⟩ := HK0.out.at hlt
      have hth0 : nk0 ≤ 1000 := by rw [← hA0.len]; exact Nat.le_trans (qlen_num _) (HTh0.out _ (q_mem (by rw [HLl0.out]; exact hlt)))
      have htj0 : mk0 ≤ 1000 := by rw [← hB0.len]; exact Nat.le_trans (qlen_den _) (HTh0.out _ (q_mem (by rw [HLl0.out]; exact hlt)))
      have HE0 := Lib.hid he0
      have AK0 := Lib.hid hA0
      have BK0 := Lib.hid hB0
      clear he0 hA0 hB0
      generalize qs0.getD k 0 = qk0 at *
      have hki : (k : Int) < (n0 : Int) := by omega
      have hfl : (ftxt qk0).length ≤ 64990 := by
        have h1 := blen_txt AK0.out hth0
        have h2 := blen_txt BK0.out htj0
        rw [val_dg] at h1 h2
        have h3 : (ztxt qk0.num).length ≤ 32002 := by unfold ztxt; split <;> (try rw [List.length_cons]) <;> omega
        unfold ftxt
        split <;> simp only [List.length_append, List.length_cons, List.length_nil] <;> omega
      have hs1 := bs_size s
      have hs2 := bs_size (ftxt qk0)
      have hs3 := bs_size [44]
      have hs4 := bs_size (s ++ [44])
      simp only [List.length_append, List.length_cons, List.length_nil] at hs3 hs4
      have hcat : bs s ++ bs [44] = bs (s ++ [44]) := bs_append _ _
      by_cases h00 : k = 0
      · have HS9 : Hid (rowTxt (qs0.take (k + 1)) = s ++ ftxt qk0) := Lib.hid (by
          subst h00
          rw [HT0.out, ← HS.out]; rfl)
        have hk0 : ¬ (0 : Int) < (k : Int) := by omega
        clear h00 HT0 HS hTk
        obtain ⟨e00, e10, e20⟩ := three_on HE0.out HB.out
        go_wp2_with fail
        refine (ref10_text qk0 ak0 nk0 ck0 bk0 mk0 dk0 _ (AK0.out.later HB.out) (BK0.out.later HB.out) hth0 htj0).mono ?_
        rintro e w4 ⟨rfl, b4⟩
        clear e00 e10 e20
        replace HB := Lib.hid (below_then HB.out b4)
        clear b4
        go_wp2
        go_roundw
        case rel => exact ⟨k + 1, s ++ ftxt qk0, by omega, by go_num, by rw [← bs_append], by simp only [List.length_append]; omega, HS9, HB⟩
        case measure => simp [intOf]; omega
      · have HS9 : Hid (rowTxt (qs0.take (k + 1)) = s ++ (44 :: ftxt qk0)) := Lib.hid (by
          rw [HT0.out, rowTxt_snoc _ (fun e => h00 (by rw [← hTk, e]; rfl)), HS.out])
        have hk0 : (0 : Int) < (k : Int) := by omega
        clear h00 HT0 HS hTk
        obtain ⟨e00, e10, e20⟩ := three_on HE0.out HB.out
        go_wp2_with fail
        refine (ref10_text qk0 ak0 nk0 ck0 bk0 mk0 dk0 _ (AK0.out.later HB.out) (BK0.out.later HB.out) hth0 htj0).mono ?_
        rintro e w4 ⟨rfl, b4⟩
        clear e00 e10 e20
        replace HB := Lib.hid (below_then HB.out b4)
        clear b4
        go_wp2
        go_roundw
        case rel => exact ⟨k + 1, s ++ (44 :: ftxt qk0), by omega, by go_num, by (rw [show (⟨#[44]⟩ : ByteArray) = bs [44] from rfl, bs_append, bs_append]; simp), by simp only [List.length_append, List.length_cons]; omega, HS9, HB⟩
        case measure => simp [intOf]; omega
    · obtain rfl : k = n0 := by omega
      obtain rfl : s = R := by
        rw [← HR.out, ← HS.out, List.take_of_length_le (by rw [HLl0.out]; exact Nat.le_refl _)]
      clear HS
      go_wp2
      go_ret
      exact ⟨rfl, HB.out⟩
end Go.Proofs.YtjeigdlhjghinaaGreatDoor
