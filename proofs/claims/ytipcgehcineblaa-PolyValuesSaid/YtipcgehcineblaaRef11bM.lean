/-
  The document's answer of layer 11: Long, Zero, Unit. Written by genref11.py.
-/
import Derived.Test.YtipcgehcineblaaG12
import Derived.Test.YtipcgehcineblaaRef09kM
namespace Go.Proofs.Ytipcgehcineblaa
open Go.RowKit

set_option maxRecDepth 4096 in
set_option maxHeartbeats 4000000 in
theorem ref11_long (a : Option Addr) (n c : Nat) (L : List Fx) (K N : Int) (r : Bool) (w : World) (h : Fxs w a n c L) (hK : 0 ≤ K ∧ K ≤ 1000) (hr : Hid (r = true ↔ ¬ ((n : Int) ≤ K ∧ thinI N L))) :
    Calls Try.prog 5 #[.slice a n c, .int .i64 K, .int .i64 N] w (Gives (.bool r) w) := by
  have HK := Lib.hid h
  have HLl := Lib.hid h.len
  have hbd := h.bound
  obtain ⟨hK0, hK1⟩ := hK
  clear h
  go_enter Try.func5, Try.ntmps5
  go_wp2
  go_loopw [7] (fun iv wr => ∃ k : Nat, k ≤ n ∧ (k : Int) ≤ K ∧ iv = .int .i64 (k : Int) ∧ Hid (thinI N (L.take k)) ∧ Hid (Below w.heap.size w wr)) (fun iv _ => n - (intOf iv).toNat)
  case atStart => exact ⟨0, by omega, by omega, rfl, Lib.hid (fun x hx => by simp at hx), Lib.hid (Below.refl _ _)⟩
  case round =>
    obtain ⟨k, hk, hkK, rfl, HTh, HB⟩ := hrel
    by_cases hlt : k < n
    · have hki : (k : Int) < (n : Int) := by omega
      by_cases hltK : (k : Int) < K
      · obtain ⟨bb, off, rfl, e0, e1, e2, -⟩ := HK.out.at hlt
        have HT : Hid (L.take (k + 1) = L.take k ++ [L.getD k Fx.zero]) := Lib.hid (fx_more (by rw [HLl.out]; exact hlt))
        have HM : Hid (L.getD k Fx.zero ∈ L) := Lib.hid (fx_mem (by rw [HLl.out]; exact hlt))
        generalize L.getD k Fx.zero = xk at *
        obtain ⟨sk, ak, nk, ck, lak, bk, mk, dk, lbk⟩ := xk
        simp only at e0 e1 e2
        have HE : Hid (w.cell? ⟨bb, off + k * 3, none⟩ = some (.bool sk) ∧ w.cell? ⟨bb, off + k * 3 + 1, none⟩ = some (.slice ak nk ck) ∧ w.cell? ⟨bb, off + k * 3 + 2, none⟩ = some (.slice bk mk dk)) := Lib.hid ⟨e0, e1, e2⟩
        clear e0 e1 e2
        obtain ⟨e0, e1, e2⟩ := three_on HE.out HB.out
        go_wp2_with fail
        refine (ref09_long sk ak nk ck bk mk dk N _).mono ?_
        rintro e w4 ⟨rfl, b4⟩
        clear e0 e1 e2
        replace HB := Lib.hid (below_then HB.out b4)
        clear b4
        by_cases hb : N < (nk : Int) ∨ N < (mk : Int)
        · have hl : (decide (N < (nk : Int)) || decide (N < (mk : Int))) = true := by
            rw [Bool.or_eq_true]
            exact hb.imp decide_eq_true decide_eq_true
          rw [hl]
          have hrt : r = true := hr.out.2 (fun h8 => by
            have := h8.2 _ HM.out
            simp only at this
            omega)
          subst hrt
          clear hl hb
          go_wp2
          go_ret
          exact ⟨rfl, HB.out⟩
        · have hl : (decide (N < (nk : Int)) || decide (N < (mk : Int))) = false := by
            rw [decide_eq_false (fun h => hb (.inl h)), decide_eq_false (fun h => hb (.inr h))]; rfl
          rw [hl]
          have HTh9 : Hid (thinI N (L.take (k + 1))) := Lib.hid (fun x hx => by
            rw [HT.out] at hx
            rcases List.mem_append.1 hx with hx | hx
            · exact HTh.out x hx
            · rw [List.mem_singleton.1 hx]
              simp only
              omega)
          clear hl hb HTh HT HM
          go_wp2
          go_roundw
          case rel => exact ⟨k + 1, by omega, by omega, by go_num, HTh9, HB⟩
          case measure => simp [intOf]; omega
      · have hrt : r = true := hr.out.2 (fun h8 => by have := h8.1; omega)
        have hnk : K < (n : Int) := by omega
        subst hrt
        go_wp2
        go_ret
        exact ⟨rfl, HB.out⟩
    · obtain rfl : k = n := by omega
      have hrf : r = false := by
        cases r with
        | false => rfl
        | true =>
          refine absurd (hr.out.1 rfl) (fun h8 => h8 ⟨hkK, ?_⟩)
          have h9 := HTh.out
          rwa [List.take_of_length_le (by rw [HLl.out]; exact Nat.le_refl _)] at h9
      subst hrf
      have hnk : ¬ K < (k : Int) := by omega
      go_wp2
      go_ret
      exact ⟨rfl, HB.out⟩
end Go.Proofs.Ytipcgehcineblaa
