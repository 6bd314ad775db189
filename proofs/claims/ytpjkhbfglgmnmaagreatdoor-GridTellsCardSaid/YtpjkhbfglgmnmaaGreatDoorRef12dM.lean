/-
  The document's answer of layer 12: Apply, Ident.
-/
import Derived.Test.YtpjkhbfglgmnmaaGreatDoorRef12M
import Derived.Test.YtpjkhbfglgmnmaaGreatDoorRef09sM
namespace Go.Proofs.YtpjkhbfglgmnmaaGreatDoor
open Go.RowKit

theorem gapply_getD {Q : List (List Rat)} {c : List Rat} {k : Nat} (hk : k < Q.length) : (gapply Q c).getD k 0 = rdot (Q.getD k []) c := by
  unfold gapply
  rw [List.getD_eq_getElem?_getD, List.getElem?_map, List.getElem?_eq_getElem hk, List.getD_eq_getElem?_getD, List.getElem?_eq_getElem hk]; rfl
set_option maxRecDepth 4096 in
set_option maxHeartbeats 4000000 in
theorem ref12_apply (a : Option Addr) (n c : Nat) (Q : List (List Rat)) (b : Option Addr) (m d : Nat) (qs : List Rat) (w : World) (h0 : Rwss w a n c Q) (h1 : Rw w b m d qs) (hn : n ≤ 1000) (hm : m ≤ 100) (ht0 : ∀ r ∈ Q, r.length = m ∧ ∀ q ∈ r, qlen q ≤ 40) (ht1 : ∀ q ∈ qs, qlen q ≤ 40) : Calls Tryz.prog 29 #[.slice a n c, .slice b m d] w (LstRw (gapply Q qs) w) := by
  have HK := Lib.hid h0
  have HC := Lib.hid h1
  have HLl := Lib.hid h0.len
  have hbd := h0.bound
  have hbdc := h1.bound
  have HQT := Lib.hid ht0
  have HCT := Lib.hid ht1
  obtain ⟨T, hT⟩ : ∃ T, gapply Q qs = T := ⟨_, rfl⟩
  have HTL : Hid (T.length = n) := Lib.hid (by rw [← hT, gapply_length]; exact HLl.out)
  have HTE := Lib.hid hT
  rw [hT]
  clear h0 h1 ht0 ht1 hT
  obtain ⟨i0, hi, hz0, hz1, hz2⟩ := info_parts infoFrac11
  go_enter Tryz.func29, Tryz.ntmps29
  go_wp2
  go_loopw [5, 6] (fun mv iv wr => ∃ k : Nat, k ≤ n ∧ iv = .int .i64 (k : Int) ∧ Hid (Row wr w.heap.size 70 mv (T.take k)) ∧ Hid (Below w.heap.size w wr) ∧ w.heap.size ≤ wr.heap.size) (fun _ iv _ => n - (intOf iv).toNat)
  case atStart => exact ⟨0, by omega, rfl, Lib.hid (Row.nil _ _ _), Lib.hid (Below.refl _ _), by omega⟩
  case round =>
    obtain ⟨k, hk, rfl, HO, HB, hsz⟩ := hrel
    by_cases hlt : k < n
    · have hkT : k < T.length := by rw [HTL.out]; exact hlt
      have hmem := HQT.out _ (ll_getD_mem (show k < Q.length by rw [HLl.out]; exact hlt))
      have hval : T.getD k 0 = rdot (Q.getD k []) qs := by rw [← HTE.out]; exact gapply_getD (by rw [HLl.out]; exact hlt)
      have HT0 := q_more hkT
      obtain ⟨bb, off, hbe, a', n', c', e0, h1⟩ := (HK.out.later HB.out).at hlt
      have hkL : (T.take k).length ≤ 1000000 := by rw [List.length_take]; omega
      generalize Q.getD k [] = x at *
      generalize T.getD k 0 = q0 at *
      have HT := Lib.hid HT0
      have HX := Lib.hid h1
      have HCr := Lib.hid (HC.out.later HB.out)
      have hbd1 := h1.bound
      have hl1 := h1.len
      have hki : (k : Int) < (n : Int) := by omega
      have HD : ∀ w' : World, Rw w' a' n' c' x → Rw w' b m d qs → Calls Tryz.prog 49 #[.slice a' n' c', .slice b m d] w' (LstQ q0 w') := fun w' k1 k2 => hval ▸ ref11_dot a' n' c' x b m d qs w' k1 k2 (Lib.hid (by have := hmem.1; omega)) (by have := hmem.1; omega) hmem.2 HCT.out
      subst hbe
      clear h1 HT0
      go_wp2_with fail
      refine (HD _ HX.out HCr.out).mono ?_
      rintro e w4 ⟨a4, n4, c4, b4, m4, d4, rfl, h4, g4, bw⟩
      clear e0 HX HCr hval hmem HD hl1
      replace HB := Lib.hid (below_then HB.out bw)
      replace HO := Lib.hid (HO.out.later bw)
      have hsz4 : w.heap.size ≤ w4.heap.size := Nat.le_trans hsz bw.size
      have HA4 := Lib.hid h4
      have HB4 := Lib.hid g4
      clear bw hsz h4 g4
      unfold frV
      have ba := below_alloc w4 (.cells #[.bool (zneg q0.num), .slice a4 n4 c4, .slice b4 m4 d4] 70)
      have HOa := Lib.hid (HO.out.later ba)
      have HBa := Lib.hid (below_then HB.out ba)
      have HAa := Lib.hid (HA4.out.later ba)
      have HCa := Lib.hid (HB4.out.later ba)
      clear ba HO HB HA4 HB4
      go_wp2_with (at_builtin; refine wpList_append_row _ rfl _ _ 39 rfl w.heap.size 70 i0 Tryz.underlying39 hi hz0 hz1 hz2 _ (T.take k) rfl HOa.out ⟨w4.heap.size, 0, none⟩ q0 a4 n4 c4 b4 m4 d4 rfl (rx_news _ _ _ _ _ _ _ _ _) HAa.out HCa.out hkL (by rw [blk_size]; omega) ?_)
      intro mv5 w5 hrow hgrow hbase hcl
      have HO5 : Hid (Row w5 w.heap.size 70 mv5 (T.take (k + 1))) := Lib.hid (by rw [HT.out]; exact hrow)
      have HB5 := Lib.hid (HBa.out.grown hgrow (by rw [blk_size]; omega) hbase)
      have hsz5 : w.heap.size ≤ w5.heap.size := Nat.le_trans (by rw [blk_size]; omega) hgrow.size
      clear hrow hgrow hbase hcl HOa HBa HAa HCa HT hsz4
      go_wp2
      go_roundw
      case rel => exact ⟨k + 1, by omega, by go_num, HO5, HB5, hsz5⟩
      case measure => simp [intOf]; omega
    · obtain rfl : k = n := by omega
      have HF := Lib.hid (HO.out.whole HTL.out)
      clear HO
      obtain ⟨a9, c9, rfl, h9⟩ := HF.out.out
      have HF9 := Lib.hid h9
      clear h9 HF
      go_wp2
      go_ret
      exact ⟨a9, _, c9, rfl, HF9.out, HB.out⟩
end Go.Proofs.YtpjkhbfglgmnmaaGreatDoor
