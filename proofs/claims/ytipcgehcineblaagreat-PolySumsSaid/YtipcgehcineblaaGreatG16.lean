/-
  Several texts of this claim as one, group 16.
-/
import Derived.Test.YtipcgehcineblaaGreatG13
import Derived.Test.YtipcgehcineblaaGreatG11
import Derived.Test.YtipcgehcineblaaGreatG15
import Derived.Test.YtipcgehcineblaaGreatG9
import Derived.Deep.RegionHeld3
/-
  The document's answer of layer 11: rows made place by place; the law's own To and Of. Written by genref11.py.
-/
namespace Go.Proofs.YtipcgehcineblaaGreat
open Go.RowKit

theorem rscale_getD {c : Rat} {l : List Rat} {k : Nat} (h : k < l.length) : (rscale c l).getD k 0 = c * l.getD k 0 := by
  unfold rscale
  rw [List.getD_eq_getElem?_getD, List.getD_eq_getElem?_getD, List.getElem?_map, List.getElem?_eq_getElem h]; rfl
theorem radd_getD : ∀ {l m : List Rat} {k : Nat}, k < l.length → k < m.length → (radd l m).getD k 0 = l.getD k 0 + m.getD k 0
  | [], _, _, h, _ => by simp at h
  | _ :: _, [], _, _, h => by simp at h
  | x :: l, y :: m, 0, _, _ => rfl
  | x :: l, y :: m, k + 1, h, h' => by
    have := radd_getD (l := l) (m := m) (k := k) (by simpa using h) (by simpa using h')
    simpa [radd] using this
theorem infoFrac11 : (Tryz.prog.info? 25).map (fun i => (i.zero, i.size, i.bytes)) = some (some (.agg #[.bool false, .slice none 0 0, .slice none 0 0]), 3, 56) := by kernel_rfl
theorem infoFrac11p : (Tryz.prog.info? 36).map (fun i => (i.zero, i.size, i.bytes)) = some (some (.agg #[.bool false, .slice none 0 0, .slice none 0 0]), 3, 56) := by kernel_rfl
set_option maxRecDepth 4096 in
set_option maxHeartbeats 4000000 in
theorem law11_to (a : Option Addr) (n c : Nat) (L : List Fx) (w : World) (h : Fxs w a n c L) (hn : n ≤ 1000) :
    Calls Tryz.prog 11 #[.slice a n c] w (fun e w' => ∃ (a' : Option Addr) (c' : Nat), e = .returned (.slice a' n c') ∧ Fxs w' a' n c' L ∧ Below w.heap.size w w') := by
  have HK := Lib.hid h
  have HLl := Lib.hid h.len
  have hbd := h.bound
  clear h
  obtain ⟨i0, hi, hz0, hz1, hz2⟩ := info_parts infoFrac11p
  go_enter Tryz.func11, Tryz.ntmps11
  go_wp2
  go_loopw [3, 4] (fun mv iv wr => ∃ k : Nat, k ≤ n ∧ iv = .int .i64 (k : Int) ∧ Hid (Cop wr w.heap.size 36 mv (L.take k)) ∧ Hid (Below w.heap.size w wr) ∧ w.heap.size ≤ wr.heap.size) (fun _ iv _ => n - (intOf iv).toNat)
  case atStart => exact ⟨0, by omega, rfl, Lib.hid (Cop.nil _ _ _), Lib.hid (Below.refl _ _), by omega⟩
  case round =>
    obtain ⟨k, hk, rfl, HO, HB, hsz⟩ := hrel
    by_cases hlt : k < n
    · obtain ⟨bb, off, rfl, e0, e1, e2, hok⟩ := HK.out.at hlt
      have HT : Hid (L.take (k + 1) = L.take k ++ [L.getD k Fx.zero]) := Lib.hid (fx_more (by rw [HLl.out]; exact hlt))
      have hkL : (L.take k).length ≤ 1000000 := by rw [take_len (by rw [HLl.out]; exact hk)]; omega
      generalize L.getD k Fx.zero = xk at *
      obtain ⟨sk, ak, nk, ck, lak, bk, mk, dk, lbk⟩ := xk
      simp only at e0 e1 e2
      have HY := Lib.hid hok
      have HE : Hid (w.cell? ⟨bb, off + k * 3, none⟩ = some (.bool sk) ∧ w.cell? ⟨bb, off + k * 3 + 1, none⟩ = some (.slice ak nk ck) ∧ w.cell? ⟨bb, off + k * 3 + 2, none⟩ = some (.slice bk mk dk)) := Lib.hid ⟨e0, e1, e2⟩
      clear hok e0 e1 e2
      have hki : (k : Int) < (n : Int) := by omega
      obtain ⟨e0, e1, e2⟩ := three_on HE.out HB.out
      go_wp2_with fail
      refine (law09_to sk ak nk ck bk mk dk _).mono ?_
      rintro e w4 ⟨rfl, b4⟩
      clear e0 e1 e2
      replace HB := Lib.hid (below_then HB.out b4)
      replace HO := Lib.hid (HO.out.later b4)
      have hsz4 : w.heap.size ≤ w4.heap.size := Nat.le_trans hsz b4.size
      clear b4 hsz
      unfold frV
      have ba := below_alloc w4 (.cells #[.bool sk, .slice ak nk ck, .slice bk mk dk] 36)
      have HOa := Lib.hid (HO.out.later ba)
      have HBa := Lib.hid (below_then HB.out ba)
      have HYa := Lib.hid (HY.out.later HBa.out)
      clear ba HO HB
      go_wp2_with (at_builtin; refine wpList_append_cop _ rfl _ _ 31 rfl w.heap.size 36 i0 Tryz.underlying31 hi hz0 hz1 hz2 _ (L.take k) rfl HOa.out ⟨w4.heap.size, 0, none⟩ ⟨sk, ak, nk, ck, lak, bk, mk, dk, lbk⟩ rfl (cells_news _ _ _) HYa.out hkL (by rw [blk_size]; omega) ?_)
      intro mv5 w5 hrow hgrow hbase hcl
      have HO5 : Hid (Cop w5 w.heap.size 36 mv5 (L.take (k + 1))) := Lib.hid (by rw [HT.out]; exact hrow)
      have HB5 := Lib.hid (HBa.out.grown hgrow (by rw [blk_size]; omega) hbase)
      have hsz5 : w.heap.size ≤ w5.heap.size := Nat.le_trans (by rw [blk_size]; omega) hgrow.size
      clear hrow hgrow hbase hcl HOa HBa HYa HT HE HY hsz4
      go_wp2
      go_roundw
      case rel => exact ⟨k + 1, by omega, by go_num, HO5, HB5, hsz5⟩
      case measure => simp [intOf]; omega
    · obtain rfl : k = n := by omega
      have HF := Lib.hid (HO.out.whole HLl.out)
      obtain ⟨a9, c9, rfl, h9⟩ := HF.out.out
      rw [HLl.out] at h9 ⊢
      have HF9 := Lib.hid h9
      clear h9 HF HO
      go_wp2
      go_ret
      exact ⟨a9, c9, rfl, HF9.out, HB.out⟩
set_option maxRecDepth 4096 in
set_option maxHeartbeats 4000000 in
theorem law11_of (a : Option Addr) (n c : Nat) (L : List Fx) (w : World) (h : Fxs w a n c L) (hn : n ≤ 1000) :
    Calls Tryz.prog 41 #[.slice a n c] w (fun e w' => ∃ (a' : Option Addr) (c' : Nat), e = .returned (.slice a' n c') ∧ Fxs w' a' n c' L ∧ Below w.heap.size w w') := by
  have HK := Lib.hid h
  have HLl := Lib.hid h.len
  have hbd := h.bound
  clear h
  obtain ⟨i0, hi, hz0, hz1, hz2⟩ := info_parts infoFrac11
  go_enter Tryz.func41, Tryz.ntmps41
  go_wp2
  go_loopw [3, 4] (fun mv iv wr => ∃ k : Nat, k ≤ n ∧ iv = .int .i64 (k : Int) ∧ Hid (Cop wr w.heap.size 25 mv (L.take k)) ∧ Hid (Below w.heap.size w wr) ∧ w.heap.size ≤ wr.heap.size) (fun _ iv _ => n - (intOf iv).toNat)
  case atStart => exact ⟨0, by omega, rfl, Lib.hid (Cop.nil _ _ _), Lib.hid (Below.refl _ _), by omega⟩
  case round =>
    obtain ⟨k, hk, rfl, HO, HB, hsz⟩ := hrel
    by_cases hlt : k < n
    · obtain ⟨bb, off, rfl, e0, e1, e2, hok⟩ := HK.out.at hlt
      have HT : Hid (L.take (k + 1) = L.take k ++ [L.getD k Fx.zero]) := Lib.hid (fx_more (by rw [HLl.out]; exact hlt))
      have hkL : (L.take k).length ≤ 1000000 := by rw [take_len (by rw [HLl.out]; exact hk)]; omega
      generalize L.getD k Fx.zero = xk at *
      obtain ⟨sk, ak, nk, ck, lak, bk, mk, dk, lbk⟩ := xk
      simp only at e0 e1 e2
      have HY := Lib.hid hok
      have HE : Hid (w.cell? ⟨bb, off + k * 3, none⟩ = some (.bool sk) ∧ w.cell? ⟨bb, off + k * 3 + 1, none⟩ = some (.slice ak nk ck) ∧ w.cell? ⟨bb, off + k * 3 + 2, none⟩ = some (.slice bk mk dk)) := Lib.hid ⟨e0, e1, e2⟩
      clear hok e0 e1 e2
      have hki : (k : Int) < (n : Int) := by omega
      obtain ⟨e0, e1, e2⟩ := three_on HE.out HB.out
      go_wp2_with fail
      refine (law09_of sk ak nk ck bk mk dk _).mono ?_
      rintro e w4 ⟨rfl, b4⟩
      clear e0 e1 e2
      replace HB := Lib.hid (below_then HB.out b4)
      replace HO := Lib.hid (HO.out.later b4)
      have hsz4 : w.heap.size ≤ w4.heap.size := Nat.le_trans hsz b4.size
      clear b4 hsz
      unfold frV
      have ba := below_alloc w4 (.cells #[.bool sk, .slice ak nk ck, .slice bk mk dk] 25)
      have HOa := Lib.hid (HO.out.later ba)
      have HBa := Lib.hid (below_then HB.out ba)
      have HYa := Lib.hid (HY.out.later HBa.out)
      clear ba HO HB
      go_wp2_with (at_builtin; refine wpList_append_cop _ rfl _ _ 22 rfl w.heap.size 25 i0 Tryz.underlying22 hi hz0 hz1 hz2 _ (L.take k) rfl HOa.out ⟨w4.heap.size, 0, none⟩ ⟨sk, ak, nk, ck, lak, bk, mk, dk, lbk⟩ rfl (cells_news _ _ _) HYa.out hkL (by rw [blk_size]; omega) ?_)
      intro mv5 w5 hrow hgrow hbase hcl
      have HO5 : Hid (Cop w5 w.heap.size 25 mv5 (L.take (k + 1))) := Lib.hid (by rw [HT.out]; exact hrow)
      have HB5 := Lib.hid (HBa.out.grown hgrow (by rw [blk_size]; omega) hbase)
      have hsz5 : w.heap.size ≤ w5.heap.size := Nat.le_trans (by rw [blk_size]; omega) hgrow.size
      clear hrow hgrow hbase hcl HOa HBa HYa HT HE HY hsz4
      go_wp2
      go_roundw
      case rel => exact ⟨k + 1, by omega, by go_num, HO5, HB5, hsz5⟩
      case measure => simp [intOf]; omega
    · obtain rfl : k = n := by omega
      have HF := Lib.hid (HO.out.whole HLl.out)
      obtain ⟨a9, c9, rfl, h9⟩ := HF.out.out
      rw [HLl.out] at h9 ⊢
      have HF9 := Lib.hid h9
      clear h9 HF HO
      go_wp2
      go_ret
      exact ⟨a9, c9, rfl, HF9.out, HB.out⟩
set_option maxRecDepth 4096 in
set_option maxHeartbeats 4000000 in
theorem ref11_norms_more (a0 : Option Addr) (n0 c0 : Nat) (L0 : List Fx) (w : World) (h0 : Fxs w a0 n0 c0 L0) (hn : n0 ≤ 1000) (ht0 : thin 2000000000 L0) :
    Calls Tryz.prog 9 #[.slice a0 n0 c0] w (LstRw (fqs L0) w) := by
  have HK0 := Lib.hid h0
  have HLl0 := Lib.hid h0.len
  have hbd0 := h0.bound
  have HTh0 := Lib.hid ht0
  clear h0 ht0
  have HTL : Hid ((fqs L0).length = n0) := Lib.hid (by rw [fqs_length, HLl0.out])
  obtain ⟨T, hTe⟩ : ∃ T, fqs L0 = T := ⟨_, rfl⟩
  have ET := Lib.hid hTe
  rw [hTe] at HTL ⊢
  clear hTe
  obtain ⟨i0, hi, hz0, hz1, hz2⟩ := info_parts infoFrac11
  go_enter Tryz.func9, Tryz.ntmps9
  skip
  go_wp2
  go_loopw [3,4] (fun mv iv wr => ∃ k : Nat, k ≤ n0 ∧ iv = .int .i64 (k : Int) ∧ Hid (Row wr (w.heap.size) 25 mv (T.take k)) ∧ Hid (Below w.heap.size w wr) ∧ w.heap.size ≤ wr.heap.size) (fun _ iv _ => n0 - (intOf iv).toNat)
  case atStart => exact ⟨0, by omega, rfl, Lib.hid (Row.nil _ _ _), Lib.hid (Below.refl _ _), by omega⟩
  case round =>
    obtain ⟨k, hk, rfl, HO, HB, hsz⟩ := hrel
    by_cases hlt : k < n0
    · have hkT : k < T.length := by rw [HTL.out]; exact hlt
      have HT : Hid (T.take (k + 1) = T.take k ++ [T.getD k 0]) := Lib.hid (q_more hkT)
      have HTv : Hid (T.getD k 0 = (L0.getD k Fx.zero).q) := Lib.hid (by rw [← ET.out]; exact fqs_getD (by rw [HLl0.out]; exact hlt))
      have hkL : (T.take k).length ≤ 1000000 := by rw [take_len (Nat.le_of_lt hkT)]; omega
      obtain ⟨bb0, off0, rfl, e00, e10, e20, hok0⟩ := HK0.out.at hlt
      have hth0 := HTh0.out _ (fx_mem (L := L0) (k := k) (by rw [HLl0.out]; exact hlt))
      generalize L0.getD k Fx.zero = xk0 at *
      obtain ⟨sk0, ak0, nk0, ck0, lak0, bk0, mk0, dk0, lbk0⟩ := xk0
      obtain ⟨hA0, hB0⟩ := hok0
      simp only at e00 e10 e20 hA0 hB0 hth0
      obtain ⟨hth0, htj0⟩ := hth0
      have HE0 : Hid (w.cell? ⟨bb0, off0 + k * 3, none⟩ = some (.bool (sk0)) ∧ w.cell? ⟨bb0, off0 + k * 3 + 1, none⟩ = some (.slice ak0 nk0 ck0) ∧ w.cell? ⟨bb0, off0 + k * 3 + 2, none⟩ = some (.slice bk0 mk0 dk0)) := Lib.hid ⟨e00, e10, e20⟩
      have AK0 := Lib.hid hA0
      have BK0 := Lib.hid hB0
      clear hA0 hB0 e00 e10 e20
      generalize T.getD k 0 = tk at *
      replace HTv : Hid (tk = qval sk0 (val lak0) (val lbk0)) := HTv
      have hki : (k : Int) < (n0 : Int) := by omega
      obtain ⟨e00, e10, e20⟩ := three_on HE0.out HB.out
      go_wp2_with fail
      refine (ref09_norm_q _ (qval sk0 (val lak0) (val lbk0)) _ (Fr.of (AK0.out.later HB.out) (BK0.out.later HB.out) (by omega) (by omega) rfl)).mono ?_
      rintro e w4 ⟨a4, n4, c4, b4, m4, d4, rfl, h4, g4, bw⟩
      rw [← HTv.out] at h4 g4 ⊢
      clear e00 e10 e20
      replace HB := Lib.hid (below_then HB.out bw)
      replace HO := Lib.hid (HO.out.later bw)
      have hsz4 : w.heap.size ≤ w4.heap.size := Nat.le_trans hsz bw.size
      have HA4 := Lib.hid h4
      have HB4 := Lib.hid g4
      clear bw hsz h4 g4
      unfold frV
      have ba := below_alloc w4 (.cells #[.bool (zneg tk.num), .slice a4 n4 c4, .slice b4 m4 d4] 25)
      have HOa := Lib.hid (HO.out.later ba)
      have HBa := Lib.hid (below_then HB.out ba)
      have HAa := Lib.hid (HA4.out.later ba)
      have HCa := Lib.hid (HB4.out.later ba)
      clear ba HO HB HA4 HB4
      go_wp2_with (at_builtin; refine wpList_append_row _ rfl _ _ 22 rfl w.heap.size 25 i0 Tryz.underlying22 hi hz0 hz1 hz2 _ (T.take k) rfl HOa.out ⟨w4.heap.size, 0, none⟩ tk a4 n4 c4 b4 m4 d4 rfl (rx_news _ _ _ _ _ _ _ _ _) HAa.out HCa.out hkL (by rw [blk_size]; omega) ?_)
      intro mv5 w5 hrow hgrow hbase hcl
      have HO5 : Hid (Row w5 w.heap.size 25 mv5 (T.take (k + 1))) := Lib.hid (by rw [HT.out]; exact hrow)
      have HB5 := Lib.hid (HBa.out.grown hgrow (by rw [blk_size]; omega) hbase)
      have hsz5 : w.heap.size ≤ w5.heap.size := Nat.le_trans (by rw [blk_size]; omega) hgrow.size
      clear hrow hgrow hbase hcl HOa HBa HAa HCa HT hsz4
      go_wp2
      go_roundw
      case rel => exact ⟨k + 1, by omega, by go_num, HO5, HB5, hsz5⟩
      case measure => simp [intOf]; omega
    · obtain rfl : k = n0 := by omega
      have HF := Lib.hid (HO.out.whole HTL.out)
      obtain ⟨a9, c9, rfl, h9⟩ := HF.out.out
      rw [HTL.out] at h9 ⊢
      have HF9 := Lib.hid h9
      clear h9 HF HO
      go_wp2
      go_ret
      exact ⟨a9, _, c9, rfl, HF9.out, HB.out⟩
set_option maxRecDepth 4096 in
set_option maxHeartbeats 4000000 in
theorem ref11_scale_more (v : Value) (z : Rat) (a0 : Option Addr) (n0 c0 : Nat) (qs0 : List Rat) (w : World) (hv : Rt w v z 2000000000) (h0 : Rw w a0 n0 c0 qs0) (hn : n0 ≤ 1000) (ht0 : ∀ q ∈ qs0, qlen q ≤ 2000000000) :
    Calls Tryz.prog 59 #[v, .slice a0 n0 c0] w (LstRw (rscale z qs0) w) := by
  have HK0 := Lib.hid h0
  have HLl0 := Lib.hid h0.len
  have hbd0 := h0.bound
  have HTh0 := Lib.hid ht0
  clear h0 ht0
  obtain ⟨va, vn, vc, vb, vm, vd, rfl, hv1, hv2, hv3, hv4⟩ := hv
  have HV1 := Lib.hid hv1
  have HV2 := Lib.hid hv2
  clear hv1 hv2
  have HTL : Hid ((rscale z qs0).length = n0) := Lib.hid (by rw [rscale_length, HLl0.out])
  obtain ⟨T, hTe⟩ : ∃ T, rscale z qs0 = T := ⟨_, rfl⟩
  have ET := Lib.hid hTe
  rw [hTe] at HTL ⊢
  clear hTe
  obtain ⟨i0, hi, hz0, hz1, hz2⟩ := info_parts infoFrac11
  go_enter Tryz.func59, Tryz.ntmps59
  unfold frV
  go_wp2
  go_loopw [5,6] (fun mv iv wr => ∃ k : Nat, k ≤ n0 ∧ iv = .int .i64 (k : Int) ∧ Hid (Row wr (w.heap.size + 1) 25 mv (T.take k)) ∧ Hid (Below w.heap.size w wr) ∧ w.heap.size + 1 ≤ wr.heap.size ∧ Hid (wr.heap[w.heap.size]? = some (.cells #[.bool (zneg z.num), .slice va vn vc, .slice vb vm vd] 25 (0, 0)))) (fun _ iv _ => n0 - (intOf iv).toNat)
  case atStart => exact ⟨0, by omega, rfl, Lib.hid (Row.nil _ _ _), Lib.hid (below_alloc _ _), by rw [blk_size]; omega, Lib.hid (blk_new _ _ _)⟩
  case round =>
    obtain ⟨k, hk, rfl, HO, HB, hsz, X0⟩ := hrel
    by_cases hlt : k < n0
    · have hkT : k < T.length := by rw [HTL.out]; exact hlt
      have HT : Hid (T.take (k + 1) = T.take k ++ [T.getD k 0]) := Lib.hid (q_more hkT)
      have HTv : Hid (T.getD k 0 = z * qs0.getD k 0) := Lib.hid (by rw [← ET.out]; exact rscale_getD (by rw [HLl0.out]; exact hlt))
      have hkL : (T.take k).length ≤ 1000000 := by rw [take_len (Nat.le_of_lt hkT)]; omega
      obtain ⟨bb0, off0, rfl, ak0, nk0, ck0, bk0, mk0, dk0, ⟨e00, e10, e20⟩, hA0, hB0⟩ := HK0.out.at hlt
      have hth0 : nk0 ≤ 2000000000 := by rw [← hA0.len]; exact Nat.le_trans (qlen_num _) (HTh0.out _ (q_mem (by rw [HLl0.out]; exact hlt)))
      have htj0 : mk0 ≤ 2000000000 := by rw [← hB0.len]; exact Nat.le_trans (qlen_den _) (HTh0.out _ (q_mem (by rw [HLl0.out]; exact hlt)))
      generalize qs0.getD k 0 = qk0 at *
      have HE0 : Hid (w.cell? ⟨bb0, off0 + k * 3, none⟩ = some (.bool (zneg qk0.num)) ∧ w.cell? ⟨bb0, off0 + k * 3 + 1, none⟩ = some (.slice ak0 nk0 ck0) ∧ w.cell? ⟨bb0, off0 + k * 3 + 2, none⟩ = some (.slice bk0 mk0 dk0)) := Lib.hid ⟨e00, e10, e20⟩
      have AK0 := Lib.hid hA0
      have BK0 := Lib.hid hB0
      clear hA0 hB0 e00 e10 e20
      generalize T.getD k 0 = tk at *
      have hki : (k : Int) < (n0 : Int) := by omega
      obtain ⟨e00, e10, e20⟩ := three_on HE0.out HB.out
      obtain ⟨x0, x1, x2⟩ := fcells_3 X0.out
      go_wp2
      have b0 : Below wr.heap.size wr wr.drew := (Below.refl _ _).drew
      replace HB := Lib.hid (below_then HB.out b0)
      replace HO := Lib.hid (HO.out.later b0)
      replace X0 := Lib.hid (blk_later X0.out b0)
      replace hsz := Nat.le_trans hsz b0.size
      clear e00 e10 e20 x0 x1 x2 b0
      obtain ⟨e00, e10, e20⟩ := three_on HE0.out HB.out
      obtain ⟨x0, x1, x2⟩ := fcells_3 X0.out
      go_region_law (first
        | (refine step_append_row rfl _ _ 22 rfl (w.heap.size + 1) 25 i0 Tryz.underlying22 hi hz0 hz1 hz2 _ (T.take k) rfl HOa.out _ tk a4 n4 c4 b4 m4 d4 rfl (rx_news _ _ _ _ _ _ _ _ _) HAa.out HCa.out hkL (by rw [blk_size]; omega) ?_; intro mv5 w5 hrow hgrow hbase hcl)
        | (go_simp; go_at_call 52; refine (ref09_mul_q _ _ z qk0 _ (Rt.of (HV1.out.later HB.out) (HV2.out.later HB.out) (by omega) (by omega)) (Rt.of (AK0.out.later HB.out) (BK0.out.later HB.out) (by omega) (by omega))).mono ?_; rintro e w4 ⟨a4, n4, c4, b4, m4, d4, rfl, h4, g4, bw⟩; rw [← HTv.out] at h4 g4 ⊢; clear e00 e10 e20 x0 x1 x2; replace HB := Lib.hid (below_then HB.out bw); replace HO := Lib.hid (HO.out.later bw); replace X0 := Lib.hid (blk_later X0.out bw); have hsz4 : w.heap.size + 1 ≤ w4.heap.size := Nat.le_trans hsz bw.size; have HA4 := Lib.hid h4; have HB4 := Lib.hid g4; clear bw hsz h4 g4; unfold frV; have ba := below_alloc w4 (.cells #[.bool (zneg tk.num), .slice a4 n4 c4, .slice b4 m4 d4] 25); have HOa := Lib.hid (HO.out.later ba); have HBa := Lib.hid (below_then HB.out ba); have Xa := Lib.hid (blk_later X0.out ba); have HAa := Lib.hid (HA4.out.later ba); have HCa := Lib.hid (HB4.out.later ba); clear ba HO HB HA4 HB4 X0))
      all_goals (
        have HO5 : Hid (Row w5 (w.heap.size + 1) 25 mv5 (T.take (k + 1))) := Lib.hid (by rw [HT.out]; exact hrow)
        have X5 := Lib.hid ((hgrow.block w.heap.size (by rw [blk_size]; omega) (fun e2 => by have := hbase _ e2.symm; omega)).trans Xa.out)
        clear Xa
        have HB5 := Lib.hid (HBa.out.grown hgrow (by rw [blk_size]; omega) (fun g hg => by have := hbase g hg; omega))
        have hsz5 : w.heap.size + 1 ≤ w5.heap.size := Nat.le_trans (by rw [blk_size]; omega) hgrow.size
        clear hrow hgrow hbase hcl HOa HBa HAa HCa HT hsz4
        go_wp2
        go_roundw
        case rel => exact ⟨k + 1, by omega, by go_num, HO5, HB5, hsz5, X5⟩
        case measure => simp [intOf]; omega)
    · obtain rfl : k = n0 := by omega
      have HF := Lib.hid (HO.out.whole HTL.out)
      obtain ⟨a9, c9, rfl, h9⟩ := HF.out.out
      rw [HTL.out] at h9 ⊢
      have HF9 := Lib.hid h9
      clear h9 HF HO
      go_wp2
      go_ret
      exact ⟨a9, _, c9, rfl, HF9.out, HB.out⟩
end Go.Proofs.YtipcgehcineblaaGreat

/-
  Package row at this seat: Scale, Sub.
-/
namespace Go.Proofs.YtipcgehcineblaaGreat
open Go.RowKit

set_option maxRecDepth 4096 in
set_option maxHeartbeats 4000000 in
theorem row_scale_row (v : Value) (z : Rat) (a0 : Option Addr) (n0 c0 : Nat) (L0 : List Fx) (w : World) (hv : Fr w v z 2097152000) (h0 : Fxs w a0 n0 c0 L0) (hn : n0 ≤ 300) (ht0 : thin 2097152000 L0) : Calls Tryz.prog 42 #[v, .slice a0 n0 c0] w (LstRow 36 (rscale z (fqs L0)) w) := by
  have HK0 := Lib.hid h0
  have HLl0 := Lib.hid h0.len
  have hbd0 := h0.bound
  have HTh0 := Lib.hid ht0
  clear h0 ht0
  obtain ⟨vs, va, vn, vc, vla, vb, vm, vd, vlb, rfl, hv1, hv2, hvn, hvm, hvq⟩ := hv
  have HV1 := Lib.hid hv1
  have HV2 := Lib.hid hv2
  have HVQ := Lib.hid hvq
  clear hv1 hv2 hvq
  have HTL : Hid ((rscale z (fqs L0)).length = n0) := Lib.hid (by rw [rscale_length, fqs_length, HLl0.out])
  obtain ⟨T, hTe⟩ : ∃ T, rscale z (fqs L0) = T := ⟨_, rfl⟩
  have ET := Lib.hid hTe
  rw [hTe] at HTL
  try rw [hTe]
  clear hTe
  obtain ⟨i0, hi, hz0, hz1, hz2⟩ := info_parts infoFracR
  go_enter Tryz.func42, Tryz.ntmps42
  try unfold frV
  go_wp2_with (at_make; refine wpList_make_fracs _ rfl _ _ 31 rfl (w.heap.size + 1) 36 i0 Tryz.underlying31 hi hz0 hz1 hz2 _ _ _ _ n0 rfl rfl (by omega) (by omega) (by omega) (by simp) ?_; intro wm hmade hgm hszm)
  have HO0 := Lib.hid (Half.start hmade)
  have HB0 : Hid (Below w.heap.size w wm) := Lib.hid (below_then (below_alloc _ _) ((Below.refl _ _).grown hgm (Nat.le_refl _) (fun k hk => by cases hk)))
  have X00 : Hid (wm.heap[w.heap.size]? = some (.cells #[.bool vs, .slice va vn vc, .slice vb vm vd] 36 (0, 0))) := Lib.hid (blk_later (blk_new _ _ _) ((Below.refl _ _).grown hgm (Nat.le_refl _) (fun k hk => by cases hk)))
  clear hmade hgm
  try simp only [World.size_alloc] at hszm HO0
  go_loopw [12] (fun iv wr => ∃ k r : Nat, k + r = n0 ∧ iv = .int .i64 (k : Int) ∧ Hid (Half wr (w.heap.size + 1) 36 (.slice (some ⟨w.heap.size + 1, 0, none⟩) n0 n0) (T.take k) r) ∧ Hid (Below w.heap.size w wr) ∧ w.heap.size + 1 < wr.heap.size ∧ Hid (wr.heap[w.heap.size]? = some (.cells #[.bool vs, .slice va vn vc, .slice vb vm vd] 36 (0, 0)))) (fun iv _ => n0 - (intOf iv).toNat)
  case atStart => exact ⟨0, n0, by omega, rfl, HO0, HB0, by omega, X00⟩
  case round =>
    clear HO0 HB0 X00
    obtain ⟨k, r, hk, rfl, HO, HB, hsz, X0⟩ := hrel
    by_cases hlt : k < n0
    · have hkT : k < T.length := by rw [HTL.out]; exact hlt
      obtain ⟨r, rfl⟩ : ∃ r', r = r' + 1 := ⟨r - 1, by omega⟩
      have HT : Hid (T.take (k + 1) = T.take k ++ [T.getD k 0]) := Lib.hid (q_more hkT)
      have HTv : Hid (T.getD k 0 = z * (L0.getD k Fx.zero).q) := Lib.hid (by rw [← ET.out]; rw [rscale_getD (by rw [fqs_length, HLl0.out]; exact hlt), fqs_getD (by rw [HLl0.out]; exact hlt)])
      obtain ⟨bb0, off0, rfl, e00, e10, e20, hok0⟩ := HK0.out.at hlt
      have hth0 := HTh0.out _ (fx_mem (L := L0) (k := k) (by rw [HLl0.out]; exact hlt))
      generalize L0.getD k Fx.zero = xk0 at *
      obtain ⟨sk0, ak0, nk0, ck0, lak0, bk0, mk0, dk0, lbk0⟩ := xk0
      obtain ⟨hA0, hB0⟩ := hok0
      simp only at e00 e10 e20 hA0 hB0 hth0
      obtain ⟨hth0, htj0⟩ := hth0
      have HE0 : Hid (w.cell? ⟨bb0, off0 + k * 3, none⟩ = some (.bool sk0) ∧ w.cell? ⟨bb0, off0 + k * 3 + 1, none⟩ = some (.slice ak0 nk0 ck0) ∧ w.cell? ⟨bb0, off0 + k * 3 + 2, none⟩ = some (.slice bk0 mk0 dk0)) := Lib.hid ⟨e00, e10, e20⟩
      have AK0 := Lib.hid hA0
      have BK0 := Lib.hid hB0
      clear hA0 hB0 e00 e10 e20
      generalize T.getD k 0 = tk at *
      replace HTv : Hid (tk = z * qval sk0 (val lak0) (val lbk0)) := HTv
      have hki : (k : Int) < (n0 : Int) := by omega
      have hk0 : (0 : Int) ≤ (k : Int) := by omega
      obtain ⟨e00, e10, e20⟩ := three_on HE0.out HB.out
      obtain ⟨x0, x1, x2⟩ := fcells_3 X0.out
      go_wp2
      have b0 : Below wr.heap.size wr wr.drew := (Below.refl _ _).drew
      replace HB := Lib.hid (below_then HB.out b0)
      replace HO := Lib.hid (HO.out.later b0)
      replace X0 := Lib.hid (blk_later X0.out b0)
      replace hsz := Nat.lt_of_lt_of_le hsz b0.size
      clear e00 e10 e20 x0 x1 x2 b0
      obtain ⟨e00, e10, e20⟩ := three_on HE0.out HB.out
      obtain ⟨x0, x1, x2⟩ := fcells_3 X0.out
      first | go_region_with (first
        | (go_at_call 49; refine (fracSaid.mul _ _ z (qval sk0 (val lak0) (val lbk0)) _ (Fr.of (HV1.out.later HB.out) (HV2.out.later HB.out) (by omega) (by omega) HVQ.out) (Fr.of (AK0.out.later HB.out) (BK0.out.later HB.out) (by omega) (by omega) rfl)).mono ?_; rintro e w4 ⟨a4, n4, c4, b4, m4, d4, rfl, h4, g4, bw⟩; rw [← HTv.out] at h4 g4 ⊢; clear e00 e10 e20 x0 x1 x2; replace HB := Lib.hid (below_then HB.out bw); replace HO := Lib.hid (HO.out.later bw); replace X0 := Lib.hid (blk_later X0.out bw); have hsz4 : w.heap.size + 1 < w4.heap.size := Nat.lt_of_lt_of_le hsz bw.size; have HA4 := Lib.hid h4; have HB4 := Lib.hid g4; clear bw hsz h4 g4; unfold frV; obtain ⟨⟨p0, p1, p2⟩, f0, f1, f2⟩ := HO.out.cell (k := k) (by rw [take_len (Nat.le_of_lt hkT)]))) | fail
      all_goals (
        obtain ⟨hst, hgr⟩ := HO.out.stored (k := k) (by rw [take_len (Nat.le_of_lt hkT)]) tk a4 n4 c4 b4 m4 d4 HA4.out HB4.out
        rw [← HT.out] at hst
        have HS := Lib.hid hst
        have HB5 := Lib.hid (HB.out.grown hgr HB.out.size (fun g' hg' => by simp at hg'; omega))
        have hsz5 := Nat.lt_of_lt_of_le hsz4 hgr.size
        have X5 := Lib.hid ((hgr.block w.heap.size (by omega) (fun e2 => by simp at e2)).trans X0.out)
        clear X0
        clear hst hgr HA4 HB4 HO HB HT HTv p0 p1 p2 f0 f1 f2
        go_wp2
        go_roundw
        case rel => exact ⟨k + 1, r, by omega, by go_num, HS, HB5, hsz5, X5⟩
        case measure => simp [intOf]; omega)
    · obtain rfl : k = n0 := by omega
      have HF := Lib.hid (HO.out.whole HTL.out (by omega))
      obtain ⟨a9, c9, e9, h9⟩ := HF.out.out
      rw [HTL.out] at e9 h9
      cases e9
      clear HO h9
      go_wp2
      go_ret
      exact ⟨_, rfl, row_weak HF.out (by omega), HB.out⟩
theorem row_scale (v : Value) (z : Rat) (a0 : Option Addr) (n0 c0 : Nat) (L0 : List Fx) (w : World) (hv : Fr w v z 2097152000) (h0 : Fxs w a0 n0 c0 L0) (hn : n0 ≤ 300) (ht0 : thin 2097152000 L0) : Calls Tryz.prog 42 #[v, .slice a0 n0 c0] w (LstRw (rscale z (fqs L0)) w) :=
  (row_scale_row v z a0 n0 c0 L0 w hv h0 hn ht0).mono fun _ _ h9 => h9.out
theorem radd_opp_getD {l m : List Rat} {k : Nat} (h : k < l.length) (h' : k < m.length) : (radd l (rscale (-1) m)).getD k 0 = l.getD k 0 - m.getD k 0 := by
  rw [radd_getD h (by rw [rscale_length]; exact h'), rscale_getD h']; grind
set_option maxRecDepth 4096 in
set_option maxHeartbeats 4000000 in
theorem row_sub_yes (a0 : Option Addr) (n0 c0 : Nat) (L0 : List Fx) (a1 : Option Addr) (n1 c1 : Nat) (L1 : List Fx) (w : World) (h0 : Fxs w a0 n0 c0 L0) (h1 : Fxs w a1 n1 c1 L1) (hn : n0 ≤ 300) (ht0 : thin 2097152000 L0) (ht1 : thin 2097152000 L1) (hs : Hid (n0 = n1)) : Calls Tryz.prog 61 #[.slice a0 n0 c0, .slice a1 n1 c1] w (LstRwV (radd (fqs L0) (rscale (-1) (fqs L1))) (.bool true) w) := by
  have HK0 := Lib.hid h0
  have HLl0 := Lib.hid h0.len
  have hbd0 := h0.bound
  have HTh0 := Lib.hid ht0
  clear h0 ht0
  have HK1 := Lib.hid h1
  have HLl1 := Lib.hid h1.len
  have hbd1 := h1.bound
  have HTh1 := Lib.hid ht1
  clear h1 ht1
  obtain rfl := hs.out
  clear hs
  have HTL : Hid ((radd (fqs L0) (rscale (-1) (fqs L1))).length = n0) := Lib.hid (by rw [radd_length _ _ (by rw [rscale_length, fqs_length, fqs_length, HLl0.out, HLl1.out]), fqs_length, HLl0.out])
  obtain ⟨T, hTe⟩ : ∃ T, radd (fqs L0) (rscale (-1) (fqs L1)) = T := ⟨_, rfl⟩
  have ET := Lib.hid hTe
  rw [hTe] at HTL
  try rw [hTe]
  clear hTe
  obtain ⟨i0, hi, hz0, hz1, hz2⟩ := info_parts infoFracR
  go_enter Tryz.func61, Tryz.ntmps61
  go_wp2_with (at_make; refine wpList_make_fracs _ rfl _ _ 31 rfl (w.heap.size) 36 i0 Tryz.underlying31 hi hz0 hz1 hz2 _ _ _ _ n0 rfl rfl (by omega) (by omega) (by omega) (by simp) ?_; intro wm hmade hgm hszm)
  have HO0 := Lib.hid (Half.start hmade)
  have HB0 : Hid (Below w.heap.size w wm) := Lib.hid ((Below.refl _ _).grown hgm (Nat.le_refl _) (fun k hk => by cases hk))
  clear hmade hgm
  try simp only [World.size_alloc] at hszm HO0
  go_loopw [18] (fun iv wr => ∃ k r : Nat, k + r = n0 ∧ iv = .int .i64 (k : Int) ∧ Hid (Half wr (w.heap.size) 36 (.slice (some ⟨w.heap.size, 0, none⟩) n0 n0) (T.take k) r) ∧ Hid (Below w.heap.size w wr) ∧ w.heap.size < wr.heap.size) (fun iv _ => n0 - (intOf iv).toNat)
  case atStart => exact ⟨0, n0, by omega, rfl, HO0, HB0, by omega⟩
  case round =>
    clear HO0 HB0
    obtain ⟨k, r, hk, rfl, HO, HB, hsz⟩ := hrel
    by_cases hlt : k < n0
    · have hkT : k < T.length := by rw [HTL.out]; exact hlt
      obtain ⟨r, rfl⟩ : ∃ r', r = r' + 1 := ⟨r - 1, by omega⟩
      have HT : Hid (T.take (k + 1) = T.take k ++ [T.getD k 0]) := Lib.hid (q_more hkT)
      have HTv : Hid (T.getD k 0 = (L0.getD k Fx.zero).q - (L1.getD k Fx.zero).q) := Lib.hid (by rw [← ET.out]; rw [radd_opp_getD (by rw [fqs_length, HLl0.out]; exact hlt) (by rw [fqs_length, HLl1.out]; exact hlt), fqs_getD (by rw [HLl0.out]; exact hlt), fqs_getD (by rw [HLl1.out]; exact hlt)])
      obtain ⟨bb0, off0, rfl, e00, e10, e20, hok0⟩ := HK0.out.at hlt
      have hth0 := HTh0.out _ (fx_mem (L := L0) (k := k) (by rw [HLl0.out]; exact hlt))
      generalize L0.getD k Fx.zero = xk0 at *
      obtain ⟨sk0, ak0, nk0, ck0, lak0, bk0, mk0, dk0, lbk0⟩ := xk0
      obtain ⟨hA0, hB0⟩ := hok0
      simp only at e00 e10 e20 hA0 hB0 hth0
      obtain ⟨hth0, htj0⟩ := hth0
      have HE0 : Hid (w.cell? ⟨bb0, off0 + k * 3, none⟩ = some (.bool sk0) ∧ w.cell? ⟨bb0, off0 + k * 3 + 1, none⟩ = some (.slice ak0 nk0 ck0) ∧ w.cell? ⟨bb0, off0 + k * 3 + 2, none⟩ = some (.slice bk0 mk0 dk0)) := Lib.hid ⟨e00, e10, e20⟩
      have AK0 := Lib.hid hA0
      have BK0 := Lib.hid hB0
      clear hA0 hB0 e00 e10 e20
      obtain ⟨bb1, off1, rfl, e01, e11, e21, hok1⟩ := HK1.out.at hlt
      have hth1 := HTh1.out _ (fx_mem (L := L1) (k := k) (by rw [HLl1.out]; exact hlt))
      generalize L1.getD k Fx.zero = xk1 at *
      obtain ⟨sk1, ak1, nk1, ck1, lak1, bk1, mk1, dk1, lbk1⟩ := xk1
      obtain ⟨hA1, hB1⟩ := hok1
      simp only at e01 e11 e21 hA1 hB1 hth1
      obtain ⟨hth1, htj1⟩ := hth1
      have HE1 : Hid (w.cell? ⟨bb1, off1 + k * 3, none⟩ = some (.bool sk1) ∧ w.cell? ⟨bb1, off1 + k * 3 + 1, none⟩ = some (.slice ak1 nk1 ck1) ∧ w.cell? ⟨bb1, off1 + k * 3 + 2, none⟩ = some (.slice bk1 mk1 dk1)) := Lib.hid ⟨e01, e11, e21⟩
      have AK1 := Lib.hid hA1
      have BK1 := Lib.hid hB1
      clear hA1 hB1 e01 e11 e21
      generalize T.getD k 0 = tk at *
      replace HTv : Hid (tk = qval sk0 (val lak0) (val lbk0) - qval sk1 (val lak1) (val lbk1)) := HTv
      have hki : (k : Int) < (n0 : Int) := by omega
      have hk0 : (0 : Int) ≤ (k : Int) := by omega
      obtain ⟨e00, e10, e20⟩ := three_on HE0.out HB.out
      obtain ⟨e01, e11, e21⟩ := three_on HE1.out HB.out
      go_wp2
      have b0 : Below wr.heap.size wr wr.drew := (Below.refl _ _).drew
      replace HB := Lib.hid (below_then HB.out b0)
      replace HO := Lib.hid (HO.out.later b0)
      replace hsz := Nat.lt_of_lt_of_le hsz b0.size
      clear e00 e10 e20 e01 e11 e21 b0
      obtain ⟨e00, e10, e20⟩ := three_on HE0.out HB.out
      obtain ⟨e01, e11, e21⟩ := three_on HE1.out HB.out
      first | go_region_with (first
        | (go_at_call 93; refine (fracSaid.sub _ _ (qval sk0 (val lak0) (val lbk0)) (qval sk1 (val lak1) (val lbk1)) _ (Fr.of (AK0.out.later HB.out) (BK0.out.later HB.out) (by omega) (by omega) rfl) (Fr.of (AK1.out.later HB.out) (BK1.out.later HB.out) (by omega) (by omega) rfl)).mono ?_; rintro e w4 ⟨a4, n4, c4, b4, m4, d4, rfl, h4, g4, bw⟩; rw [← HTv.out] at h4 g4 ⊢; clear e00 e10 e20 e01 e11 e21; replace HB := Lib.hid (below_then HB.out bw); replace HO := Lib.hid (HO.out.later bw); have hsz4 : w.heap.size < w4.heap.size := Nat.lt_of_lt_of_le hsz bw.size; have HA4 := Lib.hid h4; have HB4 := Lib.hid g4; clear bw hsz h4 g4; unfold frV; obtain ⟨⟨p0, p1, p2⟩, f0, f1, f2⟩ := HO.out.cell (k := k) (by rw [take_len (Nat.le_of_lt hkT)]))) | fail
      all_goals (
        obtain ⟨hst, hgr⟩ := HO.out.stored (k := k) (by rw [take_len (Nat.le_of_lt hkT)]) tk a4 n4 c4 b4 m4 d4 HA4.out HB4.out
        rw [← HT.out] at hst
        have HS := Lib.hid hst
        have HB5 := Lib.hid (HB.out.grown hgr HB.out.size (fun g' hg' => by simp at hg'; omega))
        have hsz5 := Nat.lt_of_lt_of_le hsz4 hgr.size
        clear hst hgr HA4 HB4 HO HB HT HTv p0 p1 p2 f0 f1 f2
        go_wp2
        go_roundw
        case rel => exact ⟨k + 1, r, by omega, by go_num, HS, HB5, hsz5⟩
        case measure => simp [intOf]; omega)
    · obtain rfl : k = n0 := by omega
      have HF := Lib.hid (HO.out.whole HTL.out (by omega))
      obtain ⟨a9, c9, e9, h9⟩ := HF.out.out
      rw [HTL.out] at e9 h9
      cases e9
      have HF9 := Lib.hid h9
      clear HO h9 HF
      go_wp2
      go_ret2
      exact ⟨_, _, _, rfl, HF9.out, HB.out⟩
end Go.Proofs.YtipcgehcineblaaGreat

/-
  Package row at this seat: total.
-/
namespace Go.Proofs.YtipcgehcineblaaGreat
open Go.RowKit

def rsum : List Rat → Rat
  | [] => 0
  | q :: l => q + rsum l
theorem rsum_append : ∀ l m : List Rat, rsum (l ++ m) = rsum l + rsum m
  | [], m => by
    show rsum m = 0 + rsum m
    grind
  | q :: l, m => by
    show q + rsum (l ++ m) = (q + rsum l) + rsum m
    rw [rsum_append l m]; grind
theorem qlen_rsum {K : Nat} : ∀ {l : List Rat}, (∀ q ∈ l, qlen q ≤ K) → qlen (rsum l) ≤ 1 + l.length * (K + 2)
  | [], _ => by
    show qlen 0 ≤ 1 + 0 * (K + 2)
    rw [qlen_nought]; omega
  | q :: l, h => by
    have h1 := qlen_rsum (l := l) (fun x hx => h x (List.mem_cons_of_mem _ hx))
    have h2 := h q (List.mem_cons_self ..)
    have h3 := qlen_add q (rsum l)
    have h4 : (q :: l).length * (K + 2) = l.length * (K + 2) + (K + 2) := by rw [List.length_cons, Nat.add_mul, Nat.one_mul]
    show qlen (q + rsum l) ≤ _
    omega
theorem Fxs.take {w : World} {a : Option Addr} {n cap : Nat} {L : List Fx} (h : Fxs w a n cap L) {k : Nat} (hk : k ≤ n) : Fxs w a k cap (L.take k) := by
  obtain ⟨h1, h2, h3, h4, h6, h5⟩ := h
  refine ⟨by rw [List.length_take]; omega, by omega, h3, h4, fun x hx => h6 x (List.mem_of_mem_take hx), ?_⟩
  rcases h5 with h0 | ⟨b, off, e, hc⟩
  · exact .inl (by omega)
  · refine .inr ⟨b, off, e, fun j hj => ?_⟩
    have h7 := hc j (by omega)
    have e2 : (L.take k).getD j Fx.zero = L.getD j Fx.zero := by
      rw [List.getD_eq_getElem?_getD, List.getElem?_take, if_pos hj, ← List.getD_eq_getElem?_getD]
    rw [e2]
    exact h7
theorem Fxs.drop {w : World} {b off m cap q : Nat} {L : List Fx} (h : Fxs w (some ⟨b, off, none⟩) (q + m) cap L) : Fxs w (some ⟨b, off + q * 3, none⟩) m (cap - q) (L.drop q) := by
  have h1 := h.bound
  have h2 := h.len
  refine ⟨by rw [List.length_drop]; omega, by omega, by omega, fun e => (by cases e), fun x hx => h.ok (List.mem_of_mem_drop hx), ?_⟩
  rcases h.2.2.2.2.2 with h0 | ⟨b', off', e, hc⟩
  · exact .inl (by omega)
  · simp only [Option.some.injEq, Addr.mk.injEq, and_true] at e
    obtain ⟨rfl, rfl⟩ := e
    refine .inr ⟨b, off + q * 3, rfl, fun j hj => ?_⟩
    have h7 := hc (q + j) (by omega)
    have e2 : (L.drop q).getD j Fx.zero = L.getD (q + j) Fx.zero := by
      rw [List.getD_eq_getElem?_getD, List.getElem?_drop, ← List.getD_eq_getElem?_getD]
    have e3 : off + q * 3 + j * 3 = off + (q + j) * 3 := by omega
    rw [e2, e3]
    exact h7
theorem thin.qs {N : Nat} {L : List Fx} {w : World} (h : thin N L) (hok : ∀ x ∈ L, x.ok w) : ∀ q ∈ fqs L, qlen q ≤ N + 1 := fun q hq => by
  obtain ⟨x, hx, rfl⟩ := List.mem_map.1 hq
  exact ((hok x hx).fr (h x hx).1 (h x hx).2).len
theorem Fxs.oks {w : World} {a : Option Addr} {n cap : Nat} {L : List Fx} (h : Fxs w a n cap L) : ∀ x ∈ L, x.ok w := h.2.2.2.2.1
/-- What total hands back: a fraction of the sum's value; a right one, but where it is the row's only one. -/
def LstT (L : List Fx) (w : World) (e : Ending) (w' : World) : Prop := ∃ (s : Bool) (a : Option Addr) (n c : Nat) (la : List Nat) (b : Option Addr) (m d : Nat) (lb : List Nat), e = .returned (frV s a n c b m d) ∧ Wd w' a n c la ∧ Wd w' b m d lb ∧ qval s (val la) (val lb) = rsum (fqs L) ∧
  ((⟨s, a, n, c, la, b, m, d, lb⟩ : Fx) ∈ L ∨ (⟨s, a, n, c, la, b, m, d, lb⟩ : Fx).right) ∧ (L.length ≠ 1 → (⟨s, a, n, c, la, b, m, d, lb⟩ : Fx).right) ∧ Below w.heap.size w w'
theorem right_len {w : World} {x : Fx} (h : x.ok w) (hr : x.right) {K : Nat} (hK : qlen x.q ≤ K) : x.n ≤ K ∧ x.m ≤ K := by
  obtain ⟨h1, h2⟩ := h
  obtain ⟨-, h4, h5⟩ := hr
  have e1 := h1.len
  have e2 := h2.len
  rw [h4] at e1
  rw [h5] at e2
  have := qlen_num x.q
  have := qlen_den x.q
  omega
theorem lstT_bound {w : World} {x : Fx} {L : List Fx} {N : Nat} (hx : x.ok w) (hq : x.q = rsum (fqs L)) (hm : x ∈ L ∨ x.right) (ht : thin N L) (hl : qlen (rsum (fqs L)) ≤ 2097152000) (hN : N ≤ 2097152000) : x.n ≤ 2097152000 ∧ x.m ≤ 2097152000 := by
  rcases hm with hm | hm
  · have := ht x hm
    omega
  · exact right_len hx hm (by rw [hq]; exact hl)
set_option maxRecDepth 4096 in
set_option maxHeartbeats 4000000 in
theorem row_total (n : Nat) : ∀ (a : Option Addr) (cap : Nat) (L : List Fx) (N : Nat) (w : World), Fxs w a n cap L → thin N L → 1 + (n - 1) * (N + 3) ≤ 2097152000 → N ≤ 2097152000 → Calls Tryz.prog 89 #[.slice a n cap] w (LstT L w) := by
  induction n using Nat.strongRecOn with
  | _ n ih =>
  intro a cap L N w h ht hb hN
  obtain ⟨hb1, hb2⟩ := h.bound
  have HTh := Lib.hid ht
  have HBd := Lib.hid hb
  have HB := Lib.hid (below_alloc w (.cells #[.bool false, .slice none 0 0, .slice none 0 0] 36))
  have HR := Lib.hid (blk_new w #[.bool false, .slice none 0 0, .slice none 0 0] 36)
  have HKw := Lib.hid h
  have HK := Lib.hid (h.later HB.out)
  have HLl := Lib.hid h.len
  clear h ht hb
  by_cases h0 : n = 0
  · subst h0
    have hQ0 : ((0 : Int) : Rat) = rsum (fqs L) := by rw [List.eq_nil_of_length_eq_zero HLl.out]; rfl
    obtain ⟨q, htq⟩ : ∃ q, rsum (fqs L) = q := ⟨_, rfl⟩
    have HTQ := Lib.hid htq
    have HQ0 : Hid (((0 : Int) : Rat) = q) := Lib.hid (hQ0.trans htq)
    clear ih HK HKw hQ0 htq
    go_enter Tryz.func89, Tryz.ntmps89
    obtain ⟨vk0, vk1, vk2⟩ := fcells_3 HR.out
    go_wp2_with fail
    refine (frac_of 0 _ isInt_nought).mono ?_
    rintro e wv1 ⟨a1, n1, c1, b1, m1, d1, rfl, h1, g1, b⟩
    clear vk0 vk1 vk2
    replace HB := Lib.hid (below_then HB.out b)
    replace HR := Lib.hid (blk_later HR.out b)
    clear b
    rw [HQ0.out] at h1 g1 ⊢
    have R1 := Lib.hid h1
    have T1 := Lib.hid g1
    clear h1 g1
    unfold frV
    have q0 := blk_cell HR.out 0
    have q1 := blk_cell HR.out 1
    have q2 := blk_cell HR.out 2
    simp only [List.getElem?_toArray, List.getElem?_cons_zero, List.getElem?_cons_succ] at q0 q1 q2
    have f0 := blk_free HR.out 0
    have f1 := blk_free HR.out 1
    have f2 := blk_free HR.out 2
    replace R1 := Lib.hid (R1.out.stored3 HR.out ((zneg q.num)) a1 n1 c1 (.slice b1 m1 d1))
    replace T1 := Lib.hid (T1.out.stored3 HR.out ((zneg q.num)) a1 n1 c1 (.slice b1 m1 d1))
    replace HB := Lib.hid (below_set3 HB.out (show w.heap.size ≤ w.heap.size by omega) (.bool (zneg q.num)) (.slice a1 n1 c1) (.slice b1 m1 d1))
    replace HR := Lib.hid (blk_set3 HR.out (.bool (zneg q.num)) (.slice a1 n1 c1) (.slice b1 m1 d1))
    go_wp2
    refine bodyPost_ret (results_cell_row Tryz.results89 _ _ (w.heap.size) 36 #[.bool (zneg q.num), .slice a1 n1 c1, .slice b1 m1 d1] (0, 0) _ rfl HR.out Tryz.underlying36 rfl (by kernel_rfl)) rfl ?_
    exact ⟨_, a1, n1, c1, _, b1, m1, d1, _, rfl, R1.out, T1.out, (qval_dg q).trans HTQ.out.symm, .inr (rx_right q a1 n1 c1 b1 m1 d1), fun _ => rx_right q a1 n1 c1 b1 m1 d1, HB.out⟩
  · by_cases h1 : n = 1
    · subst h1
      obtain ⟨bb, off, rfl, e0, e1, e2, hok⟩ := HK.out.at (j := 0) (by omega)
      have hm0 : L.getD 0 Fx.zero ∈ L := fx_mem (by rw [HLl.out]; omega)
      have hs0 : rsum (fqs L) = (L.getD 0 Fx.zero).q := by
        match L, HLl.out with
        | [x], _ =>
          show x.q + 0 = x.q
          grind
      have HN1 : Hid (L.length = 1) := Lib.hid HLl.out
      have hok9 := HKw.out.oks _ hm0
      generalize L.getD 0 Fx.zero = x at *
      obtain ⟨sx, ax, nx, cx, lax, bx, mx, dx, lbx⟩ := x
      simp only [Nat.zero_mul, Nat.add_zero] at e0 e1 e2
      replace HR := Lib.hid (blk_new w #[.bool sx, .slice ax nx cx, .slice bx mx dx] 36)
      replace HB := Lib.hid (below_alloc w (.cells #[.bool sx, .slice ax nx cx, .slice bx mx dx] 36))
      have R1 := Lib.hid (hok9.1.later HB.out)
      have T1 := Lib.hid (hok9.2.later HB.out)
      have HM := Lib.hid hm0
      have HS := Lib.hid hs0
      simp only at R1 T1
      clear ih hok hok9 hm0 hs0 HK HKw
      go_enter Tryz.func89, Tryz.ntmps89
      go_wp2
      refine bodyPost_ret (results_cell_row Tryz.results89 _ _ (w.heap.size) 36 #[.bool sx, .slice ax nx cx, .slice bx mx dx] (0, 0) _ rfl HR.out Tryz.underlying36 rfl (by kernel_rfl)) rfl ?_
      exact ⟨_, ax, nx, cx, lax, bx, mx, dx, lbx, rfl, R1.out, T1.out, HS.out.symm, .inl HM.out, fun h => absurd HN1.out h, HB.out⟩
    · obtain ⟨hh, hhh⟩ : ∃ hh, hh = n / 2 := ⟨_, rfl⟩
      obtain ⟨m, rfl⟩ : ∃ m, n = hh + m := ⟨n - hh, by omega⟩
      have hhp : 0 < hh := by omega
      have hmp : 0 < m := by omega
      have hq : ((hh : Int) + (m : Int)) / 2 = (hh : Int) := by omega
      obtain ⟨b, off, rfl, -, -, -, -⟩ := HK.out.at (j := 0) (by omega)
      have HA := Lib.hid (HKw.out.take (k := hh) (by omega))
      have HC := Lib.hid HKw.out.drop
      have HtA : Hid (thin N (L.take hh)) := Lib.hid (fun x hx => HTh.out x (List.mem_of_mem_take hx))
      have HtC : Hid (thin N (L.drop hh)) := Lib.hid (fun x hx => HTh.out x (List.mem_of_mem_drop hx))
      have hbA : 1 + (hh - 1) * (N + 3) ≤ 2097152000 := Nat.le_trans (Nat.add_le_add_left (Nat.mul_le_mul_right _ (by omega)) 1) HBd.out
      have hbC : 1 + (m - 1) * (N + 3) ≤ 2097152000 := Nat.le_trans (Nat.add_le_add_left (Nat.mul_le_mul_right _ (by omega)) 1) HBd.out
      have HsA : Hid (qlen (rsum (fqs (L.take hh))) ≤ 2097152000) := Lib.hid (by
        have h9 := qlen_rsum (HtA.out.qs HA.out.oks)
        rw [fqs_length, HA.out.len] at h9
        exact Nat.le_trans h9 (Nat.le_trans (Nat.add_le_add_left (Nat.mul_le_mul_right _ (by omega)) 1) HBd.out))
      have HsC : Hid (qlen (rsum (fqs (L.drop hh))) ≤ 2097152000) := Lib.hid (by
        have h9 := qlen_rsum (HtC.out.qs HC.out.oks)
        rw [fqs_length, HC.out.len] at h9
        exact Nat.le_trans h9 (Nat.le_trans (Nat.add_le_add_left (Nat.mul_le_mul_right _ (by omega)) 1) HBd.out))
      obtain ⟨tq, htq⟩ : ∃ tq, rsum (fqs L) = tq := ⟨_, rfl⟩
      have HS : Hid (rsum (fqs (L.take hh)) + rsum (fqs (L.drop hh)) = tq) := Lib.hid (by
        rw [← htq, ← rsum_append]
        unfold fqs
        rw [← List.map_append, List.take_append_drop])
      have HTQ := Lib.hid htq
      have ihA := Lib.hid (fun wz (hz : Below w.heap.size w wz) => ih hh (by omega) (some ⟨b, off, none⟩) cap (L.take hh) N wz (HA.out.later hz) HtA.out hbA hN)
      have ihC := Lib.hid (fun wz (hz : Below w.heap.size w wz) => ih m (by omega) (some ⟨b, off + hh * 3, none⟩) (cap - hh) (L.drop hh) N wz (HC.out.later hz) HtC.out hbC hN)
      have hi2 : (hh : Int) ≤ (cap : Int) := by omega
      have hi3 : (hh : Int) ≤ (hh : Int) + (m : Int) := by omega
      have hi4 : (2 : Int) ≤ (hh : Int) + (m : Int) := by omega
      have hne : ¬ cap = hh := by omega
      have HN1 : Hid (L.length ≠ 1) := Lib.hid (by rw [HLl.out]; omega)
      clear ih hhh HK HKw hbA hbC htq HA HC
      go_enter Tryz.func89, Tryz.ntmps89
      go_wp2
      have HB0 : Hid (Below w.heap.size w (w.alloc (.cells #[.bool false, .slice none 0 0, .slice none 0 0] 36)).drew) := Lib.hid (below_then HB.out (Below.refl _ _).drew)
      have HR0 : Hid ((w.alloc (.cells #[.bool false, .slice none 0 0, .slice none 0 0] 36)).drew.heap[w.heap.size]? = some (.cells #[.bool false, .slice none 0 0, .slice none 0 0] 36 (0, 0))) := Lib.hid HR.out
      clear HB HR
      first | go_region_with (first
        | (go_at_call 89; (first
          | ((with_reducible refine (ihA.out _ ?hz).mono ?_); (case hz => exact HB0.out); rintro e w1 ⟨s1, a1, n1, c1, la1, b1, m1, d1, lb1, rfl, h1, g1, q1, o1, -, bw1⟩; have HB1 := Lib.hid (below_then HB0.out bw1); have HR1 := Lib.hid (blk_later HR0.out bw1); have R1 := Lib.hid h1; have T1 := Lib.hid g1; have Q1 := Lib.hid q1; have O1 := Lib.hid o1; clear h1 g1 q1 o1 bw1 HB0 HR0)
          | ((refine (ihC.out _ ?hz).mono ?_); (case hz => exact HB1.out); rintro e w2 ⟨s2, a2, n2, c2, la2, b2, m2, d2, lb2, rfl, h2, g2, q2, o2, -, bw2⟩; have HB2 := Lib.hid (below_then HB1.out bw2); have HR2 := Lib.hid (blk_later HR1.out bw2); replace R1 := Lib.hid (R1.out.later bw2); replace T1 := Lib.hid (T1.out.later bw2); have R2 := Lib.hid h2; have T2 := Lib.hid g2; have Q2 := Lib.hid q2; have O2 := Lib.hid o2; clear h2 g2 q2 o2 bw2 HB1 HR1; obtain ⟨lx1, ly1⟩ := lstT_bound (x := ⟨s1, a1, n1, c1, la1, b1, m1, d1, lb1⟩) ⟨R1.out, T1.out⟩ Q1.out O1.out HtA.out HsA.out hN; obtain ⟨lx2, ly2⟩ := lstT_bound (x := ⟨s2, a2, n2, c2, la2, b2, m2, d2, lb2⟩) ⟨R2.out, T2.out⟩ Q2.out O2.out HtC.out HsC.out hN; simp only at lx1 ly1 lx2 ly2)))
        | (go_at_call 48; (refine (fracSaid.add (frV s1 a1 n1 c1 b1 m1 d1) (frV s2 a2 n2 c2 b2 m2 d2) (qval s1 (val la1) (val lb1)) (qval s2 (val la2) (val lb2)) _ (Fr.of R1.out T1.out lx1 ly1 rfl) (Fr.of R2.out T2.out lx2 ly2 rfl)).mono ?_); rintro e w3 ⟨a3, n3, c3, b3, m3, d3, rfl, h3, g3, bw3⟩; rw [Q1.out, Q2.out, HS.out] at h3 g3 ⊢; have HB := Lib.hid (below_then HB2.out bw3); have HR := Lib.hid (blk_later HR2.out bw3); have R3 := Lib.hid h3; have T3 := Lib.hid g3; clear bw3 h3 g3 HB2 HR2 R1 T1 R2 T2; unfold frV; have q0 := blk_cell HR.out 0; have q1 := blk_cell HR.out 1; have q2 := blk_cell HR.out 2; simp only [List.getElem?_toArray, List.getElem?_cons_zero, List.getElem?_cons_succ] at q0 q1 q2; have f0 := blk_free HR.out 0; have f1 := blk_free HR.out 1; have f2 := blk_free HR.out 2; replace R3 := Lib.hid (R3.out.stored3 HR.out ((zneg tq.num)) a3 n3 c3 (.slice b3 m3 d3)); replace T3 := Lib.hid (T3.out.stored3 HR.out ((zneg tq.num)) a3 n3 c3 (.slice b3 m3 d3)); replace HB := Lib.hid (below_set3 HB.out (show w.heap.size ≤ w.heap.size by omega) (.bool (zneg tq.num)) (.slice a3 n3 c3) (.slice b3 m3 d3)); replace HR := Lib.hid (blk_set3 HR.out (.bool (zneg tq.num)) (.slice a3 n3 c3) (.slice b3 m3 d3)))) | fail
      all_goals (
        go_wp2
        refine bodyPost_ret (results_cell_row Tryz.results89 _ _ (w.heap.size) 36 #[.bool (zneg tq.num), .slice a3 n3 c3, .slice b3 m3 d3] (0, 0) _ rfl HR.out Tryz.underlying36 rfl (by kernel_rfl)) rfl ?_
        exact ⟨_, a3, n3, c3, _, b3, m3, d3, _, rfl, R3.out, T3.out, (qval_dg tq).trans HTQ.out.symm, .inr (rx_right tq a3 n3 c3 b3 m3 d3), fun _ => rx_right tq a3 n3 c3 b3 m3 d3, HB.out⟩)
end Go.Proofs.YtipcgehcineblaaGreat

/-
  Package row at this seat: Dot, Norm, Size.
-/
namespace Go.Proofs.YtipcgehcineblaaGreat
open Go.RowKit

theorem rdot_eq_rsum : ∀ l m : List Rat, rdot l m = rsum (List.zipWith (fun x y => x * y) l m)
  | [], [] => rfl
  | [], _ :: _ => rfl
  | _ :: _, [] => rfl
  | x :: l, y :: m => by
    show x * y + rdot l m = x * y + rsum (List.zipWith (fun x y => x * y) l m)
    rw [rdot_eq_rsum l m]
def rprods (l m : List Rat) : List Rat := List.zipWith (fun x y => x * y) l m
theorem rprods_length {l m : List Rat} (h : l.length = m.length) : (rprods l m).length = l.length := by
  unfold rprods
  rw [List.length_zipWith, ← h, Nat.min_self]
theorem rprods_getD {l m : List Rat} {k : Nat} (h : k < l.length) (h' : k < m.length) : (rprods l m).getD k 0 = l.getD k 0 * m.getD k 0 := by
  unfold rprods
  rw [List.getD_eq_getElem?_getD, List.getElem?_zipWith, List.getElem?_eq_getElem h, List.getElem?_eq_getElem h', List.getD_eq_getElem?_getD, List.getD_eq_getElem?_getD, List.getElem?_eq_getElem h, List.getElem?_eq_getElem h']; rfl
theorem rprods_qlen {N K : Nat} {l m : List Rat} (hl : ∀ q ∈ l, qlen q ≤ N) (hm : ∀ q ∈ m, qlen q ≤ K) : ∀ q ∈ rprods l m, qlen q ≤ N + K + 1 := fun q hq => by
  obtain ⟨i, hi, rfl⟩ := List.getElem_of_mem hq
  unfold rprods at hi
  rw [List.length_zipWith] at hi
  have h1 := hl _ (List.getElem_mem (show i < l.length by omega))
  have h2 := hm _ (List.getElem_mem (show i < m.length by omega))
  have h3 := qlen_mul (l[i]'(by omega)) (m[i]'(by omega))
  unfold rprods
  rw [List.getElem_zipWith]
  omega
/-- A sum of right fractions handed back by total. -/
theorem LstT.right {L : List Fx} {w w' : World} {e : Ending} (h : LstT L w e w') (hr : ∀ x ∈ L, x.right) : LstQ (rsum (fqs L)) w e w' := by
  obtain ⟨s, a, n, c, la, b, m, d, lb, rfl, h1, h2, h3, h4, -, h6⟩ := h
  have h5 : (⟨s, a, n, c, la, b, m, d, lb⟩ : Fx).right := h4.elim (hr _) id
  obtain ⟨r1, r2, r3⟩ := h5
  have h3' : (⟨s, a, n, c, la, b, m, d, lb⟩ : Fx).q = rsum (fqs L) := h3
  rw [h3'] at r1 r2 r3
  simp only at r1 r2 r3
  rw [r2] at h1
  rw [r3] at h2
  rw [r1]
  exact ⟨a, n, c, b, m, d, rfl, h1, h2, h6⟩
theorem LstT.many {L : List Fx} {w w' : World} {e : Ending} (h : LstT L w e w') (hr : L.length ≠ 1) : LstQ (rsum (fqs L)) w e w' := by
  obtain ⟨s, a, n, c, la, b, m, d, lb, rfl, h1, h2, h3, -, h4, h6⟩ := h
  obtain ⟨r1, r2, r3⟩ := h4 hr
  have h3' : (⟨s, a, n, c, la, b, m, d, lb⟩ : Fx).q = rsum (fqs L) := h3
  rw [h3'] at r1 r2 r3
  simp only at r1 r2 r3
  rw [r2] at h1
  rw [r3] at h2
  rw [r1]
  exact ⟨a, n, c, b, m, d, rfl, h1, h2, h6⟩
theorem total_rw {a : Option Addr} {n cap : Nat} {qs : List Rat} {N : Nat} (w : World) (h : Rw w a n cap qs) (hq : ∀ q ∈ qs, qlen q ≤ N) (hb : 1 + (n - 1) * (N + 3) ≤ 2097152000) (hN : N ≤ 2097152000) : Calls Tryz.prog 89 #[.slice a n cap] w (LstQ (rsum qs) w) := by
  obtain ⟨L, h1, h2, h3⟩ := h
  have ht : thin N L := fun x hx => by
    obtain ⟨h4, h5, h6⟩ := h3 x hx
    exact right_len (h1.ok hx) ⟨h4, h5, h6⟩ (hq _ (h2 ▸ List.mem_map.2 ⟨x, hx, rfl⟩))
  refine (row_total n a cap L N w h1 ht hb hN).mono fun e w' h9 => ?_
  have h8 := h9.right h3
  unfold fqs at h8
  rwa [h2] at h8
set_option maxRecDepth 4096 in
set_option maxHeartbeats 4000000 in
theorem row_dot_two (a0 : Option Addr) (n0 c0 : Nat) (L0 : List Fx) (a1 : Option Addr) (n1 c1 : Nat) (L1 : List Fx) (N K : Nat) (w : World) (h0 : Fxs w a0 n0 c0 L0) (h1 : Fxs w a1 n1 c1 L1) (hn : n0 ≤ 300) (ht0 : thin N L0) (ht1 : thin K L1) (hs : Hid (n0 = n1)) (hb9 : 1 + n0 * (N + K + 6) ≤ 2097152000) (hN9 : N + K + 3 ≤ 2097152000) : Calls Tryz.prog 58 #[.slice a0 n0 c0, .slice a1 n1 c1] w (LstQV (rdot (fqs L0) (fqs L1)) (.bool true) w) := by
  obtain ⟨K9, hK9⟩ : ∃ K9, N + 1 + (K + 1) + 1 = K9 := ⟨_, rfl⟩
  have HK9 : Hid (K9 + 3 = N + K + 6) := Lib.hid (by omega)
  have hK8 : K9 ≤ 2097152000 := by omega
  have HQ9 : Hid (∀ q ∈ rprods (fqs L0) (fqs L1), qlen q ≤ K9) := Lib.hid (by rw [← hK9]; exact rprods_qlen (ht0.qs h0.oks) (ht1.qs h1.oks))
  clear hK9
  have HK0 := Lib.hid h0
  have HLl0 := Lib.hid h0.len
  have hbd0 := h0.bound
  have HTh0 := Lib.hid ht0
  clear h0 ht0
  have HK1 := Lib.hid h1
  have HLl1 := Lib.hid h1.len
  have hbd1 := h1.bound
  have HTh1 := Lib.hid ht1
  clear h1 ht1
  obtain rfl := hs.out
  clear hs
  obtain ⟨q, hq9⟩ : ∃ q, rdot (fqs L0) (fqs L1) = q := ⟨_, rfl⟩
  rw [hq9]
  have HSM0 : Hid (rsum (rprods (fqs L0) (fqs L1)) = q) := Lib.hid (by rw [← hq9, rdot_eq_rsum]; rfl)
  clear hq9
  have HTL : Hid ((rprods (fqs L0) (fqs L1)).length = n0) := Lib.hid (by rw [rprods_length (by rw [fqs_length, fqs_length, HLl0.out, HLl1.out]), fqs_length, HLl0.out])
  obtain ⟨T, hTe⟩ : ∃ T, rprods (fqs L0) (fqs L1) = T := ⟨_, rfl⟩
  have ET := Lib.hid hTe
  have HQL : Hid (∀ q ∈ T, qlen q ≤ K9) := Lib.hid (hTe ▸ HQ9.out)
  have HSM : Hid (rsum T = q) := Lib.hid (hTe ▸ HSM0.out)
  clear HQ9 HSM0
  rw [hTe] at HTL
  try rw [hTe]
  clear hTe
  obtain ⟨i0, hi, hz0, hz1, hz2⟩ := info_parts infoFracR
  go_enter Tryz.func58, Tryz.ntmps58
  try unfold frV
  go_wp2_with (at_make; refine wpList_make_fracs _ rfl _ _ 31 rfl (w.heap.size + 1) 36 i0 Tryz.underlying31 hi hz0 hz1 hz2 _ _ _ _ n0 rfl rfl (by omega) (by omega) (by omega) (by simp) ?_; intro wm hmade hgm hszm)
  have HO0 := Lib.hid (Half.start hmade)
  have HB0 : Hid (Below w.heap.size w wm) := Lib.hid (below_then (below_alloc _ _) ((Below.refl _ _).grown hgm (Nat.le_refl _) (fun k hk => by cases hk)))
  have X00 : Hid (wm.heap[w.heap.size]? = some (.cells #[.bool false, .slice none 0 0, .slice none 0 0] 36 (0, 0))) := Lib.hid (blk_later (blk_new _ _ _) ((Below.refl _ _).grown hgm (Nat.le_refl _) (fun k hk => by cases hk)))
  clear hmade hgm
  try simp only [World.size_alloc] at hszm HO0
  go_loopw [19] (fun iv wr => ∃ k r : Nat, k + r = n0 ∧ iv = .int .i64 (k : Int) ∧ Hid (Half wr (w.heap.size + 1) 36 (.slice (some ⟨w.heap.size + 1, 0, none⟩) n0 n0) (T.take k) r) ∧ Hid (Below w.heap.size w wr) ∧ w.heap.size + 1 < wr.heap.size ∧ Hid (wr.heap[w.heap.size]? = some (.cells #[.bool false, .slice none 0 0, .slice none 0 0] 36 (0, 0)))) (fun iv _ => n0 - (intOf iv).toNat)
  case atStart => exact ⟨0, n0, by omega, rfl, HO0, HB0, by omega, X00⟩
  case round =>
    clear HO0 HB0 X00
    obtain ⟨k, r, hk, rfl, HO, HB, hsz, X0⟩ := hrel
    by_cases hlt : k < n0
    · have hkT : k < T.length := by rw [HTL.out]; exact hlt
      obtain ⟨r, rfl⟩ : ∃ r', r = r' + 1 := ⟨r - 1, by omega⟩
      have HT : Hid (T.take (k + 1) = T.take k ++ [T.getD k 0]) := Lib.hid (q_more hkT)
      have HTv : Hid (T.getD k 0 = (L0.getD k Fx.zero).q * (L1.getD k Fx.zero).q) := Lib.hid (by rw [← ET.out]; rw [rprods_getD (by rw [fqs_length, HLl0.out]; exact hlt) (by rw [fqs_length, HLl1.out]; exact hlt), fqs_getD (by rw [HLl0.out]; exact hlt), fqs_getD (by rw [HLl1.out]; exact hlt)])
      obtain ⟨bb0, off0, rfl, e00, e10, e20, hok0⟩ := HK0.out.at hlt
      have hth0 := HTh0.out _ (fx_mem (L := L0) (k := k) (by rw [HLl0.out]; exact hlt))
      generalize L0.getD k Fx.zero = xk0 at *
      obtain ⟨sk0, ak0, nk0, ck0, lak0, bk0, mk0, dk0, lbk0⟩ := xk0
      obtain ⟨hA0, hB0⟩ := hok0
      simp only at e00 e10 e20 hA0 hB0 hth0
      obtain ⟨hth0, htj0⟩ := hth0
      have HE0 : Hid (w.cell? ⟨bb0, off0 + k * 3, none⟩ = some (.bool sk0) ∧ w.cell? ⟨bb0, off0 + k * 3 + 1, none⟩ = some (.slice ak0 nk0 ck0) ∧ w.cell? ⟨bb0, off0 + k * 3 + 2, none⟩ = some (.slice bk0 mk0 dk0)) := Lib.hid ⟨e00, e10, e20⟩
      have AK0 := Lib.hid hA0
      have BK0 := Lib.hid hB0
      clear hA0 hB0 e00 e10 e20
      obtain ⟨bb1, off1, rfl, e01, e11, e21, hok1⟩ := HK1.out.at hlt
      have hth1 := HTh1.out _ (fx_mem (L := L1) (k := k) (by rw [HLl1.out]; exact hlt))
      generalize L1.getD k Fx.zero = xk1 at *
      obtain ⟨sk1, ak1, nk1, ck1, lak1, bk1, mk1, dk1, lbk1⟩ := xk1
      obtain ⟨hA1, hB1⟩ := hok1
      simp only at e01 e11 e21 hA1 hB1 hth1
      obtain ⟨hth1, htj1⟩ := hth1
      have HE1 : Hid (w.cell? ⟨bb1, off1 + k * 3, none⟩ = some (.bool sk1) ∧ w.cell? ⟨bb1, off1 + k * 3 + 1, none⟩ = some (.slice ak1 nk1 ck1) ∧ w.cell? ⟨bb1, off1 + k * 3 + 2, none⟩ = some (.slice bk1 mk1 dk1)) := Lib.hid ⟨e01, e11, e21⟩
      have AK1 := Lib.hid hA1
      have BK1 := Lib.hid hB1
      clear hA1 hB1 e01 e11 e21
      generalize T.getD k 0 = tk at *
      replace HTv : Hid (tk = qval sk0 (val lak0) (val lbk0) * qval sk1 (val lak1) (val lbk1)) := HTv
      have hki : (k : Int) < (n0 : Int) := by omega
      have hk0 : (0 : Int) ≤ (k : Int) := by omega
      obtain ⟨e00, e10, e20⟩ := three_on HE0.out HB.out
      obtain ⟨e01, e11, e21⟩ := three_on HE1.out HB.out
      obtain ⟨x0, x1, x2⟩ := fcells_3 X0.out
      go_wp2
      have b0 : Below wr.heap.size wr wr.drew := (Below.refl _ _).drew
      replace HB := Lib.hid (below_then HB.out b0)
      replace HO := Lib.hid (HO.out.later b0)
      replace X0 := Lib.hid (blk_later X0.out b0)
      replace hsz := Nat.lt_of_lt_of_le hsz b0.size
      clear e00 e10 e20 e01 e11 e21 x0 x1 x2 b0
      obtain ⟨e00, e10, e20⟩ := three_on HE0.out HB.out
      obtain ⟨e01, e11, e21⟩ := three_on HE1.out HB.out
      obtain ⟨x0, x1, x2⟩ := fcells_3 X0.out
      first | go_region_with (first
        | (go_at_call 49; refine (fracSaid.mul _ _ (qval sk0 (val lak0) (val lbk0)) (qval sk1 (val lak1) (val lbk1)) _ (Fr.of (AK0.out.later HB.out) (BK0.out.later HB.out) (by omega) (by omega) rfl) (Fr.of (AK1.out.later HB.out) (BK1.out.later HB.out) (by omega) (by omega) rfl)).mono ?_; rintro e w4 ⟨a4, n4, c4, b4, m4, d4, rfl, h4, g4, bw⟩; rw [← HTv.out] at h4 g4 ⊢; clear e00 e10 e20 e01 e11 e21 x0 x1 x2; replace HB := Lib.hid (below_then HB.out bw); replace HO := Lib.hid (HO.out.later bw); replace X0 := Lib.hid (blk_later X0.out bw); have hsz4 : w.heap.size + 1 < w4.heap.size := Nat.lt_of_lt_of_le hsz bw.size; have HA4 := Lib.hid h4; have HB4 := Lib.hid g4; clear bw hsz h4 g4; unfold frV; obtain ⟨⟨p0, p1, p2⟩, f0, f1, f2⟩ := HO.out.cell (k := k) (by rw [take_len (Nat.le_of_lt hkT)]))) | fail
      all_goals (
        obtain ⟨hst, hgr⟩ := HO.out.stored (k := k) (by rw [take_len (Nat.le_of_lt hkT)]) tk a4 n4 c4 b4 m4 d4 HA4.out HB4.out
        rw [← HT.out] at hst
        have HS := Lib.hid hst
        have HB5 := Lib.hid (HB.out.grown hgr HB.out.size (fun g' hg' => by simp at hg'; omega))
        have hsz5 := Nat.lt_of_lt_of_le hsz4 hgr.size
        have X5 := Lib.hid ((hgr.block w.heap.size (by omega) (fun e2 => by simp at e2)).trans X0.out)
        clear X0
        clear hst hgr HA4 HB4 HO HB HT HTv p0 p1 p2 f0 f1 f2
        go_wp2
        go_roundw
        case rel => exact ⟨k + 1, r, by omega, by go_num, HS, HB5, hsz5, X5⟩
        case measure => simp [intOf]; omega)
    · obtain rfl : k = n0 := by omega
      have HF := Lib.hid (HO.out.whole HTL.out (by omega))
      obtain ⟨a9, c9, e9, h9⟩ := HF.out.out
      rw [HTL.out] at e9 h9
      cases e9
      have HF9 := Lib.hid h9
      clear HO h9 HF
      have hqn : 1 + (k - 1) * (K9 + 3) ≤ 2097152000 := by rw [HK9.out]; exact Nat.le_trans (Nat.add_le_add_left (Nat.mul_le_mul_right _ (Nat.sub_le k 1)) 1) hb9
      go_wp2_with fail
      refine (total_rw _ HF9.out HQL.out hqn (by omega)).mono ?_
      rintro e w5 ⟨a1, n1, c1, b1, m1, d1, rfl, h1, g1, bw⟩
      replace HB := Lib.hid (below_then HB.out bw)
      have HR := Lib.hid (blk_later X0.out bw)
      clear bw HF9 X0
      rw [HSM.out] at h1 g1 ⊢
      have R1 := Lib.hid h1
      have T1 := Lib.hid g1
      clear h1 g1
      unfold frV
      have q0 := blk_cell HR.out 0
      have q1 := blk_cell HR.out 1
      have q2 := blk_cell HR.out 2
      simp only [List.getElem?_toArray, List.getElem?_cons_zero, List.getElem?_cons_succ] at q0 q1 q2
      have f0 := blk_free HR.out 0
      have f1 := blk_free HR.out 1
      have f2 := blk_free HR.out 2
      replace R1 := Lib.hid (R1.out.stored3 HR.out ((zneg q.num)) a1 n1 c1 (.slice b1 m1 d1))
      replace T1 := Lib.hid (T1.out.stored3 HR.out ((zneg q.num)) a1 n1 c1 (.slice b1 m1 d1))
      replace HB := Lib.hid (below_set3 HB.out (show w.heap.size ≤ w.heap.size by omega) (.bool (zneg q.num)) (.slice a1 n1 c1) (.slice b1 m1 d1))
      replace HR := Lib.hid (blk_set3 HR.out (.bool (zneg q.num)) (.slice a1 n1 c1) (.slice b1 m1 d1))
      go_wp2
      refine bodyPost_ret (results_row_tmp Tryz.results58 _ _ (w.heap.size) 36 #[.bool (zneg q.num), .slice a1 n1 c1, .slice b1 m1 d1] (0, 0) _ rfl HR.out Tryz.underlying36 rfl (by kernel_rfl)) rfl ?_
      exact ⟨a1, n1, c1, b1, m1, d1, rfl, R1.out, T1.out, HB.out⟩
end Go.Proofs.YtipcgehcineblaaGreat
