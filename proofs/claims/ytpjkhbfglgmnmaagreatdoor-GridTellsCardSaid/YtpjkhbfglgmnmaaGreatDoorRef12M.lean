/-
  The document's answer of layer 12: matrices handed over, right ones, row by row.
-/
import Derived.Test.YtpjkhbfglgmnmaaGreatDoorG16
import Derived.Test.YtpjkhbfglgmnmaaGreatDoorG14
import Derived.Test.YtpjkhbfglgmnmaaGreatDoorG18
import Derived.Test.YtpjkhbfglgmnmaaGreatDoorRef11eM
namespace Go.Proofs.YtpjkhbfglgmnmaaGreatDoor
open Go.RowKit

theorem infoD : (Tryz.prog.info? 39).map (fun i => (i.zero, i.size, i.bytes)) = some (some (.slice none 0 0), 1, 24) := by kernel_rfl
theorem infoP : (Tryz.prog.info? 41).map (fun i => (i.zero, i.size, i.bytes)) = some (some (.slice none 0 0), 1, 24) := by kernel_rfl
theorem info_one {P : Program} {t : TypeId} (h : (P.info? t).map (fun i => (i.zero, i.size, i.bytes)) = some (some (.slice none 0 0), 1, 24)) : ∃ i, P.info? t = some i ∧ i.zero = some (.slice none 0 0) ∧ i.size = 1 ∧ i.bytes = 24 := by
  cases hi : P.info? t with
  | none => rw [hi] at h; simp at h
  | some i =>
    rw [hi] at h
    simp only [Option.map_some, Option.some.injEq, Prod.mk.injEq] at h
    exact ⟨i, rfl, h.1, h.2.1, h.2.2⟩
theorem ll_next {α : Type} {LL : List (List α)} {k : Nat} (h : k < LL.length) : LL.take (k + 1) = LL.take k ++ [LL.getD k []] := by
  rw [List.take_succ_eq_append_getElem h, List.getD_eq_getElem?_getD, List.getElem?_eq_getElem h]; rfl
set_option maxRecDepth 4096 in
set_option maxHeartbeats 4000000 in
theorem law12_to (a : Option Addr) (n c : Nat) (LL : List (List Fx)) (w : World) (h : Fxss w a n c LL) (hn : n ≤ 1000) (hl : ∀ L ∈ LL, L.length ≤ 1000) : Calls Tryz.prog 11 #[.slice a n c] w (fun e w' => ∃ (a' : Option Addr) (c' : Nat), e = .returned (.slice a' n c') ∧ Fxss w' a' n c' LL ∧ Below w.heap.size w w') := by
  have HK := Lib.hid h
  have HLl := Lib.hid h.len
  have hbd := h.bound
  have HLN := Lib.hid hl
  clear h hl
  obtain ⟨T, hT⟩ : ∃ T, LL = T := ⟨_, rfl⟩
  have HTL : Hid (T.length = n) := Lib.hid (by rw [← hT]; exact HLl.out)
  have HTE := Lib.hid hT
  rw [hT]
  clear hT
  obtain ⟨i1, hi1, hj0, hj1, hj2⟩ := info_one infoP
  go_enter Tryz.func11, Tryz.ntmps11
  go_wp2
  go_loopw [3, 4] (fun mv iv wr => ∃ k : Nat, k ≤ n ∧ iv = .int .i64 (k : Int) ∧ Hid (OwnF wr w.heap.size 41 mv (T.take k)) ∧ Hid (Below w.heap.size w wr) ∧ w.heap.size ≤ wr.heap.size) (fun _ iv _ => n - (intOf iv).toNat)
  case atStart => exact ⟨0, by omega, rfl, Lib.hid (OwnF.nil _ _ _), Lib.hid (Below.refl _ _), by omega⟩
  case round =>
    obtain ⟨k, hk, rfl, HO, HB, hsz⟩ := hrel
    by_cases hlt : k < n
    · have hkT : k < T.length := by rw [HTL.out]; exact hlt
      have HT : Hid (T.take (k + 1) = T.take k ++ [T.getD k []]) := Lib.hid (ll_next hkT)
      have hkL : (T.take k).length ≤ 1000000 := by rw [List.length_take]; omega
      obtain ⟨bb, off, hbe, a', n', c', e0, h1⟩ := (HK.out.later HB.out).at hlt
      have hml := HLN.out _ (ll_getD_mem (show k < LL.length by rw [HLl.out]; exact hlt))
      have HTM : Hid (T.getD k [] = LL.getD k []) := Lib.hid (by rw [HTE.out])
      generalize LL.getD k [] = M at *
      have HM := Lib.hid h1
      have hbd1 := h1.bound
      have hl1 := h1.len
      have hki : (k : Int) < (n : Int) := by omega
      subst hbe
      have hm1 : n' ≤ 1000 := by omega
      clear h1
      go_wp2_with fail
      refine (law11_to a' n' c' M _ HM.out hm1).mono ?_
      rintro e w4 ⟨a4, c4, rfl, h4, bw⟩
      obtain ⟨n4, hn4⟩ : ∃ n4, n' = n4 := ⟨_, rfl⟩
      rw [hn4] at h4 ⊢
      clear e0 HM hn4
      have HB4 := Lib.hid (below_then HB.out bw)
      have HO4 := Lib.hid (HO.out.later bw)
      have hsz4 : w.heap.size ≤ w4.heap.size := Nat.le_trans hsz bw.size
      have ba := below_alloc w4 (.cells #[.slice a4 n4 c4] 41)
      have HOa := Lib.hid (HO4.out.later ba)
      have HBa := Lib.hid (below_then HB4.out ba)
      have HYa := Lib.hid (h4.later ba)
      have HNEW := Lib.hid (blk_cell (blk_new w4 #[.slice a4 n4 c4] 41) 0)
      clear ba bw h4 HO HB HB4 HO4 hsz
      go_wp2_with (at_builtin; refine wpList_append_row2 _ rfl _ _ 26 rfl w.heap.size 41 i1 Tryz.underlying26 hi1 hj0 hj1 hj2 _ (T.take k) rfl HOa.out ⟨w4.heap.size, 0, none⟩ a4 n4 c4 _ rfl HNEW.out rfl HYa.out hkL (by rw [blk_size]; omega) ?_)
      intro mv5 w5 hrow hgrow hbase hcl
      have HO5 : Hid (OwnF w5 w.heap.size 41 mv5 (T.take (k + 1))) := Lib.hid (by first | exact hrow | (rw [HT.out, HTM.out]; exact hrow))
      have HB5 := Lib.hid (HBa.out.grown hgrow (by rw [blk_size]; omega) hbase)
      have hsz5 : w.heap.size ≤ w5.heap.size := Nat.le_trans (by rw [blk_size]; omega) hgrow.size
      clear hrow hgrow hbase hcl HOa HBa HYa HNEW HT hsz4
      go_wp2
      go_roundw
      case rel => exact ⟨k + 1, by omega, by go_num, HO5, HB5, hsz5⟩
      case measure => simp [intOf]; omega
    · obtain rfl : k = n := by omega
      have hT9 : T.take k = T := List.take_of_length_le (by rw [HTL.out]; exact Nat.le_refl _)
      rw [hT9] at HO
      obtain ⟨a9, c9, rfl, h9⟩ := HO.out.out
      rw [HTL.out] at h9 ⊢
      have HF9 := Lib.hid h9
      clear h9 HO hT9
      go_wp2
      go_ret
      exact ⟨a9, c9, rfl, HF9.out, HB.out⟩
set_option maxRecDepth 4096 in
set_option maxHeartbeats 4000000 in
theorem ref12_norms (a : Option Addr) (n c : Nat) (LL : List (List Fx)) (w : World) (h : Fxss w a n c LL) (hn : n ≤ 1000) (hl : ∀ L ∈ LL, L.length ≤ 1000 ∧ thin 2000 L) : Calls Tryz.prog 9 #[.slice a n c] w (LstRws (LL.map fqs) w) := by
  have HK := Lib.hid h
  have HLl := Lib.hid h.len
  have hbd := h.bound
  have HLN := Lib.hid hl
  clear h hl
  obtain ⟨T, hT⟩ : ∃ T, LL.map fqs = T := ⟨_, rfl⟩
  have HTL : Hid (T.length = n) := Lib.hid (by rw [← hT, List.length_map]; exact HLl.out)
  have HTE := Lib.hid hT
  rw [hT]
  clear hT
  obtain ⟨i1, hi1, hj0, hj1, hj2⟩ := info_one infoD
  go_enter Tryz.func9, Tryz.ntmps9
  go_wp2
  go_loopw [3, 4] (fun mv iv wr => ∃ k : Nat, k ≤ n ∧ iv = .int .i64 (k : Int) ∧ Hid (OwnR wr w.heap.size 39 mv (T.take k)) ∧ Hid (Below w.heap.size w wr) ∧ w.heap.size ≤ wr.heap.size) (fun _ iv _ => n - (intOf iv).toNat)
  case atStart => exact ⟨0, by omega, rfl, Lib.hid (OwnR.nil _ _ _), Lib.hid (Below.refl _ _), by omega⟩
  case round =>
    obtain ⟨k, hk, rfl, HO, HB, hsz⟩ := hrel
    by_cases hlt : k < n
    · have hkT : k < T.length := by rw [HTL.out]; exact hlt
      have HT : Hid (T.take (k + 1) = T.take k ++ [T.getD k []]) := Lib.hid (ll_next hkT)
      have hkL : (T.take k).length ≤ 1000000 := by rw [List.length_take]; omega
      obtain ⟨bb, off, hbe, a', n', c', e0, h1⟩ := (HK.out.later HB.out).at hlt
      have hml := HLN.out _ (ll_getD_mem (show k < LL.length by rw [HLl.out]; exact hlt))
      have HTM : Hid (T.getD k [] = fqs (LL.getD k [])) := Lib.hid (by rw [← HTE.out]; exact (fqs_row (by rw [HLl.out]; exact hlt)).symm)
      generalize LL.getD k [] = M at *
      have HM := Lib.hid h1
      have hbd1 := h1.bound
      have hl1 := h1.len
      have hki : (k : Int) < (n : Int) := by omega
      subst hbe
      have hm1 : n' ≤ 1000 := by omega
      clear h1
      go_wp2_with fail
      refine (ref11_norms a' n' c' M _ HM.out hm1 hml.2).mono ?_
      rintro e w4 ⟨a4, n4, c4, rfl, h4, bw⟩
      clear e0 HM
      have HB4 := Lib.hid (below_then HB.out bw)
      have HO4 := Lib.hid (HO.out.later bw)
      have hsz4 : w.heap.size ≤ w4.heap.size := Nat.le_trans hsz bw.size
      have ba := below_alloc w4 (.cells #[.slice a4 n4 c4] 39)
      have HOa := Lib.hid (HO4.out.later ba)
      have HBa := Lib.hid (below_then HB4.out ba)
      have HYa := Lib.hid (h4.later ba)
      have HNEW := Lib.hid (blk_cell (blk_new w4 #[.slice a4 n4 c4] 39) 0)
      clear ba bw h4 HO HB HB4 HO4 hsz
      go_wp2_with (at_builtin; refine wpList_append_rowR _ rfl _ _ 22 rfl w.heap.size 39 i1 Tryz.underlying22 hi1 hj0 hj1 hj2 _ (T.take k) rfl HOa.out ⟨w4.heap.size, 0, none⟩ a4 n4 c4 _ rfl HNEW.out rfl HYa.out hkL (by rw [blk_size]; omega) ?_)
      intro mv5 w5 hrow hgrow hbase hcl
      have HO5 : Hid (OwnR w5 w.heap.size 39 mv5 (T.take (k + 1))) := Lib.hid (by first | exact hrow | (rw [HT.out, HTM.out]; exact hrow))
      have HB5 := Lib.hid (HBa.out.grown hgrow (by rw [blk_size]; omega) hbase)
      have hsz5 : w.heap.size ≤ w5.heap.size := Nat.le_trans (by rw [blk_size]; omega) hgrow.size
      clear hrow hgrow hbase hcl HOa HBa HYa HNEW HT hsz4
      go_wp2
      go_roundw
      case rel => exact ⟨k + 1, by omega, by go_num, HO5, HB5, hsz5⟩
      case measure => simp [intOf]; omega
    · obtain rfl : k = n := by omega
      have hT9 : T.take k = T := List.take_of_length_le (by rw [HTL.out]; exact Nat.le_refl _)
      rw [hT9] at HO
      obtain ⟨a9, c9, rfl, h9⟩ := HO.out.out
      rw [HTL.out] at h9 ⊢
      have HF9 := Lib.hid h9
      clear h9 HO hT9
      go_wp2
      go_ret
      exact ⟨a9, k, c9, rfl, HF9.out, HB.out⟩
end Go.Proofs.YtpjkhbfglgmnmaaGreatDoor
