/-
  The document's answer of layer 12: Ident.
-/
import Derived.Test.YtpjkhbfglgmnmaaGreatDoorRef12M
namespace Go.Proofs.YtpjkhbfglgmnmaaGreatDoor
open Go.RowKit

theorem gident_getD {n k : Nat} (h : k < n) : (gident n).getD k [] = runit n (k : Int) := by
  unfold gident
  rw [List.getD_eq_getElem?_getD, List.getElem?_map, List.getElem?_range h]; rfl
theorem gident_length (n : Nat) : (gident n).length = n := by unfold gident; rw [List.length_map, List.length_range]
theorem gcut_lt {z : Int} {k : Nat} : k < gcut z ↔ (k : Int) < z ∧ (k : Int) < 6 := by unfold gcut; omega
set_option maxRecDepth 4096 in
set_option maxHeartbeats 4000000 in
theorem ref12_ident (z : Int) (w : World) : Calls Tryz.prog 21 #[.int .i64 z] w (LstRws (gident (gcut z)) w) := by
  obtain ⟨n, hnz⟩ : ∃ n, gcut z = n := ⟨_, rfl⟩
  have hn6 : n ≤ 6 := by rw [← hnz]; unfold gcut; omega
  have hlt' : ∀ k : Nat, k < n ↔ (k : Int) < z ∧ (k : Int) < 6 := fun k => hnz ▸ gcut_lt
  obtain ⟨mz, hmz⟩ : ∃ mz : Int, min z 6 = mz := ⟨_, rfl⟩
  have hrc : rcut mz = n := by rw [← hmz, ← hnz]; unfold rcut gcut; omega
  rw [hnz]
  have HLT := Lib.hid hlt'
  have HRC := Lib.hid hrc
  obtain ⟨T, hT⟩ : ∃ T, gident n = T := ⟨_, rfl⟩
  have HTL : Hid (T.length = n) := Lib.hid (by rw [← hT]; exact gident_length n)
  have HTE := Lib.hid hT
  rw [hT]
  have HU : ∀ (k : Nat) (w' : World), k < n → Calls Tryz.prog 44 #[.int .i64 mz, .int .i64 (k : Int)] w' (LstRw (T.getD k []) w') := fun k w' hk => by
    have h9 := ref11_unit mz (k : Int) w'
    rw [HRC.out] at h9
    rw [← HTE.out, gident_getD hk]; exact h9
  clear hlt' hnz hrc hT
  obtain ⟨i1, hi1, hj0, hj1, hj2⟩ := info_one infoD
  go_enter Tryz.func21, Tryz.ntmps21
  go_wp2
  go_loopw [3, 4] (fun mv iv wr => ∃ k : Nat, k ≤ n ∧ iv = .int .i64 (k : Int) ∧ Hid (OwnR wr w.heap.size 39 mv (T.take k)) ∧ Hid (Below w.heap.size w wr) ∧ w.heap.size ≤ wr.heap.size) (fun _ iv _ => n - (intOf iv).toNat)
  case atStart => exact ⟨0, by omega, rfl, Lib.hid (OwnR.nil _ _ _), Lib.hid (Below.refl _ _), by omega⟩
  case round =>
    obtain ⟨k, hk, rfl, HO, HB, hsz⟩ := hrel
    by_cases hlt : k < n
    · have hkT : k < T.length := by rw [HTL.out]; exact hlt
      have HT : Hid (T.take (k + 1) = T.take k ++ [T.getD k []]) := Lib.hid (ll_next hkT)
      have hkL : (T.take k).length ≤ 1000000 := by rw [List.length_take]; omega
      obtain ⟨hk1, hk2⟩ := (HLT.out k).1 hlt
      go_wp2_with fail
      refine (HU k _ hlt).mono ?_
      rintro e w4 ⟨a4, n4, c4, rfl, h4, bw⟩
      have HB4 := Lib.hid (below_then HB.out bw)
      have HO4 := Lib.hid (HO.out.later bw)
      have hsz4 : w.heap.size ≤ w4.heap.size := Nat.le_trans hsz bw.size
      have ba := below_alloc w4 (.cells #[.slice a4 n4 c4] 39)
      have HOa := Lib.hid (HO4.out.later ba)
      have HBa := Lib.hid (below_then HB4.out ba)
      have HYa := Lib.hid (h4.later ba)
      have HNEW := Lib.hid (blk_cell (blk_new w4 #[.slice a4 n4 c4] 39) 0)
      clear ba bw h4 HO HB HB4 HO4 hsz
      go_wp2_with (at_builtin; refine wpList_append_rowR _ rfl _ _ 22 rfl w.heap.size 39 i1 Tryz.underlying22 hi1 hj0 hj1 hj2 _ (T.take k) rfl HOa.out ⟨w4.heap.size, 0, none⟩ a4 n4 c4 _ rfl HNEW.out rfl HYa.out hkL (by rw [blk_size]; omega) ?_)
      intro mv5 w5 hrow hgrow hbase hcl
      have HO5 : Hid (OwnR w5 w.heap.size 39 mv5 (T.take (k + 1))) := Lib.hid (by first | exact hrow | (rw [HT.out]; exact hrow))
      have HB5 := Lib.hid (HBa.out.grown hgrow (by rw [blk_size]; omega) hbase)
      have hsz5 : w.heap.size ≤ w5.heap.size := Nat.le_trans (by rw [blk_size]; omega) hgrow.size
      clear hrow hgrow hbase hcl HOa HBa HYa HNEW HT hsz4
      go_wp2
      go_roundw
      case rel => exact ⟨k + 1, by omega, by go_num, HO5, HB5, hsz5⟩
      case measure => simp [intOf]; omega
    · obtain rfl : k = n := by omega
      have hT9 : T.take k = T := List.take_of_length_le (by rw [HTL.out]; exact Nat.le_refl _)
      rw [hT9] at HO
      obtain ⟨a9, c9, rfl, h9⟩ := HO.out.out
      rw [HTL.out] at h9 ⊢
      have HF9 := Lib.hid h9
      have hno : ¬ ((k : Int) < z ∧ (k : Int) < 6) := fun h => hlt ((HLT.out k).2 h)
      clear h9 HO hT9
      by_cases hkz : (k : Int) < z
      · have hk3 : ¬ (k : Int) < 6 := fun h => hno ⟨hkz, h⟩
        clear hno
        go_wp2
        go_ret
        exact ⟨a9, k, c9, rfl, HF9.out, HB.out⟩
      · clear hno
        go_wp2
        go_ret
        exact ⟨a9, k, c9, rfl, HF9.out, HB.out⟩
end Go.Proofs.YtpjkhbfglgmnmaaGreatDoor
