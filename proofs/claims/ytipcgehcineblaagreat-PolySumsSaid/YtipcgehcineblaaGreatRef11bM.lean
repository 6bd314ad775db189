/-
  The document's answer of layer 11: Long, Zero, Unit. Written by genref11.py.
-/
import Derived.Test.YtipcgehcineblaaGreatG16
import Derived.Test.YtipcgehcineblaaGreatRef09kM
namespace Go.Proofs.YtipcgehcineblaaGreat
open Go.RowKit

set_option maxRecDepth 4096 in
set_option maxHeartbeats 4000000 in
theorem ref11_long (a : Option Addr) (n c : Nat) (L : List Fx) (K N : Int) (r : Bool) (w : World) (h : Fxs w a n c L) (hK : 0 ≤ K ∧ K ≤ 1000) (hr : Hid (r = true ↔ ¬ ((n : Int) ≤ K ∧ thinI N L))) :
    Calls Tryz.prog 5 #[.slice a n c, .int .i64 K, .int .i64 N] w (Gives (.bool r) w) := by
  have HK := Lib.hid h
  have HLl := Lib.hid h.len
  have hbd := h.bound
  obtain ⟨hK0, hK1⟩ := hK
  clear h
  go_enter Tryz.func5, Tryz.ntmps5
  go_wp2
  go_loopw [7] (fun iv wr => ∃ k : Nat, k ≤ n ∧ (k : Int) ≤ K ∧ iv = .int .i64 (k : Int) ∧ Hid (thinI N (L.take k)) ∧ Hid (Below w.heap.size w wr)) (fun iv _ => n - (intOf iv).toNat)
  case atStart => exact ⟨0, by omega, by omega, rfl, Lib.hid (fun x hx => by simp at hx), Lib.hid (Below.refl _ _)⟩
  case round =>
    obtain ⟨k, hk, hkK, rfl, HTh, HB⟩ := hrel
    by_cases hlt : k < n
    · have hki : (k : Int) < (n : Int) := by omega
      by_cases hltK : (k : Int) < K
      · obtain ⟨bb, off, rfl, e0, e1, e2, -⟩ := HK.out.at hlt
        have HT : Hid (L.take (k + 1) = L.take k ++ [L.getD k Fx.zero]) := Lib.hid (fx_more (by rw [HLl.out]; exact hlt))
        have HM : Hid (L.getD k Fx.zero ∈ L) := Lib.hid (fx_mem (by rw [HLl.out]; exact hlt))
        generalize L.getD k Fx.zero = xk at *
        obtain ⟨sk, ak, nk, ck, lak, bk, mk, dk, lbk⟩ := xk
        simp only at e0 e1 e2
        have HE : Hid (w.cell? ⟨bb, off + k * 3, none⟩ = some (.bool sk) ∧ w.cell? ⟨bb, off + k * 3 + 1, none⟩ = some (.slice ak nk ck) ∧ w.cell? ⟨bb, off + k * 3 + 2, none⟩ = some (.slice bk mk dk)) := Lib.hid ⟨e0, e1, e2⟩
        clear e0 e1 e2
        obtain ⟨e0, e1, e2⟩ := three_on HE.out HB.out
        go_wp2_with fail
        refine (ref09_long sk ak nk ck bk mk dk N _).mono ?_
        rintro e w4 ⟨rfl, b4⟩
        clear e0 e1 e2
        replace HB := Lib.hid (below_then HB.out b4)
        clear b4
        by_cases hb : N < (nk : Int) ∨ N < (mk : Int)
        · have hl : (decide (N < (nk : Int)) || decide (N < (mk : Int))) = true := by
            rw [Bool.or_eq_true]
            exact hb.imp decide_eq_true decide_eq_true
          rw [hl]
          have hrt : r = true := hr.out.2 (fun h8 => by
            have := h8.2 _ HM.out
            simp only at this
            omega)
          subst hrt
          clear hl hb
          go_wp2
          go_ret
          exact ⟨rfl, HB.out⟩
        · have hl : (decide (N < (nk : Int)) || decide (N < (mk : Int))) = false := by
            rw [decide_eq_false (fun h => hb (.inl h)), decide_eq_false (fun h => hb (.inr h))]; rfl
          rw [hl]
          have HTh9 : Hid (thinI N (L.take (k + 1))) := Lib.hid (fun x hx => by
            rw [HT.out] at hx
            rcases List.mem_append.1 hx with hx | hx
            · exact HTh.out x hx
            · rw [List.mem_singleton.1 hx]
              simp only
              omega)
          clear hl hb HTh HT HM
          go_wp2
          go_roundw
          case rel => exact ⟨k + 1, by omega, by omega, by go_num, HTh9, HB⟩
          case measure => simp [intOf]; omega
      · have hrt : r = true := hr.out.2 (fun h8 => by have := h8.1; omega)
        have hnk : K < (n : Int) := by omega
        subst hrt
        go_wp2
        go_ret
        exact ⟨rfl, HB.out⟩
    · obtain rfl : k = n := by omega
      have hrf : r = false := by
        cases r with
        | false => rfl
        | true =>
          refine absurd (hr.out.1 rfl) (fun h8 => h8 ⟨hkK, ?_⟩)
          have h9 := HTh.out
          rwa [List.take_of_length_le (by rw [HLl.out]; exact Nat.le_refl _)] at h9
      subst hrf
      have hnk : ¬ K < (k : Int) := by omega
      go_wp2
      go_ret
      exact ⟨rfl, HB.out⟩
theorem rcut_lt {n : Int} {k : Nat} : k < rcut n ↔ (k : Int) < n ∧ (k : Int) < 300 := by unfold rcut; omega
theorem rcut_le (n : Int) : rcut n ≤ 300 := by unfold rcut; omega
theorem reps_more {k m : Nat} (h : k < m) : (List.replicate m (0 : Rat)).take (k + 1) = (List.replicate m (0 : Rat)).take k ++ [0] := by
  rw [List.take_replicate, List.take_replicate, Nat.min_eq_left (by omega), Nat.min_eq_left (by omega), List.replicate_succ']
set_option maxRecDepth 4096 in
set_option maxHeartbeats 4000000 in
theorem ref11_zero_row (z : Int) (w : World) : Calls Tryz.prog 65 #[.int .i64 z] w (LstRow 25 (List.replicate (rcut z) 0) w) := by
  obtain ⟨n, hnz⟩ : ∃ n, rcut z = n := ⟨_, rfl⟩
  have hn3 : n ≤ 300 := hnz ▸ rcut_le z
  have hlt' : ∀ k : Nat, k < n ↔ (k : Int) < z ∧ (k : Int) < 300 := fun k => hnz ▸ rcut_lt
  rw [hnz]
  have HLT := Lib.hid hlt'
  clear hlt' hnz
  obtain ⟨T, hT⟩ : ∃ T, List.replicate n (0 : Rat) = T := ⟨_, rfl⟩
  have HTm : Hid (∀ k, k < n → T.take (k + 1) = T.take k ++ [0]) := Lib.hid (fun k hk => hT ▸ reps_more hk)
  have HTL : Hid (T.length = n) := Lib.hid (by rw [← hT, List.length_replicate])
  rw [hT]
  clear hT
  obtain ⟨q0, hq0⟩ : ∃ q : Rat, ((0 : Int) : Rat) = q := ⟨_, rfl⟩
  have HQ0 : Hid (q0 = 0) := Lib.hid (by rw [← hq0]; rfl)
  have EQ := Lib.hid hq0
  clear hq0
  obtain ⟨i0, hi, hz0, hz1, hz2⟩ := info_parts infoFrac11
  go_enter Tryz.func65, Tryz.ntmps65
  go_wp2
  go_loopw [3, 4] (fun mv iv wr => ∃ k : Nat, k ≤ n ∧ iv = .int .i64 (k : Int) ∧ Hid (Row wr w.heap.size 25 mv (T.take k)) ∧ Hid (Below w.heap.size w wr) ∧ w.heap.size ≤ wr.heap.size) (fun _ iv _ => n - (intOf iv).toNat)
  case atStart => exact ⟨0, by omega, rfl, Lib.hid (Row.nil _ _ _), Lib.hid (Below.refl _ _), by omega⟩
  case round =>
    obtain ⟨k, hk, rfl, HO, HB, hsz⟩ := hrel
    by_cases hlt : k < n
    · obtain ⟨hk1, hk2⟩ := (HLT.out k).1 hlt
      have HT : Hid (T.take (k + 1) = T.take k ++ [q0]) := Lib.hid (by rw [HTm.out k hlt, HQ0.out])
      have hkL : (T.take k).length ≤ 1000000 := by rw [take_len (by rw [HTL.out]; exact hk)]; omega
      go_wp2_with fail
      refine (ref09_int 0 _ isInt_nought).mono ?_
      rintro e w4 ⟨a4, n4, c4, b4, m4, d4, rfl, h4, g4, bw⟩
      rw [EQ.out] at h4 g4 ⊢
      replace HB := Lib.hid (below_then HB.out bw)
      replace HO := Lib.hid (HO.out.later bw)
      have hsz4 : w.heap.size ≤ w4.heap.size := Nat.le_trans hsz bw.size
      have HA4 := Lib.hid h4
      have HB4 := Lib.hid g4
      clear bw hsz h4 g4
      unfold frV
      have ba := below_alloc w4 (.cells #[.bool (zneg q0.num), .slice a4 n4 c4, .slice b4 m4 d4] 25)
      have HOa := Lib.hid (HO.out.later ba)
      have HBa := Lib.hid (below_then HB.out ba)
      have HAa := Lib.hid (HA4.out.later ba)
      have HCa := Lib.hid (HB4.out.later ba)
      clear ba HO HB HA4 HB4
      go_wp2_with (at_builtin; refine wpList_append_row _ rfl _ _ 22 rfl w.heap.size 25 i0 Tryz.underlying22 hi hz0 hz1 hz2 _ (T.take k) rfl HOa.out ⟨w4.heap.size, 0, none⟩ q0 a4 n4 c4 b4 m4 d4 rfl (rx_news _ _ _ _ _ _ _ _ _) HAa.out HCa.out hkL (by rw [blk_size]; omega) ?_)
      intro mv5 w5 hrow hgrow hbase hcl
      have HO5 : Hid (Row w5 w.heap.size 25 mv5 (T.take (k + 1))) := Lib.hid (by rw [HT.out]; exact hrow)
      have HB5 := Lib.hid (HBa.out.grown hgrow (by rw [blk_size]; omega) hbase)
      have hsz5 : w.heap.size ≤ w5.heap.size := Nat.le_trans (by rw [blk_size]; omega) hgrow.size
      clear hrow hgrow hbase hcl HOa HBa HAa HCa HT hsz4
      go_wp2
      go_roundw
      case rel => exact ⟨k + 1, by omega, by go_num, HO5, HB5, hsz5⟩
      case measure => simp [intOf]; omega
    · obtain rfl : k = n := by omega
      have HF := Lib.hid (HO.out.whole HTL.out)
      clear HO
      have hno : ¬ ((k : Int) < z ∧ (k : Int) < 300) := fun h => hlt ((HLT.out k).2 h)
      by_cases hkz : (k : Int) < z
      · have hk3 : ¬ (k : Int) < 300 := fun h => hno ⟨hkz, h⟩
        clear hno
        go_wp2
        go_ret
        exact ⟨_, rfl, HF.out, HB.out⟩
      · clear hno
        go_wp2
        go_ret
        exact ⟨_, rfl, HF.out, HB.out⟩
end Go.Proofs.YtipcgehcineblaaGreat
