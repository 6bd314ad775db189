/-
  The contracts of the document's answer for layer 2: functions that make lists.
-/
import Derived.Test.YtdhfnlpolelcpaaRef02a
import Derived.Deep.AppendSrc
import Derived.Deep.DeepMust
namespace Go.Proofs.Ytdhfnlpolelcpaa
open Go.RowKit

theorem infoWord : (Try.prog.info? 79).map (fun i => (i.zero, i.size, i.bytes)) = some (some (.int .u32 0), 1, 4) := by kernel_rfl

set_option maxRecDepth 4096 in
set_option maxHeartbeats 2000000 in
theorem ref02_cmp (a : Option Addr) (n cap : Nat) (la : List Nat) (b : Option Addr) (m cap' : Nat) (lb : List Nat) (w : World) (ha : Wd w a n cap la) (hb : Wd w b m cap' lb) (hn : n ≤ 17592183947264) (hm : m ≤ 17592183947264) :
    Calls Try.prog 36 #[.slice a n cap, .slice b m cap'] w fun e w' => e = .returned (.int .i64 (cmpI (val la) (val lb))) ∧ w = w' := by
  have Ha := Lib.hid ha
  have Hb := Lib.hid hb
  clear ha hb
  by_cases hnm : n < m
  · skip
    go_enter Try.func36, Try.ntmps36
    go_wp2
    go_loop [5] (fun i => ∃ k : Nat, k ≤ m ∧ i = .int .i64 ((k : Int) - 1) ∧ Hid (top la k = top lb k)) (fun i => (intOf i + 1).toNat)
    case atStart => exact ⟨m, by omega, by go_num, Lib.hid (by rw [top_ge (by rw [Ha.out.len]; omega), top_ge (by rw [Hb.out.len]; omega)])⟩
    case round =>
      obtain ⟨k, hk, rfl, Ht⟩ := hrel
      cases k with
      | zero =>
        have hv : val la = val lb := by rw [← top_zero, ← top_zero]; exact Ht.out
        have Hfin := Lib.hid (cmpI_eq hv)
        clear hv
        go_wp2
        go_ret
        exact ⟨ret_i64 Hfin.out.symm, rfl⟩
      | succ k =>
        have e1 : ((k + 1 : Nat) : Int) - 1 = (k : Int) := by omega
        rw [e1]
        clear e1
        have hxa := atw_lt Ha.out.ok k
        have hxb := atw_lt Hb.out.ok k
        obtain ⟨x, hx⟩ : ∃ x, x = atw la k := ⟨_, rfl⟩
        obtain ⟨y, hy⟩ : ∃ y, y = atw lb k := ⟨_, rfl⟩
        rw [← hx] at hxa
        rw [← hy] at hxb
        have Hx := Lib.hid hx
        have Hy := Lib.hid hy
        clear hx hy
        go_wp2_with (first | (go_at_call 46; (with_reducible refine (ref02_at a n cap k la _ Ha.out (by omega)).mono ?_); rintro e w' ⟨rfl, rfl⟩; rw [← Hx.out]) | (go_at_call 46; (with_reducible refine (ref02_at b m cap' k lb _ Hb.out (by omega)).mono ?_); rintro e w' ⟨rfl, rfl⟩; rw [← Hy.out]))
        · go_ret
          have h : x < y := by omega
          exact ⟨ret_i64 (cmpI_lt (cmp_lt Ha.out.ok Ht.out (by rw [← Hx.out, ← Hy.out]; exact h))).symm, rfl⟩
        · go_ret
          have h : y < x := by omega
          exact ⟨ret_i64 (cmpI_gt (cmp_lt Hb.out.ok Ht.out.symm (by rw [← Hx.out, ← Hy.out]; exact h))).symm, rfl⟩
        · go_round
          case rel =>
            have h : x = y := by omega
            exact ⟨k, by omega, by go_num, Lib.hid (top_eq Ht.out (by rw [← Hx.out, ← Hy.out]; exact h))⟩
          case measure => simp [intOf]
  · skip
    go_enter Try.func36, Try.ntmps36
    go_wp2
    go_loop [5] (fun i => ∃ k : Nat, k ≤ n ∧ i = .int .i64 ((k : Int) - 1) ∧ Hid (top la k = top lb k)) (fun i => (intOf i + 1).toNat)
    case atStart => exact ⟨n, by omega, by go_num, Lib.hid (by rw [top_ge (by rw [Ha.out.len]; omega), top_ge (by rw [Hb.out.len]; omega)])⟩
    case round =>
      obtain ⟨k, hk, rfl, Ht⟩ := hrel
      cases k with
      | zero =>
        have hv : val la = val lb := by rw [← top_zero, ← top_zero]; exact Ht.out
        have Hfin := Lib.hid (cmpI_eq hv)
        clear hv
        go_wp2
        go_ret
        exact ⟨ret_i64 Hfin.out.symm, rfl⟩
      | succ k =>
        have e1 : ((k + 1 : Nat) : Int) - 1 = (k : Int) := by omega
        rw [e1]
        clear e1
        have hxa := atw_lt Ha.out.ok k
        have hxb := atw_lt Hb.out.ok k
        obtain ⟨x, hx⟩ : ∃ x, x = atw la k := ⟨_, rfl⟩
        obtain ⟨y, hy⟩ : ∃ y, y = atw lb k := ⟨_, rfl⟩
        rw [← hx] at hxa
        rw [← hy] at hxb
        have Hx := Lib.hid hx
        have Hy := Lib.hid hy
        clear hx hy
        go_wp2_with (first | (go_at_call 46; (with_reducible refine (ref02_at a n cap k la _ Ha.out (by omega)).mono ?_); rintro e w' ⟨rfl, rfl⟩; rw [← Hx.out]) | (go_at_call 46; (with_reducible refine (ref02_at b m cap' k lb _ Hb.out (by omega)).mono ?_); rintro e w' ⟨rfl, rfl⟩; rw [← Hy.out]))
        · go_ret
          have h : x < y := by omega
          exact ⟨ret_i64 (cmpI_lt (cmp_lt Ha.out.ok Ht.out (by rw [← Hx.out, ← Hy.out]; exact h))).symm, rfl⟩
        · go_ret
          have h : y < x := by omega
          exact ⟨ret_i64 (cmpI_gt (cmp_lt Hb.out.ok Ht.out.symm (by rw [← Hx.out, ← Hy.out]; exact h))).symm, rfl⟩
        · go_round
          case rel =>
            have h : x = y := by omega
            exact ⟨k, by omega, by go_num, Lib.hid (top_eq Ht.out (by rw [← Hx.out, ← Hy.out]; exact h))⟩
          case measure => simp [intOf]
end Go.Proofs.Ytdhfnlpolelcpaa
