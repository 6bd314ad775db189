/-
  The contracts of the document's answer for layer 2: functions that make lists.
-/
import Derived.Test.YtkpnhohaolfmgaaRef02a
import Derived.Deep.AppendSrc
import Derived.Deep.DeepMust
namespace Go.Proofs.Ytkpnhohaolfmgaa
open Go.RowKit

theorem infoWord : (Try.prog.info? 38).map (fun i => (i.zero, i.size, i.bytes)) = some (some (.int .u32 0), 1, 4) := by kernel_rfl

set_option maxHeartbeats 400000 in
theorem ref02_norm_own (a : Option Addr) (n cap : Nat) (l : List Nat) (w : World) (h : Wd w a n cap l) (hn : n ≤ 16777216) :
    Calls Try.prog 23 #[.slice a n cap] w fun e w' => ∃ (a' : Option Addr) (n' cap' : Nat), e = .returned (.slice a' n' cap') ∧ w'.ownsRow w.heap.size 38 1 (.slice a' n' cap') n' (wcells (dg (val l))) ∧ Below w.heap.size w w' := by
  obtain ⟨hb1, hb2⟩ := h.bound
  have H := Lib.hid h
  clear h
  go_enter Try.func23, Try.ntmps23
  go_wp2
  go_loop [3] (fun i => ∃ k : Nat, k ≤ n ∧ i = .int .i64 k ∧ Hid (top l k = 0)) (fun i => (intOf i).toNat)
  case atStart => exact ⟨n, by omega, rfl, Lib.hid (top_ge (by have := H.out.len; omega))⟩
  case round =>
    obtain ⟨k, hk, rfl, Ht⟩ := hrel
    cases k with
    | zero =>
      have hv : val l = 0 := by rw [← top_zero]; exact Ht.out
      have Hv := Lib.hid hv
      clear hv
      obtain ⟨i0, hi, hz0, hz1, hz2⟩ := info_parts infoWord
      cases a with
      | none =>
        obtain ⟨rfl, rfl, rfl⟩ := H.out.ofNone
        go_wp2_with (at_builtin; refine wpList_append_own_none rfl _ _ 22 rfl w.heap.size 38 i0 1 Try.underlying22 hi _ 0 [] rfl (World.ownsRow_lit w #[] 0 (Nat.le_refl _) (by decide) rfl) rfl ?_)
        go_ret
        exact ⟨_, _, _, rfl, by rw [Hv.out, dg_zero]; exact World.ownsRow_lit w #[] 0 (Nat.le_refl _) (by decide) rfl, (Below.refl _ _).alloc (Nat.le_refl _) _⟩
      | some ad =>
        go_wp2_with (at_builtin; refine wpList_append_own _ rfl _ _ 22 rfl w.heap.size 38 i0 (.int .u32 0) 1 4 Try.underlying22 hi hz0 hz1 hz2 rfl (by decide) _ 0 [] rfl (World.ownsRow_lit w #[] 0 (Nat.le_refl _) (by decide) rfl) ad 0 cap [] rfl rfl (by intro j u hu; simp at hu) (by intro u hu; simp at hu) (by decide) (by decide) (by simp) ?_)
        intro v' w1 hown hgrow _
        obtain ⟨a', cap', rfl⟩ := own_slice hown
        go_wp2
        go_ret
        refine ⟨a', 0, cap', rfl, ?_, ?_⟩
        · rw [Hv.out, dg_zero]; exact hown
        · exact ((Below.refl _ _).alloc (Nat.le_refl _) _).grown hgrow (by simp) (by intro k hk; simp [Value.ownBlock] at hk; omega)
    | succ k =>
      obtain ⟨b, off, rfl, hc⟩ := H.out.at (by omega)
      have hck := hc k (by omega)
      clear hc
      by_cases hz : atw l k = 0
      · have hzb : (((atw l k : Nat) : Int) == 0) = true := by simp [hz]
        have Hz := Lib.hid hz
        clear hz
        go_wp2
        go_round
        case rel => exact ⟨k, by omega, by go_num, Lib.hid (by rw [top_succ, Hz.out, Ht.out])⟩
        case measure => simp [intOf]
      · have hzb : (((atw l k : Nat) : Int) == 0) = false := by simp [hz]
        have Hz := Lib.hid hz
        clear hz
        obtain ⟨i0, hi, hz0, hz1, hz2⟩ := info_parts infoWord
        have hT := H.out.take hk
        have hTl : (l.take (k + 1)).length = k + 1 := hT.len
        have hR : l.take (k + 1) = dg (val l) := take_right (by rw [H.out.len]; exact hk) H.out.ok Ht.out (.inr (by simpa using Hz.out))
        have HR := Lib.hid hR
        have HT := Lib.hid hT
        have HTl := Lib.hid hTl
        clear hT hR hTl
        go_wp2_with (at_builtin; refine wpList_append_own _ rfl _ _ 22 rfl w.heap.size 38 i0 (.int .u32 0) 1 4 Try.underlying22 hi hz0 hz1 hz2 rfl (by decide) _ 0 [] rfl (World.ownsRow_lit w #[] 0 (Nat.le_refl _) (by decide) rfl) ⟨b, off, none⟩ (k + 1) cap (wcells (l.take (k + 1))) rfl (by rw [wcells_length, HTl.out, Nat.mul_one]) (HT.out.later ((Below.refl _ _).alloc (Nat.le_refl _) _)).cells (wcells_one _) (by unfold maxLen; omega) (by omega) (by simp) ?_)
        intro v' w1 hown hgrow _
        obtain ⟨a', cap', rfl⟩ := own_slice hown
        go_wp2
        go_ret
        refine ⟨a', _, cap', rfl, ?_, ?_⟩
        · rw [← HR.out]; simpa using hown
        · exact ((Below.refl _ _).alloc (Nat.le_refl _) _).grown hgrow (by simp) (by intro k hk; simp [Value.ownBlock] at hk; omega)
theorem ref02_norm (a : Option Addr) (n cap : Nat) (l : List Nat) (w : World) (h : Wd w a n cap l) (hn : n ≤ 16777216) :
    Calls Try.prog 23 #[.slice a n cap] w fun e w' => ∃ (a' : Option Addr) (n' cap' : Nat), e = .returned (.slice a' n' cap') ∧ Wd w' a' n' cap' (dg (val l)) ∧ Below w.heap.size w w' :=
  (ref02_norm_own a n cap l w h hn).mono fun _ _ ⟨a', n', c', he, ho, hB⟩ => ⟨a', n', c', he, Wd.own ho (okw_dg _), hB⟩
set_option maxHeartbeats 2000000 in
theorem ref02_cmp (a : Option Addr) (n cap : Nat) (la : List Nat) (b : Option Addr) (m cap' : Nat) (lb : List Nat) (w : World) (ha : Wd w a n cap la) (hb : Wd w b m cap' lb) (hn : n ≤ 16777214) (hm : m ≤ 16777214) :
    Calls Try.prog 25 #[.slice a n cap, .slice b m cap'] w fun e w' => e = .returned (.int .i64 (cmpI (val la) (val lb))) ∧ w = w' := by
  have Ha := Lib.hid ha
  have Hb := Lib.hid hb
  clear ha hb
  by_cases hnm : n < m
  · skip
    go_enter Try.func25, Try.ntmps25
    go_wp2
    go_loop [5] (fun i => ∃ k : Nat, k ≤ m ∧ i = .int .i64 ((k : Int) - 1) ∧ Hid (top la k = top lb k)) (fun i => (intOf i + 1).toNat)
    case atStart => exact ⟨m, by omega, by go_num, Lib.hid (by rw [top_ge (by rw [Ha.out.len]; omega), top_ge (by rw [Hb.out.len]; omega)])⟩
    case round =>
      obtain ⟨k, hk, rfl, Ht⟩ := hrel
      cases k with
      | zero =>
        have hv : val la = val lb := by rw [← top_zero, ← top_zero]; exact Ht.out
        have Hfin := Lib.hid (cmpI_eq hv)
        clear hv
        go_wp2
        go_ret
        exact ⟨ret_i64 Hfin.out.symm, rfl⟩
      | succ k =>
        have e1 : ((k + 1 : Nat) : Int) - 1 = (k : Int) := by omega
        rw [e1]
        clear e1
        have hxa := atw_lt Ha.out.ok k
        have hxb := atw_lt Hb.out.ok k
        obtain ⟨x, hx⟩ : ∃ x, x = atw la k := ⟨_, rfl⟩
        obtain ⟨y, hy⟩ : ∃ y, y = atw lb k := ⟨_, rfl⟩
        rw [← hx] at hxa
        rw [← hy] at hxb
        have Hx := Lib.hid hx
        have Hy := Lib.hid hy
        clear hx hy
        go_wp2_with (first | (go_at_call 39; (with_reducible refine (ref02_at a n cap k la _ Ha.out (by omega)).mono ?_); rintro e w' ⟨rfl, rfl⟩; rw [← Hx.out]) | (go_at_call 39; (with_reducible refine (ref02_at b m cap' k lb _ Hb.out (by omega)).mono ?_); rintro e w' ⟨rfl, rfl⟩; rw [← Hy.out]))
        · go_ret
          have h : x < y := by omega
          exact ⟨ret_i64 (cmpI_lt (cmp_lt Ha.out.ok Ht.out (by rw [← Hx.out, ← Hy.out]; exact h))).symm, rfl⟩
        · go_ret
          have h : y < x := by omega
          exact ⟨ret_i64 (cmpI_gt (cmp_lt Hb.out.ok Ht.out.symm (by rw [← Hx.out, ← Hy.out]; exact h))).symm, rfl⟩
        · go_round
          case rel =>
            have h : x = y := by omega
            exact ⟨k, by omega, by go_num, Lib.hid (top_eq Ht.out (by rw [← Hx.out, ← Hy.out]; exact h))⟩
          case measure => simp [intOf]
  · skip
    go_enter Try.func25, Try.ntmps25
    go_wp2
    go_loop [5] (fun i => ∃ k : Nat, k ≤ n ∧ i = .int .i64 ((k : Int) - 1) ∧ Hid (top la k = top lb k)) (fun i => (intOf i + 1).toNat)
    case atStart => exact ⟨n, by omega, by go_num, Lib.hid (by rw [top_ge (by rw [Ha.out.len]; omega), top_ge (by rw [Hb.out.len]; omega)])⟩
    case round =>
      obtain ⟨k, hk, rfl, Ht⟩ := hrel
      cases k with
      | zero =>
        have hv : val la = val lb := by rw [← top_zero, ← top_zero]; exact Ht.out
        have Hfin := Lib.hid (cmpI_eq hv)
        clear hv
        go_wp2
        go_ret
        exact ⟨ret_i64 Hfin.out.symm, rfl⟩
      | succ k =>
        have e1 : ((k + 1 : Nat) : Int) - 1 = (k : Int) := by omega
        rw [e1]
        clear e1
        have hxa := atw_lt Ha.out.ok k
        have hxb := atw_lt Hb.out.ok k
        obtain ⟨x, hx⟩ : ∃ x, x = atw la k := ⟨_, rfl⟩
        obtain ⟨y, hy⟩ : ∃ y, y = atw lb k := ⟨_, rfl⟩
        rw [← hx] at hxa
        rw [← hy] at hxb
        have Hx := Lib.hid hx
        have Hy := Lib.hid hy
        clear hx hy
        go_wp2_with (first | (go_at_call 39; (with_reducible refine (ref02_at a n cap k la _ Ha.out (by omega)).mono ?_); rintro e w' ⟨rfl, rfl⟩; rw [← Hx.out]) | (go_at_call 39; (with_reducible refine (ref02_at b m cap' k lb _ Hb.out (by omega)).mono ?_); rintro e w' ⟨rfl, rfl⟩; rw [← Hy.out]))
        · go_ret
          have h : x < y := by omega
          exact ⟨ret_i64 (cmpI_lt (cmp_lt Ha.out.ok Ht.out (by rw [← Hx.out, ← Hy.out]; exact h))).symm, rfl⟩
        · go_ret
          have h : y < x := by omega
          exact ⟨ret_i64 (cmpI_gt (cmp_lt Hb.out.ok Ht.out.symm (by rw [← Hx.out, ← Hy.out]; exact h))).symm, rfl⟩
        · go_round
          case rel =>
            have h : x = y := by omega
            exact ⟨k, by omega, by go_num, Lib.hid (top_eq Ht.out (by rw [← Hx.out, ← Hy.out]; exact h))⟩
          case measure => simp [intOf]
end Go.Proofs.Ytkpnhohaolfmgaa
