/-
  The contracts of the document's answer for layer 2: functions that make lists.
-/
import Derived.Test.YtfjkolnaihejcaaDoorRef02a
import Derived.Deep.AppendSrc
import Derived.Deep.DeepMust
namespace Go.Proofs.YtfjkolnaihejcaaDoor
open Go.RowKit

theorem infoWord : (Tryd.prog.info? 33).map (fun i => (i.zero, i.size, i.bytes)) = some (some (.int .u32 0), 1, 4) := by kernel_rfl

set_option maxHeartbeats 400000 in
theorem ref02_norm (a : Option Addr) (n cap : Nat) (l : List Nat) (w : World) (h : Wd w a n cap l) (hn : n ≤ 16777216) :
    Calls Tryd.prog 36 #[.slice a n cap] w fun e w' => ∃ (a' : Option Addr) (n' cap' : Nat), e = .returned (.slice a' n' cap') ∧ Wd w' a' n' cap' (dg (val l)) ∧ Below w.heap.size w w' := by
  obtain ⟨hb1, hb2⟩ := h.bound
  have H := Lib.hid h
  clear h
  go_enter Tryd.func36, Tryd.ntmps36
  go_wp2
  go_loop [3] (fun i => ∃ k : Nat, k ≤ n ∧ i = .int .i64 k ∧ Hid (top l k = 0)) (fun i => (intOf i).toNat)
  case atStart => exact ⟨n, by omega, rfl, Lib.hid (top_ge (by have := H.out.len; omega))⟩
  case round =>
    obtain ⟨k, hk, rfl, Ht⟩ := hrel
    cases k with
    | zero =>
      have hv : val l = 0 := by rw [← top_zero]; exact Ht.out
      have Hv := Lib.hid hv
      clear hv
      obtain ⟨i0, hi, hz0, hz1, hz2⟩ := info_parts infoWord
      cases a with
      | none =>
        obtain ⟨rfl, rfl, rfl⟩ := H.out.ofNone
        go_wp2_with (at_builtin; refine wpList_append_own_none rfl _ _ 22 rfl w.heap.size 33 i0 1 Tryd.underlying22 hi _ 0 [] rfl (World.ownsRow_lit w #[] 0 (Nat.le_refl _) (by decide) rfl) rfl ?_)
        go_ret
        exact ⟨_, _, _, rfl, by rw [Hv.out, dg_zero]; exact Wd.empty _ _ _ (by omega), (Below.refl _ _).alloc (Nat.le_refl _) _⟩
      | some ad =>
        go_wp2_with (at_builtin; refine wpList_append_own _ rfl _ _ 22 rfl w.heap.size 33 i0 (.int .u32 0) 1 4 Tryd.underlying22 hi hz0 hz1 hz2 rfl (by decide) _ 0 [] rfl (World.ownsRow_lit w #[] 0 (Nat.le_refl _) (by decide) rfl) ad 0 cap [] rfl rfl (by intro j u hu; simp at hu) (by intro u hu; simp at hu) (by decide) (by decide) (by simp) ?_)
        intro v' w1 hown hgrow _
        obtain ⟨a', cap', rfl⟩ := own_slice hown
        go_wp2
        go_ret
        refine ⟨a', 0, cap', rfl, ?_, ?_⟩
        · rw [Hv.out, dg_zero]; exact Wd.own (l := []) hown okw_nil
        · exact ((Below.refl _ _).alloc (Nat.le_refl _) _).grown hgrow (by simp) (by intro k hk; simp [Value.ownBlock] at hk; omega)
    | succ k =>
      obtain ⟨b, off, rfl, hc⟩ := H.out.at (by omega)
      have hck := hc k (by omega)
      clear hc
      by_cases hz : atw l k = 0
      · have hzb : (((atw l k : Nat) : Int) == 0) = true := by simp [hz]
        have Hz := Lib.hid hz
        clear hz
        go_wp2
        go_round
        case rel => exact ⟨k, by omega, by go_num, Lib.hid (by rw [top_succ, Hz.out, Ht.out])⟩
        case measure => simp [intOf]
      · have hzb : (((atw l k : Nat) : Int) == 0) = false := by simp [hz]
        have Hz := Lib.hid hz
        clear hz
        obtain ⟨i0, hi, hz0, hz1, hz2⟩ := info_parts infoWord
        have hT := H.out.take hk
        have hTl : (l.take (k + 1)).length = k + 1 := hT.len
        have hR : l.take (k + 1) = dg (val l) := take_right (by rw [H.out.len]; exact hk) H.out.ok Ht.out (.inr (by simpa using Hz.out))
        have HR := Lib.hid hR
        have HT := Lib.hid hT
        have HTl := Lib.hid hTl
        clear hT hR hTl
        go_wp2_with (at_builtin; refine wpList_append_own _ rfl _ _ 22 rfl w.heap.size 33 i0 (.int .u32 0) 1 4 Tryd.underlying22 hi hz0 hz1 hz2 rfl (by decide) _ 0 [] rfl (World.ownsRow_lit w #[] 0 (Nat.le_refl _) (by decide) rfl) ⟨b, off, none⟩ (k + 1) cap (wcells (l.take (k + 1))) rfl (by rw [wcells_length, HTl.out, Nat.mul_one]) (HT.out.later ((Below.refl _ _).alloc (Nat.le_refl _) _)).cells (wcells_one _) (by unfold maxLen; omega) (by omega) (by simp) ?_)
        intro v' w1 hown hgrow _
        obtain ⟨a', cap', rfl⟩ := own_slice hown
        go_wp2
        go_ret
        refine ⟨a', _, cap', rfl, ?_, ?_⟩
        · rw [← HR.out]; exact Wd.own (by simpa using hown) HT.out.ok
        · exact ((Below.refl _ _).alloc (Nat.le_refl _) _).grown hgrow (by simp) (by intro k hk; simp [Value.ownBlock] at hk; omega)
end Go.Proofs.YtfjkolnaihejcaaDoor
