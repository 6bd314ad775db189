/-
  The contracts of the document's answer for layer 2: functions that make lists.
-/
import Derived.Test.YtgncfkednfjbpaaDoorRef02a
import Derived.Deep.AppendSrc
import Derived.Deep.DeepMust
namespace Go.Proofs.YtgncfkednfjbpaaDoor
open Go.RowKit

theorem infoWord : (Tryd.prog.info? 40).map (fun i => (i.zero, i.size, i.bytes)) = some (some (.int .u32 0), 1, 4) := by kernel_rfl

set_option maxRecDepth 4096 in
set_option maxHeartbeats 400000 in
theorem ref02_norm_own (a : Option Addr) (n cap : Nat) (l : List Nat) (w : World) (h : Wd w a n cap l) (hn : n ≤ 16777216) :
    Calls Tryd.prog 17 #[.slice a n cap] w fun e w' => ∃ (a' : Option Addr) (n' cap' : Nat), e = .returned (.slice a' n' cap') ∧ w'.ownsRow w.heap.size 40 1 (.slice a' n' cap') n' (wcells (dg (val l))) ∧ Below w.heap.size w w' := by
  obtain ⟨hb1, hb2⟩ := h.bound
  have H := Lib.hid h
  clear h
  go_enter Tryd.func17, Tryd.ntmps17
  go_wp2
  go_loop [3] (fun i => ∃ k : Nat, k ≤ n ∧ i = .int .i64 k ∧ Hid (top l k = 0)) (fun i => (intOf i).toNat)
  case atStart => exact ⟨n, by omega, rfl, Lib.hid (top_ge (by have := H.out.len; omega))⟩
  case round =>
    obtain ⟨k, hk, rfl, Ht⟩ := hrel
    cases k with
    | zero =>
      have hv : val l = 0 := by rw [← top_zero]; exact Ht.out
      have Hv := Lib.hid hv
      clear hv
      obtain ⟨i0, hi, hz0, hz1, hz2⟩ := info_parts infoWord
      cases a with
      | none =>
        obtain ⟨rfl, rfl, rfl⟩ := H.out.ofNone
        go_wp2_with (at_builtin; refine wpList_append_own_none rfl _ _ 22 rfl w.heap.size 40 i0 1 Tryd.underlying22 hi _ 0 [] rfl (World.ownsRow_lit w #[] 0 (Nat.le_refl _) (by decide) rfl) rfl ?_)
        go_ret
        exact ⟨_, _, _, rfl, by rw [Hv.out, dg_zero]; exact World.ownsRow_lit w #[] 0 (Nat.le_refl _) (by decide) rfl, (Below.refl _ _).alloc (Nat.le_refl _) _⟩
      | some ad =>
        go_wp2_with (at_builtin; refine wpList_append_own _ rfl _ _ 22 rfl w.heap.size 40 i0 (.int .u32 0) 1 4 Tryd.underlying22 hi hz0 hz1 hz2 rfl (by decide) _ 0 [] rfl (World.ownsRow_lit w #[] 0 (Nat.le_refl _) (by decide) rfl) ad 0 cap [] rfl rfl (by intro j u hu; simp at hu) (by intro u hu; simp at hu) (by decide) (by decide) (by simp) ?_)
        intro v' w1 hown hgrow _
        obtain ⟨a', cap', rfl⟩ := own_slice hown
        go_wp2
        go_ret
        refine ⟨a', 0, cap', rfl, ?_, ?_⟩
        · rw [Hv.out, dg_zero]; exact hown
        · exact ((Below.refl _ _).alloc (Nat.le_refl _) _).grown hgrow (by simp) (by intro k hk; simp [Value.ownBlock] at hk; omega)
    | succ k =>
      obtain ⟨b, off, rfl, hc⟩ := H.out.at (by omega)
      have hck := hc k (by omega)
      clear hc
      by_cases hz : atw l k = 0
      · have hzb : (((atw l k : Nat) : Int) == 0) = true := by simp [hz]
        have Hz := Lib.hid hz
        clear hz
        go_wp2
        go_round
        case rel => exact ⟨k, by omega, by go_num, Lib.hid (by rw [top_succ, Hz.out, Ht.out])⟩
        case measure => simp [intOf]
      · have hzb : (((atw l k : Nat) : Int) == 0) = false := by simp [hz]
        have Hz := Lib.hid hz
        clear hz
        obtain ⟨i0, hi, hz0, hz1, hz2⟩ := info_parts infoWord
        have hT := H.out.take hk
        have hTl : (l.take (k + 1)).length = k + 1 := hT.len
        have hR : l.take (k + 1) = dg (val l) := take_right (by rw [H.out.len]; exact hk) H.out.ok Ht.out (.inr (by simpa using Hz.out))
        have HR := Lib.hid hR
        have HT := Lib.hid hT
        have HTl := Lib.hid hTl
        clear hT hR hTl
        go_wp2_with (at_builtin; refine wpList_append_own _ rfl _ _ 22 rfl w.heap.size 40 i0 (.int .u32 0) 1 4 Tryd.underlying22 hi hz0 hz1 hz2 rfl (by decide) _ 0 [] rfl (World.ownsRow_lit w #[] 0 (Nat.le_refl _) (by decide) rfl) ⟨b, off, none⟩ (k + 1) cap (wcells (l.take (k + 1))) rfl (by rw [wcells_length, HTl.out, Nat.mul_one]) (HT.out.later ((Below.refl _ _).alloc (Nat.le_refl _) _)).cells (wcells_one _) (by unfold maxLen; omega) (by omega) (by simp) ?_)
        intro v' w1 hown hgrow _
        obtain ⟨a', cap', rfl⟩ := own_slice hown
        go_wp2
        go_ret
        refine ⟨a', _, cap', rfl, ?_, ?_⟩
        · rw [← HR.out]; simpa using hown
        · exact ((Below.refl _ _).alloc (Nat.le_refl _) _).grown hgrow (by simp) (by intro k hk; simp [Value.ownBlock] at hk; omega)
theorem ref02_norm (a : Option Addr) (n cap : Nat) (l : List Nat) (w : World) (h : Wd w a n cap l) (hn : n ≤ 16777216) :
    Calls Tryd.prog 17 #[.slice a n cap] w fun e w' => ∃ (a' : Option Addr) (n' cap' : Nat), e = .returned (.slice a' n' cap') ∧ Wd w' a' n' cap' (dg (val l)) ∧ Below w.heap.size w w' :=
  (ref02_norm_own a n cap l w h hn).mono fun _ _ ⟨a', n', c', he, ho, hB⟩ => ⟨a', n', c', he, Wd.own ho (okw_dg _), hB⟩
set_option maxRecDepth 4096 in
set_option maxHeartbeats 2000000 in
theorem ref02_add (a : Option Addr) (n cap : Nat) (la : List Nat) (b : Option Addr) (m cap' : Nat) (lb : List Nat) (w : World) (ha : Wd w a n cap la) (hb : Wd w b m cap' lb) (hn : n ≤ 16777214) (hm : m ≤ 16777214) :
    Calls Tryd.prog 24 #[.slice a n cap, .slice b m cap'] w fun e w' => ∃ (a' : Option Addr) (n' cap' : Nat), e = .returned (.slice a' n' cap') ∧ Wd w' a' n' cap' (dg (val la + val lb)) ∧ Below w.heap.size w w' := by
  obtain ⟨i0, hi, hz0, hz1, hz2⟩ := info_parts infoWord
  have Ha := Lib.hid ha
  have Hb := Lib.hid hb
  clear ha hb
  by_cases hnm : n < m
  · skip
    go_enter Tryd.func24, Tryd.ntmps24
    go_wp2_with (at_make; refine wpList_make_full _ rfl _ _ 22 rfl w.heap.size 40 i0 (.int .u32 0) 1 Tryd.underlying22 hi hz0 hz1 .i64 .i64 _ _ (m + 1) rfl rfl (by omega) (by omega) (by rw [hz2]; omega) (by unfold maxLen; omega) (Nat.le_refl _) ?_; intro w1 hown1 hgrow1)
    rw [wcells_made] at hown1
    have Hown1 := Lib.hid hown1
    have hB1 : Below w.heap.size w w1 := (Below.refl _ _).grown hgrow1 (Nat.le_refl _) (fun k hk => by cases hk)
    clear hown1 hgrow1
    go_loopw [7, 8] (fun s i wr => ∃ (k sn : Nat) (o : List Nat), k ≤ m + 1 ∧ i = .int .i64 k ∧ s = .int .u64 sn ∧ sn ≤ 1 ∧ Hid (o.length = k) ∧ okw o ∧ Hid (val o + 4294967296 ^ k * sn = low la k + low lb k) ∧
        Hid (wr.ownsRow w.heap.size 40 1 (.slice (some ⟨w.heap.size, 0, none⟩) (m + 1) (m + 1)) (m + 1) (wcells (o ++ List.replicate (m + 1 - k) 0))) ∧ Below w.heap.size w wr) (fun _ i _ => m + 1 - (intOf i).toNat)
    case atStart => exact ⟨0, 0, [], by omega, rfl, rfl, by omega, Lib.hid rfl, okw_nil, Lib.hid (by rw [low_zero, low_zero]; rfl), Hown1, hB1⟩
    case round =>
      obtain ⟨k, sn, o, hk, rfl, rfl, hsn, Ho, hok, Hv, Hown, hB⟩ := hrel
      by_cases hlt : k < m + 1
      · have HaW := Lib.hid (Ha.out.later hB)
        have HbW := Lib.hid (Hb.out.later hB)
        have hcell : wr.cell? ⟨w.heap.size, k, none⟩ = some (.int .u32 ((atw (o ++ List.replicate (m + 1 - k) 0) k : Nat) : Int)) := (Hown.out.cellAt k (by omega)).trans (wcells_at (by have := Ho.out; simp; omega))
        have hfro : wr.frozen? ⟨w.heap.size, k, none⟩ = false := Hown.out.frozenAt k
        generalize atw (o ++ List.replicate (m + 1 - k) 0) k = old at hcell
        have hxa := atw_lt Ha.out.ok k
        have hxb := atw_lt Hb.out.ok k
        have hk1 : (k : Int) < (m : Int) + 1 := by omega
        obtain ⟨x, hx⟩ : ∃ x, x = atw la k := ⟨_, rfl⟩
        obtain ⟨y, hy⟩ : ∃ y, y = atw lb k := ⟨_, rfl⟩
        rw [← hx] at hxa
        rw [← hy] at hxb
        have Hx := Lib.hid hx
        have Hy := Lib.hid hy
        clear hx hy
        go_wp2_with (first | (go_at_call 34; (with_reducible refine (ref02_at a n cap k la _ HaW.out (by omega)).mono ?_); rintro e w' ⟨rfl, rfl⟩; rw [← Hx.out]) | (go_at_call 34; (with_reducible refine (ref02_at b m cap' k lb _ HbW.out (by omega)).mono ?_); rintro e w' ⟨rfl, rfl⟩; rw [← Hy.out]))
        go_roundw
        case rel =>
          obtain ⟨h1, h2⟩ := Hown.out.stored k (.int .u32 (((sn + (x + y)) % 4294967296 : Nat) : Int))
          rw [wcells_set, set_next o (m + 1) k _ Ho.out hlt] at h1
          refine ⟨k + 1, (sn + (x + y)) / 4294967296, o ++ [(sn + (x + y)) % 4294967296], by omega, by go_num, by go_num, by omega, Lib.hid (by have := Ho.out; simp; omega), okw_snoc hok (by omega), Lib.hid (add_step Ho.out Hv.out (by rw [Hx.out, Hy.out])), ?_, ?_⟩
          · exact Lib.hid (by simpa using h1)
          · exact hB.setCell (Nat.le_refl _) _
        case measure => simp [intOf]; omega
      · have hkn : k = m + 1 := by omega
        subst hkn
        have hown := Hown.out
        rw [Nat.sub_self, List.replicate_zero, List.append_nil] at hown
        have HW := Lib.hid (Wd.own hown hok)
        have Hfin := Lib.hid (add_end (N := m) Ha.out.ok Hb.out.ok (by rw [Ha.out.len]; omega) (by rw [Hb.out.len]; omega) Ho.out Hv.out)
        clear hown
        go_wp2_with (go_at_call 17; (refine (ref02_norm _ _ _ _ _ HW.out (by omega)).mono ?_); rintro e w' ⟨a', n', c', rfl, hwd, hbel⟩)
        go_ret
        exact ⟨a', n', c', rfl, by rw [Hfin.out] at hwd; exact hwd, hB.trans (hbel.mono hB.size)⟩
  · skip
    go_enter Tryd.func24, Tryd.ntmps24
    go_wp2_with (at_make; refine wpList_make_full _ rfl _ _ 22 rfl w.heap.size 40 i0 (.int .u32 0) 1 Tryd.underlying22 hi hz0 hz1 .i64 .i64 _ _ (n + 1) rfl rfl (by omega) (by omega) (by rw [hz2]; omega) (by unfold maxLen; omega) (Nat.le_refl _) ?_; intro w1 hown1 hgrow1)
    rw [wcells_made] at hown1
    have Hown1 := Lib.hid hown1
    have hB1 : Below w.heap.size w w1 := (Below.refl _ _).grown hgrow1 (Nat.le_refl _) (fun k hk => by cases hk)
    clear hown1 hgrow1
    go_loopw [7, 8] (fun s i wr => ∃ (k sn : Nat) (o : List Nat), k ≤ n + 1 ∧ i = .int .i64 k ∧ s = .int .u64 sn ∧ sn ≤ 1 ∧ Hid (o.length = k) ∧ okw o ∧ Hid (val o + 4294967296 ^ k * sn = low la k + low lb k) ∧
        Hid (wr.ownsRow w.heap.size 40 1 (.slice (some ⟨w.heap.size, 0, none⟩) (n + 1) (n + 1)) (n + 1) (wcells (o ++ List.replicate (n + 1 - k) 0))) ∧ Below w.heap.size w wr) (fun _ i _ => n + 1 - (intOf i).toNat)
    case atStart => exact ⟨0, 0, [], by omega, rfl, rfl, by omega, Lib.hid rfl, okw_nil, Lib.hid (by rw [low_zero, low_zero]; rfl), Hown1, hB1⟩
    case round =>
      obtain ⟨k, sn, o, hk, rfl, rfl, hsn, Ho, hok, Hv, Hown, hB⟩ := hrel
      by_cases hlt : k < n + 1
      · have HaW := Lib.hid (Ha.out.later hB)
        have HbW := Lib.hid (Hb.out.later hB)
        have hcell : wr.cell? ⟨w.heap.size, k, none⟩ = some (.int .u32 ((atw (o ++ List.replicate (n + 1 - k) 0) k : Nat) : Int)) := (Hown.out.cellAt k (by omega)).trans (wcells_at (by have := Ho.out; simp; omega))
        have hfro : wr.frozen? ⟨w.heap.size, k, none⟩ = false := Hown.out.frozenAt k
        generalize atw (o ++ List.replicate (n + 1 - k) 0) k = old at hcell
        have hxa := atw_lt Ha.out.ok k
        have hxb := atw_lt Hb.out.ok k
        have hk1 : (k : Int) < (n : Int) + 1 := by omega
        obtain ⟨x, hx⟩ : ∃ x, x = atw la k := ⟨_, rfl⟩
        obtain ⟨y, hy⟩ : ∃ y, y = atw lb k := ⟨_, rfl⟩
        rw [← hx] at hxa
        rw [← hy] at hxb
        have Hx := Lib.hid hx
        have Hy := Lib.hid hy
        clear hx hy
        go_wp2_with (first | (go_at_call 34; (with_reducible refine (ref02_at a n cap k la _ HaW.out (by omega)).mono ?_); rintro e w' ⟨rfl, rfl⟩; rw [← Hx.out]) | (go_at_call 34; (with_reducible refine (ref02_at b m cap' k lb _ HbW.out (by omega)).mono ?_); rintro e w' ⟨rfl, rfl⟩; rw [← Hy.out]))
        go_roundw
        case rel =>
          obtain ⟨h1, h2⟩ := Hown.out.stored k (.int .u32 (((sn + (x + y)) % 4294967296 : Nat) : Int))
          rw [wcells_set, set_next o (n + 1) k _ Ho.out hlt] at h1
          refine ⟨k + 1, (sn + (x + y)) / 4294967296, o ++ [(sn + (x + y)) % 4294967296], by omega, by go_num, by go_num, by omega, Lib.hid (by have := Ho.out; simp; omega), okw_snoc hok (by omega), Lib.hid (add_step Ho.out Hv.out (by rw [Hx.out, Hy.out])), ?_, ?_⟩
          · exact Lib.hid (by simpa using h1)
          · exact hB.setCell (Nat.le_refl _) _
        case measure => simp [intOf]; omega
      · have hkn : k = n + 1 := by omega
        subst hkn
        have hown := Hown.out
        rw [Nat.sub_self, List.replicate_zero, List.append_nil] at hown
        have HW := Lib.hid (Wd.own hown hok)
        have Hfin := Lib.hid (add_end (N := n) Ha.out.ok Hb.out.ok (by rw [Ha.out.len]; omega) (by rw [Hb.out.len]; omega) Ho.out Hv.out)
        clear hown
        go_wp2_with (go_at_call 17; (refine (ref02_norm _ _ _ _ _ HW.out (by omega)).mono ?_); rintro e w' ⟨a', n', c', rfl, hwd, hbel⟩)
        go_ret
        exact ⟨a', n', c', rfl, by rw [Hfin.out] at hwd; exact hwd, hB.trans (hbel.mono hB.size)⟩
end Go.Proofs.YtgncfkednfjbpaaDoor
