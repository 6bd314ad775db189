/-
  Several texts of this claim as one, group 4.
-/
import Derived.Test.YtipcgehcineblaaGreatG3
import Derived.Deep.AppendSrc
import Derived.Deep.DeepMust
import Derived.Test.YtipcgehcineblaaGreatG2
import Derived.Test.YtipcgehcineblaaGreatG1
import Derived.Lib.AppendIntMem
import Derived.Lib.LaidTab
import Derived.Lib.ItoaNum
import Derived.OwnWalk
import Derived.Laws.OwnMore
import Derived.Laws.MakeOwn
import Derived.BigRegion
import Derived.BigQuiet
import Derived.Deep.QuietTactic
/-
  The contracts of the document's answer for layer 2: functions that make lists.
-/
namespace Go.Proofs.YtipcgehcineblaaGreat
open Go.RowKit

theorem infoWord : (Tryz.prog.info? 58).map (fun i => (i.zero, i.size, i.bytes)) = some (some (.int .u32 0), 1, 4) := by kernel_rfl

set_option maxRecDepth 4096 in
set_option maxHeartbeats 400000 in
theorem ref02_norm_own (a : Option Addr) (n cap : Nat) (l : List Nat) (w : World) (h : Wd w a n cap l) (hn : n ≤ 17592183947266) :
    Calls Tryz.prog 37 #[.slice a n cap] w fun e w' => ∃ (a' : Option Addr) (n' cap' : Nat), e = .returned (.slice a' n' cap') ∧ w'.ownsRow w.heap.size 58 1 (.slice a' n' cap') n' (wcells (dg (val l))) ∧ Below w.heap.size w w' := by
  obtain ⟨hb1, hb2⟩ := h.bound
  have H := Lib.hid h
  clear h
  go_enter Tryz.func37, Tryz.ntmps37
  go_wp2
  go_loop [3] (fun i => ∃ k : Nat, k ≤ n ∧ i = .int .i64 k ∧ Hid (top l k = 0)) (fun i => (intOf i).toNat)
  case atStart => exact ⟨n, by omega, rfl, Lib.hid (top_ge (by have := H.out.len; omega))⟩
  case round =>
    obtain ⟨k, hk, rfl, Ht⟩ := hrel
    cases k with
    | zero =>
      have hv : val l = 0 := by rw [← top_zero]; exact Ht.out
      have Hv := Lib.hid hv
      clear hv
      obtain ⟨i0, hi, hz0, hz1, hz2⟩ := info_parts infoWord
      cases a with
      | none =>
        obtain ⟨rfl, rfl, rfl⟩ := H.out.ofNone
        go_wp2_with (at_builtin; refine wpList_append_own_none rfl _ _ 23 rfl w.heap.size 58 i0 1 Tryz.underlying23 hi _ 0 [] rfl (World.ownsRow_lit w #[] 0 (Nat.le_refl _) (by decide) rfl) rfl ?_)
        go_ret
        exact ⟨_, _, _, rfl, by rw [Hv.out, dg_zero]; exact World.ownsRow_lit w #[] 0 (Nat.le_refl _) (by decide) rfl, (Below.refl _ _).alloc (Nat.le_refl _) _⟩
      | some ad =>
        go_wp2_with (at_builtin; refine wpList_append_own _ rfl _ _ 23 rfl w.heap.size 58 i0 (.int .u32 0) 1 4 Tryz.underlying23 hi hz0 hz1 hz2 rfl (by decide) _ 0 [] rfl (World.ownsRow_lit w #[] 0 (Nat.le_refl _) (by decide) rfl) ad 0 cap [] rfl rfl (by intro j u hu; simp at hu) (by intro u hu; simp at hu) (by decide) (by decide) (by simp) ?_)
        intro v' w1 hown hgrow _
        obtain ⟨a', cap', rfl⟩ := own_slice hown
        go_wp2
        go_ret
        refine ⟨a', 0, cap', rfl, ?_, ?_⟩
        · rw [Hv.out, dg_zero]; exact hown
        · exact ((Below.refl _ _).alloc (Nat.le_refl _) _).grown hgrow (by simp) (by intro k hk; simp [Value.ownBlock] at hk; omega)
    | succ k =>
      obtain ⟨b, off, rfl, hc⟩ := H.out.at (by omega)
      have hck := hc k (by omega)
      clear hc
      by_cases hz : atw l k = 0
      · have hzb : (((atw l k : Nat) : Int) == 0) = true := by simp [hz]
        have Hz := Lib.hid hz
        clear hz
        go_wp2
        go_round
        case rel => exact ⟨k, by omega, by go_num, Lib.hid (by rw [top_succ, Hz.out, Ht.out])⟩
        case measure => simp [intOf]
      · have hzb : (((atw l k : Nat) : Int) == 0) = false := by simp [hz]
        have Hz := Lib.hid hz
        clear hz
        obtain ⟨i0, hi, hz0, hz1, hz2⟩ := info_parts infoWord
        have hT := H.out.take hk
        have hTl : (l.take (k + 1)).length = k + 1 := hT.len
        have hR : l.take (k + 1) = dg (val l) := take_right (by rw [H.out.len]; exact hk) H.out.ok Ht.out (.inr (by simpa using Hz.out))
        have HR := Lib.hid hR
        have HT := Lib.hid hT
        have HTl := Lib.hid hTl
        clear hT hR hTl
        go_wp2_with (at_builtin; refine wpList_append_own _ rfl _ _ 23 rfl w.heap.size 58 i0 (.int .u32 0) 1 4 Tryz.underlying23 hi hz0 hz1 hz2 rfl (by decide) _ 0 [] rfl (World.ownsRow_lit w #[] 0 (Nat.le_refl _) (by decide) rfl) ⟨b, off, none⟩ (k + 1) cap (wcells (l.take (k + 1))) rfl (by rw [wcells_length, HTl.out, Nat.mul_one]) (HT.out.later ((Below.refl _ _).alloc (Nat.le_refl _) _)).cells (wcells_one _) (by unfold maxLen; omega) (by omega) (by simp) ?_)
        intro v' w1 hown hgrow _
        obtain ⟨a', cap', rfl⟩ := own_slice hown
        go_wp2
        go_ret
        refine ⟨a', _, cap', rfl, ?_, ?_⟩
        · rw [← HR.out]; simpa using hown
        · exact ((Below.refl _ _).alloc (Nat.le_refl _) _).grown hgrow (by simp) (by intro k hk; simp [Value.ownBlock] at hk; omega)
theorem ref02_norm (a : Option Addr) (n cap : Nat) (l : List Nat) (w : World) (h : Wd w a n cap l) (hn : n ≤ 17592183947266) :
    Calls Tryz.prog 37 #[.slice a n cap] w fun e w' => ∃ (a' : Option Addr) (n' cap' : Nat), e = .returned (.slice a' n' cap') ∧ Wd w' a' n' cap' (dg (val l)) ∧ Below w.heap.size w w' :=
  (ref02_norm_own a n cap l w h hn).mono fun _ _ ⟨a', n', c', he, ho, hB⟩ => ⟨a', n', c', he, Wd.own ho (okw_dg _), hB⟩
theorem ref02_of (x : Nat) (w : World) (hx : x ≤ 18446744073709551615) :
    Calls Tryz.prog 85 #[.int .u64 (x : Int)] w fun e w' => ∃ (a' : Option Addr) (n' cap' : Nat), e = .returned (.slice a' n' cap') ∧ Wd w' a' n' cap' (dg x) ∧ Below w.heap.size w w' := by
  have hv : val [x % 4294967296, x / 4294967296] = x := by simp only [val]; omega
  have Hv := Lib.hid hv
  have Hlit := Lib.hid (Wd.lit2 w 58 (x := x % 4294967296) (y := x / 4294967296) (by omega) (by omega))
  clear hv
  go_enter Tryz.func85, Tryz.ntmps85
  go_wp2_with (go_at_call 37; go_must (refine (ref02_norm _ 2 2 _ _ Hlit.out (by omega)).mono ?_); rintro e w' ⟨a', n', cap', rfl, hwd, hbel⟩)
  go_ret
  exact ⟨a', n', cap', rfl, by rw [Hv.out] at hwd; exact hwd, ((Below.refl _ _).alloc (Nat.le_refl _) _).trans (hbel.mono (by simp))⟩
set_option maxRecDepth 4096 in
set_option maxHeartbeats 2000000 in
theorem ref02_add (a : Option Addr) (n cap : Nat) (la : List Nat) (b : Option Addr) (m cap' : Nat) (lb : List Nat) (w : World) (ha : Wd w a n cap la) (hb : Wd w b m cap' lb) (hn : n ≤ 17592183947264) (hm : m ≤ 17592183947264) :
    Calls Tryz.prog 84 #[.slice a n cap, .slice b m cap'] w fun e w' => ∃ (a' : Option Addr) (n' cap' : Nat), e = .returned (.slice a' n' cap') ∧ Wd w' a' n' cap' (dg (val la + val lb)) ∧ Below w.heap.size w w' := by
  obtain ⟨i0, hi, hz0, hz1, hz2⟩ := info_parts infoWord
  have Ha := Lib.hid ha
  have Hb := Lib.hid hb
  clear ha hb
  by_cases hnm : n < m
  · skip
    go_enter Tryz.func84, Tryz.ntmps84
    go_wp2_with (at_make; refine wpList_make_full _ rfl _ _ 23 rfl w.heap.size 58 i0 (.int .u32 0) 1 Tryz.underlying23 hi hz0 hz1 .i64 .i64 _ _ (m + 1) rfl rfl (by omega) (by omega) (by rw [hz2]; omega) (by unfold maxLen; omega) (Nat.le_refl _) ?_; intro w1 hown1 hgrow1)
    rw [wcells_made] at hown1
    have Hown1 := Lib.hid hown1
    have hB1 : Below w.heap.size w w1 := (Below.refl _ _).grown hgrow1 (Nat.le_refl _) (fun k hk => by cases hk)
    clear hown1 hgrow1
    go_loopw [7, 8] (fun s i wr => ∃ (k sn : Nat) (o : List Nat), k ≤ m + 1 ∧ i = .int .i64 k ∧ s = .int .u64 sn ∧ sn ≤ 1 ∧ Hid (o.length = k) ∧ okw o ∧ Hid (val o + 4294967296 ^ k * sn = low la k + low lb k) ∧
        Hid (wr.ownsRow w.heap.size 58 1 (.slice (some ⟨w.heap.size, 0, none⟩) (m + 1) (m + 1)) (m + 1) (wcells (o ++ List.replicate (m + 1 - k) 0))) ∧ Below w.heap.size w wr) (fun _ i _ => m + 1 - (intOf i).toNat)
    case atStart => exact ⟨0, 0, [], by omega, rfl, rfl, by omega, Lib.hid rfl, okw_nil, Lib.hid (by rw [low_zero, low_zero]; rfl), Hown1, hB1⟩
    case round =>
      obtain ⟨k, sn, o, hk, rfl, rfl, hsn, Ho, hok, Hv, Hown, hB⟩ := hrel
      by_cases hlt : k < m + 1
      · have HaW := Lib.hid (Ha.out.later hB)
        have HbW := Lib.hid (Hb.out.later hB)
        have hcell : wr.cell? ⟨w.heap.size, k, none⟩ = some (.int .u32 ((atw (o ++ List.replicate (m + 1 - k) 0) k : Nat) : Int)) := (Hown.out.cellAt k (by omega)).trans (wcells_at (by have := Ho.out; simp; omega))
        have hfro : wr.frozen? ⟨w.heap.size, k, none⟩ = false := Hown.out.frozenAt k
        generalize atw (o ++ List.replicate (m + 1 - k) 0) k = old at hcell
        have hxa := atw_lt Ha.out.ok k
        have hxb := atw_lt Hb.out.ok k
        have hk1 : (k : Int) < (m : Int) + 1 := by omega
        obtain ⟨x, hx⟩ : ∃ x, x = atw la k := ⟨_, rfl⟩
        obtain ⟨y, hy⟩ : ∃ y, y = atw lb k := ⟨_, rfl⟩
        rw [← hx] at hxa
        rw [← hy] at hxb
        have Hx := Lib.hid hx
        have Hy := Lib.hid hy
        clear hx hy
        go_wp2_with (first | (go_at_call 98; (with_reducible refine (ref02_at a n cap k la _ HaW.out (by omega)).mono ?_); rintro e w' ⟨rfl, rfl⟩; rw [← Hx.out]) | (go_at_call 98; (with_reducible refine (ref02_at b m cap' k lb _ HbW.out (by omega)).mono ?_); rintro e w' ⟨rfl, rfl⟩; rw [← Hy.out]))
        go_roundw
        case rel =>
          obtain ⟨h1, h2⟩ := Hown.out.stored k (.int .u32 (((sn + (x + y)) % 4294967296 : Nat) : Int))
          rw [wcells_set, set_next o (m + 1) k _ Ho.out hlt] at h1
          refine ⟨k + 1, (sn + (x + y)) / 4294967296, o ++ [(sn + (x + y)) % 4294967296], by omega, by go_num, by go_num, by omega, Lib.hid (by have := Ho.out; simp; omega), okw_snoc hok (by omega), Lib.hid (add_step Ho.out Hv.out (by rw [Hx.out, Hy.out])), ?_, ?_⟩
          · exact Lib.hid (by simpa using h1)
          · exact hB.setCell (Nat.le_refl _) _
        case measure => simp [intOf]; omega
      · have hkn : k = m + 1 := by omega
        subst hkn
        have hown := Hown.out
        rw [Nat.sub_self, List.replicate_zero, List.append_nil] at hown
        have HW := Lib.hid (Wd.own hown hok)
        have Hfin := Lib.hid (add_end (N := m) Ha.out.ok Hb.out.ok (by rw [Ha.out.len]; omega) (by rw [Hb.out.len]; omega) Ho.out Hv.out)
        clear hown
        go_wp2_with (go_at_call 37; (refine (ref02_norm _ _ _ _ _ HW.out (by omega)).mono ?_); rintro e w' ⟨a', n', c', rfl, hwd, hbel⟩)
        go_ret
        exact ⟨a', n', c', rfl, by rw [Hfin.out] at hwd; exact hwd, hB.trans (hbel.mono hB.size)⟩
  · skip
    go_enter Tryz.func84, Tryz.ntmps84
    go_wp2_with (at_make; refine wpList_make_full _ rfl _ _ 23 rfl w.heap.size 58 i0 (.int .u32 0) 1 Tryz.underlying23 hi hz0 hz1 .i64 .i64 _ _ (n + 1) rfl rfl (by omega) (by omega) (by rw [hz2]; omega) (by unfold maxLen; omega) (Nat.le_refl _) ?_; intro w1 hown1 hgrow1)
    rw [wcells_made] at hown1
    have Hown1 := Lib.hid hown1
    have hB1 : Below w.heap.size w w1 := (Below.refl _ _).grown hgrow1 (Nat.le_refl _) (fun k hk => by cases hk)
    clear hown1 hgrow1
    go_loopw [7, 8] (fun s i wr => ∃ (k sn : Nat) (o : List Nat), k ≤ n + 1 ∧ i = .int .i64 k ∧ s = .int .u64 sn ∧ sn ≤ 1 ∧ Hid (o.length = k) ∧ okw o ∧ Hid (val o + 4294967296 ^ k * sn = low la k + low lb k) ∧
        Hid (wr.ownsRow w.heap.size 58 1 (.slice (some ⟨w.heap.size, 0, none⟩) (n + 1) (n + 1)) (n + 1) (wcells (o ++ List.replicate (n + 1 - k) 0))) ∧ Below w.heap.size w wr) (fun _ i _ => n + 1 - (intOf i).toNat)
    case atStart => exact ⟨0, 0, [], by omega, rfl, rfl, by omega, Lib.hid rfl, okw_nil, Lib.hid (by rw [low_zero, low_zero]; rfl), Hown1, hB1⟩
    case round =>
      obtain ⟨k, sn, o, hk, rfl, rfl, hsn, Ho, hok, Hv, Hown, hB⟩ := hrel
      by_cases hlt : k < n + 1
      · have HaW := Lib.hid (Ha.out.later hB)
        have HbW := Lib.hid (Hb.out.later hB)
        have hcell : wr.cell? ⟨w.heap.size, k, none⟩ = some (.int .u32 ((atw (o ++ List.replicate (n + 1 - k) 0) k : Nat) : Int)) := (Hown.out.cellAt k (by omega)).trans (wcells_at (by have := Ho.out; simp; omega))
        have hfro : wr.frozen? ⟨w.heap.size, k, none⟩ = false := Hown.out.frozenAt k
        generalize atw (o ++ List.replicate (n + 1 - k) 0) k = old at hcell
        have hxa := atw_lt Ha.out.ok k
        have hxb := atw_lt Hb.out.ok k
        have hk1 : (k : Int) < (n : Int) + 1 := by omega
        obtain ⟨x, hx⟩ : ∃ x, x = atw la k := ⟨_, rfl⟩
        obtain ⟨y, hy⟩ : ∃ y, y = atw lb k := ⟨_, rfl⟩
        rw [← hx] at hxa
        rw [← hy] at hxb
        have Hx := Lib.hid hx
        have Hy := Lib.hid hy
        clear hx hy
        go_wp2_with (first | (go_at_call 98; (with_reducible refine (ref02_at a n cap k la _ HaW.out (by omega)).mono ?_); rintro e w' ⟨rfl, rfl⟩; rw [← Hx.out]) | (go_at_call 98; (with_reducible refine (ref02_at b m cap' k lb _ HbW.out (by omega)).mono ?_); rintro e w' ⟨rfl, rfl⟩; rw [← Hy.out]))
        go_roundw
        case rel =>
          obtain ⟨h1, h2⟩ := Hown.out.stored k (.int .u32 (((sn + (x + y)) % 4294967296 : Nat) : Int))
          rw [wcells_set, set_next o (n + 1) k _ Ho.out hlt] at h1
          refine ⟨k + 1, (sn + (x + y)) / 4294967296, o ++ [(sn + (x + y)) % 4294967296], by omega, by go_num, by go_num, by omega, Lib.hid (by have := Ho.out; simp; omega), okw_snoc hok (by omega), Lib.hid (add_step Ho.out Hv.out (by rw [Hx.out, Hy.out])), ?_, ?_⟩
          · exact Lib.hid (by simpa using h1)
          · exact hB.setCell (Nat.le_refl _) _
        case measure => simp [intOf]; omega
      · have hkn : k = n + 1 := by omega
        subst hkn
        have hown := Hown.out
        rw [Nat.sub_self, List.replicate_zero, List.append_nil] at hown
        have HW := Lib.hid (Wd.own hown hok)
        have Hfin := Lib.hid (add_end (N := n) Ha.out.ok Hb.out.ok (by rw [Ha.out.len]; omega) (by rw [Hb.out.len]; omega) Ho.out Hv.out)
        clear hown
        go_wp2_with (go_at_call 37; (refine (ref02_norm _ _ _ _ _ HW.out (by omega)).mono ?_); rintro e w' ⟨a', n', c', rfl, hwd, hbel⟩)
        go_ret
        exact ⟨a', n', c', rfl, by rw [Hfin.out] at hwd; exact hwd, hB.trans (hbel.mono hB.size)⟩
set_option maxRecDepth 100000 in
set_option maxHeartbeats 4000000 in
theorem ref02_sub (a : Option Addr) (n cap : Nat) (la : List Nat) (b : Option Addr) (m cap' : Nat) (lb : List Nat) (w : World) (ha : Wd w a n cap la) (hb : Wd w b m cap' lb) (hn : n ≤ 17592183947264) (hm : m ≤ 17592183947264) (hle : Hid (val lb ≤ val la)) :
    Calls Tryz.prog 111 #[.slice a n cap, .slice b m cap'] w fun e w' => ∃ (a' : Option Addr) (n' cap' : Nat), e = .returned (.slice a' n' cap') ∧ Wd w' a' n' cap' (dg (val la - val lb)) ∧ Below w.heap.size w w' := by
  obtain ⟨i0, hi, hz0, hz1, hz2⟩ := info_parts infoWord
  have Ha := Lib.hid ha
  have Hb := Lib.hid hb
  clear ha hb
  by_cases hnm : n < m
  · skip
    go_enter Tryz.func111, Tryz.ntmps111
    go_wp2_with (at_make; refine wpList_make_full _ rfl _ _ 23 rfl w.heap.size 58 i0 (.int .u32 0) 1 Tryz.underlying23 hi hz0 hz1 .i64 .i64 _ _ m rfl rfl (by omega) (by omega) (by rw [hz2]; omega) (by unfold maxLen; omega) (Nat.le_refl _) ?_; intro w1 hown1 hgrow1)
    rw [wcells_made] at hown1
    have Hown1 := Lib.hid hown1
    have hB1 : Below w.heap.size w w1 := (Below.refl _ _).grown hgrow1 (Nat.le_refl _) (fun k hk => by cases hk)
    clear hown1 hgrow1
    go_loopw [7, 8] (fun s i wr => ∃ (k sn : Nat) (o : List Nat), k ≤ m ∧ i = .int .i64 k ∧ s = .int .u64 sn ∧ sn ≤ 1 ∧ Hid (o.length = k) ∧ okw o ∧ Hid (low la k + 4294967296 ^ k * sn = low lb k + val o) ∧
        Hid (wr.ownsRow w.heap.size 58 1 (.slice (some ⟨w.heap.size, 0, none⟩) m m) m (wcells (o ++ List.replicate (m - k) 0))) ∧ Below w.heap.size w wr) (fun _ i _ => m - (intOf i).toNat)
    case atStart => exact ⟨0, 0, [], by omega, rfl, rfl, by omega, Lib.hid rfl, okw_nil, Lib.hid (by rw [low_zero, low_zero]; rfl), Hown1, hB1⟩
    case round =>
      obtain ⟨k, sn, o, hk, rfl, rfl, hsn, Ho, hok, Hv, Hown, hB⟩ := hrel
      by_cases hlt : k < m
      · have HaW := Lib.hid (Ha.out.later hB)
        have HbW := Lib.hid (Hb.out.later hB)
        have hcell : wr.cell? ⟨w.heap.size, k, none⟩ = some (.int .u32 ((atw (o ++ List.replicate (m - k) 0) k : Nat) : Int)) := (Hown.out.cellAt k (by omega)).trans (wcells_at (by have := Ho.out; simp; omega))
        have hfro : wr.frozen? ⟨w.heap.size, k, none⟩ = false := Hown.out.frozenAt k
        generalize atw (o ++ List.replicate (m - k) 0) k = old at hcell
        have hxa := atw_lt Ha.out.ok k
        have hxb := atw_lt Hb.out.ok k
        have hk1 : (k : Int) < (m : Int) := by omega
        obtain ⟨x, hx⟩ : ∃ x, x = atw la k := ⟨_, rfl⟩
        obtain ⟨y, hy⟩ : ∃ y, y = atw lb k := ⟨_, rfl⟩
        rw [← hx] at hxa
        rw [← hy] at hxb
        have Hx := Lib.hid hx
        have Hy := Lib.hid hy
        clear hx hy
        have Hset := fun r => Hown.out.stored k (.int .u32 ((r : Nat) : Int))
        by_cases hxy : x < y + sn
        · have hxyi : (x : Int) < (y : Int) + (sn : Int) := by omega
          go_wp2_with (first | (go_at_call 98; (with_reducible refine (ref02_at a n cap k la _ HaW.out (by omega)).mono ?_); rintro e w' ⟨rfl, rfl⟩; rw [← Hx.out]) | (go_at_call 98; (with_reducible refine (ref02_at b m cap' k lb _ HbW.out (by omega)).mono ?_); rintro e w' ⟨rfl, rfl⟩; rw [← Hy.out]))
          go_roundw
          case rel =>
            obtain ⟨h1, h2⟩ := Hset (x + 4294967296 - (y + sn))
            rw [wcells_set, set_next o m k _ Ho.out hlt] at h1
            have e : (((x + 4294967296 - (y + sn) : Nat)) : Int) = (x : Int) + 4294967296 - ((y : Int) + (sn : Int)) := by omega
            rw [e] at h1
            exact ⟨k + 1, 1, o ++ [x + 4294967296 - (y + sn)], by omega, by go_num, rfl, by omega, Lib.hid (by have := Ho.out; simp; omega), okw_snoc hok (by omega), Lib.hid (sub_step Ho.out Hv.out (by rw [← Hx.out, ← Hy.out]; omega)), Lib.hid h1, hB.setCell (Nat.le_refl _) _⟩
          case measure => simp [intOf]; omega
        · have hxyi : (y : Int) + (sn : Int) ≤ (x : Int) := by omega
          go_wp2_with (first | (go_at_call 98; (with_reducible refine (ref02_at a n cap k la _ HaW.out (by omega)).mono ?_); rintro e w' ⟨rfl, rfl⟩; rw [← Hx.out]) | (go_at_call 98; (with_reducible refine (ref02_at b m cap' k lb _ HbW.out (by omega)).mono ?_); rintro e w' ⟨rfl, rfl⟩; rw [← Hy.out]))
          go_roundw
          case rel =>
            obtain ⟨h1, h2⟩ := Hset (x - (y + sn))
            rw [wcells_set, set_next o m k _ Ho.out hlt] at h1
            have e : (((x - (y + sn) : Nat)) : Int) = (x : Int) - ((y : Int) + (sn : Int)) := by omega
            rw [e] at h1
            exact ⟨k + 1, 0, o ++ [x - (y + sn)], by omega, by go_num, rfl, by omega, Lib.hid (by have := Ho.out; simp; omega), okw_snoc hok (by omega), Lib.hid (sub_step Ho.out Hv.out (by rw [← Hx.out, ← Hy.out]; omega)), Lib.hid h1, hB.setCell (Nat.le_refl _) _⟩
          case measure => simp [intOf]; omega
      · have hkn : k = m := by omega
        subst hkn
        have hown := Hown.out
        rw [Nat.sub_self, List.replicate_zero, List.append_nil] at hown
        have HW := Lib.hid (Wd.own hown hok)
        have Hfin := Lib.hid (sub_end hle.out (by rw [Ha.out.len]; omega) (by rw [Hb.out.len]; omega) Ho.out hok Hv.out)
        clear hown
        go_wp2_with (go_at_call 37; (refine (ref02_norm _ _ _ _ _ HW.out (by omega)).mono ?_); rintro e w' ⟨a', n', c', rfl, hwd, hbel⟩)
        go_ret
        exact ⟨a', n', c', rfl, by rw [Hfin.out] at hwd; exact hwd, hB.trans (hbel.mono hB.size)⟩
  · skip
    go_enter Tryz.func111, Tryz.ntmps111
    go_wp2_with (at_make; refine wpList_make_full _ rfl _ _ 23 rfl w.heap.size 58 i0 (.int .u32 0) 1 Tryz.underlying23 hi hz0 hz1 .i64 .i64 _ _ n rfl rfl (by omega) (by omega) (by rw [hz2]; omega) (by unfold maxLen; omega) (Nat.le_refl _) ?_; intro w1 hown1 hgrow1)
    rw [wcells_made] at hown1
    have Hown1 := Lib.hid hown1
    have hB1 : Below w.heap.size w w1 := (Below.refl _ _).grown hgrow1 (Nat.le_refl _) (fun k hk => by cases hk)
    clear hown1 hgrow1
    go_loopw [7, 8] (fun s i wr => ∃ (k sn : Nat) (o : List Nat), k ≤ n ∧ i = .int .i64 k ∧ s = .int .u64 sn ∧ sn ≤ 1 ∧ Hid (o.length = k) ∧ okw o ∧ Hid (low la k + 4294967296 ^ k * sn = low lb k + val o) ∧
        Hid (wr.ownsRow w.heap.size 58 1 (.slice (some ⟨w.heap.size, 0, none⟩) n n) n (wcells (o ++ List.replicate (n - k) 0))) ∧ Below w.heap.size w wr) (fun _ i _ => n - (intOf i).toNat)
    case atStart => exact ⟨0, 0, [], by omega, rfl, rfl, by omega, Lib.hid rfl, okw_nil, Lib.hid (by rw [low_zero, low_zero]; rfl), Hown1, hB1⟩
    case round =>
      obtain ⟨k, sn, o, hk, rfl, rfl, hsn, Ho, hok, Hv, Hown, hB⟩ := hrel
      by_cases hlt : k < n
      · have HaW := Lib.hid (Ha.out.later hB)
        have HbW := Lib.hid (Hb.out.later hB)
        have hcell : wr.cell? ⟨w.heap.size, k, none⟩ = some (.int .u32 ((atw (o ++ List.replicate (n - k) 0) k : Nat) : Int)) := (Hown.out.cellAt k (by omega)).trans (wcells_at (by have := Ho.out; simp; omega))
        have hfro : wr.frozen? ⟨w.heap.size, k, none⟩ = false := Hown.out.frozenAt k
        generalize atw (o ++ List.replicate (n - k) 0) k = old at hcell
        have hxa := atw_lt Ha.out.ok k
        have hxb := atw_lt Hb.out.ok k
        have hk1 : (k : Int) < (n : Int) := by omega
        obtain ⟨x, hx⟩ : ∃ x, x = atw la k := ⟨_, rfl⟩
        obtain ⟨y, hy⟩ : ∃ y, y = atw lb k := ⟨_, rfl⟩
        rw [← hx] at hxa
        rw [← hy] at hxb
        have Hx := Lib.hid hx
        have Hy := Lib.hid hy
        clear hx hy
        have Hset := fun r => Hown.out.stored k (.int .u32 ((r : Nat) : Int))
        by_cases hxy : x < y + sn
        · have hxyi : (x : Int) < (y : Int) + (sn : Int) := by omega
          go_wp2_with (first | (go_at_call 98; (with_reducible refine (ref02_at a n cap k la _ HaW.out (by omega)).mono ?_); rintro e w' ⟨rfl, rfl⟩; rw [← Hx.out]) | (go_at_call 98; (with_reducible refine (ref02_at b m cap' k lb _ HbW.out (by omega)).mono ?_); rintro e w' ⟨rfl, rfl⟩; rw [← Hy.out]))
          go_roundw
          case rel =>
            obtain ⟨h1, h2⟩ := Hset (x + 4294967296 - (y + sn))
            rw [wcells_set, set_next o n k _ Ho.out hlt] at h1
            have e : (((x + 4294967296 - (y + sn) : Nat)) : Int) = (x : Int) + 4294967296 - ((y : Int) + (sn : Int)) := by omega
            rw [e] at h1
            exact ⟨k + 1, 1, o ++ [x + 4294967296 - (y + sn)], by omega, by go_num, rfl, by omega, Lib.hid (by have := Ho.out; simp; omega), okw_snoc hok (by omega), Lib.hid (sub_step Ho.out Hv.out (by rw [← Hx.out, ← Hy.out]; omega)), Lib.hid h1, hB.setCell (Nat.le_refl _) _⟩
          case measure => simp [intOf]; omega
        · have hxyi : (y : Int) + (sn : Int) ≤ (x : Int) := by omega
          go_wp2_with (first | (go_at_call 98; (with_reducible refine (ref02_at a n cap k la _ HaW.out (by omega)).mono ?_); rintro e w' ⟨rfl, rfl⟩; rw [← Hx.out]) | (go_at_call 98; (with_reducible refine (ref02_at b m cap' k lb _ HbW.out (by omega)).mono ?_); rintro e w' ⟨rfl, rfl⟩; rw [← Hy.out]))
          go_roundw
          case rel =>
            obtain ⟨h1, h2⟩ := Hset (x - (y + sn))
            rw [wcells_set, set_next o n k _ Ho.out hlt] at h1
            have e : (((x - (y + sn) : Nat)) : Int) = (x : Int) - ((y : Int) + (sn : Int)) := by omega
            rw [e] at h1
            exact ⟨k + 1, 0, o ++ [x - (y + sn)], by omega, by go_num, rfl, by omega, Lib.hid (by have := Ho.out; simp; omega), okw_snoc hok (by omega), Lib.hid (sub_step Ho.out Hv.out (by rw [← Hx.out, ← Hy.out]; omega)), Lib.hid h1, hB.setCell (Nat.le_refl _) _⟩
          case measure => simp [intOf]; omega
      · have hkn : k = n := by omega
        subst hkn
        have hown := Hown.out
        rw [Nat.sub_self, List.replicate_zero, List.append_nil] at hown
        have HW := Lib.hid (Wd.own hown hok)
        have Hfin := Lib.hid (sub_end hle.out (by rw [Ha.out.len]; omega) (by rw [Hb.out.len]; omega) Ho.out hok Hv.out)
        clear hown
        go_wp2_with (go_at_call 37; (refine (ref02_norm _ _ _ _ _ HW.out (by omega)).mono ?_); rintro e w' ⟨a', n', c', rfl, hwd, hbel⟩)
        go_ret
        exact ⟨a', n', c', rfl, by rw [Hfin.out] at hwd; exact hwd, hB.trans (hbel.mono hB.size)⟩
set_option maxRecDepth 4096 in
set_option maxHeartbeats 2000000 in
theorem ref02_cmp (a : Option Addr) (n cap : Nat) (la : List Nat) (b : Option Addr) (m cap' : Nat) (lb : List Nat) (w : World) (ha : Wd w a n cap la) (hb : Wd w b m cap' lb) (hn : n ≤ 17592183947264) (hm : m ≤ 17592183947264) :
    Calls Tryz.prog 69 #[.slice a n cap, .slice b m cap'] w fun e w' => e = .returned (.int .i64 (cmpI (val la) (val lb))) ∧ w = w' := by
  have Ha := Lib.hid ha
  have Hb := Lib.hid hb
  clear ha hb
  by_cases hnm : n < m
  · skip
    go_enter Tryz.func69, Tryz.ntmps69
    go_wp2
    go_loop [5] (fun i => ∃ k : Nat, k ≤ m ∧ i = .int .i64 ((k : Int) - 1) ∧ Hid (top la k = top lb k)) (fun i => (intOf i + 1).toNat)
    case atStart => exact ⟨m, by omega, by go_num, Lib.hid (by rw [top_ge (by rw [Ha.out.len]; omega), top_ge (by rw [Hb.out.len]; omega)])⟩
    case round =>
      obtain ⟨k, hk, rfl, Ht⟩ := hrel
      cases k with
      | zero =>
        have hv : val la = val lb := by rw [← top_zero, ← top_zero]; exact Ht.out
        have Hfin := Lib.hid (cmpI_eq hv)
        clear hv
        go_wp2
        go_ret
        exact ⟨ret_i64 Hfin.out.symm, rfl⟩
      | succ k =>
        have e1 : ((k + 1 : Nat) : Int) - 1 = (k : Int) := by omega
        rw [e1]
        clear e1
        have hxa := atw_lt Ha.out.ok k
        have hxb := atw_lt Hb.out.ok k
        obtain ⟨x, hx⟩ : ∃ x, x = atw la k := ⟨_, rfl⟩
        obtain ⟨y, hy⟩ : ∃ y, y = atw lb k := ⟨_, rfl⟩
        rw [← hx] at hxa
        rw [← hy] at hxb
        have Hx := Lib.hid hx
        have Hy := Lib.hid hy
        clear hx hy
        go_wp2_with (first | (go_at_call 98; (with_reducible refine (ref02_at a n cap k la _ Ha.out (by omega)).mono ?_); rintro e w' ⟨rfl, rfl⟩; rw [← Hx.out]) | (go_at_call 98; (with_reducible refine (ref02_at b m cap' k lb _ Hb.out (by omega)).mono ?_); rintro e w' ⟨rfl, rfl⟩; rw [← Hy.out]))
        · go_ret
          have h : x < y := by omega
          exact ⟨ret_i64 (cmpI_lt (cmp_lt Ha.out.ok Ht.out (by rw [← Hx.out, ← Hy.out]; exact h))).symm, rfl⟩
        · go_ret
          have h : y < x := by omega
          exact ⟨ret_i64 (cmpI_gt (cmp_lt Hb.out.ok Ht.out.symm (by rw [← Hx.out, ← Hy.out]; exact h))).symm, rfl⟩
        · go_round
          case rel =>
            have h : x = y := by omega
            exact ⟨k, by omega, by go_num, Lib.hid (top_eq Ht.out (by rw [← Hx.out, ← Hy.out]; exact h))⟩
          case measure => simp [intOf]
  · skip
    go_enter Tryz.func69, Tryz.ntmps69
    go_wp2
    go_loop [5] (fun i => ∃ k : Nat, k ≤ n ∧ i = .int .i64 ((k : Int) - 1) ∧ Hid (top la k = top lb k)) (fun i => (intOf i + 1).toNat)
    case atStart => exact ⟨n, by omega, by go_num, Lib.hid (by rw [top_ge (by rw [Ha.out.len]; omega), top_ge (by rw [Hb.out.len]; omega)])⟩
    case round =>
      obtain ⟨k, hk, rfl, Ht⟩ := hrel
      cases k with
      | zero =>
        have hv : val la = val lb := by rw [← top_zero, ← top_zero]; exact Ht.out
        have Hfin := Lib.hid (cmpI_eq hv)
        clear hv
        go_wp2
        go_ret
        exact ⟨ret_i64 Hfin.out.symm, rfl⟩
      | succ k =>
        have e1 : ((k + 1 : Nat) : Int) - 1 = (k : Int) := by omega
        rw [e1]
        clear e1
        have hxa := atw_lt Ha.out.ok k
        have hxb := atw_lt Hb.out.ok k
        obtain ⟨x, hx⟩ : ∃ x, x = atw la k := ⟨_, rfl⟩
        obtain ⟨y, hy⟩ : ∃ y, y = atw lb k := ⟨_, rfl⟩
        rw [← hx] at hxa
        rw [← hy] at hxb
        have Hx := Lib.hid hx
        have Hy := Lib.hid hy
        clear hx hy
        go_wp2_with (first | (go_at_call 98; (with_reducible refine (ref02_at a n cap k la _ Ha.out (by omega)).mono ?_); rintro e w' ⟨rfl, rfl⟩; rw [← Hx.out]) | (go_at_call 98; (with_reducible refine (ref02_at b m cap' k lb _ Hb.out (by omega)).mono ?_); rintro e w' ⟨rfl, rfl⟩; rw [← Hy.out]))
        · go_ret
          have h : x < y := by omega
          exact ⟨ret_i64 (cmpI_lt (cmp_lt Ha.out.ok Ht.out (by rw [← Hx.out, ← Hy.out]; exact h))).symm, rfl⟩
        · go_ret
          have h : y < x := by omega
          exact ⟨ret_i64 (cmpI_gt (cmp_lt Hb.out.ok Ht.out.symm (by rw [← Hx.out, ← Hy.out]; exact h))).symm, rfl⟩
        · go_round
          case rel =>
            have h : x = y := by omega
            exact ⟨k, by omega, by go_num, Lib.hid (top_eq Ht.out (by rw [← Hx.out, ← Hy.out]; exact h))⟩
          case measure => simp [intOf]
end Go.Proofs.YtipcgehcineblaaGreat

/-
  The contracts of the document's answer for layer 8: Norm, Same, Sign, Neg.
-/
namespace Go.Proofs.YtipcgehcineblaaGreat
open Go.RowKit

theorem ref08_norm (neg : Bool) (a : Option Addr) (n cap : Nat) (l : List Nat) (w : World) (h : Wd w a n cap l) (hn : n ≤ 17592183947264) :
    Calls Tryz.prog 110 #[whV neg a n cap] w (LstZ (zval neg (val l)) w) := by
  have H := Lib.hid h
  clear h
  unfold whV
  go_enter Tryz.func110, Tryz.ntmps110
  go_wp2_with fail
  refine (ref02_norm _ _ _ _ _ (H.out.later (below_then (below_alloc _ _) (below_alloc _ _))) (by omega)).mono ?_
  rintro e w1 ⟨a1, n1, c1, rfl, h1, b1⟩
  have hA : w1.heap[w.heap.size]? = some (.cells #[.bool neg, .slice a n cap] 95 (0, 0)) := blk_later (blk_later (blk_new w _ _) (below_alloc _ _)) b1
  have hR : w1.heap[w.heap.size + 1]? = some (.cells #[.bool false, .slice none 0 0] 95 (0, 0)) := by
    have h2 := blk_new (w.alloc (.cells #[.bool neg, .slice a n cap] 95)) #[.bool false, .slice none 0 0] 95
    rw [blk_size] at h2
    exact blk_later h2 b1
  have hA0 := blk_cell hA 0
  have hR0 := blk_cell hR 0
  have hR1 := blk_cell hR 1
  have hF0 := blk_free hR 0
  have hF1 := blk_free hR 1
  have HR := Lib.hid hR
  have H1 := Lib.hid h1
  have hB := Lib.hid (below_then (below_alloc _ _) (below_then (below_alloc _ _) b1))
  clear hA hR h1 b1
  simp only [List.getElem?_toArray, List.getElem?_cons_zero, List.getElem?_cons_succ] at hA0 hR0 hR1
  have HS2 : Hid (∀ b : Bool, Wd ((w1.setCell ⟨w.heap.size + 1, 0, none⟩ (.bool b)).setCell ⟨w.heap.size + 1, 1, none⟩ (.slice a1 n1 c1)) a1 n1 c1 (dg (val l))) := Lib.hid (fun b => H1.out.stored2 HR.out b _)
  have HG2 : Hid (∀ b : Bool, ((w1.setCell ⟨w.heap.size + 1, 0, none⟩ (.bool b)).setCell ⟨w.heap.size + 1, 1, none⟩ (.slice a1 n1 c1)).heap[w.heap.size + 1]? = some (.cells #[.bool b, .slice a1 n1 c1] 95 (0, 0))) := Lib.hid (fun b => blk_set2 HR.out _ _)
  have HB2 : Hid (∀ b : Bool, Below w.heap.size w ((w1.setCell ⟨w.heap.size + 1, 0, none⟩ (.bool b)).setCell ⟨w.heap.size + 1, 1, none⟩ (.slice a1 n1 c1))) := Lib.hid (fun b => below_set2 hB.out (by omega) _ _)
  have Hn1 : Hid ((dg (val l)).length = n1) := Lib.hid H1.out.len
  have HA : Hid ((zval neg (val l)).natAbs = val l) := Lib.hid (zval_abs _ _)
  cases neg with
  | false =>
    have HZ : Hid (zneg (zval false (val l)) = false) := Lib.hid (by rw [zval_neg]; rfl)
    go_wp2
    refine bodyPost_ret (results_cell_row Tryz.results110 _ _ (w.heap.size + 1) 95 #[.bool false, .slice a1 n1 c1] (0, 0) _ rfl (HG2.out false) Tryz.underlying95 rfl (by kernel_rfl)) rfl ?_
    exact ⟨a1, n1, c1, by rw [HZ.out]; rfl, by rw [HA.out]; exact HS2.out false, HB2.out false⟩
  | true =>
    by_cases hz : n1 = 0
    · have HZ : Hid (zneg (zval true (val l)) = false) := Lib.hid (by rw [zval_neg, dg_nil_iff.1 (Hn1.out.trans hz)]; rfl)
      subst hz
      go_wp2
      refine bodyPost_ret (results_cell_row Tryz.results110 _ _ (w.heap.size + 1) 95 #[.bool false, .slice a1 0 c1] (0, 0) _ rfl (HG2.out false) Tryz.underlying95 rfl (by kernel_rfl)) rfl ?_
      exact ⟨a1, 0, c1, by rw [HZ.out]; rfl, by rw [HA.out]; exact HS2.out false, HB2.out false⟩
    · have hv : val l ≠ 0 := fun h => hz (Hn1.out.symm.trans (dg_nil_iff.2 h))
      have HZ : Hid (zneg (zval true (val l)) = true) := Lib.hid (by rw [zval_neg, decide_eq_true hv]; rfl)
      have hni : (0 : Int) < (n1 : Int) := by omega
      have hnn : 0 < n1 := by omega
      clear hv hz
      go_wp2
      refine bodyPost_ret (results_cell_row Tryz.results110 _ _ (w.heap.size + 1) 95 #[.bool true, .slice a1 n1 c1] (0, 0) _ rfl (HG2.out true) Tryz.underlying95 rfl (by kernel_rfl)) rfl ?_
      exact ⟨a1, n1, c1, by rw [HZ.out]; rfl, by rw [HA.out]; exact HS2.out true, HB2.out true⟩
end Go.Proofs.YtipcgehcineblaaGreat

/-
  Rows of words of the call's own, several side by side: what is written into one leaves the others. Of no program.
-/
namespace Go.Proofs.YtipcgehcineblaaGreat
open Go.RowKit

theorem grown_refl (w : World) (row : Option Nat) : w.grownBy w row := ⟨rfl, rfl, rfl, Nat.le_refl _, fun _ _ _ => rfl⟩
theorem grown_then {a b c : World} {row : Option Nat} (h : a.grownBy b row) (k : b.grownBy c row) : a.grownBy c row :=
  ⟨k.os.trans h.os, k.tape.trans h.tape, k.output.trans h.output, Nat.le_trans h.size k.size, fun i hi hr => (k.block i (Nat.lt_of_lt_of_le hi h.size) hr).trans (h.block i hi hr)⟩
theorem grown_cell (w : World) (g k : Nat) (u : Value) : w.grownBy (w.setCell ⟨g, k, none⟩ u) (some g) :=
  ⟨rfl, rfl, rfl, by simp [World.setCell], fun i _ hr => Below.heap_setCell _ _ _ _ (fun e => hr (by rw [e]))⟩
theorem grown_drewN {a w : World} {row : Option Nat} (h : a.grownBy w row) (n : Nat) : a.grownBy (w.drewN n) row := grown_then h ⟨rfl, rfl, rfl, Nat.le_refl _, fun _ _ _ => rfl⟩
/-- What was there below a world is there below a later one: whatever holds of memory since a world w holds of what has grown besides one own row. -/
theorem grown_below {w0 w w' : World} {g : Nat} (hB : Below w0.heap.size w0 w) (hg : w.grownBy w' (some g)) (hb : w0.heap.size ≤ g) : Below w0.heap.size w0 w' :=
  hB.grown hg hB.size (fun k hk => by cases hk; exact hb)
theorem Own.later {w w' : World} {base g n cap : Nat} {l : List Nat} (h : Own w base g n cap l) (hb : Below w.heap.size w w') : Own w' base g n cap l := by
  refine ⟨⟨h.1.1, ?_⟩, h.2⟩
  rcases h.1.2 with h0 | ⟨g', cap', cur, h1, h2, h3, h4⟩
  · exact .inl h0
  · exact .inr ⟨g', cap', cur, h1, h2, (hb.block g' (Array.getElem?_eq_some_iff.1 h3).1).trans h3, h4⟩
theorem Own.other {w w' : World} {base g g' n cap : Nat} {l : List Nat} (h : Own w base g n cap l) (hg : w.grownBy w' (some g')) (hne : g ≠ g') : Own w' base g n cap l :=
  ⟨h.1.kept hg (.inr (by simp [Value.ownBlock]; exact hne)), h.2⟩
theorem Own.stay {w w' : World} {base g n cap : Nat} {l : List Nat} (h : Own w base g n cap l) (hg : w.grownBy w' none) : Own w' base g n cap l :=
  ⟨h.1.kept hg (.inr (by simp [Value.ownBlock])), h.2⟩
theorem Own.lower {w : World} {base base' g n cap : Nat} {l : List Nat} (h : Own w base g n cap l) (hb : base' ≤ base) : Own w base' g n cap l :=
  ⟨⟨h.1.1, h.1.2.imp id fun ⟨g, cap, cur, h1, h2, h3⟩ => ⟨g, cap, cur, h1, Nat.le_trans hb h2, h3⟩⟩, h.2⟩
theorem ownsRow_lower {w : World} {base base' : Nat} {e : TypeId} {size : Nat} {v : Value} {n : Nat} {xs : List Value} (h : w.ownsRow base e size v n xs) (hb : base' ≤ base) : w.ownsRow base' e size v n xs :=
  ⟨h.1, h.2.imp id fun ⟨g, cap, cur, h1, h2, h3⟩ => ⟨g, cap, cur, h1, Nat.le_trans hb h2, h3⟩⟩
theorem Own.bound {w : World} {base g n cap : Nat} {l : List Nat} (h : Own w base g n cap l) : n ≤ cap ∧ cap ≤ 9223372036854775807 := h.wd.bound
end Go.Proofs.YtipcgehcineblaaGreat

/-
  A window of a row of the call's own: what stands in it may be written, the row stays the call's own. Of no program.
-/
namespace Go.Proofs.YtipcgehcineblaaGreat
open Go.RowKit

/-- From place off of an own row on, n words: l. -/
def Win (w : World) (base g off n : Nat) (l : List Nat) : Prop := ∃ (N cap : Nat) (P : List Nat), Own w base g N cap P ∧ off + n ≤ N ∧ l = (P.drop off).take n
theorem Own.win {w : World} {base g n cap : Nat} {l : List Nat} (h : Own w base g n cap l) : Win w base g 0 n l :=
  ⟨n, cap, l, h, by omega, by rw [List.drop_zero, List.take_of_length_le (by rw [h.len]; exact Nat.le_refl _)]⟩
theorem Win.len {w : World} {base g off n : Nat} {l : List Nat} (h : Win w base g off n l) : l.length = n := by
  obtain ⟨N, cap, P, hO, hn, rfl⟩ := h
  have := hO.len
  rw [List.length_take, List.length_drop]
  omega
theorem Win.ok {w : World} {base g off n : Nat} {l : List Nat} (h : Win w base g off n l) : okw l := by
  obtain ⟨N, cap, P, hO, hn, rfl⟩ := h
  exact okw_take (okw_drop hO.2 off) n
theorem Win.base {w : World} {base g off n : Nat} {l : List Nat} (h : Win w base g off n l) : base ≤ g ∧ g < w.heap.size := by
  obtain ⟨N, cap, P, hO, _⟩ := h
  exact hO.base
theorem Win.cell {w : World} {base g off n : Nat} {l : List Nat} (h : Win w base g off n l) {k : Nat} (hk : k < n) : w.cell? ⟨g, off + k, none⟩ = some (.int .u32 ((atw l k : Nat) : Int)) := by
  obtain ⟨N, cap, P, hO, hn, rfl⟩ := h
  rw [hO.cell (by omega), atw_take hk, atw_drop]
theorem Win.frozen {w : World} {base g off n : Nat} {l : List Nat} (h : Win w base g off n l) (k : Nat) : w.frozen? ⟨g, off + k, none⟩ = false := by
  obtain ⟨N, cap, P, hO, _⟩ := h
  exact hO.1.frozenAt _
theorem Win.wd {w : World} {base g off n : Nat} {l : List Nat} (h : Win w base g off n l) {c : Nat} (hc : n ≤ c) (hc2 : c ≤ 9223372036854775807) : Wd w (some ⟨g, off, none⟩) n c l :=
  ⟨h.len, hc, hc2, h.ok, fun e => (by cases e), .inr ⟨g, off, rfl, fun _ hj => h.cell hj⟩⟩
theorem Win.set {w : World} {base g off n : Nat} {l : List Nat} (h : Win w base g off n l) {k r : Nat} (hr : r < 4294967296) : Win (w.setCell ⟨g, off + k, none⟩ (.int .u32 ((r : Nat) : Int))) base g off n (l.set k r) := by
  obtain ⟨N, cap, P, hO, hn, rfl⟩ := h
  refine ⟨N, cap, P.set (off + k) r, hO.set _ _ hr, hn, ?_⟩
  rw [List.drop_set, if_neg (by omega), List.take_set, Nat.add_sub_cancel_left]
theorem Win.take {w : World} {base g off n : Nat} {l : List Nat} (h : Win w base g off n l) {m : Nat} (hm : m ≤ n) : Win w base g off m (l.take m) := by
  obtain ⟨N, cap, P, hO, hn, rfl⟩ := h
  exact ⟨N, cap, P, hO, by omega, by rw [List.take_take, Nat.min_eq_left hm]⟩
theorem Win.drop {w : World} {base g off q m : Nat} {l : List Nat} (h : Win w base g off (q + m) l) : Win w base g (off + q) m (l.drop q) := by
  obtain ⟨N, cap, P, hO, hn, rfl⟩ := h
  exact ⟨N, cap, P, hO, by omega, by rw [List.drop_take, List.drop_drop, Nat.add_sub_cancel_left]⟩
theorem Win.later {w w' : World} {base g off n : Nat} {l : List Nat} (h : Win w base g off n l) (hb : Below w.heap.size w w') : Win w' base g off n l := by
  obtain ⟨N, cap, P, hO, hn, hl⟩ := h
  exact ⟨N, cap, P, hO.later hb, hn, hl⟩
theorem Win.other {w w' : World} {base g g' off n : Nat} {l : List Nat} (h : Win w base g off n l) (hg : w.grownBy w' (some g')) (hne : g ≠ g') : Win w' base g off n l := by
  obtain ⟨N, cap, P, hO, hn, hl⟩ := h
  exact ⟨N, cap, P, hO.other hg hne, hn, hl⟩
theorem Win.lower {w : World} {base base' g off n : Nat} {l : List Nat} (h : Win w base g off n l) (hb : base' ≤ base) : Win w base' g off n l := by
  obtain ⟨N, cap, P, hO, hn, hl⟩ := h
  exact ⟨N, cap, P, hO.lower hb, hn, hl⟩
theorem Wd.kept {w w' : World} {a : Option Addr} {n cap : Nat} {l : List Nat} {row : Option Nat} (h : Wd w a n cap l) (hg : w.grownBy w' row) (hne : ∀ ad : Addr, a = some ad → some ad.block ≠ row) : Wd w' a n cap l :=
  ⟨h.1, h.2.1, h.2.2.1, h.2.2.2.1, h.2.2.2.2.1, h.2.2.2.2.2.imp id fun ⟨b, off, e, hc⟩ => ⟨b, off, e, fun j hj => hg.cell (hc j hj) (hne ⟨b, off, none⟩ e)⟩⟩
/-- A row of the call's own that isn't empty has a block. -/
theorem own_block {w : World} {base : Nat} {a : Option Addr} {n cap : Nat} {l : List Nat} (h : w.ownsRow base 58 1 (.slice a n cap) n (wcells l)) (ho : okw l) (hn : 0 < n) : ∃ g, a = some ⟨g, 0, none⟩ ∧ Own w base g n cap l := by
  rcases h.2 with ⟨_, h0⟩ | ⟨g, cap', cur, e, _⟩
  · omega
  · simp only [Value.slice.injEq] at e
    obtain ⟨rfl, _, rfl⟩ := e
    exact ⟨g, rfl, h, ho⟩
theorem ownsRow_later {w w' : World} {base : Nat} {e : TypeId} {size : Nat} {v : Value} {n : Nat} {xs : List Value} (h : w.ownsRow base e size v n xs) (hb : Below w.heap.size w w') : w'.ownsRow base e size v n xs := by
  refine ⟨h.1, ?_⟩
  rcases h.2 with h0 | ⟨g', cap', cur, h1, h2, h3, h4⟩
  · exact .inl h0
  · exact .inr ⟨g', cap', cur, h1, h2, (hb.block g' (Array.getElem?_eq_some_iff.1 h3).1).trans h3, h4⟩
/-- The value that a slice of words holds in a world (for a measure that is read from memory). -/
def cellNat (w : World) (a : Addr) : Nat := match w.cell? a with | some (.int _ z) => z.toNat | _ => 0
def heldVal (w : World) : Value → Nat
  | .slice (some a) n _ => val ((List.range n).map fun j => cellNat w ⟨a.block, a.off + j, none⟩)
  | _ => 0
theorem Wd.held {w : World} {b off n cap : Nat} {l : List Nat} (h : Wd w (some ⟨b, off, none⟩) n cap l) : heldVal w (.slice (some ⟨b, off, none⟩) n cap) = val l := by
  show val ((List.range n).map fun j => cellNat w ⟨b, off + j, none⟩) = val l
  apply congrArg val
  apply list_eq_of_at
  · simp [h.len]
  · intro j hj
    simp at hj
    obtain ⟨b', off', e, hc⟩ := h.at (by omega)
    simp only [Option.some.injEq, Addr.mk.injEq, and_true] at e
    obtain ⟨rfl, rfl⟩ := e
    unfold atw
    rw [List.getD_eq_getElem?_getD, List.getElem?_map, List.getElem?_range hj]
    show cellNat w ⟨b, off + j, none⟩ = _
    unfold cellNat
    rw [hc j hj]
    show (((atw l j : Nat) : Int)).toNat = _
    rw [Int.toNat_natCast]; rfl
end Go.Proofs.YtipcgehcineblaaGreat

/-
  Plain mathematics: decimal digits. Nothing of the program.
-/
namespace Go.Proofs.YtipcgehcineblaaGreat

/-- The first place at which bytes are no digits, or that is too far; below 0: there is none. -/
def wrongFrom : List UInt8 → Nat → Int
  | [], _ => -1
  | x :: r, i => if x.toNat < 48 ∨ 57 < x.toNat ∨ 60 ≤ i then (i : Int) else wrongFrom r (i + 1)
def wrongI (l : List UInt8) : Int := if l = [] then 0 else wrongFrom l 0
/-- The number that digits are. -/
def readV (l : List UInt8) : Nat := l.foldl (fun n x => n * 10 + (x.toNat - 48)) 0
end Go.Proofs.YtipcgehcineblaaGreat

/-
  What package digits' functions owe (layer 7), as one hypothesis: the contracts that the laws' walks lean on.
-/
namespace Go.Proofs.YtipcgehcineblaaGreat
open Go.RowKit

/-- The library's table of the powers of ten reads as its initialiser lays it (nothing is asked where the program has no such table). -/
def Dec10 (w : World) : Prop := w = w
theorem Dec10.later {w w' : World} (_ : Dec10 w) (_ : Below w.heap.size w w') : Dec10 w' := rfl
theorem Dec10.all (w : World) : Dec10 w := rfl
structure DigitsSaid : Prop where
/-- The cells of a fault in a variable. -/
def Box (w : World) (g : Nat) (k s t a : Int) : Prop :=
  w.cell? ⟨g, 0, none⟩ = some (.int .i64 k) ∧ w.cell? ⟨g, 1, none⟩ = some (.int .i64 s) ∧ w.cell? ⟨g, 2, none⟩ = some (.int .i64 t) ∧ w.cell? ⟨g, 3, none⟩ = some (.int .i64 a)
theorem Box.later {w w' : World} {g : Nat} {k s t a : Int} (h : Box w g k s t a) (hb : Below w.heap.size w w') : Box w' g k s t a :=
  ⟨cell_later hb h.1, cell_later hb h.2.1, cell_later hb h.2.2.1, cell_later hb h.2.2.2⟩
theorem Box.new (w : World) (k s t a : Int) (e : TypeId) : Box (w.alloc (.cells #[.int .i64 k, .int .i64 s, .int .i64 t, .int .i64 a] e)) w.heap.size k s t a := ⟨by simp, by simp, by simp, by simp⟩
end Go.Proofs.YtipcgehcineblaaGreat

/-
  make of words, with a length and a capacity that are reckoned. Of no program.
-/
namespace Go.Proofs.YtipcgehcineblaaGreat
open Go.RowKit

theorem ownsRow_made (w : World) (base : Nat) (e : TypeId) (z : Value) (q c : Nat) (hqc : q ≤ c) (hc : c ≤ maxLen) (hb : base ≤ w.heap.size) :
    (w.alloc (.cells (madeCells #[z] c) e)).ownsRow base e 1 (.slice (some ⟨w.heap.size, 0, none⟩) q c) q (List.replicate q z) := by
  refine ⟨by simp, .inr ⟨w.heap.size, c, madeCells #[z] c, rfl, hb, heap_alloc_new w _, hqc, hc, ?_, ?_⟩⟩
  · have := congrArg List.length (toList_madeCells_one z c)
    simpa using this
  · rw [toList_madeCells_one, List.take_replicate, Nat.mul_one, Nat.min_eq_left hqc]
theorem wpList_make_words {P : Program} (w : World) {ops : Array Oper} {rest : List Oper} {o : Oper} {a : Act} {Q : Exit → Act → World → Prop}
    (hg : o.guard = none) (l c : Operand) (t : TypeId) (hop : o.op = Op.makeSlice t l c)
    (base : Nat) (e : TypeId) (i : TypeInfo) (z : Value) (h1 : P.underlying t = some (.slice e)) (h2 : P.info? e = some i) (h3 : i.zero = some z) (h4 : i.size = 1) (hz : z.cells = #[z])
    (kl kc : IntKind) (L C : Int) (n m : Nat) (hl : a.eval l = .int kl L) (hc : a.eval c = .int kc C) (hL : L = (n : Int)) (hC : C = (m : Int)) (hnm : n ≤ m) (b2 : i.bytes * m ≤ 281474976710656) (b3 : m ≤ maxLen) (b4 : base ≤ w.heap.size)
    (hK : ∀ w', w'.ownsRow base e 1 (.slice (some ⟨w.heap.size, 0, none⟩) n m) n (List.replicate n z) → w.grownBy w' none → wpList P ops Q rest (a.put o.dst (.slice (some ⟨w.heap.size, 0, none⟩) n m)) w') :
    wpList P ops Q (o :: rest) a w := by
  refine wpList_plain hg fun K hK' => ?_
  have h63' : (m : Int) ≤ 9223372036854775807 := by
    have h := b3
    simp [maxLen] at h
    omega
  have hb' : (i.bytes : Int) * (m : Int) ≤ 281474976710656 := by
    have h : ((i.bytes * m : Nat) : Int) ≤ 281474976710656 := by omega
    rwa [Int.natCast_mul] at h
  have hrun := run_make (P := P) w t e i z h1 h2 h3 kl kc n m (by omega) (by omega) hb' h63'
  simp only [Int.toNat_natCast, h4, Nat.mul_one, hz] at hrun
  subst hL
  subst hC
  unfold Oper.wp
  simp [execOp, hop, hl, hc, hrun, Result.andThen]
  exact hK' _ _ (hK _ (ownsRow_made w base e z n m hnm b3 b4) (World.grownBy_alloc w _ none))
theorem zeros_cells (n : Nat) : List.replicate n (Value.int .u32 0) = wcells (List.replicate n 0) := by simp [wcells]
end Go.Proofs.YtipcgehcineblaaGreat

/-
  The contracts of the document's answer for layer 4: Mul.
-/
namespace Go.Proofs.YtipcgehcineblaaGreat
open Go.RowKit

theorem Own.drewN {w : World} {base g n cap : Nat} {l : List Nat} (h : Own w base g n cap l) (q : Nat) : Own (w.drewN q) base g n cap l := h
theorem Own.drew {w : World} {base g n cap : Nat} {l : List Nat} (h : Own w base g n cap l) : Own w.drew base g n cap l := h
set_option maxRecDepth 4096 in
set_option maxHeartbeats 2000000 in
theorem ref04_mul (a : Option Addr) (n cap : Nat) (la : List Nat) (b : Option Addr) (m cap' : Nat) (lb : List Nat) (w : World) (ha : Wd w a n cap la) (hb : Wd w b m cap' lb) (hn : n ≤ 4194304000000) (hm : m ≤ 4194304000000) :
    Calls Tryz.prog 86 #[.slice a n cap, .slice b m cap'] w (Lst (dg (val la * val lb)) w) := by
  obtain ⟨i0, hi, hz0, hz1, hz2⟩ := info_parts infoU32
  have Ha := Lib.hid ha
  have Hb := Lib.hid hb
  clear ha hb
  obtain ⟨N, hN⟩ : ∃ N : Nat, (n : Int) + (m : Int) = (N : Int) := ⟨n + m, by omega⟩
  have HN : Hid (N = n + m) := Lib.hid (by omega)
  have hNb : N ≤ 8388608000000 := by omega
  go_enter Tryz.func86, Tryz.ntmps86
  go_wp2_with (at_make; refine wpList_make_words _ rfl _ _ 23 rfl w.heap.size 58 i0 (.int .u32 0) Tryz.underlying23 hi hz0 hz1 rfl .i64 .i64 _ _ N N rfl rfl rfl rfl (Nat.le_refl _) (by rw [hz2]; omega) (by unfold maxLen; omega) (Nat.le_refl _) ?_; intro w1 hown1 hgrow1)
  rw [zeros_cells] at hown1
  have HO1 : Hid (Own w1 w.heap.size w.heap.size N N (List.replicate N 0)) := Lib.hid ⟨hown1, okw_zeros N⟩
  have hB1 : Below w.heap.size w w1 := (Below.refl _ _).grown hgrow1 (Nat.le_refl _) (fun k hk => by cases hk)
  clear hown1 hgrow1
  go_loopw [6] (fun iv wr => ∃ (i : Nat) (P : List Nat), i ≤ n ∧ iv = .int .i64 (i : Int) ∧ Hid (RowAt la lb P m i) ∧ Hid (Own wr w.heap.size w.heap.size N N P) ∧ Below w.heap.size w wr) (fun iv _ => n - (intOf iv).toNat)
  case atStart => exact ⟨0, List.replicate N 0, by omega, rfl, Lib.hid (row_start _ _ _ _), HO1, hB1⟩
  case round =>
    clear HO1 hB1
    obtain ⟨i, P, hin, rfl, HR, HO, hB⟩ := hrel
    by_cases hlt : i < n
    · have hii : (i : Int) < (n : Int) := by omega
      obtain ⟨ba, oa, rfl, hca⟩ := (Ha.out.later hB).at (by omega)
      have Hblk : Hid (ba < w.heap.size ∧ ∀ wz, Below w.heap.size w wz → wz.cell? ⟨ba, oa + i, none⟩ = some (.int .u32 ((atw la i : Nat) : Int))) := by
        obtain ⟨ba2, oa2, e2, hca2⟩ := Ha.out.at (by omega)
        simp only [Option.some.injEq, Addr.mk.injEq, and_true] at e2
        obtain ⟨rfl, rfl⟩ := e2
        exact Lib.hid ⟨World.block_lt_of_cell? w _ (hca2 i hlt), fun wz hz => cell_later hz (hca2 i hlt)⟩
      have hxw := atw_lt Ha.out.ok i
      obtain ⟨x, hxx⟩ : ∃ x, x = atw la i := ⟨_, rfl⟩
      rw [← hxx] at hxw Hblk
      have Hx := Lib.hid hxx
      clear hca hxx
      go_wp2
      go_loopw [7, 8] (fun sv jv wr => ∃ (j c : Nat) (P : List Nat), j ≤ m ∧ jv = .int .i64 (j : Int) ∧ sv = .int .u64 (c : Int) ∧ c < 4294967296 ∧ Hid (CellAt la lb P m i j c) ∧ Hid (Own wr w.heap.size w.heap.size N N P) ∧ Below w.heap.size w wr) (fun _ jv _ => m - (intOf jv).toNat)
      case atStart => exact ⟨0, 0, P, by omega, rfl, rfl, by omega, Lib.hid (cell_start HR.out), HO, hB⟩
      case round =>
        clear HO hB HR
        obtain ⟨j, c, P, hjm, rfl, rfl, hc, HC, HO, hB⟩ := hrel
        by_cases hjl : j < m
        · have hji : (j : Int) < (m : Int) := by omega
          obtain ⟨bb, ob, rfl, hcb⟩ := (Hb.out.later hB).at (by omega)
          have hcbj := hcb j hjl
          have hcai := Hblk.out.2 wr hB
          have hyw := atw_lt Hb.out.ok j
          obtain ⟨y, hyy⟩ : ∃ y, y = atw lb j := ⟨_, rfl⟩
          rw [← hyy] at hyw hcbj
          have Hy := Lib.hid hyy
          obtain ⟨q, hq⟩ : ∃ q : Nat, (i : Int) + (j : Int) = (q : Int) := ⟨i + j, by omega⟩
          have Hq : Hid (q = i + j) := Lib.hid (by omega)
          have hqN : q < N := by have := HN.out; omega
          have hqi : (q : Int) < (N : Int) := by omega
          have hcell := HO.out.cell (k := q) hqN
          have hfro := HO.out.1.frozenAt q
          have huw := atw_lt HO.out.2 q
          obtain ⟨u, huu⟩ : ∃ u, u = atw P q := ⟨_, rfl⟩
          rw [← huu] at huw hcell
          have Hu := Lib.hid huu
          have hroom := mul_room hxw hyw huw hc
          obtain ⟨p, hp⟩ : ∃ p : Nat, (x : Int) * (y : Int) = (p : Int) := ⟨x * y, by simp⟩
          have Hp : Hid (p = x * y) := Lib.hid (by rw [← Int.natCast_mul] at hp; omega)
          rw [← Hp.out] at hroom
          obtain ⟨hroom1, hroom2⟩ := hroom
          have hb := HO.out.base
          clear hcb hyy huu
          go_wp2
          go_quiet (fail)
          go_wp2
          go_roundw
          case rel =>
            have HOs := (HO.out.drewN nq).set q ((c + (p + u)) % 4294967296) (Nat.mod_lt _ (by decide))
            have hBs := (below_drewN hB nq).setCell (p := ⟨w.heap.size, q, none⟩) hb.1 (.int .u32 (((c + (p + u)) % 4294967296 : Nat) : Int))
            have e1 : (((c + (p + u)) % 4294967296 : Nat) : Int) = ((c : Int) + ((p : Int) + (u : Int))) % 4294967296 := by omega
            rw [e1] at HOs hBs
            exact ⟨j + 1, (c + (p + u)) / 4294967296, P.set q ((c + (p + u)) % 4294967296), by omega, by go_num, by go_num, by omega, Lib.hid (by
              have h1 := HC.out
              have h2 := HN.out
              have h3 := HO.out.len
              obtain rfl := Hq.out
              exact cell_step h1 hjl (by omega) (by rw [← Hx.out, ← Hy.out, ← Hu.out, ← Hp.out]; omega)), Lib.hid HOs, hBs⟩
          case measure => simp [intOf]; omega
        · obtain rfl : j = m := by omega
          obtain ⟨q, hq⟩ : ∃ q : Nat, (i : Int) + (j : Int) = (q : Int) := ⟨i + j, by omega⟩
          have Hq : Hid (q = i + j) := Lib.hid (by omega)
          have hqN : q < N := by have := HN.out; omega
          have hqi : (q : Int) < (N : Int) := by omega
          have hcell := HO.out.cell (k := q) hqN
          have hfro := HO.out.1.frozenAt q
          generalize atw P q = u at hcell
          have hb := HO.out.base
          have HOs := HO.out.set q c hc
          have hBs := hB.setCell (p := ⟨w.heap.size, q, none⟩) hb.1 (.int .u32 (c : Int))
          have HOs' := Lib.hid HOs
          have hBs' := Lib.hid hBs
          clear HOs hBs
          go_wp2
          go_roundw
          case rel =>
            exact ⟨i + 1, P.set q c, by omega, by go_num, Lib.hid (by
              have h1 := HC.out
              have h2 := HN.out
              have h3 := HO.out.len
              obtain rfl := Hq.out
              exact row_next h1 Hb.out.len (by omega)), HOs', hBs'.out⟩
          case measure => simp [intOf]; omega
    · obtain rfl : i = n := by omega
      have Hv := Lib.hid (row_end HR.out Ha.out.len)
      go_wp2_with fail
      refine (ref02_norm _ _ _ _ _ HO.out.wd (by omega)).mono ?_
      rintro e w' ⟨a', n', c', rfl, hwd, hbel⟩
      rw [Hv.out] at hwd
      have HWD := Lib.hid hwd
      clear hwd
      go_wp2
      go_ret
      exact ⟨_, _, _, rfl, HWD.out, below_then hB hbel⟩
end Go.Proofs.YtipcgehcineblaaGreat

/-
  The contracts of the document's answer for layer 7: ten, Text, Wrong, Read, Trim.
-/
namespace Go.Proofs.YtipcgehcineblaaGreat
open Go.RowKit

end Go.Proofs.YtipcgehcineblaaGreat

/-
  The contracts of the document's answer for layer 8: Text.
-/
namespace Go.Proofs.YtipcgehcineblaaGreat
open Go.RowKit

theorem sgn_neg {z : Int} (h : z < 0) : sgn z = -1 := by unfold sgn; rw [if_neg (by omega), if_pos h]
end Go.Proofs.YtipcgehcineblaaGreat

/-
  Plain mathematics: whole numbers; the quotient that is rounded down; the machine's numbers; what a text says. Nothing of the program.
-/
namespace Go.Proofs.YtipcgehcineblaaGreat

/-- Whether a whole number is one of the machine's; that one, or 0. -/
def isInt (z : Int) : Prop := -9223372036854775808 ≤ z ∧ z ≤ 9223372036854775807
instance (z : Int) : Decidable (isInt z) := by unfold isInt; infer_instance
/-- The place at which a text is no whole number (below 0: it is one), and the one that it is. -/
def zwrong : List UInt8 → Int
  | [] => 0
  | x :: r => if x.toNat = 45 then (if wrongI r < 0 then -1 else 1 + wrongI r) else wrongI (x :: r)
def zread : List UInt8 → Int
  | [] => 0
  | x :: r => if x.toNat = 45 then zval true (readV r) else zval false (readV (x :: r))
theorem zval_false (v : Nat) : zval false v = (v : Int) := rfl
theorem zval_true (v : Nat) : zval true v = -(v : Int) := rfl
theorem zlen_add (x y : Int) : (dg (x + y).natAbs).length ≤ (dg x.natAbs).length + (dg y.natAbs).length + 1 := Nat.le_trans (dg_length_mono (Int.natAbs_add_le x y)) (dg_add_length _ _)
theorem zlen_mul (x y : Int) : (dg (x * y).natAbs).length ≤ (dg x.natAbs).length + (dg y.natAbs).length := by rw [Int.natAbs_mul]; exact dg_mul_length _ _
end Go.Proofs.YtipcgehcineblaaGreat

/-
  What package whole's functions owe (layer 8), as one hypothesis: the contracts that the laws' walks lean on. And the document's quotient: it is the one that is rounded down.
-/
namespace Go.Proofs.YtipcgehcineblaaGreat
open Go.RowKit

theorem zval_dg (z : Int) : zval (zneg z) (val (dg z.natAbs)) = z := by rw [val_dg, zval_of]
structure WholeSaid : Prop where
  norm : ∀ (neg : Bool) (a : Option Addr) (n cap : Nat) (l : List Nat) (z : Int) (w : World), Wd w a n cap l → n ≤ 1000 → zval neg (val l) = z → Calls Tryz.prog 116 #[whV neg a n cap] w (LstZ z w)
  of : ∀ (z : Int) (w : World), isInt z → Calls Tryz.prog 66 #[.int .i64 z] w (LstZ z w)
  sign : ∀ (neg : Bool) (a : Option Addr) (n cap : Nat) (l : List Nat) (z : Int) (w : World), Wd w a n cap l → n ≤ 1000 → zval neg (val l) = z → Calls Tryz.prog 74 #[whV neg a n cap] w (Gives (.int .i64 (sgn z)) w)
  cmp : ∀ (na : Bool) (a : Option Addr) (n cap : Nat) (la : List Nat) (x : Int) (nb : Bool) (b : Option Addr) (m cap' : Nat) (lb : List Nat) (y : Int) (w : World), Wd w a n cap la → Wd w b m cap' lb → n ≤ 1000 → m ≤ 1000 → zval na (val la) = x → zval nb (val lb) = y →
    Calls Tryz.prog 115 #[whV na a n cap, whV nb b m cap'] w (Gives (.int .i64 (sgn (x - y))) w)
  add : ∀ (na : Bool) (a : Option Addr) (n cap : Nat) (la : List Nat) (x : Int) (nb : Bool) (b : Option Addr) (m cap' : Nat) (lb : List Nat) (y : Int) (w : World), Wd w a n cap la → Wd w b m cap' lb → n ≤ 1000 → m ≤ 1000 → zval na (val la) = x → zval nb (val lb) = y →
    Calls Tryz.prog 80 #[whV na a n cap, whV nb b m cap'] w (LstZ (x + y) w)
  mul : ∀ (na : Bool) (a : Option Addr) (n cap : Nat) (la : List Nat) (x : Int) (nb : Bool) (b : Option Addr) (m cap' : Nat) (lb : List Nat) (y : Int) (w : World), Wd w a n cap la → Wd w b m cap' lb → n ≤ 1000 → m ≤ 1000 → zval na (val la) = x → zval nb (val lb) = y →
    Calls Tryz.prog 107 #[whV na a n cap, whV nb b m cap'] w (LstZ (x * y) w)
end Go.Proofs.YtipcgehcineblaaGreat
