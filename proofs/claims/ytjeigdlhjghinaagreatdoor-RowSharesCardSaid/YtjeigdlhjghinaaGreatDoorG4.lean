/-
  Several texts of this claim as one, group 4.
-/
import Derived.Test.YtjeigdlhjghinaaGreatDoorG3
import Derived.Deep.AppendSrc
import Derived.Deep.DeepMust
import Derived.Test.YtjeigdlhjghinaaGreatDoorG2
import Derived.Test.YtjeigdlhjghinaaGreatDoorG1
import Derived.Lib.AppendIntMem
import Derived.Lib.LaidTab
import Derived.Lib.ItoaNum
import Derived.OwnWalk
import Derived.Laws.OwnMore
import Derived.Laws.MakeOwn
/-
  The contracts of the document's answer for layer 2: functions that make lists.
-/
namespace Go.Proofs.YtjeigdlhjghinaaGreatDoor
open Go.RowKit

theorem infoWord : (Tryz.prog.info? 91).map (fun i => (i.zero, i.size, i.bytes)) = some (some (.int .u32 0), 1, 4) := by kernel_rfl

set_option maxRecDepth 4096 in
set_option maxHeartbeats 400000 in
theorem ref02_norm_own (a : Option Addr) (n cap : Nat) (l : List Nat) (w : World) (h : Wd w a n cap l) (hn : n ≤ 16777216) :
    Calls Tryz.prog 57 #[.slice a n cap] w fun e w' => ∃ (a' : Option Addr) (n' cap' : Nat), e = .returned (.slice a' n' cap') ∧ w'.ownsRow w.heap.size 91 1 (.slice a' n' cap') n' (wcells (dg (val l))) ∧ Below w.heap.size w w' := by
  obtain ⟨hb1, hb2⟩ := h.bound
  have H := Lib.hid h
  clear h
  go_enter Tryz.func57, Tryz.ntmps57
  go_wp2
  go_loop [3] (fun i => ∃ k : Nat, k ≤ n ∧ i = .int .i64 k ∧ Hid (top l k = 0)) (fun i => (intOf i).toNat)
  case atStart => exact ⟨n, by omega, rfl, Lib.hid (top_ge (by have := H.out.len; omega))⟩
  case round =>
    obtain ⟨k, hk, rfl, Ht⟩ := hrel
    cases k with
    | zero =>
      have hv : val l = 0 := by rw [← top_zero]; exact Ht.out
      have Hv := Lib.hid hv
      clear hv
      obtain ⟨i0, hi, hz0, hz1, hz2⟩ := info_parts infoWord
      cases a with
      | none =>
        obtain ⟨rfl, rfl, rfl⟩ := H.out.ofNone
        go_wp2_with (at_builtin; refine wpList_append_own_none rfl _ _ 37 rfl w.heap.size 91 i0 1 Tryz.underlying37 hi _ 0 [] rfl (World.ownsRow_lit w #[] 0 (Nat.le_refl _) (by decide) rfl) rfl ?_)
        go_ret
        exact ⟨_, _, _, rfl, by rw [Hv.out, dg_zero]; exact World.ownsRow_lit w #[] 0 (Nat.le_refl _) (by decide) rfl, (Below.refl _ _).alloc (Nat.le_refl _) _⟩
      | some ad =>
        go_wp2_with (at_builtin; refine wpList_append_own _ rfl _ _ 37 rfl w.heap.size 91 i0 (.int .u32 0) 1 4 Tryz.underlying37 hi hz0 hz1 hz2 rfl (by decide) _ 0 [] rfl (World.ownsRow_lit w #[] 0 (Nat.le_refl _) (by decide) rfl) ad 0 cap [] rfl rfl (by intro j u hu; simp at hu) (by intro u hu; simp at hu) (by decide) (by decide) (by simp) ?_)
        intro v' w1 hown hgrow _
        obtain ⟨a', cap', rfl⟩ := own_slice hown
        go_wp2
        go_ret
        refine ⟨a', 0, cap', rfl, ?_, ?_⟩
        · rw [Hv.out, dg_zero]; exact hown
        · exact ((Below.refl _ _).alloc (Nat.le_refl _) _).grown hgrow (by simp) (by intro k hk; simp [Value.ownBlock] at hk; omega)
    | succ k =>
      obtain ⟨b, off, rfl, hc⟩ := H.out.at (by omega)
      have hck := hc k (by omega)
      clear hc
      by_cases hz : atw l k = 0
      · have hzb : (((atw l k : Nat) : Int) == 0) = true := by simp [hz]
        have Hz := Lib.hid hz
        clear hz
        go_wp2
        go_round
        case rel => exact ⟨k, by omega, by go_num, Lib.hid (by rw [top_succ, Hz.out, Ht.out])⟩
        case measure => simp [intOf]
      · have hzb : (((atw l k : Nat) : Int) == 0) = false := by simp [hz]
        have Hz := Lib.hid hz
        clear hz
        obtain ⟨i0, hi, hz0, hz1, hz2⟩ := info_parts infoWord
        have hT := H.out.take hk
        have hTl : (l.take (k + 1)).length = k + 1 := hT.len
        have hR : l.take (k + 1) = dg (val l) := take_right (by rw [H.out.len]; exact hk) H.out.ok Ht.out (.inr (by simpa using Hz.out))
        have HR := Lib.hid hR
        have HT := Lib.hid hT
        have HTl := Lib.hid hTl
        clear hT hR hTl
        go_wp2_with (at_builtin; refine wpList_append_own _ rfl _ _ 37 rfl w.heap.size 91 i0 (.int .u32 0) 1 4 Tryz.underlying37 hi hz0 hz1 hz2 rfl (by decide) _ 0 [] rfl (World.ownsRow_lit w #[] 0 (Nat.le_refl _) (by decide) rfl) ⟨b, off, none⟩ (k + 1) cap (wcells (l.take (k + 1))) rfl (by rw [wcells_length, HTl.out, Nat.mul_one]) (HT.out.later ((Below.refl _ _).alloc (Nat.le_refl _) _)).cells (wcells_one _) (by unfold maxLen; omega) (by omega) (by simp) ?_)
        intro v' w1 hown hgrow _
        obtain ⟨a', cap', rfl⟩ := own_slice hown
        go_wp2
        go_ret
        refine ⟨a', _, cap', rfl, ?_, ?_⟩
        · rw [← HR.out]; simpa using hown
        · exact ((Below.refl _ _).alloc (Nat.le_refl _) _).grown hgrow (by simp) (by intro k hk; simp [Value.ownBlock] at hk; omega)
theorem ref02_norm (a : Option Addr) (n cap : Nat) (l : List Nat) (w : World) (h : Wd w a n cap l) (hn : n ≤ 16777216) :
    Calls Tryz.prog 57 #[.slice a n cap] w fun e w' => ∃ (a' : Option Addr) (n' cap' : Nat), e = .returned (.slice a' n' cap') ∧ Wd w' a' n' cap' (dg (val l)) ∧ Below w.heap.size w w' :=
  (ref02_norm_own a n cap l w h hn).mono fun _ _ ⟨a', n', c', he, ho, hB⟩ => ⟨a', n', c', he, Wd.own ho (okw_dg _), hB⟩
theorem ref02_of (x : Nat) (w : World) (hx : x ≤ 18446744073709551615) :
    Calls Tryz.prog 70 #[.int .u64 (x : Int)] w fun e w' => ∃ (a' : Option Addr) (n' cap' : Nat), e = .returned (.slice a' n' cap') ∧ Wd w' a' n' cap' (dg x) ∧ Below w.heap.size w w' := by
  have hv : val [x % 4294967296, x / 4294967296] = x := by simp only [val]; omega
  have Hv := Lib.hid hv
  have Hlit := Lib.hid (Wd.lit2 w 91 (x := x % 4294967296) (y := x / 4294967296) (by omega) (by omega))
  clear hv
  go_enter Tryz.func70, Tryz.ntmps70
  go_wp2_with (go_at_call 57; go_must (refine (ref02_norm _ 2 2 _ _ Hlit.out (by omega)).mono ?_); rintro e w' ⟨a', n', cap', rfl, hwd, hbel⟩)
  go_ret
  exact ⟨a', n', cap', rfl, by rw [Hv.out] at hwd; exact hwd, ((Below.refl _ _).alloc (Nat.le_refl _) _).trans (hbel.mono (by simp))⟩
set_option maxRecDepth 4096 in
set_option maxHeartbeats 2000000 in
theorem ref02_add (a : Option Addr) (n cap : Nat) (la : List Nat) (b : Option Addr) (m cap' : Nat) (lb : List Nat) (w : World) (ha : Wd w a n cap la) (hb : Wd w b m cap' lb) (hn : n ≤ 16777214) (hm : m ≤ 16777214) :
    Calls Tryz.prog 69 #[.slice a n cap, .slice b m cap'] w fun e w' => ∃ (a' : Option Addr) (n' cap' : Nat), e = .returned (.slice a' n' cap') ∧ Wd w' a' n' cap' (dg (val la + val lb)) ∧ Below w.heap.size w w' := by
  obtain ⟨i0, hi, hz0, hz1, hz2⟩ := info_parts infoWord
  have Ha := Lib.hid ha
  have Hb := Lib.hid hb
  clear ha hb
  by_cases hnm : n < m
  · skip
    go_enter Tryz.func69, Tryz.ntmps69
    go_wp2_with (at_make; refine wpList_make_full _ rfl _ _ 37 rfl w.heap.size 91 i0 (.int .u32 0) 1 Tryz.underlying37 hi hz0 hz1 .i64 .i64 _ _ (m + 1) rfl rfl (by omega) (by omega) (by rw [hz2]; omega) (by unfold maxLen; omega) (Nat.le_refl _) ?_; intro w1 hown1 hgrow1)
    rw [wcells_made] at hown1
    have Hown1 := Lib.hid hown1
    have hB1 : Below w.heap.size w w1 := (Below.refl _ _).grown hgrow1 (Nat.le_refl _) (fun k hk => by cases hk)
    clear hown1 hgrow1
    go_loopw [7, 8] (fun s i wr => ∃ (k sn : Nat) (o : List Nat), k ≤ m + 1 ∧ i = .int .i64 k ∧ s = .int .u64 sn ∧ sn ≤ 1 ∧ Hid (o.length = k) ∧ okw o ∧ Hid (val o + 4294967296 ^ k * sn = low la k + low lb k) ∧
        Hid (wr.ownsRow w.heap.size 91 1 (.slice (some ⟨w.heap.size, 0, none⟩) (m + 1) (m + 1)) (m + 1) (wcells (o ++ List.replicate (m + 1 - k) 0))) ∧ Below w.heap.size w wr) (fun _ i _ => m + 1 - (intOf i).toNat)
    case atStart => exact ⟨0, 0, [], by omega, rfl, rfl, by omega, Lib.hid rfl, okw_nil, Lib.hid (by rw [low_zero, low_zero]; rfl), Hown1, hB1⟩
    case round =>
      obtain ⟨k, sn, o, hk, rfl, rfl, hsn, Ho, hok, Hv, Hown, hB⟩ := hrel
      by_cases hlt : k < m + 1
      · have HaW := Lib.hid (Ha.out.later hB)
        have HbW := Lib.hid (Hb.out.later hB)
        have hcell : wr.cell? ⟨w.heap.size, k, none⟩ = some (.int .u32 ((atw (o ++ List.replicate (m + 1 - k) 0) k : Nat) : Int)) := (Hown.out.cellAt k (by omega)).trans (wcells_at (by have := Ho.out; simp; omega))
        have hfro : wr.frozen? ⟨w.heap.size, k, none⟩ = false := Hown.out.frozenAt k
        generalize atw (o ++ List.replicate (m + 1 - k) 0) k = old at hcell
        have hxa := atw_lt Ha.out.ok k
        have hxb := atw_lt Hb.out.ok k
        have hk1 : (k : Int) < (m : Int) + 1 := by omega
        obtain ⟨x, hx⟩ : ∃ x, x = atw la k := ⟨_, rfl⟩
        obtain ⟨y, hy⟩ : ∃ y, y = atw lb k := ⟨_, rfl⟩
        rw [← hx] at hxa
        rw [← hy] at hxb
        have Hx := Lib.hid hx
        have Hy := Lib.hid hy
        clear hx hy
        go_wp2_with (first | (go_at_call 102; (with_reducible refine (ref02_at a n cap k la _ HaW.out (by omega)).mono ?_); rintro e w' ⟨rfl, rfl⟩; rw [← Hx.out]) | (go_at_call 102; (with_reducible refine (ref02_at b m cap' k lb _ HbW.out (by omega)).mono ?_); rintro e w' ⟨rfl, rfl⟩; rw [← Hy.out]))
        go_roundw
        case rel =>
          obtain ⟨h1, h2⟩ := Hown.out.stored k (.int .u32 (((sn + (x + y)) % 4294967296 : Nat) : Int))
          rw [wcells_set, set_next o (m + 1) k _ Ho.out hlt] at h1
          refine ⟨k + 1, (sn + (x + y)) / 4294967296, o ++ [(sn + (x + y)) % 4294967296], by omega, by go_num, by go_num, by omega, Lib.hid (by have := Ho.out; simp; omega), okw_snoc hok (by omega), Lib.hid (add_step Ho.out Hv.out (by rw [Hx.out, Hy.out])), ?_, ?_⟩
          · exact Lib.hid (by simpa using h1)
          · exact hB.setCell (Nat.le_refl _) _
        case measure => simp [intOf]; omega
      · have hkn : k = m + 1 := by omega
        subst hkn
        have hown := Hown.out
        rw [Nat.sub_self, List.replicate_zero, List.append_nil] at hown
        have HW := Lib.hid (Wd.own hown hok)
        have Hfin := Lib.hid (add_end (N := m) Ha.out.ok Hb.out.ok (by rw [Ha.out.len]; omega) (by rw [Hb.out.len]; omega) Ho.out Hv.out)
        clear hown
        go_wp2_with (go_at_call 57; (refine (ref02_norm _ _ _ _ _ HW.out (by omega)).mono ?_); rintro e w' ⟨a', n', c', rfl, hwd, hbel⟩)
        go_ret
        exact ⟨a', n', c', rfl, by rw [Hfin.out] at hwd; exact hwd, hB.trans (hbel.mono hB.size)⟩
  · skip
    go_enter Tryz.func69, Tryz.ntmps69
    go_wp2_with (at_make; refine wpList_make_full _ rfl _ _ 37 rfl w.heap.size 91 i0 (.int .u32 0) 1 Tryz.underlying37 hi hz0 hz1 .i64 .i64 _ _ (n + 1) rfl rfl (by omega) (by omega) (by rw [hz2]; omega) (by unfold maxLen; omega) (Nat.le_refl _) ?_; intro w1 hown1 hgrow1)
    rw [wcells_made] at hown1
    have Hown1 := Lib.hid hown1
    have hB1 : Below w.heap.size w w1 := (Below.refl _ _).grown hgrow1 (Nat.le_refl _) (fun k hk => by cases hk)
    clear hown1 hgrow1
    go_loopw [7, 8] (fun s i wr => ∃ (k sn : Nat) (o : List Nat), k ≤ n + 1 ∧ i = .int .i64 k ∧ s = .int .u64 sn ∧ sn ≤ 1 ∧ Hid (o.length = k) ∧ okw o ∧ Hid (val o + 4294967296 ^ k * sn = low la k + low lb k) ∧
        Hid (wr.ownsRow w.heap.size 91 1 (.slice (some ⟨w.heap.size, 0, none⟩) (n + 1) (n + 1)) (n + 1) (wcells (o ++ List.replicate (n + 1 - k) 0))) ∧ Below w.heap.size w wr) (fun _ i _ => n + 1 - (intOf i).toNat)
    case atStart => exact ⟨0, 0, [], by omega, rfl, rfl, by omega, Lib.hid rfl, okw_nil, Lib.hid (by rw [low_zero, low_zero]; rfl), Hown1, hB1⟩
    case round =>
      obtain ⟨k, sn, o, hk, rfl, rfl, hsn, Ho, hok, Hv, Hown, hB⟩ := hrel
      by_cases hlt : k < n + 1
      · have HaW := Lib.hid (Ha.out.later hB)
        have HbW := Lib.hid (Hb.out.later hB)
        have hcell : wr.cell? ⟨w.heap.size, k, none⟩ = some (.int .u32 ((atw (o ++ List.replicate (n + 1 - k) 0) k : Nat) : Int)) := (Hown.out.cellAt k (by omega)).trans (wcells_at (by have := Ho.out; simp; omega))
        have hfro : wr.frozen? ⟨w.heap.size, k, none⟩ = false := Hown.out.frozenAt k
        generalize atw (o ++ List.replicate (n + 1 - k) 0) k = old at hcell
        have hxa := atw_lt Ha.out.ok k
        have hxb := atw_lt Hb.out.ok k
        have hk1 : (k : Int) < (n : Int) + 1 := by omega
        obtain ⟨x, hx⟩ : ∃ x, x = atw la k := ⟨_, rfl⟩
        obtain ⟨y, hy⟩ : ∃ y, y = atw lb k := ⟨_, rfl⟩
        rw [← hx] at hxa
        rw [← hy] at hxb
        have Hx := Lib.hid hx
        have Hy := Lib.hid hy
        clear hx hy
        go_wp2_with (first | (go_at_call 102; (with_reducible refine (ref02_at a n cap k la _ HaW.out (by omega)).mono ?_); rintro e w' ⟨rfl, rfl⟩; rw [← Hx.out]) | (go_at_call 102; (with_reducible refine (ref02_at b m cap' k lb _ HbW.out (by omega)).mono ?_); rintro e w' ⟨rfl, rfl⟩; rw [← Hy.out]))
        go_roundw
        case rel =>
          obtain ⟨h1, h2⟩ := Hown.out.stored k (.int .u32 (((sn + (x + y)) % 4294967296 : Nat) : Int))
          rw [wcells_set, set_next o (n + 1) k _ Ho.out hlt] at h1
          refine ⟨k + 1, (sn + (x + y)) / 4294967296, o ++ [(sn + (x + y)) % 4294967296], by omega, by go_num, by go_num, by omega, Lib.hid (by have := Ho.out; simp; omega), okw_snoc hok (by omega), Lib.hid (add_step Ho.out Hv.out (by rw [Hx.out, Hy.out])), ?_, ?_⟩
          · exact Lib.hid (by simpa using h1)
          · exact hB.setCell (Nat.le_refl _) _
        case measure => simp [intOf]; omega
      · have hkn : k = n + 1 := by omega
        subst hkn
        have hown := Hown.out
        rw [Nat.sub_self, List.replicate_zero, List.append_nil] at hown
        have HW := Lib.hid (Wd.own hown hok)
        have Hfin := Lib.hid (add_end (N := n) Ha.out.ok Hb.out.ok (by rw [Ha.out.len]; omega) (by rw [Hb.out.len]; omega) Ho.out Hv.out)
        clear hown
        go_wp2_with (go_at_call 57; (refine (ref02_norm _ _ _ _ _ HW.out (by omega)).mono ?_); rintro e w' ⟨a', n', c', rfl, hwd, hbel⟩)
        go_ret
        exact ⟨a', n', c', rfl, by rw [Hfin.out] at hwd; exact hwd, hB.trans (hbel.mono hB.size)⟩
set_option maxRecDepth 100000 in
set_option maxHeartbeats 4000000 in
theorem ref02_sub (a : Option Addr) (n cap : Nat) (la : List Nat) (b : Option Addr) (m cap' : Nat) (lb : List Nat) (w : World) (ha : Wd w a n cap la) (hb : Wd w b m cap' lb) (hn : n ≤ 16777214) (hm : m ≤ 16777214) (hle : Hid (val lb ≤ val la)) :
    Calls Tryz.prog 140 #[.slice a n cap, .slice b m cap'] w fun e w' => ∃ (a' : Option Addr) (n' cap' : Nat), e = .returned (.slice a' n' cap') ∧ Wd w' a' n' cap' (dg (val la - val lb)) ∧ Below w.heap.size w w' := by
  obtain ⟨i0, hi, hz0, hz1, hz2⟩ := info_parts infoWord
  have Ha := Lib.hid ha
  have Hb := Lib.hid hb
  clear ha hb
  by_cases hnm : n < m
  · skip
    go_enter Tryz.func140, Tryz.ntmps140
    go_wp2_with (at_make; refine wpList_make_full _ rfl _ _ 37 rfl w.heap.size 91 i0 (.int .u32 0) 1 Tryz.underlying37 hi hz0 hz1 .i64 .i64 _ _ m rfl rfl (by omega) (by omega) (by rw [hz2]; omega) (by unfold maxLen; omega) (Nat.le_refl _) ?_; intro w1 hown1 hgrow1)
    rw [wcells_made] at hown1
    have Hown1 := Lib.hid hown1
    have hB1 : Below w.heap.size w w1 := (Below.refl _ _).grown hgrow1 (Nat.le_refl _) (fun k hk => by cases hk)
    clear hown1 hgrow1
    go_loopw [7, 8] (fun s i wr => ∃ (k sn : Nat) (o : List Nat), k ≤ m ∧ i = .int .i64 k ∧ s = .int .u64 sn ∧ sn ≤ 1 ∧ Hid (o.length = k) ∧ okw o ∧ Hid (low la k + 4294967296 ^ k * sn = low lb k + val o) ∧
        Hid (wr.ownsRow w.heap.size 91 1 (.slice (some ⟨w.heap.size, 0, none⟩) m m) m (wcells (o ++ List.replicate (m - k) 0))) ∧ Below w.heap.size w wr) (fun _ i _ => m - (intOf i).toNat)
    case atStart => exact ⟨0, 0, [], by omega, rfl, rfl, by omega, Lib.hid rfl, okw_nil, Lib.hid (by rw [low_zero, low_zero]; rfl), Hown1, hB1⟩
    case round =>
      obtain ⟨k, sn, o, hk, rfl, rfl, hsn, Ho, hok, Hv, Hown, hB⟩ := hrel
      by_cases hlt : k < m
      · have HaW := Lib.hid (Ha.out.later hB)
        have HbW := Lib.hid (Hb.out.later hB)
        have hcell : wr.cell? ⟨w.heap.size, k, none⟩ = some (.int .u32 ((atw (o ++ List.replicate (m - k) 0) k : Nat) : Int)) := (Hown.out.cellAt k (by omega)).trans (wcells_at (by have := Ho.out; simp; omega))
        have hfro : wr.frozen? ⟨w.heap.size, k, none⟩ = false := Hown.out.frozenAt k
        generalize atw (o ++ List.replicate (m - k) 0) k = old at hcell
        have hxa := atw_lt Ha.out.ok k
        have hxb := atw_lt Hb.out.ok k
        have hk1 : (k : Int) < (m : Int) := by omega
        obtain ⟨x, hx⟩ : ∃ x, x = atw la k := ⟨_, rfl⟩
        obtain ⟨y, hy⟩ : ∃ y, y = atw lb k := ⟨_, rfl⟩
        rw [← hx] at hxa
        rw [← hy] at hxb
        have Hx := Lib.hid hx
        have Hy := Lib.hid hy
        clear hx hy
        have Hset := fun r => Hown.out.stored k (.int .u32 ((r : Nat) : Int))
        by_cases hxy : x < y + sn
        · have hxyi : (x : Int) < (y : Int) + (sn : Int) := by omega
          go_wp2_with (first | (go_at_call 102; (with_reducible refine (ref02_at a n cap k la _ HaW.out (by omega)).mono ?_); rintro e w' ⟨rfl, rfl⟩; rw [← Hx.out]) | (go_at_call 102; (with_reducible refine (ref02_at b m cap' k lb _ HbW.out (by omega)).mono ?_); rintro e w' ⟨rfl, rfl⟩; rw [← Hy.out]))
          go_roundw
          case rel =>
            obtain ⟨h1, h2⟩ := Hset (x + 4294967296 - (y + sn))
            rw [wcells_set, set_next o m k _ Ho.out hlt] at h1
            have e : (((x + 4294967296 - (y + sn) : Nat)) : Int) = (x : Int) + 4294967296 - ((y : Int) + (sn : Int)) := by omega
            rw [e] at h1
            exact ⟨k + 1, 1, o ++ [x + 4294967296 - (y + sn)], by omega, by go_num, rfl, by omega, Lib.hid (by have := Ho.out; simp; omega), okw_snoc hok (by omega), Lib.hid (sub_step Ho.out Hv.out (by rw [← Hx.out, ← Hy.out]; omega)), Lib.hid h1, hB.setCell (Nat.le_refl _) _⟩
          case measure => simp [intOf]; omega
        · have hxyi : (y : Int) + (sn : Int) ≤ (x : Int) := by omega
          go_wp2_with (first | (go_at_call 102; (with_reducible refine (ref02_at a n cap k la _ HaW.out (by omega)).mono ?_); rintro e w' ⟨rfl, rfl⟩; rw [← Hx.out]) | (go_at_call 102; (with_reducible refine (ref02_at b m cap' k lb _ HbW.out (by omega)).mono ?_); rintro e w' ⟨rfl, rfl⟩; rw [← Hy.out]))
          go_roundw
          case rel =>
            obtain ⟨h1, h2⟩ := Hset (x - (y + sn))
            rw [wcells_set, set_next o m k _ Ho.out hlt] at h1
            have e : (((x - (y + sn) : Nat)) : Int) = (x : Int) - ((y : Int) + (sn : Int)) := by omega
            rw [e] at h1
            exact ⟨k + 1, 0, o ++ [x - (y + sn)], by omega, by go_num, rfl, by omega, Lib.hid (by have := Ho.out; simp; omega), okw_snoc hok (by omega), Lib.hid (sub_step Ho.out Hv.out (by rw [← Hx.out, ← Hy.out]; omega)), Lib.hid h1, hB.setCell (Nat.le_refl _) _⟩
          case measure => simp [intOf]; omega
      · have hkn : k = m := by omega
        subst hkn
        have hown := Hown.out
        rw [Nat.sub_self, List.replicate_zero, List.append_nil] at hown
        have HW := Lib.hid (Wd.own hown hok)
        have Hfin := Lib.hid (sub_end hle.out (by rw [Ha.out.len]; omega) (by rw [Hb.out.len]; omega) Ho.out hok Hv.out)
        clear hown
        go_wp2_with (go_at_call 57; (refine (ref02_norm _ _ _ _ _ HW.out (by omega)).mono ?_); rintro e w' ⟨a', n', c', rfl, hwd, hbel⟩)
        go_ret
        exact ⟨a', n', c', rfl, by rw [Hfin.out] at hwd; exact hwd, hB.trans (hbel.mono hB.size)⟩
  · skip
    go_enter Tryz.func140, Tryz.ntmps140
    go_wp2_with (at_make; refine wpList_make_full _ rfl _ _ 37 rfl w.heap.size 91 i0 (.int .u32 0) 1 Tryz.underlying37 hi hz0 hz1 .i64 .i64 _ _ n rfl rfl (by omega) (by omega) (by rw [hz2]; omega) (by unfold maxLen; omega) (Nat.le_refl _) ?_; intro w1 hown1 hgrow1)
    rw [wcells_made] at hown1
    have Hown1 := Lib.hid hown1
    have hB1 : Below w.heap.size w w1 := (Below.refl _ _).grown hgrow1 (Nat.le_refl _) (fun k hk => by cases hk)
    clear hown1 hgrow1
    go_loopw [7, 8] (fun s i wr => ∃ (k sn : Nat) (o : List Nat), k ≤ n ∧ i = .int .i64 k ∧ s = .int .u64 sn ∧ sn ≤ 1 ∧ Hid (o.length = k) ∧ okw o ∧ Hid (low la k + 4294967296 ^ k * sn = low lb k + val o) ∧
        Hid (wr.ownsRow w.heap.size 91 1 (.slice (some ⟨w.heap.size, 0, none⟩) n n) n (wcells (o ++ List.replicate (n - k) 0))) ∧ Below w.heap.size w wr) (fun _ i _ => n - (intOf i).toNat)
    case atStart => exact ⟨0, 0, [], by omega, rfl, rfl, by omega, Lib.hid rfl, okw_nil, Lib.hid (by rw [low_zero, low_zero]; rfl), Hown1, hB1⟩
    case round =>
      obtain ⟨k, sn, o, hk, rfl, rfl, hsn, Ho, hok, Hv, Hown, hB⟩ := hrel
      by_cases hlt : k < n
      · have HaW := Lib.hid (Ha.out.later hB)
        have HbW := Lib.hid (Hb.out.later hB)
        have hcell : wr.cell? ⟨w.heap.size, k, none⟩ = some (.int .u32 ((atw (o ++ List.replicate (n - k) 0) k : Nat) : Int)) := (Hown.out.cellAt k (by omega)).trans (wcells_at (by have := Ho.out; simp; omega))
        have hfro : wr.frozen? ⟨w.heap.size, k, none⟩ = false := Hown.out.frozenAt k
        generalize atw (o ++ List.replicate (n - k) 0) k = old at hcell
        have hxa := atw_lt Ha.out.ok k
        have hxb := atw_lt Hb.out.ok k
        have hk1 : (k : Int) < (n : Int) := by omega
        obtain ⟨x, hx⟩ : ∃ x, x = atw la k := ⟨_, rfl⟩
        obtain ⟨y, hy⟩ : ∃ y, y = atw lb k := ⟨_, rfl⟩
        rw [← hx] at hxa
        rw [← hy] at hxb
        have Hx := Lib.hid hx
        have Hy := Lib.hid hy
        clear hx hy
        have Hset := fun r => Hown.out.stored k (.int .u32 ((r : Nat) : Int))
        by_cases hxy : x < y + sn
        · have hxyi : (x : Int) < (y : Int) + (sn : Int) := by omega
          go_wp2_with (first | (go_at_call 102; (with_reducible refine (ref02_at a n cap k la _ HaW.out (by omega)).mono ?_); rintro e w' ⟨rfl, rfl⟩; rw [← Hx.out]) | (go_at_call 102; (with_reducible refine (ref02_at b m cap' k lb _ HbW.out (by omega)).mono ?_); rintro e w' ⟨rfl, rfl⟩; rw [← Hy.out]))
          go_roundw
          case rel =>
            obtain ⟨h1, h2⟩ := Hset (x + 4294967296 - (y + sn))
            rw [wcells_set, set_next o n k _ Ho.out hlt] at h1
            have e : (((x + 4294967296 - (y + sn) : Nat)) : Int) = (x : Int) + 4294967296 - ((y : Int) + (sn : Int)) := by omega
            rw [e] at h1
            exact ⟨k + 1, 1, o ++ [x + 4294967296 - (y + sn)], by omega, by go_num, rfl, by omega, Lib.hid (by have := Ho.out; simp; omega), okw_snoc hok (by omega), Lib.hid (sub_step Ho.out Hv.out (by rw [← Hx.out, ← Hy.out]; omega)), Lib.hid h1, hB.setCell (Nat.le_refl _) _⟩
          case measure => simp [intOf]; omega
        · have hxyi : (y : Int) + (sn : Int) ≤ (x : Int) := by omega
          go_wp2_with (first | (go_at_call 102; (with_reducible refine (ref02_at a n cap k la _ HaW.out (by omega)).mono ?_); rintro e w' ⟨rfl, rfl⟩; rw [← Hx.out]) | (go_at_call 102; (with_reducible refine (ref02_at b m cap' k lb _ HbW.out (by omega)).mono ?_); rintro e w' ⟨rfl, rfl⟩; rw [← Hy.out]))
          go_roundw
          case rel =>
            obtain ⟨h1, h2⟩ := Hset (x - (y + sn))
            rw [wcells_set, set_next o n k _ Ho.out hlt] at h1
            have e : (((x - (y + sn) : Nat)) : Int) = (x : Int) - ((y : Int) + (sn : Int)) := by omega
            rw [e] at h1
            exact ⟨k + 1, 0, o ++ [x - (y + sn)], by omega, by go_num, rfl, by omega, Lib.hid (by have := Ho.out; simp; omega), okw_snoc hok (by omega), Lib.hid (sub_step Ho.out Hv.out (by rw [← Hx.out, ← Hy.out]; omega)), Lib.hid h1, hB.setCell (Nat.le_refl _) _⟩
          case measure => simp [intOf]; omega
      · have hkn : k = n := by omega
        subst hkn
        have hown := Hown.out
        rw [Nat.sub_self, List.replicate_zero, List.append_nil] at hown
        have HW := Lib.hid (Wd.own hown hok)
        have Hfin := Lib.hid (sub_end hle.out (by rw [Ha.out.len]; omega) (by rw [Hb.out.len]; omega) Ho.out hok Hv.out)
        clear hown
        go_wp2_with (go_at_call 57; (refine (ref02_norm _ _ _ _ _ HW.out (by omega)).mono ?_); rintro e w' ⟨a', n', c', rfl, hwd, hbel⟩)
        go_ret
        exact ⟨a', n', c', rfl, by rw [Hfin.out] at hwd; exact hwd, hB.trans (hbel.mono hB.size)⟩
set_option maxRecDepth 4096 in
set_option maxHeartbeats 2000000 in
theorem ref02_cmp (a : Option Addr) (n cap : Nat) (la : List Nat) (b : Option Addr) (m cap' : Nat) (lb : List Nat) (w : World) (ha : Wd w a n cap la) (hb : Wd w b m cap' lb) (hn : n ≤ 16777214) (hm : m ≤ 16777214) :
    Calls Tryz.prog 94 #[.slice a n cap, .slice b m cap'] w fun e w' => e = .returned (.int .i64 (cmpI (val la) (val lb))) ∧ w = w' := by
  have Ha := Lib.hid ha
  have Hb := Lib.hid hb
  clear ha hb
  by_cases hnm : n < m
  · skip
    go_enter Tryz.func94, Tryz.ntmps94
    go_wp2
    go_loop [5] (fun i => ∃ k : Nat, k ≤ m ∧ i = .int .i64 ((k : Int) - 1) ∧ Hid (top la k = top lb k)) (fun i => (intOf i + 1).toNat)
    case atStart => exact ⟨m, by omega, by go_num, Lib.hid (by rw [top_ge (by rw [Ha.out.len]; omega), top_ge (by rw [Hb.out.len]; omega)])⟩
    case round =>
      obtain ⟨k, hk, rfl, Ht⟩ := hrel
      cases k with
      | zero =>
        have hv : val la = val lb := by rw [← top_zero, ← top_zero]; exact Ht.out
        have Hfin := Lib.hid (cmpI_eq hv)
        clear hv
        go_wp2
        go_ret
        exact ⟨ret_i64 Hfin.out.symm, rfl⟩
      | succ k =>
        have e1 : ((k + 1 : Nat) : Int) - 1 = (k : Int) := by omega
        rw [e1]
        clear e1
        have hxa := atw_lt Ha.out.ok k
        have hxb := atw_lt Hb.out.ok k
        obtain ⟨x, hx⟩ : ∃ x, x = atw la k := ⟨_, rfl⟩
        obtain ⟨y, hy⟩ : ∃ y, y = atw lb k := ⟨_, rfl⟩
        rw [← hx] at hxa
        rw [← hy] at hxb
        have Hx := Lib.hid hx
        have Hy := Lib.hid hy
        clear hx hy
        go_wp2_with (first | (go_at_call 102; (with_reducible refine (ref02_at a n cap k la _ Ha.out (by omega)).mono ?_); rintro e w' ⟨rfl, rfl⟩; rw [← Hx.out]) | (go_at_call 102; (with_reducible refine (ref02_at b m cap' k lb _ Hb.out (by omega)).mono ?_); rintro e w' ⟨rfl, rfl⟩; rw [← Hy.out]))
        · go_ret
          have h : x < y := by omega
          exact ⟨ret_i64 (cmpI_lt (cmp_lt Ha.out.ok Ht.out (by rw [← Hx.out, ← Hy.out]; exact h))).symm, rfl⟩
        · go_ret
          have h : y < x := by omega
          exact ⟨ret_i64 (cmpI_gt (cmp_lt Hb.out.ok Ht.out.symm (by rw [← Hx.out, ← Hy.out]; exact h))).symm, rfl⟩
        · go_round
          case rel =>
            have h : x = y := by omega
            exact ⟨k, by omega, by go_num, Lib.hid (top_eq Ht.out (by rw [← Hx.out, ← Hy.out]; exact h))⟩
          case measure => simp [intOf]
  · skip
    go_enter Tryz.func94, Tryz.ntmps94
    go_wp2
    go_loop [5] (fun i => ∃ k : Nat, k ≤ n ∧ i = .int .i64 ((k : Int) - 1) ∧ Hid (top la k = top lb k)) (fun i => (intOf i + 1).toNat)
    case atStart => exact ⟨n, by omega, by go_num, Lib.hid (by rw [top_ge (by rw [Ha.out.len]; omega), top_ge (by rw [Hb.out.len]; omega)])⟩
    case round =>
      obtain ⟨k, hk, rfl, Ht⟩ := hrel
      cases k with
      | zero =>
        have hv : val la = val lb := by rw [← top_zero, ← top_zero]; exact Ht.out
        have Hfin := Lib.hid (cmpI_eq hv)
        clear hv
        go_wp2
        go_ret
        exact ⟨ret_i64 Hfin.out.symm, rfl⟩
      | succ k =>
        have e1 : ((k + 1 : Nat) : Int) - 1 = (k : Int) := by omega
        rw [e1]
        clear e1
        have hxa := atw_lt Ha.out.ok k
        have hxb := atw_lt Hb.out.ok k
        obtain ⟨x, hx⟩ : ∃ x, x = atw la k := ⟨_, rfl⟩
        obtain ⟨y, hy⟩ : ∃ y, y = atw lb k := ⟨_, rfl⟩
        rw [← hx] at hxa
        rw [← hy] at hxb
        have Hx := Lib.hid hx
        have Hy := Lib.hid hy
        clear hx hy
        go_wp2_with (first | (go_at_call 102; (with_reducible refine (ref02_at a n cap k la _ Ha.out (by omega)).mono ?_); rintro e w' ⟨rfl, rfl⟩; rw [← Hx.out]) | (go_at_call 102; (with_reducible refine (ref02_at b m cap' k lb _ Hb.out (by omega)).mono ?_); rintro e w' ⟨rfl, rfl⟩; rw [← Hy.out]))
        · go_ret
          have h : x < y := by omega
          exact ⟨ret_i64 (cmpI_lt (cmp_lt Ha.out.ok Ht.out (by rw [← Hx.out, ← Hy.out]; exact h))).symm, rfl⟩
        · go_ret
          have h : y < x := by omega
          exact ⟨ret_i64 (cmpI_gt (cmp_lt Hb.out.ok Ht.out.symm (by rw [← Hx.out, ← Hy.out]; exact h))).symm, rfl⟩
        · go_round
          case rel =>
            have h : x = y := by omega
            exact ⟨k, by omega, by go_num, Lib.hid (top_eq Ht.out (by rw [← Hx.out, ← Hy.out]; exact h))⟩
          case measure => simp [intOf]
end Go.Proofs.YtjeigdlhjghinaaGreatDoor

/-
  The contracts of the document's answer for layer 8: Norm, Same, Sign, Neg.
-/
namespace Go.Proofs.YtjeigdlhjghinaaGreatDoor
open Go.RowKit

theorem ref08_norm (neg : Bool) (a : Option Addr) (n cap : Nat) (l : List Nat) (w : World) (h : Wd w a n cap l) (hn : n ≤ 16777214) :
    Calls Tryz.prog 139 #[whV neg a n cap] w (LstZ (zval neg (val l)) w) := by
  have H := Lib.hid h
  clear h
  unfold whV
  go_enter Tryz.func139, Tryz.ntmps139
  go_wp2_with fail
  refine (ref02_norm _ _ _ _ _ (H.out.later (below_then (below_alloc _ _) (below_alloc _ _))) (by omega)).mono ?_
  rintro e w1 ⟨a1, n1, c1, rfl, h1, b1⟩
  have hA : w1.heap[w.heap.size]? = some (.cells #[.bool neg, .slice a n cap] 126 (0, 0)) := blk_later (blk_later (blk_new w _ _) (below_alloc _ _)) b1
  have hR : w1.heap[w.heap.size + 1]? = some (.cells #[.bool false, .slice none 0 0] 126 (0, 0)) := by
    have h2 := blk_new (w.alloc (.cells #[.bool neg, .slice a n cap] 126)) #[.bool false, .slice none 0 0] 126
    rw [blk_size] at h2
    exact blk_later h2 b1
  have hA0 := blk_cell hA 0
  have hR0 := blk_cell hR 0
  have hR1 := blk_cell hR 1
  have hF0 := blk_free hR 0
  have hF1 := blk_free hR 1
  have HR := Lib.hid hR
  have H1 := Lib.hid h1
  have hB := Lib.hid (below_then (below_alloc _ _) (below_then (below_alloc _ _) b1))
  clear hA hR h1 b1
  simp only [List.getElem?_toArray, List.getElem?_cons_zero, List.getElem?_cons_succ] at hA0 hR0 hR1
  have HS2 : Hid (∀ b : Bool, Wd ((w1.setCell ⟨w.heap.size + 1, 0, none⟩ (.bool b)).setCell ⟨w.heap.size + 1, 1, none⟩ (.slice a1 n1 c1)) a1 n1 c1 (dg (val l))) := Lib.hid (fun b => H1.out.stored2 HR.out b _)
  have HG2 : Hid (∀ b : Bool, ((w1.setCell ⟨w.heap.size + 1, 0, none⟩ (.bool b)).setCell ⟨w.heap.size + 1, 1, none⟩ (.slice a1 n1 c1)).heap[w.heap.size + 1]? = some (.cells #[.bool b, .slice a1 n1 c1] 126 (0, 0))) := Lib.hid (fun b => blk_set2 HR.out _ _)
  have HB2 : Hid (∀ b : Bool, Below w.heap.size w ((w1.setCell ⟨w.heap.size + 1, 0, none⟩ (.bool b)).setCell ⟨w.heap.size + 1, 1, none⟩ (.slice a1 n1 c1))) := Lib.hid (fun b => below_set2 hB.out (by omega) _ _)
  have Hn1 : Hid ((dg (val l)).length = n1) := Lib.hid H1.out.len
  have HA : Hid ((zval neg (val l)).natAbs = val l) := Lib.hid (zval_abs _ _)
  cases neg with
  | false =>
    have HZ : Hid (zneg (zval false (val l)) = false) := Lib.hid (by rw [zval_neg]; rfl)
    go_wp2
    refine bodyPost_ret (results_cell_row Tryz.results139 _ _ (w.heap.size + 1) 126 #[.bool false, .slice a1 n1 c1] (0, 0) _ rfl (HG2.out false) Tryz.underlying126 rfl (by kernel_rfl)) rfl ?_
    exact ⟨a1, n1, c1, by rw [HZ.out]; rfl, by rw [HA.out]; exact HS2.out false, HB2.out false⟩
  | true =>
    by_cases hz : n1 = 0
    · have HZ : Hid (zneg (zval true (val l)) = false) := Lib.hid (by rw [zval_neg, dg_nil_iff.1 (Hn1.out.trans hz)]; rfl)
      subst hz
      go_wp2
      refine bodyPost_ret (results_cell_row Tryz.results139 _ _ (w.heap.size + 1) 126 #[.bool false, .slice a1 0 c1] (0, 0) _ rfl (HG2.out false) Tryz.underlying126 rfl (by kernel_rfl)) rfl ?_
      exact ⟨a1, 0, c1, by rw [HZ.out]; rfl, by rw [HA.out]; exact HS2.out false, HB2.out false⟩
    · have hv : val l ≠ 0 := fun h => hz (Hn1.out.symm.trans (dg_nil_iff.2 h))
      have HZ : Hid (zneg (zval true (val l)) = true) := Lib.hid (by rw [zval_neg, decide_eq_true hv]; rfl)
      have hni : (0 : Int) < (n1 : Int) := by omega
      have hnn : 0 < n1 := by omega
      clear hv hz
      go_wp2
      refine bodyPost_ret (results_cell_row Tryz.results139 _ _ (w.heap.size + 1) 126 #[.bool true, .slice a1 n1 c1] (0, 0) _ rfl (HG2.out true) Tryz.underlying126 rfl (by kernel_rfl)) rfl ?_
      exact ⟨a1, n1, c1, by rw [HZ.out]; rfl, by rw [HA.out]; exact HS2.out true, HB2.out true⟩
theorem ref08_sign (neg : Bool) (a : Option Addr) (n cap : Nat) (l : List Nat) (w : World) (h : Wd w a n cap l) (hn : n ≤ 16777214) :
    Calls Tryz.prog 162 #[whV neg a n cap] w (Gives (.int .i64 (sgn (zval neg (val l)))) w) := by
  have H := Lib.hid h
  clear h
  go_enter Tryz.func162, Tryz.ntmps162
  unfold whV
  go_wp2_with fail
  refine (ref08_norm neg _ _ _ _ _ (H.out.later (below_alloc _ _)) hn).mono ?_
  rintro e w1 ⟨a1, n1, c1, rfl, h1, b1⟩
  have Hl := Lib.hid h1.len
  have hB := below_then (below_alloc _ _) b1
  generalize zval neg (val l) = z at *
  unfold whV
  clear h1 b1
  by_cases hz : z = 0
  · have hn0 : n1 = 0 := by rw [← Hl.out, hz]; rw [show (0 : Int).natAbs = 0 from rfl, dg_zero]; rfl
    subst hn0
    have HS : Hid (sgn z = 0) := Lib.hid (by unfold sgn; rw [if_pos hz])
    go_wp2
    go_ret
    exact ⟨by rw [HS.out]; rfl, below_then hB (below_alloc _ _)⟩
  · have hn0 : ¬ n1 = 0 := fun h0 => hz (by have h2 := dg_nil_iff.1 (Hl.out.trans h0); omega)
    have hni : ((n1 : Int) == 0) = false := by simp [hn0]
    by_cases hlt : z < 0
    · have HS : Hid (sgn z = -1) := Lib.hid (by unfold sgn; rw [if_neg hz, if_pos hlt])
      rw [show zneg z = true from decide_eq_true hlt]
      clear hlt hz
      go_wp2
      go_ret
      exact ⟨by rw [HS.out]; rfl, below_then hB (below_alloc _ _)⟩
    · have HS : Hid (sgn z = 1) := Lib.hid (by unfold sgn; rw [if_neg hz, if_neg hlt])
      rw [show zneg z = false from decide_eq_false hlt]
      clear hlt hz
      go_wp2
      go_ret
      exact ⟨by rw [HS.out]; rfl, below_then hB (below_alloc _ _)⟩
end Go.Proofs.YtjeigdlhjghinaaGreatDoor

/-
  Rows of words of the call's own, several side by side: what is written into one leaves the others. Of no program.
-/
namespace Go.Proofs.YtjeigdlhjghinaaGreatDoor
open Go.RowKit

theorem grown_refl (w : World) (row : Option Nat) : w.grownBy w row := ⟨rfl, rfl, rfl, Nat.le_refl _, fun _ _ _ => rfl⟩
theorem grown_then {a b c : World} {row : Option Nat} (h : a.grownBy b row) (k : b.grownBy c row) : a.grownBy c row :=
  ⟨k.os.trans h.os, k.tape.trans h.tape, k.output.trans h.output, Nat.le_trans h.size k.size, fun i hi hr => (k.block i (Nat.lt_of_lt_of_le hi h.size) hr).trans (h.block i hi hr)⟩
theorem grown_cell (w : World) (g k : Nat) (u : Value) : w.grownBy (w.setCell ⟨g, k, none⟩ u) (some g) :=
  ⟨rfl, rfl, rfl, by simp [World.setCell], fun i _ hr => Below.heap_setCell _ _ _ _ (fun e => hr (by rw [e]))⟩
theorem grown_drewN {a w : World} {row : Option Nat} (h : a.grownBy w row) (n : Nat) : a.grownBy (w.drewN n) row := grown_then h ⟨rfl, rfl, rfl, Nat.le_refl _, fun _ _ _ => rfl⟩
/-- What was there below a world is there below a later one: whatever holds of memory since a world w holds of what has grown besides one own row. -/
theorem grown_below {w0 w w' : World} {g : Nat} (hB : Below w0.heap.size w0 w) (hg : w.grownBy w' (some g)) (hb : w0.heap.size ≤ g) : Below w0.heap.size w0 w' :=
  hB.grown hg hB.size (fun k hk => by cases hk; exact hb)
theorem Own.later {w w' : World} {base g n cap : Nat} {l : List Nat} (h : Own w base g n cap l) (hb : Below w.heap.size w w') : Own w' base g n cap l := by
  refine ⟨⟨h.1.1, ?_⟩, h.2⟩
  rcases h.1.2 with h0 | ⟨g', cap', cur, h1, h2, h3, h4⟩
  · exact .inl h0
  · exact .inr ⟨g', cap', cur, h1, h2, (hb.block g' (Array.getElem?_eq_some_iff.1 h3).1).trans h3, h4⟩
theorem Own.other {w w' : World} {base g g' n cap : Nat} {l : List Nat} (h : Own w base g n cap l) (hg : w.grownBy w' (some g')) (hne : g ≠ g') : Own w' base g n cap l :=
  ⟨h.1.kept hg (.inr (by simp [Value.ownBlock]; exact hne)), h.2⟩
theorem Own.stay {w w' : World} {base g n cap : Nat} {l : List Nat} (h : Own w base g n cap l) (hg : w.grownBy w' none) : Own w' base g n cap l :=
  ⟨h.1.kept hg (.inr (by simp [Value.ownBlock])), h.2⟩
theorem Own.lower {w : World} {base base' g n cap : Nat} {l : List Nat} (h : Own w base g n cap l) (hb : base' ≤ base) : Own w base' g n cap l :=
  ⟨⟨h.1.1, h.1.2.imp id fun ⟨g, cap, cur, h1, h2, h3⟩ => ⟨g, cap, cur, h1, Nat.le_trans hb h2, h3⟩⟩, h.2⟩
theorem ownsRow_lower {w : World} {base base' : Nat} {e : TypeId} {size : Nat} {v : Value} {n : Nat} {xs : List Value} (h : w.ownsRow base e size v n xs) (hb : base' ≤ base) : w.ownsRow base' e size v n xs :=
  ⟨h.1, h.2.imp id fun ⟨g, cap, cur, h1, h2, h3⟩ => ⟨g, cap, cur, h1, Nat.le_trans hb h2, h3⟩⟩
theorem Own.bound {w : World} {base g n cap : Nat} {l : List Nat} (h : Own w base g n cap l) : n ≤ cap ∧ cap ≤ 9223372036854775807 := h.wd.bound
end Go.Proofs.YtjeigdlhjghinaaGreatDoor

/-
  A window of a row of the call's own: what stands in it may be written, the row stays the call's own. Of no program.
-/
namespace Go.Proofs.YtjeigdlhjghinaaGreatDoor
open Go.RowKit

/-- From place off of an own row on, n words: l. -/
def Win (w : World) (base g off n : Nat) (l : List Nat) : Prop := ∃ (N cap : Nat) (P : List Nat), Own w base g N cap P ∧ off + n ≤ N ∧ l = (P.drop off).take n
theorem Own.win {w : World} {base g n cap : Nat} {l : List Nat} (h : Own w base g n cap l) : Win w base g 0 n l :=
  ⟨n, cap, l, h, by omega, by rw [List.drop_zero, List.take_of_length_le (by rw [h.len]; exact Nat.le_refl _)]⟩
theorem Win.len {w : World} {base g off n : Nat} {l : List Nat} (h : Win w base g off n l) : l.length = n := by
  obtain ⟨N, cap, P, hO, hn, rfl⟩ := h
  have := hO.len
  rw [List.length_take, List.length_drop]
  omega
theorem Win.ok {w : World} {base g off n : Nat} {l : List Nat} (h : Win w base g off n l) : okw l := by
  obtain ⟨N, cap, P, hO, hn, rfl⟩ := h
  exact okw_take (okw_drop hO.2 off) n
theorem Win.base {w : World} {base g off n : Nat} {l : List Nat} (h : Win w base g off n l) : base ≤ g ∧ g < w.heap.size := by
  obtain ⟨N, cap, P, hO, _⟩ := h
  exact hO.base
theorem Win.cell {w : World} {base g off n : Nat} {l : List Nat} (h : Win w base g off n l) {k : Nat} (hk : k < n) : w.cell? ⟨g, off + k, none⟩ = some (.int .u32 ((atw l k : Nat) : Int)) := by
  obtain ⟨N, cap, P, hO, hn, rfl⟩ := h
  rw [hO.cell (by omega), atw_take hk, atw_drop]
theorem Win.frozen {w : World} {base g off n : Nat} {l : List Nat} (h : Win w base g off n l) (k : Nat) : w.frozen? ⟨g, off + k, none⟩ = false := by
  obtain ⟨N, cap, P, hO, _⟩ := h
  exact hO.1.frozenAt _
theorem Win.wd {w : World} {base g off n : Nat} {l : List Nat} (h : Win w base g off n l) {c : Nat} (hc : n ≤ c) (hc2 : c ≤ 9223372036854775807) : Wd w (some ⟨g, off, none⟩) n c l :=
  ⟨h.len, hc, hc2, h.ok, fun e => (by cases e), .inr ⟨g, off, rfl, fun _ hj => h.cell hj⟩⟩
theorem Win.set {w : World} {base g off n : Nat} {l : List Nat} (h : Win w base g off n l) {k r : Nat} (hr : r < 4294967296) : Win (w.setCell ⟨g, off + k, none⟩ (.int .u32 ((r : Nat) : Int))) base g off n (l.set k r) := by
  obtain ⟨N, cap, P, hO, hn, rfl⟩ := h
  refine ⟨N, cap, P.set (off + k) r, hO.set _ _ hr, hn, ?_⟩
  rw [List.drop_set, if_neg (by omega), List.take_set, Nat.add_sub_cancel_left]
theorem Win.take {w : World} {base g off n : Nat} {l : List Nat} (h : Win w base g off n l) {m : Nat} (hm : m ≤ n) : Win w base g off m (l.take m) := by
  obtain ⟨N, cap, P, hO, hn, rfl⟩ := h
  exact ⟨N, cap, P, hO, by omega, by rw [List.take_take, Nat.min_eq_left hm]⟩
theorem Win.drop {w : World} {base g off q m : Nat} {l : List Nat} (h : Win w base g off (q + m) l) : Win w base g (off + q) m (l.drop q) := by
  obtain ⟨N, cap, P, hO, hn, rfl⟩ := h
  exact ⟨N, cap, P, hO, by omega, by rw [List.drop_take, List.drop_drop, Nat.add_sub_cancel_left]⟩
theorem Win.later {w w' : World} {base g off n : Nat} {l : List Nat} (h : Win w base g off n l) (hb : Below w.heap.size w w') : Win w' base g off n l := by
  obtain ⟨N, cap, P, hO, hn, hl⟩ := h
  exact ⟨N, cap, P, hO.later hb, hn, hl⟩
theorem Win.other {w w' : World} {base g g' off n : Nat} {l : List Nat} (h : Win w base g off n l) (hg : w.grownBy w' (some g')) (hne : g ≠ g') : Win w' base g off n l := by
  obtain ⟨N, cap, P, hO, hn, hl⟩ := h
  exact ⟨N, cap, P, hO.other hg hne, hn, hl⟩
theorem Win.lower {w : World} {base base' g off n : Nat} {l : List Nat} (h : Win w base g off n l) (hb : base' ≤ base) : Win w base' g off n l := by
  obtain ⟨N, cap, P, hO, hn, hl⟩ := h
  exact ⟨N, cap, P, hO.lower hb, hn, hl⟩
theorem Wd.kept {w w' : World} {a : Option Addr} {n cap : Nat} {l : List Nat} {row : Option Nat} (h : Wd w a n cap l) (hg : w.grownBy w' row) (hne : ∀ ad : Addr, a = some ad → some ad.block ≠ row) : Wd w' a n cap l :=
  ⟨h.1, h.2.1, h.2.2.1, h.2.2.2.1, h.2.2.2.2.1, h.2.2.2.2.2.imp id fun ⟨b, off, e, hc⟩ => ⟨b, off, e, fun j hj => hg.cell (hc j hj) (hne ⟨b, off, none⟩ e)⟩⟩
/-- A row of the call's own that isn't empty has a block. -/
theorem own_block {w : World} {base : Nat} {a : Option Addr} {n cap : Nat} {l : List Nat} (h : w.ownsRow base 91 1 (.slice a n cap) n (wcells l)) (ho : okw l) (hn : 0 < n) : ∃ g, a = some ⟨g, 0, none⟩ ∧ Own w base g n cap l := by
  rcases h.2 with ⟨_, h0⟩ | ⟨g, cap', cur, e, _⟩
  · omega
  · simp only [Value.slice.injEq] at e
    obtain ⟨rfl, _, rfl⟩ := e
    exact ⟨g, rfl, h, ho⟩
theorem ownsRow_later {w w' : World} {base : Nat} {e : TypeId} {size : Nat} {v : Value} {n : Nat} {xs : List Value} (h : w.ownsRow base e size v n xs) (hb : Below w.heap.size w w') : w'.ownsRow base e size v n xs := by
  refine ⟨h.1, ?_⟩
  rcases h.2 with h0 | ⟨g', cap', cur, h1, h2, h3, h4⟩
  · exact .inl h0
  · exact .inr ⟨g', cap', cur, h1, h2, (hb.block g' (Array.getElem?_eq_some_iff.1 h3).1).trans h3, h4⟩
/-- The value that a slice of words holds in a world (for a measure that is read from memory). -/
def cellNat (w : World) (a : Addr) : Nat := match w.cell? a with | some (.int _ z) => z.toNat | _ => 0
def heldVal (w : World) : Value → Nat
  | .slice (some a) n _ => val ((List.range n).map fun j => cellNat w ⟨a.block, a.off + j, none⟩)
  | _ => 0
theorem Wd.held {w : World} {b off n cap : Nat} {l : List Nat} (h : Wd w (some ⟨b, off, none⟩) n cap l) : heldVal w (.slice (some ⟨b, off, none⟩) n cap) = val l := by
  show val ((List.range n).map fun j => cellNat w ⟨b, off + j, none⟩) = val l
  apply congrArg val
  apply list_eq_of_at
  · simp [h.len]
  · intro j hj
    simp at hj
    obtain ⟨b', off', e, hc⟩ := h.at (by omega)
    simp only [Option.some.injEq, Addr.mk.injEq, and_true] at e
    obtain ⟨rfl, rfl⟩ := e
    unfold atw
    rw [List.getD_eq_getElem?_getD, List.getElem?_map, List.getElem?_range hj]
    show cellNat w ⟨b, off + j, none⟩ = _
    unfold cellNat
    rw [hc j hj]
    show (((atw l j : Nat) : Int)).toNat = _
    rw [Int.toNat_natCast]; rfl
end Go.Proofs.YtjeigdlhjghinaaGreatDoor

/-
  Plain mathematics: decimal digits. Nothing of the program.
-/
namespace Go.Proofs.YtjeigdlhjghinaaGreatDoor

/-- The decimal digits of a number, the highest first; as bytes. -/
def decs (n : Nat) : List Nat := if n < 10 then [n] else decs (n / 10) ++ [n % 10]
termination_by n
decreasing_by omega
def dig (d : Nat) : UInt8 := UInt8.ofNat (48 + d)
def txt (n : Nat) : List UInt8 := (decs n).map dig
theorem decs_small {n : Nat} (h : n < 10) : decs n = [n] := by rw [decs]; simp [h]
theorem decs_big {n : Nat} (h : 10 ≤ n) : decs n = decs (n / 10) ++ [n % 10] := by rw [decs]; simp [show ¬ n < 10 by omega]
theorem txt_small {n : Nat} (h : n < 10) : txt n = [dig n] := by rw [txt, decs_small h]; rfl
theorem txt_big {n : Nat} (h : 10 ≤ n) : txt n = txt (n / 10) ++ [dig (n % 10)] := by rw [txt, decs_big h]; simp [txt]
theorem dig_val {d : Nat} (h : d < 10) : (dig d).toNat = 48 + d := by
  unfold dig; rw [UInt8.toNat_ofNat']; omega
theorem decs_lt (n : Nat) : ∀ d ∈ decs n, d < 10 := by
  induction n using Nat.strongRecOn with
  | _ n ih =>
    by_cases h : n < 10
    · rw [decs_small h]; intro d hd; simp at hd; omega
    · rw [decs_big (by omega)]
      intro d hd
      rcases List.mem_append.1 hd with h1 | h1
      · exact ih _ (by omega) d h1
      · simp at h1; omega
theorem decs_length_le {n k : Nat} (h : n < 2 ^ k) : (decs n).length ≤ k + 1 := by
  induction k generalizing n with
  | zero => rw [decs_small (by simp at h; omega)]; simp
  | succ k ih =>
    by_cases h1 : n < 10
    · rw [decs_small h1]; simp
    · rw [decs_big (by omega), List.length_append]
      have := ih (n := n / 10) (by rw [Nat.pow_succ] at h; omega)
      simp only [List.length_cons, List.length_nil]
      omega
theorem decs_ne (n : Nat) : decs n ≠ [] := by
  by_cases h : n < 10
  · rw [decs_small h]; simp
  · rw [decs_big (by omega)]; simp
theorem txt_length (n : Nat) : (txt n).length = (decs n).length := by simp [txt]
theorem txt_length_le {n k : Nat} (h : n < 2 ^ k) : (txt n).length ≤ k + 1 := by rw [txt_length]; exact decs_length_le h
theorem txt_ne (n : Nat) : txt n ≠ [] := by unfold txt; simp [decs_ne]

/-- Digit by digit, from the low end: what is written is s, what is left is v. -/
def TextAt (v0 v : Nat) (s : List UInt8) : Prop := (s = [] ∧ v = v0) ∨ (s ≠ [] ∧ v = 0 ∧ s = txt v0) ∨ (s ≠ [] ∧ v ≠ 0 ∧ txt v0 = txt v ++ s)
theorem text_start (v : Nat) : TextAt v v [] := .inl ⟨rfl, rfl⟩
theorem text_step {v0 v : Nat} {s : List UInt8} (h : TextAt v0 v s) (hv : v ≠ 0 ∨ s = []) : TextAt v0 (v / 10) (dig (v % 10) :: s) := by
  have key : (s = [] ∧ v = v0) ∨ txt v0 = txt v ++ s := by
    rcases h with h | ⟨h1, h2, h3⟩ | ⟨_, _, h3⟩
    · exact .inl h
    · rcases hv with h4 | h4
      · exact absurd h2 h4
      · exact absurd h4 h1
    · exact .inr h3
  have key2 : txt v0 = txt v ++ s := by
    rcases key with ⟨h1, h2⟩ | h1
    · rw [h1, h2, List.append_nil]
    · exact h1
  by_cases h10 : v < 10
  · refine .inr (.inl ⟨by simp, by omega, ?_⟩)
    rw [key2, txt_small h10, show v % 10 = v by omega]; rfl
  · refine .inr (.inr ⟨by simp, by omega, ?_⟩)
    rw [key2, txt_big (by omega)]; simp
theorem text_end {v0 v : Nat} {s : List UInt8} (h : TextAt v0 v s) (hv : v = 0) (hs : s ≠ []) : s = txt v0 := by
  rcases h with ⟨h1, _⟩ | ⟨_, _, h3⟩ | ⟨_, h2, _⟩
  · exact absurd h1 hs
  · exact h3
  · exact absurd hv h2
theorem text_length {v0 v : Nat} {s : List UInt8} (h : TextAt v0 v s) : s.length ≤ (txt v0).length := by
  rcases h with ⟨h1, _⟩ | ⟨_, _, h3⟩ | ⟨_, _, h3⟩
  · rw [h1]; simp
  · rw [h3]; exact Nat.le_refl _
  · rw [h3, List.length_append]; omega

/-- The first place at which bytes are no digits, or that is too far; below 0: there is none. -/
def wrongFrom : List UInt8 → Nat → Int
  | [], _ => -1
  | x :: r, i => if x.toNat < 48 ∨ 57 < x.toNat ∨ 60 ≤ i then (i : Int) else wrongFrom r (i + 1)
def wrongI (l : List UInt8) : Int := if l = [] then 0 else wrongFrom l 0
/-- The number that digits are. -/
def readV (l : List UInt8) : Nat := l.foldl (fun n x => n * 10 + (x.toNat - 48)) 0
def alldig (l : List UInt8) : Prop := ∀ x ∈ l, 48 ≤ x.toNat ∧ x.toNat ≤ 57
theorem wrongFrom_none {l : List UInt8} {i : Nat} (h : wrongFrom l i < 0) : alldig l ∧ (l = [] ∨ i + l.length ≤ 60) := by
  induction l generalizing i with
  | nil => exact ⟨fun x hx => (by cases hx), .inl rfl⟩
  | cons x r ih =>
    rw [wrongFrom] at h
    split at h
    · omega
    · rename_i hx
      obtain ⟨h1, h2⟩ := ih h
      refine ⟨fun y hy => ?_, .inr ?_⟩
      · rcases List.mem_cons.1 hy with rfl | hy
        · omega
        · exact h1 y hy
      · simp only [List.length_cons]
        rcases h2 with rfl | h2
        · simp; omega
        · omega
theorem wrongI_none {l : List UInt8} (h : wrongI l < 0) : alldig l ∧ l ≠ [] ∧ l.length ≤ 60 := by
  unfold wrongI at h
  split at h
  · omega
  · rename_i hne
    obtain ⟨h1, h2⟩ := wrongFrom_none h
    refine ⟨h1, hne, ?_⟩
    rcases h2 with h2 | h2
    · exact absurd h2 hne
    · omega
theorem wrongFrom_range {l : List UInt8} {i : Nat} : wrongFrom l i < ((i + l.length : Nat) : Int) ∧ (wrongFrom l i < 0 ∨ (i : Int) ≤ wrongFrom l i) ∧ -1 ≤ wrongFrom l i := by
  induction l generalizing i with
  | nil => simp [wrongFrom]; omega
  | cons x r ih =>
    rw [wrongFrom]
    split
    · simp; omega
    · have h1 := ih (i := i + 1)
      simp only [List.length_cons]
      omega
theorem readV_take {l : List UInt8} {k : Nat} (h : k < l.length) : readV (l.take (k + 1)) = readV (l.take k) * 10 + ((l.getD k 0).toNat - 48) := by
  unfold readV
  rw [List.take_succ_eq_append_getElem h, List.foldl_append, List.getD_eq_getElem?_getD, List.getElem?_eq_getElem h]; rfl
theorem readV_lt {l : List UInt8} (h : alldig l) : readV l < 10 ^ l.length := by
  have key : ∀ (l : List UInt8) (n m : Nat), alldig l → n < 10 ^ m → l.foldl (fun n x => n * 10 + (x.toNat - 48)) n < 10 ^ (m + l.length) := by
    intro l
    induction l with
    | nil => intro n m _ hn; simpa using hn
    | cons x r ih =>
      intro n m hd hn
      have h1 := hd x (by simp)
      have h2 := ih (n * 10 + (x.toNat - 48)) (m + 1) (fun y hy => hd y (by simp [hy])) (by rw [Nat.pow_succ]; omega)
      rw [List.foldl_cons, List.length_cons, show m + (r.length + 1) = m + 1 + r.length by omega]
      exact h2
  have := key l 0 0 h (by decide)
  rwa [Nat.zero_add] at this
theorem alldig_getD {l : List UInt8} (h : alldig l) {k : Nat} (hk : k < l.length) : 48 ≤ (l.getD k 0).toNat ∧ (l.getD k 0).toNat ≤ 57 := by
  rw [List.getD_eq_getElem?_getD, List.getElem?_eq_getElem hk]; exact h _ (List.getElem_mem hk)
/-- What is written is read as it was. -/
theorem readV_append (l : List UInt8) (x : UInt8) : readV (l ++ [x]) = readV l * 10 + (x.toNat - 48) := by unfold readV; rw [List.foldl_append]; rfl
theorem readV_txt (n : Nat) : readV (txt n) = n := by
  induction n using Nat.strongRecOn with
  | _ n ih =>
    by_cases h : n < 10
    · rw [txt_small h]
      show 0 * 10 + ((dig n).toNat - 48) = n
      rw [dig_val h]; omega
    · rw [txt_big (by omega), readV_append, ih _ (by omega), dig_val (by omega)]; omega
theorem alldig_txt (n : Nat) : alldig (txt n) := by
  intro x hx
  obtain ⟨d, hd, rfl⟩ := List.mem_map.1 hx
  have := decs_lt n d hd
  rw [dig_val this]; omega
theorem wrongFrom_alldig {l : List UInt8} {i : Nat} (h : alldig l) : wrongFrom l i = if l = [] ∨ i + l.length ≤ 60 then -1 else ((max i 60 : Nat) : Int) := by
  induction l generalizing i with
  | nil => simp [wrongFrom]
  | cons x r ih =>
    have hx := h x (by simp)
    have h1 := ih (i := i + 1) (fun y hy => h y (by simp [hy]))
    rw [wrongFrom]
    by_cases hi : 60 ≤ i
    · rw [if_pos (by omega), if_neg (by simp; omega), Nat.max_eq_left hi]
    · rw [if_neg (by omega), h1]
      simp only [List.length_cons]
      by_cases hr : r = []
      · subst hr; simp; omega
      · have : 0 < r.length := List.length_pos_iff.2 hr
        by_cases h2 : i + 1 + r.length ≤ 60
        · rw [if_pos (.inr h2), if_pos (.inr (by omega))]
        · rw [if_neg (by simp [hr]; omega), if_neg (by simp; omega), Nat.max_eq_right (by omega), Nat.max_eq_right (by omega)]
end Go.Proofs.YtjeigdlhjghinaaGreatDoor

/-
  What package digits' functions owe (layer 7), as one hypothesis: the contracts that the laws' walks lean on.
-/
namespace Go.Proofs.YtjeigdlhjghinaaGreatDoor
open Go.RowKit

/-- A text, as a value. -/
def bs (l : List UInt8) : ByteArray := ⟨l.toArray⟩
theorem bs_size (l : List UInt8) : (bs l).size = l.length := by show l.toArray.size = _; simp
theorem bs_append (a b : List UInt8) : bs a ++ bs b = bs (a ++ b) := by unfold bs; rw [ByteArray.mk_append_mk]
theorem bs_list (l : List UInt8) : (bs l).toList = l := by rw [ByteArray.toList_eq]; rfl
theorem bs_get (l : List UInt8) (k : Nat) (h : k < l.length) (h' : k < (bs l).size) : ((bs l)[k]'h').toNat = (l.getD k 0).toNat := by
  rw [List.getD_eq_getElem?_getD, List.getElem?_eq_getElem h]; rfl
theorem bs_of (s : ByteArray) : ∃ l, s = bs l := ⟨s.data.toList, by cases s; simp [bs]⟩
theorem bs_all (l : List UInt8) : (bs l).extract 0 l.length = bs l := by unfold bs; rw [ByteArray.extract_mk]; simp
theorem bs_rest (x : UInt8) (r : List UInt8) : (bs (x :: r)).extract 1 (r.length + 1) = bs r := by unfold bs; rw [ByteArray.extract_mk]; simp
/-- A fault, as a value. -/
def faultV (k s t a : Int) : Value := .agg #[.int .i64 k, .int .i64 s, .int .i64 t, .int .i64 a]
/-- The library's table of the powers of ten reads as its initialiser lays it (nothing is asked where the program has no such table). -/
def Dec10 (w : World) : Prop := ∀ name, Tryz.prog.globalNamed name = some 3 → Lib.TabIs Tryz.prog w name .u64 Lib.pow10Tab
theorem Dec10.later {w w' : World} (h : Dec10 w) (hb : Below w.heap.size w w') : Dec10 w' := fun name hn => Lib.tabBelow_of_tabIs (h name hn) w' hb
structure DigitsSaid : Prop where
  text : ∀ (a : Option Addr) (n cap : Nat) (l : List Nat) (w : World), Wd w a n cap l → n ≤ 1000 → Hid (Dec10 w) → Calls Tryz.prog 118 #[.slice a n cap] w (Gives (.string (bs (txt (val l)))) w)
  read_ok : ∀ (l : List UInt8) (w : World), l.length ≤ 1000 → Hid (wrongI l < 0) → Calls Tryz.prog 107 #[.string (bs l)] w (Lst2 (dg (readV l)) (faultV 0 0 0 0) w)
  read_no : ∀ (l : List UInt8) (w : World), l.length ≤ 1000 → Hid (0 ≤ wrongI l) → Calls Tryz.prog 107 #[.string (bs l)] w (Lst2 [] (faultV 1 0 0 (wrongI l)) w)
/-- The cells of a fault in a variable. -/
def Box (w : World) (g : Nat) (k s t a : Int) : Prop :=
  w.cell? ⟨g, 0, none⟩ = some (.int .i64 k) ∧ w.cell? ⟨g, 1, none⟩ = some (.int .i64 s) ∧ w.cell? ⟨g, 2, none⟩ = some (.int .i64 t) ∧ w.cell? ⟨g, 3, none⟩ = some (.int .i64 a)
theorem Box.later {w w' : World} {g : Nat} {k s t a : Int} (h : Box w g k s t a) (hb : Below w.heap.size w w') : Box w' g k s t a :=
  ⟨cell_later hb h.1, cell_later hb h.2.1, cell_later hb h.2.2.1, cell_later hb h.2.2.2⟩
end Go.Proofs.YtjeigdlhjghinaaGreatDoor

/-
  make of words, with a length and a capacity that are reckoned. Of no program.
-/
namespace Go.Proofs.YtjeigdlhjghinaaGreatDoor
open Go.RowKit

theorem ownsRow_made (w : World) (base : Nat) (e : TypeId) (z : Value) (q c : Nat) (hqc : q ≤ c) (hc : c ≤ maxLen) (hb : base ≤ w.heap.size) :
    (w.alloc (.cells (madeCells #[z] c) e)).ownsRow base e 1 (.slice (some ⟨w.heap.size, 0, none⟩) q c) q (List.replicate q z) := by
  refine ⟨by simp, .inr ⟨w.heap.size, c, madeCells #[z] c, rfl, hb, heap_alloc_new w _, hqc, hc, ?_, ?_⟩⟩
  · have := congrArg List.length (toList_madeCells_one z c)
    simpa using this
  · rw [toList_madeCells_one, List.take_replicate, Nat.mul_one, Nat.min_eq_left hqc]
theorem wpList_make_words {P : Program} (w : World) {ops : Array Oper} {rest : List Oper} {o : Oper} {a : Act} {Q : Exit → Act → World → Prop}
    (hg : o.guard = none) (l c : Operand) (t : TypeId) (hop : o.op = Op.makeSlice t l c)
    (base : Nat) (e : TypeId) (i : TypeInfo) (z : Value) (h1 : P.underlying t = some (.slice e)) (h2 : P.info? e = some i) (h3 : i.zero = some z) (h4 : i.size = 1) (hz : z.cells = #[z])
    (kl kc : IntKind) (L C : Int) (n m : Nat) (hl : a.eval l = .int kl L) (hc : a.eval c = .int kc C) (hL : L = (n : Int)) (hC : C = (m : Int)) (hnm : n ≤ m) (b2 : i.bytes * m ≤ 281474976710656) (b3 : m ≤ maxLen) (b4 : base ≤ w.heap.size)
    (hK : ∀ w', w'.ownsRow base e 1 (.slice (some ⟨w.heap.size, 0, none⟩) n m) n (List.replicate n z) → w.grownBy w' none → wpList P ops Q rest (a.put o.dst (.slice (some ⟨w.heap.size, 0, none⟩) n m)) w') :
    wpList P ops Q (o :: rest) a w := by
  refine wpList_plain hg fun K hK' => ?_
  have h63' : (m : Int) ≤ 9223372036854775807 := by
    have h := b3
    simp [maxLen] at h
    omega
  have hb' : (i.bytes : Int) * (m : Int) ≤ 281474976710656 := by
    have h : ((i.bytes * m : Nat) : Int) ≤ 281474976710656 := by omega
    rwa [Int.natCast_mul] at h
  have hrun := run_make (P := P) w t e i z h1 h2 h3 kl kc n m (by omega) (by omega) hb' h63'
  simp only [Int.toNat_natCast, h4, Nat.mul_one, hz] at hrun
  subst hL
  subst hC
  unfold Oper.wp
  simp [execOp, hop, hl, hc, hrun, Result.andThen]
  exact hK' _ _ (hK _ (ownsRow_made w base e z n m hnm b3 b4) (World.grownBy_alloc w _ none))
theorem zeros_cells (n : Nat) : List.replicate n (Value.int .u32 0) = wcells (List.replicate n 0) := by simp [wcells]
end Go.Proofs.YtjeigdlhjghinaaGreatDoor
