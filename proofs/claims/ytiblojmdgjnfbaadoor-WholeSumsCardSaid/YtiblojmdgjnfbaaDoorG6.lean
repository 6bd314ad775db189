/-
  Several texts of this claim as one, group 6.
-/
import Derived.Test.YtiblojmdgjnfbaaDoorG5
import Derived.Deep.AppendSrc
import Derived.Deep.DeepMust
import Derived.Test.YtiblojmdgjnfbaaDoorG3
/-
  The contracts of the document's answer for layer 2: functions that make lists.
-/
namespace Go.Proofs.YtiblojmdgjnfbaaDoor
open Go.RowKit

theorem infoWord : (Tryd.prog.info? 72).map (fun i => (i.zero, i.size, i.bytes)) = some (some (.int .u32 0), 1, 4) := by kernel_rfl

set_option maxRecDepth 4096 in
set_option maxHeartbeats 400000 in
theorem ref02_norm_own (a : Option Addr) (n cap : Nat) (l : List Nat) (w : World) (h : Wd w a n cap l) (hn : n ≤ 16777216) :
    Calls Tryd.prog 32 #[.slice a n cap] w fun e w' => ∃ (a' : Option Addr) (n' cap' : Nat), e = .returned (.slice a' n' cap') ∧ w'.ownsRow w.heap.size 72 1 (.slice a' n' cap') n' (wcells (dg (val l))) ∧ Below w.heap.size w w' := by
  obtain ⟨hb1, hb2⟩ := h.bound
  have H := Lib.hid h
  clear h
  go_enter Tryd.func32, Tryd.ntmps32
  go_wp2
  go_loop [3] (fun i => ∃ k : Nat, k ≤ n ∧ i = .int .i64 k ∧ Hid (top l k = 0)) (fun i => (intOf i).toNat)
  case atStart => exact ⟨n, by omega, rfl, Lib.hid (top_ge (by have := H.out.len; omega))⟩
  case round =>
    obtain ⟨k, hk, rfl, Ht⟩ := hrel
    cases k with
    | zero =>
      have hv : val l = 0 := by rw [← top_zero]; exact Ht.out
      have Hv := Lib.hid hv
      clear hv
      obtain ⟨i0, hi, hz0, hz1, hz2⟩ := info_parts infoWord
      cases a with
      | none =>
        obtain ⟨rfl, rfl, rfl⟩ := H.out.ofNone
        go_wp2_with (at_builtin; refine wpList_append_own_none rfl _ _ 22 rfl w.heap.size 72 i0 1 Tryd.underlying22 hi _ 0 [] rfl (World.ownsRow_lit w #[] 0 (Nat.le_refl _) (by decide) rfl) rfl ?_)
        go_ret
        exact ⟨_, _, _, rfl, by rw [Hv.out, dg_zero]; exact World.ownsRow_lit w #[] 0 (Nat.le_refl _) (by decide) rfl, (Below.refl _ _).alloc (Nat.le_refl _) _⟩
      | some ad =>
        go_wp2_with (at_builtin; refine wpList_append_own _ rfl _ _ 22 rfl w.heap.size 72 i0 (.int .u32 0) 1 4 Tryd.underlying22 hi hz0 hz1 hz2 rfl (by decide) _ 0 [] rfl (World.ownsRow_lit w #[] 0 (Nat.le_refl _) (by decide) rfl) ad 0 cap [] rfl rfl (by intro j u hu; simp at hu) (by intro u hu; simp at hu) (by decide) (by decide) (by simp) ?_)
        intro v' w1 hown hgrow _
        obtain ⟨a', cap', rfl⟩ := own_slice hown
        go_wp2
        go_ret
        refine ⟨a', 0, cap', rfl, ?_, ?_⟩
        · rw [Hv.out, dg_zero]; exact hown
        · exact ((Below.refl _ _).alloc (Nat.le_refl _) _).grown hgrow (by simp) (by intro k hk; simp [Value.ownBlock] at hk; omega)
    | succ k =>
      obtain ⟨b, off, rfl, hc⟩ := H.out.at (by omega)
      have hck := hc k (by omega)
      clear hc
      by_cases hz : atw l k = 0
      · have hzb : (((atw l k : Nat) : Int) == 0) = true := by simp [hz]
        have Hz := Lib.hid hz
        clear hz
        go_wp2
        go_round
        case rel => exact ⟨k, by omega, by go_num, Lib.hid (by rw [top_succ, Hz.out, Ht.out])⟩
        case measure => simp [intOf]
      · have hzb : (((atw l k : Nat) : Int) == 0) = false := by simp [hz]
        have Hz := Lib.hid hz
        clear hz
        obtain ⟨i0, hi, hz0, hz1, hz2⟩ := info_parts infoWord
        have hT := H.out.take hk
        have hTl : (l.take (k + 1)).length = k + 1 := hT.len
        have hR : l.take (k + 1) = dg (val l) := take_right (by rw [H.out.len]; exact hk) H.out.ok Ht.out (.inr (by simpa using Hz.out))
        have HR := Lib.hid hR
        have HT := Lib.hid hT
        have HTl := Lib.hid hTl
        clear hT hR hTl
        go_wp2_with (at_builtin; refine wpList_append_own _ rfl _ _ 22 rfl w.heap.size 72 i0 (.int .u32 0) 1 4 Tryd.underlying22 hi hz0 hz1 hz2 rfl (by decide) _ 0 [] rfl (World.ownsRow_lit w #[] 0 (Nat.le_refl _) (by decide) rfl) ⟨b, off, none⟩ (k + 1) cap (wcells (l.take (k + 1))) rfl (by rw [wcells_length, HTl.out, Nat.mul_one]) (HT.out.later ((Below.refl _ _).alloc (Nat.le_refl _) _)).cells (wcells_one _) (by unfold maxLen; omega) (by omega) (by simp) ?_)
        intro v' w1 hown hgrow _
        obtain ⟨a', cap', rfl⟩ := own_slice hown
        go_wp2
        go_ret
        refine ⟨a', _, cap', rfl, ?_, ?_⟩
        · rw [← HR.out]; simpa using hown
        · exact ((Below.refl _ _).alloc (Nat.le_refl _) _).grown hgrow (by simp) (by intro k hk; simp [Value.ownBlock] at hk; omega)
theorem ref02_norm (a : Option Addr) (n cap : Nat) (l : List Nat) (w : World) (h : Wd w a n cap l) (hn : n ≤ 16777216) :
    Calls Tryd.prog 32 #[.slice a n cap] w fun e w' => ∃ (a' : Option Addr) (n' cap' : Nat), e = .returned (.slice a' n' cap') ∧ Wd w' a' n' cap' (dg (val l)) ∧ Below w.heap.size w w' :=
  (ref02_norm_own a n cap l w h hn).mono fun _ _ ⟨a', n', c', he, ho, hB⟩ => ⟨a', n', c', he, Wd.own ho (okw_dg _), hB⟩
set_option maxRecDepth 4096 in
set_option maxHeartbeats 2000000 in
theorem ref02_add (a : Option Addr) (n cap : Nat) (la : List Nat) (b : Option Addr) (m cap' : Nat) (lb : List Nat) (w : World) (ha : Wd w a n cap la) (hb : Wd w b m cap' lb) (hn : n ≤ 16777214) (hm : m ≤ 16777214) :
    Calls Tryd.prog 33 #[.slice a n cap, .slice b m cap'] w fun e w' => ∃ (a' : Option Addr) (n' cap' : Nat), e = .returned (.slice a' n' cap') ∧ Wd w' a' n' cap' (dg (val la + val lb)) ∧ Below w.heap.size w w' := by
  obtain ⟨i0, hi, hz0, hz1, hz2⟩ := info_parts infoWord
  have Ha := Lib.hid ha
  have Hb := Lib.hid hb
  clear ha hb
  by_cases hnm : n < m
  · skip
    go_enter Tryd.func33, Tryd.ntmps33
    go_wp2_with (at_make; refine wpList_make_full _ rfl _ _ 22 rfl w.heap.size 72 i0 (.int .u32 0) 1 Tryd.underlying22 hi hz0 hz1 .i64 .i64 _ _ (m + 1) rfl rfl (by omega) (by omega) (by rw [hz2]; omega) (by unfold maxLen; omega) (Nat.le_refl _) ?_; intro w1 hown1 hgrow1)
    rw [wcells_made] at hown1
    have Hown1 := Lib.hid hown1
    have hB1 : Below w.heap.size w w1 := (Below.refl _ _).grown hgrow1 (Nat.le_refl _) (fun k hk => by cases hk)
    clear hown1 hgrow1
    go_loopw [7, 8] (fun s i wr => ∃ (k sn : Nat) (o : List Nat), k ≤ m + 1 ∧ i = .int .i64 k ∧ s = .int .u64 sn ∧ sn ≤ 1 ∧ Hid (o.length = k) ∧ okw o ∧ Hid (val o + 4294967296 ^ k * sn = low la k + low lb k) ∧
        Hid (wr.ownsRow w.heap.size 72 1 (.slice (some ⟨w.heap.size, 0, none⟩) (m + 1) (m + 1)) (m + 1) (wcells (o ++ List.replicate (m + 1 - k) 0))) ∧ Below w.heap.size w wr) (fun _ i _ => m + 1 - (intOf i).toNat)
    case atStart => exact ⟨0, 0, [], by omega, rfl, rfl, by omega, Lib.hid rfl, okw_nil, Lib.hid (by rw [low_zero, low_zero]; rfl), Hown1, hB1⟩
    case round =>
      obtain ⟨k, sn, o, hk, rfl, rfl, hsn, Ho, hok, Hv, Hown, hB⟩ := hrel
      by_cases hlt : k < m + 1
      · have HaW := Lib.hid (Ha.out.later hB)
        have HbW := Lib.hid (Hb.out.later hB)
        have hcell : wr.cell? ⟨w.heap.size, k, none⟩ = some (.int .u32 ((atw (o ++ List.replicate (m + 1 - k) 0) k : Nat) : Int)) := (Hown.out.cellAt k (by omega)).trans (wcells_at (by have := Ho.out; simp; omega))
        have hfro : wr.frozen? ⟨w.heap.size, k, none⟩ = false := Hown.out.frozenAt k
        generalize atw (o ++ List.replicate (m + 1 - k) 0) k = old at hcell
        have hxa := atw_lt Ha.out.ok k
        have hxb := atw_lt Hb.out.ok k
        have hk1 : (k : Int) < (m : Int) + 1 := by omega
        obtain ⟨x, hx⟩ : ∃ x, x = atw la k := ⟨_, rfl⟩
        obtain ⟨y, hy⟩ : ∃ y, y = atw lb k := ⟨_, rfl⟩
        rw [← hx] at hxa
        rw [← hy] at hxb
        have Hx := Lib.hid hx
        have Hy := Lib.hid hy
        clear hx hy
        go_wp2_with (first | (go_at_call 58; (with_reducible refine (ref02_at a n cap k la _ HaW.out (by omega)).mono ?_); rintro e w' ⟨rfl, rfl⟩; rw [← Hx.out]) | (go_at_call 58; (with_reducible refine (ref02_at b m cap' k lb _ HbW.out (by omega)).mono ?_); rintro e w' ⟨rfl, rfl⟩; rw [← Hy.out]))
        go_roundw
        case rel =>
          obtain ⟨h1, h2⟩ := Hown.out.stored k (.int .u32 (((sn + (x + y)) % 4294967296 : Nat) : Int))
          rw [wcells_set, set_next o (m + 1) k _ Ho.out hlt] at h1
          refine ⟨k + 1, (sn + (x + y)) / 4294967296, o ++ [(sn + (x + y)) % 4294967296], by omega, by go_num, by go_num, by omega, Lib.hid (by have := Ho.out; simp; omega), okw_snoc hok (by omega), Lib.hid (add_step Ho.out Hv.out (by rw [Hx.out, Hy.out])), ?_, ?_⟩
          · exact Lib.hid (by simpa using h1)
          · exact hB.setCell (Nat.le_refl _) _
        case measure => simp [intOf]; omega
      · have hkn : k = m + 1 := by omega
        subst hkn
        have hown := Hown.out
        rw [Nat.sub_self, List.replicate_zero, List.append_nil] at hown
        have HW := Lib.hid (Wd.own hown hok)
        have Hfin := Lib.hid (add_end (N := m) Ha.out.ok Hb.out.ok (by rw [Ha.out.len]; omega) (by rw [Hb.out.len]; omega) Ho.out Hv.out)
        clear hown
        go_wp2_with (go_at_call 32; (refine (ref02_norm _ _ _ _ _ HW.out (by omega)).mono ?_); rintro e w' ⟨a', n', c', rfl, hwd, hbel⟩)
        go_ret
        exact ⟨a', n', c', rfl, by rw [Hfin.out] at hwd; exact hwd, hB.trans (hbel.mono hB.size)⟩
  · skip
    go_enter Tryd.func33, Tryd.ntmps33
    go_wp2_with (at_make; refine wpList_make_full _ rfl _ _ 22 rfl w.heap.size 72 i0 (.int .u32 0) 1 Tryd.underlying22 hi hz0 hz1 .i64 .i64 _ _ (n + 1) rfl rfl (by omega) (by omega) (by rw [hz2]; omega) (by unfold maxLen; omega) (Nat.le_refl _) ?_; intro w1 hown1 hgrow1)
    rw [wcells_made] at hown1
    have Hown1 := Lib.hid hown1
    have hB1 : Below w.heap.size w w1 := (Below.refl _ _).grown hgrow1 (Nat.le_refl _) (fun k hk => by cases hk)
    clear hown1 hgrow1
    go_loopw [7, 8] (fun s i wr => ∃ (k sn : Nat) (o : List Nat), k ≤ n + 1 ∧ i = .int .i64 k ∧ s = .int .u64 sn ∧ sn ≤ 1 ∧ Hid (o.length = k) ∧ okw o ∧ Hid (val o + 4294967296 ^ k * sn = low la k + low lb k) ∧
        Hid (wr.ownsRow w.heap.size 72 1 (.slice (some ⟨w.heap.size, 0, none⟩) (n + 1) (n + 1)) (n + 1) (wcells (o ++ List.replicate (n + 1 - k) 0))) ∧ Below w.heap.size w wr) (fun _ i _ => n + 1 - (intOf i).toNat)
    case atStart => exact ⟨0, 0, [], by omega, rfl, rfl, by omega, Lib.hid rfl, okw_nil, Lib.hid (by rw [low_zero, low_zero]; rfl), Hown1, hB1⟩
    case round =>
      obtain ⟨k, sn, o, hk, rfl, rfl, hsn, Ho, hok, Hv, Hown, hB⟩ := hrel
      by_cases hlt : k < n + 1
      · have HaW := Lib.hid (Ha.out.later hB)
        have HbW := Lib.hid (Hb.out.later hB)
        have hcell : wr.cell? ⟨w.heap.size, k, none⟩ = some (.int .u32 ((atw (o ++ List.replicate (n + 1 - k) 0) k : Nat) : Int)) := (Hown.out.cellAt k (by omega)).trans (wcells_at (by have := Ho.out; simp; omega))
        have hfro : wr.frozen? ⟨w.heap.size, k, none⟩ = false := Hown.out.frozenAt k
        generalize atw (o ++ List.replicate (n + 1 - k) 0) k = old at hcell
        have hxa := atw_lt Ha.out.ok k
        have hxb := atw_lt Hb.out.ok k
        have hk1 : (k : Int) < (n : Int) + 1 := by omega
        obtain ⟨x, hx⟩ : ∃ x, x = atw la k := ⟨_, rfl⟩
        obtain ⟨y, hy⟩ : ∃ y, y = atw lb k := ⟨_, rfl⟩
        rw [← hx] at hxa
        rw [← hy] at hxb
        have Hx := Lib.hid hx
        have Hy := Lib.hid hy
        clear hx hy
        go_wp2_with (first | (go_at_call 58; (with_reducible refine (ref02_at a n cap k la _ HaW.out (by omega)).mono ?_); rintro e w' ⟨rfl, rfl⟩; rw [← Hx.out]) | (go_at_call 58; (with_reducible refine (ref02_at b m cap' k lb _ HbW.out (by omega)).mono ?_); rintro e w' ⟨rfl, rfl⟩; rw [← Hy.out]))
        go_roundw
        case rel =>
          obtain ⟨h1, h2⟩ := Hown.out.stored k (.int .u32 (((sn + (x + y)) % 4294967296 : Nat) : Int))
          rw [wcells_set, set_next o (n + 1) k _ Ho.out hlt] at h1
          refine ⟨k + 1, (sn + (x + y)) / 4294967296, o ++ [(sn + (x + y)) % 4294967296], by omega, by go_num, by go_num, by omega, Lib.hid (by have := Ho.out; simp; omega), okw_snoc hok (by omega), Lib.hid (add_step Ho.out Hv.out (by rw [Hx.out, Hy.out])), ?_, ?_⟩
          · exact Lib.hid (by simpa using h1)
          · exact hB.setCell (Nat.le_refl _) _
        case measure => simp [intOf]; omega
      · have hkn : k = n + 1 := by omega
        subst hkn
        have hown := Hown.out
        rw [Nat.sub_self, List.replicate_zero, List.append_nil] at hown
        have HW := Lib.hid (Wd.own hown hok)
        have Hfin := Lib.hid (add_end (N := n) Ha.out.ok Hb.out.ok (by rw [Ha.out.len]; omega) (by rw [Hb.out.len]; omega) Ho.out Hv.out)
        clear hown
        go_wp2_with (go_at_call 32; (refine (ref02_norm _ _ _ _ _ HW.out (by omega)).mono ?_); rintro e w' ⟨a', n', c', rfl, hwd, hbel⟩)
        go_ret
        exact ⟨a', n', c', rfl, by rw [Hfin.out] at hwd; exact hwd, hB.trans (hbel.mono hB.size)⟩
set_option maxRecDepth 100000 in
set_option maxHeartbeats 4000000 in
theorem ref02_sub (a : Option Addr) (n cap : Nat) (la : List Nat) (b : Option Addr) (m cap' : Nat) (lb : List Nat) (w : World) (ha : Wd w a n cap la) (hb : Wd w b m cap' lb) (hn : n ≤ 16777214) (hm : m ≤ 16777214) (hle : Hid (val lb ≤ val la)) :
    Calls Tryd.prog 35 #[.slice a n cap, .slice b m cap'] w fun e w' => ∃ (a' : Option Addr) (n' cap' : Nat), e = .returned (.slice a' n' cap') ∧ Wd w' a' n' cap' (dg (val la - val lb)) ∧ Below w.heap.size w w' := by
  obtain ⟨i0, hi, hz0, hz1, hz2⟩ := info_parts infoWord
  have Ha := Lib.hid ha
  have Hb := Lib.hid hb
  clear ha hb
  by_cases hnm : n < m
  · skip
    go_enter Tryd.func35, Tryd.ntmps35
    go_wp2_with (at_make; refine wpList_make_full _ rfl _ _ 22 rfl w.heap.size 72 i0 (.int .u32 0) 1 Tryd.underlying22 hi hz0 hz1 .i64 .i64 _ _ m rfl rfl (by omega) (by omega) (by rw [hz2]; omega) (by unfold maxLen; omega) (Nat.le_refl _) ?_; intro w1 hown1 hgrow1)
    rw [wcells_made] at hown1
    have Hown1 := Lib.hid hown1
    have hB1 : Below w.heap.size w w1 := (Below.refl _ _).grown hgrow1 (Nat.le_refl _) (fun k hk => by cases hk)
    clear hown1 hgrow1
    go_loopw [7, 8] (fun s i wr => ∃ (k sn : Nat) (o : List Nat), k ≤ m ∧ i = .int .i64 k ∧ s = .int .u64 sn ∧ sn ≤ 1 ∧ Hid (o.length = k) ∧ okw o ∧ Hid (low la k + 4294967296 ^ k * sn = low lb k + val o) ∧
        Hid (wr.ownsRow w.heap.size 72 1 (.slice (some ⟨w.heap.size, 0, none⟩) m m) m (wcells (o ++ List.replicate (m - k) 0))) ∧ Below w.heap.size w wr) (fun _ i _ => m - (intOf i).toNat)
    case atStart => exact ⟨0, 0, [], by omega, rfl, rfl, by omega, Lib.hid rfl, okw_nil, Lib.hid (by rw [low_zero, low_zero]; rfl), Hown1, hB1⟩
    case round =>
      obtain ⟨k, sn, o, hk, rfl, rfl, hsn, Ho, hok, Hv, Hown, hB⟩ := hrel
      by_cases hlt : k < m
      · have HaW := Lib.hid (Ha.out.later hB)
        have HbW := Lib.hid (Hb.out.later hB)
        have hcell : wr.cell? ⟨w.heap.size, k, none⟩ = some (.int .u32 ((atw (o ++ List.replicate (m - k) 0) k : Nat) : Int)) := (Hown.out.cellAt k (by omega)).trans (wcells_at (by have := Ho.out; simp; omega))
        have hfro : wr.frozen? ⟨w.heap.size, k, none⟩ = false := Hown.out.frozenAt k
        generalize atw (o ++ List.replicate (m - k) 0) k = old at hcell
        have hxa := atw_lt Ha.out.ok k
        have hxb := atw_lt Hb.out.ok k
        have hk1 : (k : Int) < (m : Int) := by omega
        obtain ⟨x, hx⟩ : ∃ x, x = atw la k := ⟨_, rfl⟩
        obtain ⟨y, hy⟩ : ∃ y, y = atw lb k := ⟨_, rfl⟩
        rw [← hx] at hxa
        rw [← hy] at hxb
        have Hx := Lib.hid hx
        have Hy := Lib.hid hy
        clear hx hy
        have Hset := fun r => Hown.out.stored k (.int .u32 ((r : Nat) : Int))
        by_cases hxy : x < y + sn
        · have hxyi : (x : Int) < (y : Int) + (sn : Int) := by omega
          go_wp2_with (first | (go_at_call 58; (with_reducible refine (ref02_at a n cap k la _ HaW.out (by omega)).mono ?_); rintro e w' ⟨rfl, rfl⟩; rw [← Hx.out]) | (go_at_call 58; (with_reducible refine (ref02_at b m cap' k lb _ HbW.out (by omega)).mono ?_); rintro e w' ⟨rfl, rfl⟩; rw [← Hy.out]))
          go_roundw
          case rel =>
            obtain ⟨h1, h2⟩ := Hset (x + 4294967296 - (y + sn))
            rw [wcells_set, set_next o m k _ Ho.out hlt] at h1
            have e : (((x + 4294967296 - (y + sn) : Nat)) : Int) = (x : Int) + 4294967296 - ((y : Int) + (sn : Int)) := by omega
            rw [e] at h1
            exact ⟨k + 1, 1, o ++ [x + 4294967296 - (y + sn)], by omega, by go_num, rfl, by omega, Lib.hid (by have := Ho.out; simp; omega), okw_snoc hok (by omega), Lib.hid (sub_step Ho.out Hv.out (by rw [← Hx.out, ← Hy.out]; omega)), Lib.hid h1, hB.setCell (Nat.le_refl _) _⟩
          case measure => simp [intOf]; omega
        · have hxyi : (y : Int) + (sn : Int) ≤ (x : Int) := by omega
          go_wp2_with (first | (go_at_call 58; (with_reducible refine (ref02_at a n cap k la _ HaW.out (by omega)).mono ?_); rintro e w' ⟨rfl, rfl⟩; rw [← Hx.out]) | (go_at_call 58; (with_reducible refine (ref02_at b m cap' k lb _ HbW.out (by omega)).mono ?_); rintro e w' ⟨rfl, rfl⟩; rw [← Hy.out]))
          go_roundw
          case rel =>
            obtain ⟨h1, h2⟩ := Hset (x - (y + sn))
            rw [wcells_set, set_next o m k _ Ho.out hlt] at h1
            have e : (((x - (y + sn) : Nat)) : Int) = (x : Int) - ((y : Int) + (sn : Int)) := by omega
            rw [e] at h1
            exact ⟨k + 1, 0, o ++ [x - (y + sn)], by omega, by go_num, rfl, by omega, Lib.hid (by have := Ho.out; simp; omega), okw_snoc hok (by omega), Lib.hid (sub_step Ho.out Hv.out (by rw [← Hx.out, ← Hy.out]; omega)), Lib.hid h1, hB.setCell (Nat.le_refl _) _⟩
          case measure => simp [intOf]; omega
      · have hkn : k = m := by omega
        subst hkn
        have hown := Hown.out
        rw [Nat.sub_self, List.replicate_zero, List.append_nil] at hown
        have HW := Lib.hid (Wd.own hown hok)
        have Hfin := Lib.hid (sub_end hle.out (by rw [Ha.out.len]; omega) (by rw [Hb.out.len]; omega) Ho.out hok Hv.out)
        clear hown
        go_wp2_with (go_at_call 32; (refine (ref02_norm _ _ _ _ _ HW.out (by omega)).mono ?_); rintro e w' ⟨a', n', c', rfl, hwd, hbel⟩)
        go_ret
        exact ⟨a', n', c', rfl, by rw [Hfin.out] at hwd; exact hwd, hB.trans (hbel.mono hB.size)⟩
  · skip
    go_enter Tryd.func35, Tryd.ntmps35
    go_wp2_with (at_make; refine wpList_make_full _ rfl _ _ 22 rfl w.heap.size 72 i0 (.int .u32 0) 1 Tryd.underlying22 hi hz0 hz1 .i64 .i64 _ _ n rfl rfl (by omega) (by omega) (by rw [hz2]; omega) (by unfold maxLen; omega) (Nat.le_refl _) ?_; intro w1 hown1 hgrow1)
    rw [wcells_made] at hown1
    have Hown1 := Lib.hid hown1
    have hB1 : Below w.heap.size w w1 := (Below.refl _ _).grown hgrow1 (Nat.le_refl _) (fun k hk => by cases hk)
    clear hown1 hgrow1
    go_loopw [7, 8] (fun s i wr => ∃ (k sn : Nat) (o : List Nat), k ≤ n ∧ i = .int .i64 k ∧ s = .int .u64 sn ∧ sn ≤ 1 ∧ Hid (o.length = k) ∧ okw o ∧ Hid (low la k + 4294967296 ^ k * sn = low lb k + val o) ∧
        Hid (wr.ownsRow w.heap.size 72 1 (.slice (some ⟨w.heap.size, 0, none⟩) n n) n (wcells (o ++ List.replicate (n - k) 0))) ∧ Below w.heap.size w wr) (fun _ i _ => n - (intOf i).toNat)
    case atStart => exact ⟨0, 0, [], by omega, rfl, rfl, by omega, Lib.hid rfl, okw_nil, Lib.hid (by rw [low_zero, low_zero]; rfl), Hown1, hB1⟩
    case round =>
      obtain ⟨k, sn, o, hk, rfl, rfl, hsn, Ho, hok, Hv, Hown, hB⟩ := hrel
      by_cases hlt : k < n
      · have HaW := Lib.hid (Ha.out.later hB)
        have HbW := Lib.hid (Hb.out.later hB)
        have hcell : wr.cell? ⟨w.heap.size, k, none⟩ = some (.int .u32 ((atw (o ++ List.replicate (n - k) 0) k : Nat) : Int)) := (Hown.out.cellAt k (by omega)).trans (wcells_at (by have := Ho.out; simp; omega))
        have hfro : wr.frozen? ⟨w.heap.size, k, none⟩ = false := Hown.out.frozenAt k
        generalize atw (o ++ List.replicate (n - k) 0) k = old at hcell
        have hxa := atw_lt Ha.out.ok k
        have hxb := atw_lt Hb.out.ok k
        have hk1 : (k : Int) < (n : Int) := by omega
        obtain ⟨x, hx⟩ : ∃ x, x = atw la k := ⟨_, rfl⟩
        obtain ⟨y, hy⟩ : ∃ y, y = atw lb k := ⟨_, rfl⟩
        rw [← hx] at hxa
        rw [← hy] at hxb
        have Hx := Lib.hid hx
        have Hy := Lib.hid hy
        clear hx hy
        have Hset := fun r => Hown.out.stored k (.int .u32 ((r : Nat) : Int))
        by_cases hxy : x < y + sn
        · have hxyi : (x : Int) < (y : Int) + (sn : Int) := by omega
          go_wp2_with (first | (go_at_call 58; (with_reducible refine (ref02_at a n cap k la _ HaW.out (by omega)).mono ?_); rintro e w' ⟨rfl, rfl⟩; rw [← Hx.out]) | (go_at_call 58; (with_reducible refine (ref02_at b m cap' k lb _ HbW.out (by omega)).mono ?_); rintro e w' ⟨rfl, rfl⟩; rw [← Hy.out]))
          go_roundw
          case rel =>
            obtain ⟨h1, h2⟩ := Hset (x + 4294967296 - (y + sn))
            rw [wcells_set, set_next o n k _ Ho.out hlt] at h1
            have e : (((x + 4294967296 - (y + sn) : Nat)) : Int) = (x : Int) + 4294967296 - ((y : Int) + (sn : Int)) := by omega
            rw [e] at h1
            exact ⟨k + 1, 1, o ++ [x + 4294967296 - (y + sn)], by omega, by go_num, rfl, by omega, Lib.hid (by have := Ho.out; simp; omega), okw_snoc hok (by omega), Lib.hid (sub_step Ho.out Hv.out (by rw [← Hx.out, ← Hy.out]; omega)), Lib.hid h1, hB.setCell (Nat.le_refl _) _⟩
          case measure => simp [intOf]; omega
        · have hxyi : (y : Int) + (sn : Int) ≤ (x : Int) := by omega
          go_wp2_with (first | (go_at_call 58; (with_reducible refine (ref02_at a n cap k la _ HaW.out (by omega)).mono ?_); rintro e w' ⟨rfl, rfl⟩; rw [← Hx.out]) | (go_at_call 58; (with_reducible refine (ref02_at b m cap' k lb _ HbW.out (by omega)).mono ?_); rintro e w' ⟨rfl, rfl⟩; rw [← Hy.out]))
          go_roundw
          case rel =>
            obtain ⟨h1, h2⟩ := Hset (x - (y + sn))
            rw [wcells_set, set_next o n k _ Ho.out hlt] at h1
            have e : (((x - (y + sn) : Nat)) : Int) = (x : Int) - ((y : Int) + (sn : Int)) := by omega
            rw [e] at h1
            exact ⟨k + 1, 0, o ++ [x - (y + sn)], by omega, by go_num, rfl, by omega, Lib.hid (by have := Ho.out; simp; omega), okw_snoc hok (by omega), Lib.hid (sub_step Ho.out Hv.out (by rw [← Hx.out, ← Hy.out]; omega)), Lib.hid h1, hB.setCell (Nat.le_refl _) _⟩
          case measure => simp [intOf]; omega
      · have hkn : k = n := by omega
        subst hkn
        have hown := Hown.out
        rw [Nat.sub_self, List.replicate_zero, List.append_nil] at hown
        have HW := Lib.hid (Wd.own hown hok)
        have Hfin := Lib.hid (sub_end hle.out (by rw [Ha.out.len]; omega) (by rw [Hb.out.len]; omega) Ho.out hok Hv.out)
        clear hown
        go_wp2_with (go_at_call 32; (refine (ref02_norm _ _ _ _ _ HW.out (by omega)).mono ?_); rintro e w' ⟨a', n', c', rfl, hwd, hbel⟩)
        go_ret
        exact ⟨a', n', c', rfl, by rw [Hfin.out] at hwd; exact hwd, hB.trans (hbel.mono hB.size)⟩
set_option maxRecDepth 4096 in
set_option maxHeartbeats 2000000 in
theorem ref02_cmp (a : Option Addr) (n cap : Nat) (la : List Nat) (b : Option Addr) (m cap' : Nat) (lb : List Nat) (w : World) (ha : Wd w a n cap la) (hb : Wd w b m cap' lb) (hn : n ≤ 16777214) (hm : m ≤ 16777214) :
    Calls Tryd.prog 34 #[.slice a n cap, .slice b m cap'] w fun e w' => e = .returned (.int .i64 (cmpI (val la) (val lb))) ∧ w = w' := by
  have Ha := Lib.hid ha
  have Hb := Lib.hid hb
  clear ha hb
  by_cases hnm : n < m
  · skip
    go_enter Tryd.func34, Tryd.ntmps34
    go_wp2
    go_loop [5] (fun i => ∃ k : Nat, k ≤ m ∧ i = .int .i64 ((k : Int) - 1) ∧ Hid (top la k = top lb k)) (fun i => (intOf i + 1).toNat)
    case atStart => exact ⟨m, by omega, by go_num, Lib.hid (by rw [top_ge (by rw [Ha.out.len]; omega), top_ge (by rw [Hb.out.len]; omega)])⟩
    case round =>
      obtain ⟨k, hk, rfl, Ht⟩ := hrel
      cases k with
      | zero =>
        have hv : val la = val lb := by rw [← top_zero, ← top_zero]; exact Ht.out
        have Hfin := Lib.hid (cmpI_eq hv)
        clear hv
        go_wp2
        go_ret
        exact ⟨ret_i64 Hfin.out.symm, rfl⟩
      | succ k =>
        have e1 : ((k + 1 : Nat) : Int) - 1 = (k : Int) := by omega
        rw [e1]
        clear e1
        have hxa := atw_lt Ha.out.ok k
        have hxb := atw_lt Hb.out.ok k
        obtain ⟨x, hx⟩ : ∃ x, x = atw la k := ⟨_, rfl⟩
        obtain ⟨y, hy⟩ : ∃ y, y = atw lb k := ⟨_, rfl⟩
        rw [← hx] at hxa
        rw [← hy] at hxb
        have Hx := Lib.hid hx
        have Hy := Lib.hid hy
        clear hx hy
        go_wp2_with (first | (go_at_call 58; (with_reducible refine (ref02_at a n cap k la _ Ha.out (by omega)).mono ?_); rintro e w' ⟨rfl, rfl⟩; rw [← Hx.out]) | (go_at_call 58; (with_reducible refine (ref02_at b m cap' k lb _ Hb.out (by omega)).mono ?_); rintro e w' ⟨rfl, rfl⟩; rw [← Hy.out]))
        · go_ret
          have h : x < y := by omega
          exact ⟨ret_i64 (cmpI_lt (cmp_lt Ha.out.ok Ht.out (by rw [← Hx.out, ← Hy.out]; exact h))).symm, rfl⟩
        · go_ret
          have h : y < x := by omega
          exact ⟨ret_i64 (cmpI_gt (cmp_lt Hb.out.ok Ht.out.symm (by rw [← Hx.out, ← Hy.out]; exact h))).symm, rfl⟩
        · go_round
          case rel =>
            have h : x = y := by omega
            exact ⟨k, by omega, by go_num, Lib.hid (top_eq Ht.out (by rw [← Hx.out, ← Hy.out]; exact h))⟩
          case measure => simp [intOf]
  · skip
    go_enter Tryd.func34, Tryd.ntmps34
    go_wp2
    go_loop [5] (fun i => ∃ k : Nat, k ≤ n ∧ i = .int .i64 ((k : Int) - 1) ∧ Hid (top la k = top lb k)) (fun i => (intOf i + 1).toNat)
    case atStart => exact ⟨n, by omega, by go_num, Lib.hid (by rw [top_ge (by rw [Ha.out.len]; omega), top_ge (by rw [Hb.out.len]; omega)])⟩
    case round =>
      obtain ⟨k, hk, rfl, Ht⟩ := hrel
      cases k with
      | zero =>
        have hv : val la = val lb := by rw [← top_zero, ← top_zero]; exact Ht.out
        have Hfin := Lib.hid (cmpI_eq hv)
        clear hv
        go_wp2
        go_ret
        exact ⟨ret_i64 Hfin.out.symm, rfl⟩
      | succ k =>
        have e1 : ((k + 1 : Nat) : Int) - 1 = (k : Int) := by omega
        rw [e1]
        clear e1
        have hxa := atw_lt Ha.out.ok k
        have hxb := atw_lt Hb.out.ok k
        obtain ⟨x, hx⟩ : ∃ x, x = atw la k := ⟨_, rfl⟩
        obtain ⟨y, hy⟩ : ∃ y, y = atw lb k := ⟨_, rfl⟩
        rw [← hx] at hxa
        rw [← hy] at hxb
        have Hx := Lib.hid hx
        have Hy := Lib.hid hy
        clear hx hy
        go_wp2_with (first | (go_at_call 58; (with_reducible refine (ref02_at a n cap k la _ Ha.out (by omega)).mono ?_); rintro e w' ⟨rfl, rfl⟩; rw [← Hx.out]) | (go_at_call 58; (with_reducible refine (ref02_at b m cap' k lb _ Hb.out (by omega)).mono ?_); rintro e w' ⟨rfl, rfl⟩; rw [← Hy.out]))
        · go_ret
          have h : x < y := by omega
          exact ⟨ret_i64 (cmpI_lt (cmp_lt Ha.out.ok Ht.out (by rw [← Hx.out, ← Hy.out]; exact h))).symm, rfl⟩
        · go_ret
          have h : y < x := by omega
          exact ⟨ret_i64 (cmpI_gt (cmp_lt Hb.out.ok Ht.out.symm (by rw [← Hx.out, ← Hy.out]; exact h))).symm, rfl⟩
        · go_round
          case rel =>
            have h : x = y := by omega
            exact ⟨k, by omega, by go_num, Lib.hid (top_eq Ht.out (by rw [← Hx.out, ← Hy.out]; exact h))⟩
          case measure => simp [intOf]
end Go.Proofs.YtiblojmdgjnfbaaDoor

/-
  The contracts of the document's answer for layer 8: Norm, Same, Sign, Neg.
-/
namespace Go.Proofs.YtiblojmdgjnfbaaDoor
open Go.RowKit

theorem ref08_norm (neg : Bool) (a : Option Addr) (n cap : Nat) (l : List Nat) (w : World) (h : Wd w a n cap l) (hn : n ≤ 16777214) :
    Calls Tryd.prog 15 #[whV neg a n cap] w (LstZ (zval neg (val l)) w) := by
  have H := Lib.hid h
  clear h
  unfold whV
  go_enter Tryd.func15, Tryd.ntmps15
  go_wp2_with fail
  refine (ref02_norm _ _ _ _ _ (H.out.later (below_then (below_alloc _ _) (below_alloc _ _))) (by omega)).mono ?_
  rintro e w1 ⟨a1, n1, c1, rfl, h1, b1⟩
  have hA : w1.heap[w.heap.size]? = some (.cells #[.bool neg, .slice a n cap] 24 (0, 0)) := blk_later (blk_later (blk_new w _ _) (below_alloc _ _)) b1
  have hR : w1.heap[w.heap.size + 1]? = some (.cells #[.bool false, .slice none 0 0] 24 (0, 0)) := by
    have h2 := blk_new (w.alloc (.cells #[.bool neg, .slice a n cap] 24)) #[.bool false, .slice none 0 0] 24
    rw [blk_size] at h2
    exact blk_later h2 b1
  have hA0 := blk_cell hA 0
  have hR0 := blk_cell hR 0
  have hR1 := blk_cell hR 1
  have hF0 := blk_free hR 0
  have hF1 := blk_free hR 1
  have HR := Lib.hid hR
  have H1 := Lib.hid h1
  have hB := Lib.hid (below_then (below_alloc _ _) (below_then (below_alloc _ _) b1))
  clear hA hR h1 b1
  simp only [List.getElem?_toArray, List.getElem?_cons_zero, List.getElem?_cons_succ] at hA0 hR0 hR1
  have HS2 : Hid (∀ b : Bool, Wd ((w1.setCell ⟨w.heap.size + 1, 0, none⟩ (.bool b)).setCell ⟨w.heap.size + 1, 1, none⟩ (.slice a1 n1 c1)) a1 n1 c1 (dg (val l))) := Lib.hid (fun b => H1.out.stored2 HR.out b _)
  have HG2 : Hid (∀ b : Bool, ((w1.setCell ⟨w.heap.size + 1, 0, none⟩ (.bool b)).setCell ⟨w.heap.size + 1, 1, none⟩ (.slice a1 n1 c1)).heap[w.heap.size + 1]? = some (.cells #[.bool b, .slice a1 n1 c1] 24 (0, 0))) := Lib.hid (fun b => blk_set2 HR.out _ _)
  have HB2 : Hid (∀ b : Bool, Below w.heap.size w ((w1.setCell ⟨w.heap.size + 1, 0, none⟩ (.bool b)).setCell ⟨w.heap.size + 1, 1, none⟩ (.slice a1 n1 c1))) := Lib.hid (fun b => below_set2 hB.out (by omega) _ _)
  have Hn1 : Hid ((dg (val l)).length = n1) := Lib.hid H1.out.len
  have HA : Hid ((zval neg (val l)).natAbs = val l) := Lib.hid (zval_abs _ _)
  cases neg with
  | false =>
    have HZ : Hid (zneg (zval false (val l)) = false) := Lib.hid (by rw [zval_neg]; rfl)
    go_wp2
    refine bodyPost_ret (results_cell_row Tryd.results15 _ _ (w.heap.size + 1) 24 #[.bool false, .slice a1 n1 c1] (0, 0) _ rfl (HG2.out false) Tryd.underlying24 rfl (by kernel_rfl)) rfl ?_
    exact ⟨a1, n1, c1, by rw [HZ.out]; rfl, by rw [HA.out]; exact HS2.out false, HB2.out false⟩
  | true =>
    by_cases hz : n1 = 0
    · have HZ : Hid (zneg (zval true (val l)) = false) := Lib.hid (by rw [zval_neg, dg_nil_iff.1 (Hn1.out.trans hz)]; rfl)
      subst hz
      go_wp2
      refine bodyPost_ret (results_cell_row Tryd.results15 _ _ (w.heap.size + 1) 24 #[.bool false, .slice a1 0 c1] (0, 0) _ rfl (HG2.out false) Tryd.underlying24 rfl (by kernel_rfl)) rfl ?_
      exact ⟨a1, 0, c1, by rw [HZ.out]; rfl, by rw [HA.out]; exact HS2.out false, HB2.out false⟩
    · have hv : val l ≠ 0 := fun h => hz (Hn1.out.symm.trans (dg_nil_iff.2 h))
      have HZ : Hid (zneg (zval true (val l)) = true) := Lib.hid (by rw [zval_neg, decide_eq_true hv]; rfl)
      have hni : (0 : Int) < (n1 : Int) := by omega
      have hnn : 0 < n1 := by omega
      clear hv hz
      go_wp2
      refine bodyPost_ret (results_cell_row Tryd.results15 _ _ (w.heap.size + 1) 24 #[.bool true, .slice a1 n1 c1] (0, 0) _ rfl (HG2.out true) Tryd.underlying24 rfl (by kernel_rfl)) rfl ?_
      exact ⟨a1, n1, c1, by rw [HZ.out]; rfl, by rw [HA.out]; exact HS2.out true, HB2.out true⟩
theorem ref08_neg (neg : Bool) (a : Option Addr) (n cap : Nat) (l : List Nat) (w : World) (h : Wd w a n cap l) (hn : n ≤ 16777214) :
    Calls Tryd.prog 10 #[whV neg a n cap] w (LstZ (zval (!neg) (val l)) w) := by
  have H := Lib.hid h
  clear h
  go_enter Tryd.func10, Tryd.ntmps10
  unfold whV
  go_wp2_with fail
  refine (ref08_norm (!neg) _ _ _ _ _ (H.out.later (below_then (below_alloc _ _) (below_alloc _ _))) hn).mono ?_
  rintro e w1 ⟨a1, n1, c1, rfl, h1, b1⟩
  obtain ⟨_, hR⟩ := boxes_at w w1 _ _ _ _ b1
  generalize zval (!neg) (val l) = z at *
  have hR0 := blk_cell hR 0
  have hR1 := blk_cell hR 1
  have hF0 := blk_free hR 0
  have hF1 := blk_free hR 1
  have HS2 := Lib.hid (h1.stored2 hR (zneg z) (.slice a1 n1 c1))
  have HG2 := Lib.hid (blk_set2 hR (.bool (zneg z)) (.slice a1 n1 c1))
  have HB2 := Lib.hid (below_set2 (below_then (below_alloc _ _) (below_then (below_alloc _ _) b1)) (show w.heap.size ≤ w.heap.size + 1 by omega) (.bool (zneg z)) (.slice a1 n1 c1))
  clear hR h1 b1
  simp only [List.getElem?_toArray, List.getElem?_cons_zero, List.getElem?_cons_succ] at hR0 hR1
  unfold whV
  generalize hzb : zneg z = zb at *
  have Hzb := Lib.hid hzb
  clear hzb
  go_wp2
  refine bodyPost_ret (results_cell_row Tryd.results10 _ _ (w.heap.size + 1) 24 #[.bool zb, .slice a1 n1 c1] (0, 0) _ rfl HG2.out Tryd.underlying24 rfl (by kernel_rfl)) rfl ?_
  exact ⟨a1, n1, c1, by rw [Hzb.out]; rfl, HS2.out, HB2.out⟩
theorem ref08_same_yes (neg : Bool) (a : Option Addr) (n cap : Nat) (b : Option Addr) (m cap' : Nat) (l : List Nat) (w : World) (ha : Wd w a n cap l) (hb : Wd w b m cap' l) :
    Calls Tryd.prog 11 #[whV neg a n cap, whV neg b m cap'] w (Gives (.bool true) w) := by
  have Ha := Lib.hid ha
  have Hb := Lib.hid hb
  clear ha hb
  go_enter Tryd.func11, Tryd.ntmps11
  unfold whV
  have hq : (neg == neg) = true := by simp
  go_wp2_with fail
  refine (ref02_same_yes _ _ _ _ _ _ _ _ _ (Ha.out.later (below_then (below_alloc _ _) (below_alloc _ _))) (Hb.out.later (below_then (below_alloc _ _) (below_alloc _ _))) rfl).mono ?_
  rintro e w1 ⟨rfl, b1⟩
  go_wp2
  go_ret
  exact ⟨rfl, below_then (below_alloc _ _) (below_then (below_alloc _ _) b1)⟩
theorem ref08_sign (neg : Bool) (a : Option Addr) (n cap : Nat) (l : List Nat) (w : World) (h : Wd w a n cap l) (hn : n ≤ 16777214) :
    Calls Tryd.prog 17 #[whV neg a n cap] w (Gives (.int .i64 (sgn (zval neg (val l)))) w) := by
  have H := Lib.hid h
  clear h
  go_enter Tryd.func17, Tryd.ntmps17
  unfold whV
  go_wp2_with fail
  refine (ref08_norm neg _ _ _ _ _ (H.out.later (below_alloc _ _)) hn).mono ?_
  rintro e w1 ⟨a1, n1, c1, rfl, h1, b1⟩
  have Hl := Lib.hid h1.len
  have hB := below_then (below_alloc _ _) b1
  generalize zval neg (val l) = z at *
  unfold whV
  clear h1 b1
  by_cases hz : z = 0
  · have hn0 : n1 = 0 := by rw [← Hl.out, hz]; rw [show (0 : Int).natAbs = 0 from rfl, dg_zero]; rfl
    subst hn0
    have HS : Hid (sgn z = 0) := Lib.hid (by unfold sgn; rw [if_pos hz])
    go_wp2
    go_ret
    exact ⟨by rw [HS.out]; rfl, below_then hB (below_alloc _ _)⟩
  · have hn0 : ¬ n1 = 0 := fun h0 => hz (by have h2 := dg_nil_iff.1 (Hl.out.trans h0); omega)
    have hni : ((n1 : Int) == 0) = false := by simp [hn0]
    by_cases hlt : z < 0
    · have HS : Hid (sgn z = -1) := Lib.hid (by unfold sgn; rw [if_neg hz, if_pos hlt])
      rw [show zneg z = true from decide_eq_true hlt]
      clear hlt hz
      go_wp2
      go_ret
      exact ⟨by rw [HS.out]; rfl, below_then hB (below_alloc _ _)⟩
    · have HS : Hid (sgn z = 1) := Lib.hid (by unfold sgn; rw [if_neg hz, if_neg hlt])
      rw [show zneg z = false from decide_eq_false hlt]
      clear hlt hz
      go_wp2
      go_ret
      exact ⟨by rw [HS.out]; rfl, below_then hB (below_alloc _ _)⟩
end Go.Proofs.YtiblojmdgjnfbaaDoor

/-
  Rows of words of the call's own, several side by side: what is written into one leaves the others. Of no program.
-/
namespace Go.Proofs.YtiblojmdgjnfbaaDoor
open Go.RowKit

theorem grown_refl (w : World) (row : Option Nat) : w.grownBy w row := ⟨rfl, rfl, rfl, Nat.le_refl _, fun _ _ _ => rfl⟩
theorem grown_then {a b c : World} {row : Option Nat} (h : a.grownBy b row) (k : b.grownBy c row) : a.grownBy c row :=
  ⟨k.os.trans h.os, k.tape.trans h.tape, k.output.trans h.output, Nat.le_trans h.size k.size, fun i hi hr => (k.block i (Nat.lt_of_lt_of_le hi h.size) hr).trans (h.block i hi hr)⟩
theorem grown_cell (w : World) (g k : Nat) (u : Value) : w.grownBy (w.setCell ⟨g, k, none⟩ u) (some g) :=
  ⟨rfl, rfl, rfl, by simp [World.setCell], fun i _ hr => Below.heap_setCell _ _ _ _ (fun e => hr (by rw [e]))⟩
theorem grown_drewN {a w : World} {row : Option Nat} (h : a.grownBy w row) (n : Nat) : a.grownBy (w.drewN n) row := grown_then h ⟨rfl, rfl, rfl, Nat.le_refl _, fun _ _ _ => rfl⟩
/-- What was there below a world is there below a later one: whatever holds of memory since a world w holds of what has grown besides one own row. -/
theorem grown_below {w0 w w' : World} {g : Nat} (hB : Below w0.heap.size w0 w) (hg : w.grownBy w' (some g)) (hb : w0.heap.size ≤ g) : Below w0.heap.size w0 w' :=
  hB.grown hg hB.size (fun k hk => by cases hk; exact hb)
theorem Own.later {w w' : World} {base g n cap : Nat} {l : List Nat} (h : Own w base g n cap l) (hb : Below w.heap.size w w') : Own w' base g n cap l := by
  refine ⟨⟨h.1.1, ?_⟩, h.2⟩
  rcases h.1.2 with h0 | ⟨g', cap', cur, h1, h2, h3, h4⟩
  · exact .inl h0
  · exact .inr ⟨g', cap', cur, h1, h2, (hb.block g' (Array.getElem?_eq_some_iff.1 h3).1).trans h3, h4⟩
theorem Own.other {w w' : World} {base g g' n cap : Nat} {l : List Nat} (h : Own w base g n cap l) (hg : w.grownBy w' (some g')) (hne : g ≠ g') : Own w' base g n cap l :=
  ⟨h.1.kept hg (.inr (by simp [Value.ownBlock]; exact hne)), h.2⟩
theorem Own.stay {w w' : World} {base g n cap : Nat} {l : List Nat} (h : Own w base g n cap l) (hg : w.grownBy w' none) : Own w' base g n cap l :=
  ⟨h.1.kept hg (.inr (by simp [Value.ownBlock])), h.2⟩
theorem Own.lower {w : World} {base base' g n cap : Nat} {l : List Nat} (h : Own w base g n cap l) (hb : base' ≤ base) : Own w base' g n cap l :=
  ⟨⟨h.1.1, h.1.2.imp id fun ⟨g, cap, cur, h1, h2, h3⟩ => ⟨g, cap, cur, h1, Nat.le_trans hb h2, h3⟩⟩, h.2⟩
theorem ownsRow_lower {w : World} {base base' : Nat} {e : TypeId} {size : Nat} {v : Value} {n : Nat} {xs : List Value} (h : w.ownsRow base e size v n xs) (hb : base' ≤ base) : w.ownsRow base' e size v n xs :=
  ⟨h.1, h.2.imp id fun ⟨g, cap, cur, h1, h2, h3⟩ => ⟨g, cap, cur, h1, Nat.le_trans hb h2, h3⟩⟩
theorem Own.bound {w : World} {base g n cap : Nat} {l : List Nat} (h : Own w base g n cap l) : n ≤ cap ∧ cap ≤ 9223372036854775807 := h.wd.bound
end Go.Proofs.YtiblojmdgjnfbaaDoor
