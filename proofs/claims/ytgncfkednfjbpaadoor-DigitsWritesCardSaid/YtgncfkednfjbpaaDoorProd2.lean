/-
  The contracts of package prod (layer 4) at this seat: Word, All.
-/
import Derived.Test.YtgncfkednfjbpaaDoorProd
import Derived.Deep.AppendSrc
import Derived.Deep.RegionWith
namespace Go.Proofs.YtgncfkednfjbpaaDoor
open Go.RowKit

theorem Wds.take {w : World} {a : Option Addr} {n cap : Nat} {ls : List (List Nat)} (h : Wds w a n cap ls) {k : Nat} (hk : k ≤ n) : Wds w a k cap (ls.take k) := by
  obtain ⟨h1, h2, h3, h4, h5⟩ := h
  refine ⟨by rw [List.length_take]; omega, by omega, h3, h4, ?_⟩
  rcases h5 with h0 | ⟨b, off, e, hc⟩
  · exact .inl (by omega)
  · refine .inr ⟨b, off, e, fun j hj => ?_⟩
    obtain ⟨a', n', c', h6, h7⟩ := hc j (by omega)
    refine ⟨a', n', c', h6, ?_⟩
    rwa [List.getD_eq_getElem?_getD, List.getElem?_take, if_pos hj, ← List.getD_eq_getElem?_getD]
theorem Wds.drop {w : World} {b off m cap q : Nat} {ls : List (List Nat)} (h : Wds w (some ⟨b, off, none⟩) (q + m) cap ls) : Wds w (some ⟨b, off + q, none⟩) m (cap - q) (ls.drop q) := by
  have h1 := h.bound
  have h2 := h.len
  refine ⟨by rw [List.length_drop]; omega, by omega, by omega, fun e => (by cases e), ?_⟩
  rcases h.2.2.2.2 with h0 | ⟨b', off', e, hc⟩
  · exact .inl (by omega)
  · simp only [Option.some.injEq, Addr.mk.injEq, and_true] at e
    obtain ⟨rfl, rfl⟩ := e
    refine .inr ⟨b, off + q, rfl, fun j hj => ?_⟩
    obtain ⟨a', n', c', h6, h7⟩ := hc (q + j) (by omega)
    exact ⟨a', n', c', by rw [Nat.add_assoc]; exact h6, by rwa [List.getD_eq_getElem?_getD, List.getElem?_drop, ← List.getD_eq_getElem?_getD]⟩

set_option maxRecDepth 4096 in
set_option maxHeartbeats 1000000 in
theorem prod_word (a : Option Addr) (n cap : Nat) (l : List Nat) (x c0 : Nat) (w : World) (h : Wd w a n cap l) (hn : n ≤ 4000000) (hx : x < 4294967296) (hc0 : c0 < 4294967296) :
    Calls Tryd.prog 23 #[.slice a n cap, .int .u32 (x : Int), .int .u32 (c0 : Int)] w (Lst (dg (val l * x + c0)) w) := by
  obtain ⟨i0, hi, hz0, hz1, hz2⟩ := info_parts infoU32
  have H := Lib.hid h
  clear h
  go_enter Tryd.func23, Tryd.ntmps23
  go_wp2_with (at_make; refine wpList_make_words _ rfl _ _ 22 rfl w.heap.size 40 i0 (.int .u32 0) Tryd.underlying22 hi hz0 hz1 rfl .i64 .i64 _ _ 0 (n + 1) rfl rfl (by omega) (by omega) (by omega) (by rw [hz2]; omega) (by unfold maxLen; omega) (Nat.le_refl _) ?_; intro w1 hown1 hgrow1)
  rw [zeros_cells] at hown1
  have HO1 : Hid (Own w1 w.heap.size w.heap.size 0 (n + 1) []) := Lib.hid ⟨hown1, okw_nil⟩
  have hB1 : Below w.heap.size w w1 := (Below.refl _ _).grown hgrow1 (Nat.le_refl _) (fun k hk => by cases hk)
  clear hown1 hgrow1
  go_loopw [7, 8, 19] (fun s cv i wr => ∃ (j c g cap2 : Nat) (o : List Nat), j ≤ n ∧ i = .int .i64 (j : Int) ∧ cv = .int .u32 (c : Int) ∧ c < 4294967296 ∧ s = .slice (some ⟨g, 0, none⟩) j cap2 ∧ Hid (o.length = j) ∧ Hid (val o + 4294967296 ^ j * c = low l j * x + c0) ∧ Hid (Own wr w.heap.size g j cap2 o) ∧ Below w.heap.size w wr) (fun _ _ i _ => n - (intOf i).toNat)
  case atStart => exact ⟨0, c0, _, _, [], by omega, rfl, rfl, hc0, rfl, Lib.hid rfl, Lib.hid (by rw [low_zero]; simp [val]), HO1, hB1⟩
  case round =>
    clear HO1 hB1
    obtain ⟨j, c, g, cap2, o, hj, rfl, rfl, hc, rfl, Hol, Hv, HO, hB⟩ := hrel
    have hbase : w.heap.size ≤ wr.heap.size := hB.size
    by_cases hlt : j < n
    · obtain ⟨b, off, rfl, hcl⟩ := (H.out.later hB).at (by omega)
      have hck := hcl j hlt
      have hyw := atw_lt H.out.ok j
      obtain ⟨y, hyy⟩ : ∃ y, y = atw l j := ⟨_, rfl⟩
      rw [← hyy] at hyw hck
      have Hy := Lib.hid hyy
      have hj1 : (j : Int) < (n : Int) := by omega
      clear hcl hyy
      go_wp2_with fail
      refine (limb_mul_nat3 y x c _ hyw hx hc).mono ?_
      rintro e w' ⟨c2, z, rfl, hc2, hz, Hs, rfl⟩
      go_wp2_with (at_builtin; refine wpList_append_own _ rfl _ _ 22 rfl w.heap.size 40 i0 (.int .u32 0) 1 4 Tryd.underlying22 hi hz0 hz1 hz2 rfl (by decide) _ j _ rfl (HO.out.1.alloc _) ⟨wr.heap.size, 0, none⟩ 1 1 (wcells [z]) rfl rfl (Wd.lit1 wr 40 (x := z) hz).cells (wcells_one _) (by unfold maxLen; omega) (by omega) (by simp; omega) ?_)
      intro v' w2 hown hgrow _
      obtain ⟨g2, cap3, rfl, HO2⟩ := Own.push (r := z) hown HO.out.2 hz
      have HO' := Lib.hid HO2
      have hb := HO.out.base
      have hB1 : Below w.heap.size w w2 := (hB.alloc hbase _).grown hgrow (by simp; omega) (by intro k hk; simp [Value.ownBlock] at hk; omega)
      clear HO2 hown hgrow
      go_wp2
      go_roundw
      case rel => exact ⟨j + 1, c2, g2, cap3, o ++ [z], by omega, by go_num, rfl, hc2, rfl, Lib.hid (by have := Hol.out; simp; omega), Lib.hid (word_step Hol.out Hv.out (by rw [← Hy.out]; exact Hs.out)), HO', hB1⟩
      case measure => simp [intOf]; omega
    · obtain rfl : j = n := by omega
      have Hv2 : Hid (val (o ++ [c]) = val l * x + c0) := Lib.hid (by rw [val_snoc, Hol.out, Hv.out, low_ge (by rw [H.out.len]; omega)])
      clear hlt Hv
      go_wp2_with (at_builtin; refine wpList_append_own _ rfl _ _ 22 rfl w.heap.size 40 i0 (.int .u32 0) 1 4 Tryd.underlying22 hi hz0 hz1 hz2 rfl (by decide) _ j _ rfl (HO.out.1.alloc _) ⟨_, 0, none⟩ 1 1 (wcells [c]) rfl rfl (Wd.lit1 _ 40 (x := c) hc).cells (wcells_one _) (by unfold maxLen; omega) (by omega) (by simp; omega) ?_)
      intro v' w2 hown hgrow _
      obtain ⟨g2, cap3, rfl, HO2⟩ := Own.push (r := c) hown HO.out.2 hc
      have HO' := Lib.hid HO2
      have hb := HO.out.base
      have hB1 : Below w.heap.size w w2 := (hB.alloc hbase _).grown hgrow (by simp; omega) (by intro k hk; simp [Value.ownBlock] at hk; omega)
      clear HO2 hown hgrow
      go_wp2_with fail
      refine (natSaid.norm _ _ _ _ _ HO'.out.wd (by omega)).mono ?_
      rintro e w' ⟨a', n', c', rfl, hwd, hbel⟩
      rw [Hv2.out] at hwd
      have HWD := Lib.hid hwd
      clear hwd
      go_wp2
      go_ret
      exact ⟨_, _, _, rfl, HWD.out, below_then hB1 hbel⟩
end Go.Proofs.YtgncfkednfjbpaaDoor
