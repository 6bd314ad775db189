/-
  The contracts of package prod (layer 4) at this seat: Word, All.
-/
import Derived.Test.YtpaenbikgehgcaaProd
import Derived.Deep.AppendSrc
import Derived.Deep.RegionWith
namespace Go.Proofs.Ytpaenbikgehgcaa
open Go.RowKit

theorem Wds.take {w : World} {a : Option Addr} {n cap : Nat} {ls : List (List Nat)} (h : Wds w a n cap ls) {k : Nat} (hk : k ≤ n) : Wds w a k cap (ls.take k) := by
  obtain ⟨h1, h2, h3, h4, h5⟩ := h
  refine ⟨by rw [List.length_take]; omega, by omega, h3, h4, ?_⟩
  rcases h5 with h0 | ⟨b, off, e, hc⟩
  · exact .inl (by omega)
  · refine .inr ⟨b, off, e, fun j hj => ?_⟩
    obtain ⟨a', n', c', h6, h7⟩ := hc j (by omega)
    refine ⟨a', n', c', h6, ?_⟩
    rwa [List.getD_eq_getElem?_getD, List.getElem?_take, if_pos hj, ← List.getD_eq_getElem?_getD]
theorem Wds.drop {w : World} {b off m cap q : Nat} {ls : List (List Nat)} (h : Wds w (some ⟨b, off, none⟩) (q + m) cap ls) : Wds w (some ⟨b, off + q, none⟩) m (cap - q) (ls.drop q) := by
  have h1 := h.bound
  have h2 := h.len
  refine ⟨by rw [List.length_drop]; omega, by omega, by omega, fun e => (by cases e), ?_⟩
  rcases h.2.2.2.2 with h0 | ⟨b', off', e, hc⟩
  · exact .inl (by omega)
  · simp only [Option.some.injEq, Addr.mk.injEq, and_true] at e
    obtain ⟨rfl, rfl⟩ := e
    refine .inr ⟨b, off + q, rfl, fun j hj => ?_⟩
    obtain ⟨a', n', c', h6, h7⟩ := hc (q + j) (by omega)
    exact ⟨a', n', c', by rw [Nat.add_assoc]; exact h6, by rwa [List.getD_eq_getElem?_getD, List.getElem?_drop, ← List.getD_eq_getElem?_getD]⟩

set_option maxHeartbeats 1000000 in
theorem prod_word (a : Option Addr) (n cap : Nat) (l : List Nat) (x c0 : Nat) (w : World) (h : Wd w a n cap l) (hn : n ≤ 4000000) (hx : x < 4294967296) (hc0 : c0 < 4294967296) :
    Calls Try.prog 14 #[.slice a n cap, .int .u32 (x : Int), .int .u32 (c0 : Int)] w (Lst (dg (val l * x + c0)) w) := by
  obtain ⟨i0, hi, hz0, hz1, hz2⟩ := info_parts infoU32
  have H := Lib.hid h
  clear h
  go_enter Try.func14, Try.ntmps14
  go_wp2_with (at_make; refine wpList_make_words _ rfl _ _ 22 rfl w.heap.size 23 i0 (.int .u32 0) Try.underlying22 hi hz0 hz1 rfl .i64 .i64 _ _ 0 (n + 1) rfl rfl (by omega) (by omega) (by omega) (by rw [hz2]; omega) (by unfold maxLen; omega) (Nat.le_refl _) ?_; intro w1 hown1 hgrow1)
  rw [zeros_cells] at hown1
  have HO1 : Hid (Own w1 w.heap.size w.heap.size 0 (n + 1) []) := Lib.hid ⟨hown1, okw_nil⟩
  have hB1 : Below w.heap.size w w1 := (Below.refl _ _).grown hgrow1 (Nat.le_refl _) (fun k hk => by cases hk)
  clear hown1 hgrow1
  go_loopw [7, 8, 19] (fun s cv i wr => ∃ (j c g cap2 : Nat) (o : List Nat), j ≤ n ∧ i = .int .i64 (j : Int) ∧ cv = .int .u32 (c : Int) ∧ c < 4294967296 ∧ s = .slice (some ⟨g, 0, none⟩) j cap2 ∧ Hid (o.length = j) ∧ Hid (val o + 4294967296 ^ j * c = low l j * x + c0) ∧ Hid (Own wr w.heap.size g j cap2 o) ∧ Below w.heap.size w wr) (fun _ _ i _ => n - (intOf i).toNat)
  case atStart => exact ⟨0, c0, _, _, [], by omega, rfl, rfl, hc0, rfl, Lib.hid rfl, Lib.hid (by rw [low_zero]; simp [val]), HO1, hB1⟩
  case round =>
    clear HO1 hB1
    obtain ⟨j, c, g, cap2, o, hj, rfl, rfl, hc, rfl, Hol, Hv, HO, hB⟩ := hrel
    have hbase : w.heap.size ≤ wr.heap.size := hB.size
    by_cases hlt : j < n
    · obtain ⟨b, off, rfl, hcl⟩ := (H.out.later hB).at (by omega)
      have hck := hcl j hlt
      have hyw := atw_lt H.out.ok j
      obtain ⟨y, hyy⟩ : ∃ y, y = atw l j := ⟨_, rfl⟩
      rw [← hyy] at hyw hck
      have Hy := Lib.hid hyy
      have hj1 : (j : Int) < (n : Int) := by omega
      clear hcl hyy
      go_wp2_with fail
      refine (limb_mul_nat3 y x c _ hyw hx hc).mono ?_
      rintro e w' ⟨c2, z, rfl, hc2, hz, Hs, rfl⟩
      go_wp2_with (at_builtin; refine wpList_append_own _ rfl _ _ 22 rfl w.heap.size 23 i0 (.int .u32 0) 1 4 Try.underlying22 hi hz0 hz1 hz2 rfl (by decide) _ j _ rfl (HO.out.1.alloc _) ⟨wr.heap.size, 0, none⟩ 1 1 (wcells [z]) rfl rfl (Wd.lit1 wr 23 (x := z) hz).cells (wcells_one _) (by unfold maxLen; omega) (by omega) (by simp; omega) ?_)
      intro v' w2 hown hgrow _
      obtain ⟨g2, cap3, rfl, HO2⟩ := Own.push (r := z) hown HO.out.2 hz
      have HO' := Lib.hid HO2
      have hb := HO.out.base
      have hB1 : Below w.heap.size w w2 := (hB.alloc hbase _).grown hgrow (by simp; omega) (by intro k hk; simp [Value.ownBlock] at hk; omega)
      clear HO2 hown hgrow
      go_wp2
      go_roundw
      case rel => exact ⟨j + 1, c2, g2, cap3, o ++ [z], by omega, by go_num, rfl, hc2, rfl, Lib.hid (by have := Hol.out; simp; omega), Lib.hid (word_step Hol.out Hv.out (by rw [← Hy.out]; exact Hs.out)), HO', hB1⟩
      case measure => simp [intOf]; omega
    · obtain rfl : j = n := by omega
      have Hv2 : Hid (val (o ++ [c]) = val l * x + c0) := Lib.hid (by rw [val_snoc, Hol.out, Hv.out, low_ge (by rw [H.out.len]; omega)])
      clear hlt Hv
      go_wp2_with (at_builtin; refine wpList_append_own _ rfl _ _ 22 rfl w.heap.size 23 i0 (.int .u32 0) 1 4 Try.underlying22 hi hz0 hz1 hz2 rfl (by decide) _ j _ rfl (HO.out.1.alloc _) ⟨_, 0, none⟩ 1 1 (wcells [c]) rfl rfl (Wd.lit1 _ 23 (x := c) hc).cells (wcells_one _) (by unfold maxLen; omega) (by omega) (by simp; omega) ?_)
      intro v' w2 hown hgrow _
      obtain ⟨g2, cap3, rfl, HO2⟩ := Own.push (r := c) hown HO.out.2 hc
      have HO' := Lib.hid HO2
      have hb := HO.out.base
      have hB1 : Below w.heap.size w w2 := (hB.alloc hbase _).grown hgrow (by simp; omega) (by intro k hk; simp [Value.ownBlock] at hk; omega)
      clear HO2 hown hgrow
      go_wp2_with fail
      refine (natSaid.norm _ _ _ _ _ HO'.out.wd (by omega)).mono ?_
      rintro e w' ⟨a', n', c', rfl, hwd, hbel⟩
      rw [Hv2.out] at hwd
      have HWD := Lib.hid hwd
      clear hwd
      go_wp2
      go_ret
      exact ⟨_, _, _, rfl, HWD.out, below_then hB1 hbel⟩
set_option maxHeartbeats 1000000 in
theorem prod_all (n : Nat) : ∀ (a : Option Addr) (cap : Nat) (ls : List (List Nat)) (w : World), Wds w a n cap ls → n ≤ 1000000 → words ls ≤ 1000000 →
    Calls Try.prog 16 #[.slice a n cap] w (Lst (dg (prods ls)) w) := by
  induction n using Nat.strongRecOn with
  | _ n ih =>
  intro a cap ls w h hn hw
  obtain ⟨hb1, hb2⟩ := h.bound
  have H := Lib.hid h
  clear h
  by_cases h0 : n = 0
  · subst h0
    have Hp : Hid (prods ls = 1) := Lib.hid (by rw [List.eq_nil_of_length_eq_zero H.out.len]; rfl)
    clear ih
    go_enter Try.func16, Try.ntmps16
    go_wp2_with fail
    refine (natSaid.of 1 _ (by omega)).mono ?_
    rintro e w' ⟨a', n', c', rfl, hwd, hbel⟩
    go_wp2
    go_ret
    exact ⟨_, _, _, rfl, by rw [Hp.out]; exact hwd, hbel⟩
  · by_cases h1 : n = 1
    · subst h1
      obtain ⟨b, off, rfl, a1, n1, c1, hc, hwd⟩ := H.out.at (j := 0) (by omega)
      have hc' : w.cell? ⟨b, off, none⟩ = some (.slice a1 n1 c1) := hc
      have Hp : Hid (prods ls = val (ls.getD 0 [])) := Lib.hid (by
        match ls, H.out.len with
        | [l], _ => simp [prods])
      have hwm := words_mem ls 0 (by rw [H.out.len]; omega)
      have hn1 : n1 ≤ 1000000 := by rw [← hwd.len]; omega
      have HWD := Lib.hid hwd
      clear ih hc hwd hwm
      go_enter Try.func16, Try.ntmps16
      go_wp2_with fail
      refine (natSaid.norm _ _ _ _ _ HWD.out (by omega)).mono ?_
      rintro e w' ⟨a', n', c', rfl, hwd, hbel⟩
      go_wp2
      go_ret
      exact ⟨_, _, _, rfl, by rw [Hp.out]; exact hwd, hbel⟩
    · obtain ⟨hh, hhh⟩ : ∃ hh, hh = n / 2 := ⟨_, rfl⟩
      obtain ⟨m, rfl⟩ : ∃ m, n = hh + m := ⟨n - hh, by omega⟩
      have hhp : 0 < hh := by omega
      have hmp : 0 < m := by omega
      have hq : ((hh : Int) + (m : Int)) / 2 = (hh : Int) := by omega
      obtain ⟨b, off, rfl, _, _, _, hcx, _⟩ := H.out.at (j := 0) (by omega)
      have HA := Lib.hid (H.out.take (k := hh) (by omega))
      have HB := Lib.hid H.out.drop
      have hwa : Hid (words (ls.take hh) ≤ 1000000) := Lib.hid (Nat.le_trans (words_le_take ls hh) hw)
      have hsplit : Hid (words ls = words (ls.take hh) + words (ls.drop hh)) := Lib.hid (by rw [← words_append, List.take_append_drop])
      have hwb : Hid (words (ls.drop hh) ≤ 1000000) := Lib.hid (by have := hsplit.out; omega)
      have Hp : Hid (prods ls = prods (ls.take hh) * prods (ls.drop hh)) := Lib.hid (by rw [← prods_append, List.take_append_drop])
      have ihA := Lib.hid (fun wz hz => ih hh (by omega) (some ⟨b, off, none⟩) cap (ls.take hh) wz (HA.out.later hz) (by omega) hwa.out)
      have ihB := Lib.hid (fun wz hz => ih m (by omega) (some ⟨b, off + hh, none⟩) (cap - hh) (ls.drop hh) wz (HB.out.later hz) (by omega) hwb.out)
      have hlA := prods_length HA.out.oks
      have hlB := prods_length HB.out.oks
      have HlA : Hid ((dg (prods (ls.take hh))).length ≤ 4000000) := Lib.hid (by have := hwa.out; omega)
      have HlB : Hid ((dg (prods (ls.drop hh))).length ≤ 4000000) := Lib.hid (by have := hwb.out; omega)
      have hi2 : (hh : Int) ≤ (cap : Int) := by omega
      have hi3 : (hh : Int) ≤ (hh : Int) + (m : Int) := by omega
      have hi4 : (2 : Int) ≤ (hh : Int) + (m : Int) := by omega
      have hne : ¬ cap = hh := by omega
      clear ih hlA hlB hcx hhh
      go_enter Try.func16, Try.ntmps16
      go_wp2
      go_region_with (first
        | (go_at_call 16; (first
          | ((with_reducible refine (ihA.out _ ?hz).mono ?_); (case hz => exact (Below.refl _ _).drew); rintro e w1 ⟨a1, n1, c1, rfl, h1, b1⟩)
          | ((refine (ihB.out _ ?hz).mono ?_); (case hz => exact below_then (Below.refl _ _).drew b1); rintro e w2 ⟨a2, n2, c2, rfl, h2, b2⟩)))
        | (go_at_call 12; (refine (prod_mul _ _ _ _ _ _ _ _ _ (h1.later b2) h2 ?hz1 ?hz2).mono ?_); (case hz1 => have h3 := h1.len; have h4 := HlA.out; omega); (case hz2 => have h3 := h2.len; have h4 := HlB.out; omega); rintro e w3 ⟨a3, n3, c3, rfl, h3, b3⟩))
      rw [val_dg, val_dg, ← Hp.out] at h3
      go_wp2
      go_ret
      exact ⟨_, _, _, rfl, h3, below_then (below_then (below_then (Below.refl _ _).drew b1) b2) b3⟩
end Go.Proofs.Ytpaenbikgehgcaa
