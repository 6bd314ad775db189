/-
  The walks of the laws of layer 11: RowShares.
-/
import Derived.Test.YtjeigdlhjghinaaGreatDoorG24
import Derived.Test.YtjeigdlhjghinaaGreatDoorRowUse2M
import Derived.Test.YtjeigdlhjghinaaGreatDoorRef11fM
import Derived.Test.YtjeigdlhjghinaaGreatDoorG13
import Derived.Deep.RegionHeld3
import Derived.Deep.CutRange
namespace Go.Proofs.YtjeigdlhjghinaaGreatDoor
open Go.RowKit

theorem blk_drewn {w : World} {g : Nat} {o : Obj} (h : w.heap[g]? = some o) : w.drew.heap[g]? = some o := h
theorem sgn_le_zero {p q : Rat} (h : p ≤ q) : sgn (p - q).num ≤ 0 := by
  have h1 := sgn_pos_lt p q
  by_cases h2 : 0 < sgn (p - q).num
  · exact absurd (h1.1 h2) (Rat.not_lt.2 h)
  · omega
theorem sgn_ge_zero {q : Rat} (h : 0 ≤ q) : 0 ≤ sgn q.num := by
  have : 0 ≤ q.num := Rat.num_nonneg.2 h
  unfold sgn; split <;> (try split) <;> omega
set_option maxRecDepth 4096 in
set_option maxHeartbeats 16000000 in
theorem law11_shares_longa (S : RowSaid) (FS : FracSaid) (a : Option Addr) (n c : Nat) (L : List Fx) (az : Option Addr) (nz cz : Nat) (Lz : List Fx) (s0 : Bool) (a0 : Option Addr) (n0 c0 : Nat) (b0 : Option Addr) (m0 d0 : Nat) (w : World) (h : Fxs w a n c L) (hz : Fxs w az nz cz Lz) (hT : Hid (Dec10 w)) (hb : ¬ ((n : Int) ≤ 6 ∧ thinI 3 L)) : Calls Tryz.prog 7 #[.slice a n c, .slice az nz cz, frV s0 a0 n0 c0 b0 m0 d0] w (Gives (.bool true) w) := by
  have HB := Lib.hid (below_alloc w (.cells #[.bool s0, .slice a0 n0 c0, .slice b0 m0 d0] 44))
  have X0 := Lib.hid (blk_new w #[.bool s0, .slice a0 n0 c0, .slice b0 m0 d0] 44)
  have HNB := Lib.hid hb
  have HF := Lib.hid h
  have HFz := Lib.hid hz
  replace HF := Lib.hid (HF.out.later HB.out)
  replace HFz := Lib.hid (HFz.out.later HB.out)
  clear h hz hb
  go_enter Tryz.func7, Tryz.ntmps7
  unfold frV
  obtain ⟨vk0, vk1, vk2⟩ := fcells_3 X0.out
  go_wp2_with fail
  refine (ref11_long a n c L 6 3 true _ HF.out (by decide) (Lib.hid ⟨fun _ => HNB.out, fun _ => rfl⟩)).mono ?_
  rintro e wv1 ⟨rfl, b⟩
  clear vk0 vk1 vk2
  replace HB := Lib.hid (below_then HB.out b)
  replace X0 := Lib.hid (blk_later X0.out b)
  replace HF := Lib.hid (HF.out.later b)
  replace HFz := Lib.hid (HFz.out.later b)
  clear b
  obtain ⟨vk0, vk1, vk2⟩ := fcells_3 X0.out
  go_wp2_with fail
  refine (law11_works S FS _ (Lib.hid (hT.out.later HB.out))).mono ?_
  rintro e wv2 ⟨rfl, b⟩
  clear vk0 vk1 vk2
  replace HB := Lib.hid (below_then HB.out b)
  replace X0 := Lib.hid (blk_later X0.out b)
  replace HF := Lib.hid (HF.out.later b)
  replace HFz := Lib.hid (HFz.out.later b)
  clear b
  go_wp2
  go_ret
  exact ⟨rfl, HB.out⟩
set_option maxRecDepth 4096 in
set_option maxHeartbeats 16000000 in
theorem law11_shares_longb (S : RowSaid) (FS : FracSaid) (a : Option Addr) (n c : Nat) (L : List Fx) (az : Option Addr) (nz cz : Nat) (Lz : List Fx) (s0 : Bool) (a0 : Option Addr) (n0 c0 : Nat) (b0 : Option Addr) (m0 d0 : Nat) (w : World) (h : Fxs w a n c L) (hz : Fxs w az nz cz Lz) (hT : Hid (Dec10 w)) (hb : (n : Int) ≤ 6 ∧ thinI 3 L) (hbz : ¬ ((nz : Int) ≤ 6 ∧ thinI 3 Lz)) : Calls Tryz.prog 7 #[.slice a n c, .slice az nz cz, frV s0 a0 n0 c0 b0 m0 d0] w (Gives (.bool true) w) := by
  have HB := Lib.hid (below_alloc w (.cells #[.bool s0, .slice a0 n0 c0, .slice b0 m0 d0] 44))
  have X0 := Lib.hid (blk_new w #[.bool s0, .slice a0 n0 c0, .slice b0 m0 d0] 44)
  have HNB := Lib.hid hb
  have HF := Lib.hid h
  have HFz := Lib.hid hz
  have HNBz := Lib.hid hbz
  replace HF := Lib.hid (HF.out.later HB.out)
  replace HFz := Lib.hid (HFz.out.later HB.out)
  clear h hz hb hbz
  go_enter Tryz.func7, Tryz.ntmps7
  unfold frV
  obtain ⟨vk0, vk1, vk2⟩ := fcells_3 X0.out
  go_wp2_with fail
  refine (ref11_long a n c L 6 3 false _ HF.out (by decide) (Lib.hid ⟨fun h => absurd h (by decide), fun h => absurd HNB.out h⟩)).mono ?_
  rintro e wv1 ⟨rfl, b⟩
  clear vk0 vk1 vk2
  replace HB := Lib.hid (below_then HB.out b)
  replace X0 := Lib.hid (blk_later X0.out b)
  replace HF := Lib.hid (HF.out.later b)
  replace HFz := Lib.hid (HFz.out.later b)
  clear b
  obtain ⟨vk0, vk1, vk2⟩ := fcells_3 X0.out
  go_wp2_with fail
  refine (ref11_long az nz cz Lz 6 3 true _ HFz.out (by decide) (Lib.hid ⟨fun _ => HNBz.out, fun _ => rfl⟩)).mono ?_
  rintro e wv2 ⟨rfl, b⟩
  clear vk0 vk1 vk2
  replace HB := Lib.hid (below_then HB.out b)
  replace X0 := Lib.hid (blk_later X0.out b)
  replace HF := Lib.hid (HF.out.later b)
  replace HFz := Lib.hid (HFz.out.later b)
  clear b
  obtain ⟨vk0, vk1, vk2⟩ := fcells_3 X0.out
  go_wp2_with fail
  refine (law11_works S FS _ (Lib.hid (hT.out.later HB.out))).mono ?_
  rintro e wv3 ⟨rfl, b⟩
  clear vk0 vk1 vk2
  replace HB := Lib.hid (below_then HB.out b)
  replace X0 := Lib.hid (blk_later X0.out b)
  replace HF := Lib.hid (HF.out.later b)
  replace HFz := Lib.hid (HFz.out.later b)
  clear b
  go_wp2
  go_ret
  exact ⟨rfl, HB.out⟩
set_option maxRecDepth 4096 in
set_option maxHeartbeats 16000000 in
theorem law11_shares_longc (S : RowSaid) (FS : FracSaid) (a : Option Addr) (n c : Nat) (L : List Fx) (az : Option Addr) (nz cz : Nat) (Lz : List Fx) (s0 : Bool) (a0 : Option Addr) (n0 c0 : Nat) (b0 : Option Addr) (m0 d0 : Nat) (w : World) (h : Fxs w a n c L) (hz : Fxs w az nz cz Lz) (hT : Hid (Dec10 w)) (hb : (n : Int) ≤ 6 ∧ thinI 3 L) (hbz : (nz : Int) ≤ 6 ∧ thinI 3 Lz) (hk : 3 < n0 ∨ 3 < m0) : Calls Tryz.prog 7 #[.slice a n c, .slice az nz cz, frV s0 a0 n0 c0 b0 m0 d0] w (Gives (.bool true) w) := by
  have HB := Lib.hid (below_alloc w (.cells #[.bool s0, .slice a0 n0 c0, .slice b0 m0 d0] 44))
  have X0 := Lib.hid (blk_new w #[.bool s0, .slice a0 n0 c0, .slice b0 m0 d0] 44)
  have HNB := Lib.hid hb
  have HF := Lib.hid h
  have HFz := Lib.hid hz
  have HNBz := Lib.hid hbz
  replace HF := Lib.hid (HF.out.later HB.out)
  replace HFz := Lib.hid (HFz.out.later HB.out)
  have hl0 : (decide ((3 : Int) < (n0 : Int)) || decide ((3 : Int) < (m0 : Int))) = true := by
    rcases hk with h | h
    · rw [decide_eq_true (show (3 : Int) < (n0 : Int) by omega)]; rfl
    · rw [decide_eq_true (show (3 : Int) < (m0 : Int) by omega), Bool.or_true]
  clear h hz hb hbz hk
  go_enter Tryz.func7, Tryz.ntmps7
  unfold frV
  obtain ⟨vk0, vk1, vk2⟩ := fcells_3 X0.out
  go_wp2_with fail
  refine (ref11_long a n c L 6 3 false _ HF.out (by decide) (Lib.hid ⟨fun h => absurd h (by decide), fun h => absurd HNB.out h⟩)).mono ?_
  rintro e wv1 ⟨rfl, b⟩
  clear vk0 vk1 vk2
  replace HB := Lib.hid (below_then HB.out b)
  replace X0 := Lib.hid (blk_later X0.out b)
  replace HF := Lib.hid (HF.out.later b)
  replace HFz := Lib.hid (HFz.out.later b)
  clear b
  obtain ⟨vk0, vk1, vk2⟩ := fcells_3 X0.out
  go_wp2_with fail
  refine (ref11_long az nz cz Lz 6 3 false _ HFz.out (by decide) (Lib.hid ⟨fun h => absurd h (by decide), fun h => absurd HNBz.out h⟩)).mono ?_
  rintro e wv2 ⟨rfl, b⟩
  clear vk0 vk1 vk2
  replace HB := Lib.hid (below_then HB.out b)
  replace X0 := Lib.hid (blk_later X0.out b)
  replace HF := Lib.hid (HF.out.later b)
  replace HFz := Lib.hid (HFz.out.later b)
  clear b
  obtain ⟨vk0, vk1, vk2⟩ := fcells_3 X0.out
  go_wp2_with fail
  refine (ref09_long s0 a0 n0 c0 b0 m0 d0 3 _).mono ?_
  rintro e wv3 ⟨rfl, b⟩
  clear vk0 vk1 vk2
  replace HB := Lib.hid (below_then HB.out b)
  replace X0 := Lib.hid (blk_later X0.out b)
  replace HF := Lib.hid (HF.out.later b)
  replace HFz := Lib.hid (HFz.out.later b)
  clear b
  rw [hl0]
  obtain ⟨vk0, vk1, vk2⟩ := fcells_3 X0.out
  go_wp2_with fail
  refine (law11_works S FS _ (Lib.hid (hT.out.later HB.out))).mono ?_
  rintro e wv4 ⟨rfl, b⟩
  clear vk0 vk1 vk2
  replace HB := Lib.hid (below_then HB.out b)
  replace X0 := Lib.hid (blk_later X0.out b)
  replace HF := Lib.hid (HF.out.later b)
  replace HFz := Lib.hid (HFz.out.later b)
  clear b
  go_wp2
  go_ret
  exact ⟨rfl, HB.out⟩
set_option maxRecDepth 4096 in
set_option maxHeartbeats 16000000 in
theorem law11_shares_uneven (S : RowSaid) (FS : FracSaid) (a : Option Addr) (n c : Nat) (L : List Fx) (az : Option Addr) (nz cz : Nat) (Lz : List Fx) (s0 : Bool) (a0 : Option Addr) (n0 c0 : Nat) (b0 : Option Addr) (m0 d0 : Nat) (w : World) (h : Fxs w a n c L) (hz : Fxs w az nz cz Lz) (hT : Hid (Dec10 w)) (hb : (n : Int) ≤ 6 ∧ thinI 3 L) (hbz : (nz : Int) ≤ 6 ∧ thinI 3 Lz) (hn0 : n0 ≤ 3) (hm0 : m0 ≤ 3) (hne : n ≠ nz) : Calls Tryz.prog 7 #[.slice a n c, .slice az nz cz, frV s0 a0 n0 c0 b0 m0 d0] w (Gives (.bool true) w) := by
  have HB := Lib.hid (below_alloc w (.cells #[.bool s0, .slice a0 n0 c0, .slice b0 m0 d0] 44))
  have X0 := Lib.hid (blk_new w #[.bool s0, .slice a0 n0 c0, .slice b0 m0 d0] 44)
  have HNB := Lib.hid hb
  have HF := Lib.hid h
  have HFz := Lib.hid hz
  have HNBz := Lib.hid hbz
  replace HF := Lib.hid (HF.out.later HB.out)
  replace HFz := Lib.hid (HFz.out.later HB.out)
  have hl0 : (decide ((3 : Int) < (n0 : Int)) || decide ((3 : Int) < (m0 : Int))) = false := by rw [decide_eq_false (by omega), decide_eq_false (by omega)]; rfl
  have hq9 : ((n : Int) == (nz : Int)) = false := by simp; omega
  have hq8 : ¬ ((n : Int) = (nz : Int)) := by omega
  clear h hz hb hbz hn0 hm0 hne
  go_enter Tryz.func7, Tryz.ntmps7
  unfold frV
  obtain ⟨vk0, vk1, vk2⟩ := fcells_3 X0.out
  go_wp2_with fail
  refine (ref11_long a n c L 6 3 false _ HF.out (by decide) (Lib.hid ⟨fun h => absurd h (by decide), fun h => absurd HNB.out h⟩)).mono ?_
  rintro e wv1 ⟨rfl, b⟩
  clear vk0 vk1 vk2
  replace HB := Lib.hid (below_then HB.out b)
  replace X0 := Lib.hid (blk_later X0.out b)
  replace HF := Lib.hid (HF.out.later b)
  replace HFz := Lib.hid (HFz.out.later b)
  clear b
  obtain ⟨vk0, vk1, vk2⟩ := fcells_3 X0.out
  go_wp2_with fail
  refine (ref11_long az nz cz Lz 6 3 false _ HFz.out (by decide) (Lib.hid ⟨fun h => absurd h (by decide), fun h => absurd HNBz.out h⟩)).mono ?_
  rintro e wv2 ⟨rfl, b⟩
  clear vk0 vk1 vk2
  replace HB := Lib.hid (below_then HB.out b)
  replace X0 := Lib.hid (blk_later X0.out b)
  replace HF := Lib.hid (HF.out.later b)
  replace HFz := Lib.hid (HFz.out.later b)
  clear b
  obtain ⟨vk0, vk1, vk2⟩ := fcells_3 X0.out
  go_wp2_with fail
  refine (ref09_long s0 a0 n0 c0 b0 m0 d0 3 _).mono ?_
  rintro e wv3 ⟨rfl, b⟩
  clear vk0 vk1 vk2
  replace HB := Lib.hid (below_then HB.out b)
  replace X0 := Lib.hid (blk_later X0.out b)
  replace HF := Lib.hid (HF.out.later b)
  replace HFz := Lib.hid (HFz.out.later b)
  clear b
  rw [hl0]
  obtain ⟨vk0, vk1, vk2⟩ := fcells_3 X0.out
  go_wp2_with fail
  refine (law11_works S FS _ (Lib.hid (hT.out.later HB.out))).mono ?_
  rintro e wv4 ⟨rfl, b⟩
  clear vk0 vk1 vk2
  replace HB := Lib.hid (below_then HB.out b)
  replace X0 := Lib.hid (blk_later X0.out b)
  replace HF := Lib.hid (HF.out.later b)
  replace HFz := Lib.hid (HFz.out.later b)
  clear b
  go_wp2
  go_ret
  exact ⟨rfl, HB.out⟩
set_option maxRecDepth 4096 in
set_option maxHeartbeats 16000000 in
theorem law11_shares_short (S : RowSaid) (FS : FracSaid) (a : Option Addr) (n c : Nat) (L : List Fx) (az : Option Addr) (cz : Nat) (Lz : List Fx) (s0 : Bool) (a0 : Option Addr) (n0 c0 : Nat) (la0 : List Nat) (b0 : Option Addr) (m0 d0 : Nat) (lb0 : List Nat) (w : World) (h : Fxs w a n c L) (hz : Fxs w az n cz Lz) (ha0 : Wd w a0 n0 c0 la0) (hb0 : Wd w b0 m0 d0 lb0) (hT : Hid (Dec10 w)) (hb : (n : Int) ≤ 6 ∧ thinI 3 L) (hbz : (n : Int) ≤ 6 ∧ thinI 3 Lz) (hn0 : n0 ≤ 3) (hm0 : m0 ≤ 3) : Calls Tryz.prog 7 #[.slice a n c, .slice az n cz, frV s0 a0 n0 c0 b0 m0 d0] w (Gives (.bool true) w) := by
  have HB := Lib.hid (below_alloc w (.cells #[.bool s0, .slice a0 n0 c0, .slice b0 m0 d0] 44))
  have X0 := Lib.hid (blk_new w #[.bool s0, .slice a0 n0 c0, .slice b0 m0 d0] 44)
  have HNB := Lib.hid hb
  have hn : n ≤ 6 := by have := hb.1; omega
  have hth : thin 3 L := thinI.out (N := 3) hb.2
  have hq : ∀ q ∈ fqs L, qlen q ≤ 4 := fun q hq => by
    obtain ⟨x, hx, rfl⟩ := List.mem_map.1 hq
    exact ((h.ok hx).fr (hth x hx).1 (hth x hx).2).len
  have hlq : (fqs L).length = n := (fqs_length L).trans h.len
  have HTH := Lib.hid hth
  have HQ := Lib.hid hq
  have HLQ := Lib.hid hlq
  have HF := Lib.hid h
  have HNBz := Lib.hid hbz
  have hn : n ≤ 6 := by have := hbz.1; omega
  have hthz : thin 3 Lz := thinI.out (N := 3) hbz.2
  have hqz : ∀ q ∈ fqs Lz, qlen q ≤ 4 := fun q hq => by
    obtain ⟨x, hx, rfl⟩ := List.mem_map.1 hq
    exact ((hz.ok hx).fr (hthz x hx).1 (hthz x hx).2).len
  have hlqz : (fqs Lz).length = n := (fqs_length Lz).trans hz.len
  have HTHz := Lib.hid hthz
  have HQz := Lib.hid hqz
  have HLQz := Lib.hid hlqz
  have HFz := Lib.hid hz
  have A0 := Lib.hid (ha0.later HB.out)
  have B0 := Lib.hid (hb0.later HB.out)
  obtain ⟨k, hk⟩ : ∃ k, qval s0 (val la0) (val lb0) = k := ⟨_, rfl⟩
  have EQ0 := Lib.hid hk
  have lk : qlen k ≤ 4 := (Fr.of ha0 hb0 hn0 hm0 hk).len
  obtain ⟨xs, hxs⟩ : ∃ xs, fqs L = xs := ⟨_, rfl⟩
  obtain ⟨ys, hys⟩ : ∃ ys, fqs Lz = ys := ⟨_, rfl⟩
  rw [hxs] at hq hlq
  rw [hys] at hqz hlqz
  obtain ⟨sc, hsc⟩ : ∃ sc, rscale k ys = sc := ⟨_, rfl⟩
  have lsc : ∀ q ∈ sc, qlen q ≤ 9 := by rw [← hsc]; exact qlen_rscale lk hqz
  have nsc : sc.length = n := by rw [← hsc, rscale_length]; exact hlqz
  obtain ⟨sm, hsm⟩ : ∃ sm, radd xs sc = sm := ⟨_, rfl⟩
  have lsm : ∀ q ∈ sm, qlen q ≤ 15 := by rw [← hsm]; exact qlen_radd hq lsc
  have nsm : sm.length = n := by rw [← hsm, radd_length _ _ (by omega)]; exact hlq
  obtain ⟨ql, hql⟩ : ∃ ql, rdot sm ys = ql := ⟨_, rfl⟩
  obtain ⟨qx, hqx⟩ : ∃ qx, rdot xs ys = qx := ⟨_, rfl⟩
  obtain ⟨qy, hqy⟩ : ∃ qy, rdot ys ys = qy := ⟨_, rfl⟩
  have n6 : n ≤ 6 := hn
  have lql : qlen ql ≤ 300 := by have := qlen_rdot lsm hqz; rw [hql] at this; omega
  have lqx : qlen qx ≤ 80 := by have := qlen_rdot hq hqz; rw [hqx] at this; omega
  have lqy : qlen qy ≤ 80 := by have := qlen_rdot hqz hqz; rw [hqy] at this; omega
  have lqm : qlen (k * qy) ≤ 100 := by have := qlen_mul k qy; omega
  have lqa : qlen (qx + k * qy) ≤ 300 := by have := qlen_add qx (k * qy); omega
  have hid : ql = qx + k * qy := by rw [← hql, ← hsm, ← hsc, ← hqx, ← hqy]; exact rdot_shares k xs ys ys (by omega)
  have EID := Lib.hid hid
  obtain ⟨nx, hnx⟩ : ∃ nx, rnorm xs = nx := ⟨_, rfl⟩
  obtain ⟨ns, hns⟩ : ∃ ns, rnorm sc = ns := ⟨_, rfl⟩
  obtain ⟨nm, hnm⟩ : ∃ nm, rnorm sm = nm := ⟨_, rfl⟩
  have lnx : qlen nx ≤ 4 := by rw [← hnx]; exact qlen_rnorm (by decide) hq
  have lns : qlen ns ≤ 9 := by rw [← hns]; exact qlen_rnorm (by decide) lsc
  have lnm : qlen nm ≤ 15 := by rw [← hnm]; exact qlen_rnorm (by decide) lsm
  have lmo : qlen (nx + ns) ≤ 20 := by have := qlen_add nx ns; omega
  obtain ⟨u, hu⟩ : ∃ u, sgn (nm - (nx + ns)).num = u := ⟨_, rfl⟩
  obtain ⟨v, hv⟩ : ∃ v, sgn qy.num = v := ⟨_, rfl⟩
  have hu0 : u ≤ 0 := by
    rw [← hu]
    have h9 := rnorm_add xs sc
    rw [hsm, hnm, hnx, hns] at h9
    exact sgn_le_zero h9
  have hv0 : 0 ≤ v := by rw [← hv]; exact sgn_ge_zero (by rw [← hqy]; exact rdot_self_nonneg ys)
  have LQL := Lib.hid lql
  have LQX := Lib.hid lqx
  have LQY := Lib.hid lqy
  have LQM := Lib.hid lqm
  have LQA := Lib.hid lqa
  have LNX := Lib.hid lnx
  have LNS := Lib.hid lns
  have LNM := Lib.hid lnm
  have LMO := Lib.hid lmo
  have NSC := Lib.hid nsc
  have NSM := Lib.hid nsm
  have LSC := Lib.hid lsc
  have LSM := Lib.hid lsm
  have HU := Lib.hid hu
  have HV := Lib.hid hv
  have HSC : ∀ (w' : World) (a1 : Option Addr) (c1 : Nat), Fr w' (frV s0 a0 n0 c0 b0 m0 d0) k 300 → Fxs w' a1 n c1 Lz → Calls Tryz.prog 30 #[frV s0 a0 n0 c0 b0 m0 d0, .slice a1 n c1] w' (LstRw sc w') := fun w' a1 c1 h1 h2 => by
    have h9 := S.scale (frV s0 a0 n0 c0 b0 m0 d0) k a1 n c1 Lz w' h1 h2 (by omega) (HTHz.out.mono (by decide))
    rw [hys, hsc] at h9
    exact h9
  have HAD : ∀ (w' : World) (g : Nat) (a1 : Option Addr) (c1 : Nat) (a2 : Option Addr) (n2 c2 : Nat), w'.heap.size = g → Fxs w' a1 n c1 L → Rw w' a2 n2 c2 sc → Calls Tryz.prog 27 #[.slice (some ⟨g, 0, none⟩) 2 2] (w'.alloc (.cells #[.slice a1 n c1, .slice a2 n2 c2] 28)) (LstRwV sm (.bool true) w') := fun w' g a1 c1 a2 n2 c2 hg h1 h2 => by
    have h9 := add2_fr S a1 n c1 L a2 n2 c2 sc w' g hg h1 h2 (by omega) (by have := h2.len; have := NSC.out; omega) (HTH.out.mono (by decide)) (fun q hq => Nat.le_trans (LSC.out q hq) (by decide))
    rw [hxs, hsm] at h9
    exact h9
  have HD1 : ∀ (w' : World) (a1 : Option Addr) (n1 c1 : Nat) (a2 : Option Addr) (c2 : Nat), Rw w' a1 n1 c1 sm → Fxs w' a2 n c2 Lz → Calls Tryz.prog 29 #[.slice a1 n1 c1, .slice a2 n c2] w' (LstQV ql (.bool true) w') := fun w' a1 n1 c1 a2 c2 h1 h2 => by
    have h9 := dot_rf S a1 n1 c1 sm a2 n c2 Lz w' h1 h2 (by have := h1.len; have := NSM.out; omega) (by have := h1.len; have := NSM.out; omega) (fun q hq => Nat.le_trans (LSM.out q hq) (by decide)) (HTHz.out.mono (by decide))
    rw [hys, hql] at h9
    exact h9
  have HD2 : ∀ (w' : World) (a1 : Option Addr) (c1 : Nat) (a2 : Option Addr) (c2 : Nat), Fxs w' a1 n c1 L → Fxs w' a2 n c2 Lz → Calls Tryz.prog 29 #[.slice a1 n c1, .slice a2 n c2] w' (LstQV qx (.bool true) w') := fun w' a1 c1 a2 c2 h1 h2 => by
    have h9 := S.dot_yes a1 n c1 L a2 n c2 Lz w' h1 h2 (by omega) (by omega) (HTH.out.mono (by decide)) (HTHz.out.mono (by decide)) (Lib.hid rfl)
    rw [hxs, hys, hqx] at h9
    exact h9
  have HD3 : ∀ (w' : World) (a1 : Option Addr) (c1 : Nat), Fxs w' a1 n c1 Lz → Calls Tryz.prog 29 #[.slice a1 n c1, .slice a1 n c1] w' (LstQV qy (.bool true) w') := fun w' a1 c1 h1 => by
    have h9 := S.dot_yes a1 n c1 Lz a1 n c1 Lz w' h1 h1 (by omega) (by omega) (HTHz.out.mono (by decide)) (HTHz.out.mono (by decide)) (Lib.hid rfl)
    rw [hys, hqy] at h9
    exact h9
  have HN1 : ∀ (w' : World) (a1 : Option Addr) (c1 : Nat), Fxs w' a1 n c1 L → Calls Tryz.prog 21 #[.slice a1 n c1] w' (LstQ nx w') := fun w' a1 c1 h1 => by
    have h9 := S.norm a1 n c1 L w' h1 (by omega) (HTH.out.mono (by decide))
    rw [hxs, hnx] at h9
    exact h9
  have HN2 : ∀ (w' : World) (a1 : Option Addr) (n1 c1 : Nat), Rw w' a1 n1 c1 sc → Calls Tryz.prog 21 #[.slice a1 n1 c1] w' (LstQ ns w') := fun w' a1 n1 c1 h1 => by
    have h9 := norm_rw S a1 n1 c1 sc w' h1 (by have := h1.len; have := NSC.out; omega) (fun q hq => Nat.le_trans (LSC.out q hq) (by decide))
    rw [hns] at h9
    exact h9
  have HN3 : ∀ (w' : World) (a1 : Option Addr) (n1 c1 : Nat), Rw w' a1 n1 c1 sm → Calls Tryz.prog 21 #[.slice a1 n1 c1] w' (LstQ nm w') := fun w' a1 n1 c1 h1 => by
    have h9 := norm_rw S a1 n1 c1 sm w' h1 (by have := h1.len; have := NSM.out; omega) (fun q hq => Nat.le_trans (LSM.out q hq) (by decide))
    rw [hnm] at h9
    exact h9
  have hl0 : (decide ((3 : Int) < (n0 : Int)) || decide ((3 : Int) < (m0 : Int))) = false := by rw [decide_eq_false (by omega), decide_eq_false (by omega)]; rfl
  replace HF := Lib.hid (HF.out.later HB.out)
  replace HFz := Lib.hid (HFz.out.later HB.out)
  clear hk hxs hys hsc hsm hql hqx hqy hnx hns hnm hu hv hid lk lsc nsc lsm nsm lql lqx lqy lqm lqa lnx lns lnm lmo ha0 hb0 n6
  clear h hb hlq hth hq
  clear hz hbz hlqz hthz hqz
  go_enter Tryz.func7, Tryz.ntmps7
  unfold frV
  obtain ⟨vk0, vk1, vk2⟩ := fcells_3 X0.out
  go_wp2_with fail
  refine (ref11_long a n c L 6 3 false _ HF.out (by decide) (Lib.hid ⟨fun h => absurd h (by decide), fun h => absurd HNB.out h⟩)).mono ?_
  rintro e wv1 ⟨rfl, b⟩
  clear vk0 vk1 vk2
  replace HB := Lib.hid (below_then HB.out b)
  replace X0 := Lib.hid (blk_later X0.out b)
  replace HF := Lib.hid (HF.out.later b)
  replace HFz := Lib.hid (HFz.out.later b)
  replace A0 := Lib.hid (A0.out.later b)
  replace B0 := Lib.hid (B0.out.later b)
  clear b
  obtain ⟨vk0, vk1, vk2⟩ := fcells_3 X0.out
  go_wp2_with fail
  refine (ref11_long az n cz Lz 6 3 false _ HFz.out (by decide) (Lib.hid ⟨fun h => absurd h (by decide), fun h => absurd HNBz.out h⟩)).mono ?_
  rintro e wv2 ⟨rfl, b⟩
  clear vk0 vk1 vk2
  replace HB := Lib.hid (below_then HB.out b)
  replace X0 := Lib.hid (blk_later X0.out b)
  replace HF := Lib.hid (HF.out.later b)
  replace HFz := Lib.hid (HFz.out.later b)
  replace A0 := Lib.hid (A0.out.later b)
  replace B0 := Lib.hid (B0.out.later b)
  clear b
  obtain ⟨vk0, vk1, vk2⟩ := fcells_3 X0.out
  go_wp2_with fail
  refine (ref09_long s0 a0 n0 c0 b0 m0 d0 3 _).mono ?_
  rintro e wv3 ⟨rfl, b⟩
  clear vk0 vk1 vk2
  replace HB := Lib.hid (below_then HB.out b)
  replace X0 := Lib.hid (blk_later X0.out b)
  replace HF := Lib.hid (HF.out.later b)
  replace HFz := Lib.hid (HFz.out.later b)
  replace A0 := Lib.hid (A0.out.later b)
  replace B0 := Lib.hid (B0.out.later b)
  clear b
  rw [hl0]
  obtain ⟨vk0, vk1, vk2⟩ := fcells_3 X0.out
  go_wp2_with fail
  refine (law11_to a n c L _ HF.out (by omega)).mono ?_
  rintro e wv4 ⟨a4, c4, rfl, h4, b⟩
  clear vk0 vk1 vk2
  replace HB := Lib.hid (below_then HB.out b)
  replace X0 := Lib.hid (blk_later X0.out b)
  replace HF := Lib.hid (HF.out.later b)
  replace HFz := Lib.hid (HFz.out.later b)
  replace A0 := Lib.hid (A0.out.later b)
  replace B0 := Lib.hid (B0.out.later b)
  clear b
  have R4 := Lib.hid h4
  clear h4
  obtain ⟨vk0, vk1, vk2⟩ := fcells_3 X0.out
  go_wp2_with fail
  refine (law11_to az n cz Lz _ HFz.out (by omega)).mono ?_
  rintro e wv5 ⟨a5, c5, rfl, h5, b⟩
  clear vk0 vk1 vk2
  replace HB := Lib.hid (below_then HB.out b)
  replace X0 := Lib.hid (blk_later X0.out b)
  replace HF := Lib.hid (HF.out.later b)
  replace HFz := Lib.hid (HFz.out.later b)
  replace A0 := Lib.hid (A0.out.later b)
  replace B0 := Lib.hid (B0.out.later b)
  replace R4 := Lib.hid (R4.out.later b)
  clear b
  have R5 := Lib.hid h5
  clear h5
  clear HF HFz
  obtain ⟨vk0, vk1, vk2⟩ := fcells_3 X0.out
  go_wp2_with fail
  refine (law09_to s0 a0 n0 c0 b0 m0 d0 _).mono ?_
  rintro e wv6 ⟨rfl, b⟩
  clear vk0 vk1 vk2
  replace HB := Lib.hid (below_then HB.out b)
  replace X0 := Lib.hid (blk_later X0.out b)
  replace A0 := Lib.hid (A0.out.later b)
  replace B0 := Lib.hid (B0.out.later b)
  replace R4 := Lib.hid (R4.out.later b)
  replace R5 := Lib.hid (R5.out.later b)
  clear b
  unfold frV
  have P0 : Hid ((World.alloc wv6 (.cells #[.bool s0, .slice a0 n0 c0, .slice b0 m0 d0] 41)).heap[wv6.heap.size]? = some (.cells #[.bool s0, .slice a0 n0 c0, .slice b0 m0 d0] 41 (0, 0))) := Lib.hid (blk_new wv6 _ _)
  replace HB := Lib.hid (below_then HB.out (below_alloc wv6 (.cells #[.bool s0, .slice a0 n0 c0, .slice b0 m0 d0] 41)))
  replace X0 := Lib.hid (blk_later X0.out (below_alloc wv6 (.cells #[.bool s0, .slice a0 n0 c0, .slice b0 m0 d0] 41)))
  replace A0 := Lib.hid (A0.out.later (below_alloc wv6 (.cells #[.bool s0, .slice a0 n0 c0, .slice b0 m0 d0] 41)))
  replace B0 := Lib.hid (B0.out.later (below_alloc wv6 (.cells #[.bool s0, .slice a0 n0 c0, .slice b0 m0 d0] 41)))
  replace R4 := Lib.hid (R4.out.later (below_alloc wv6 (.cells #[.bool s0, .slice a0 n0 c0, .slice b0 m0 d0] 41)))
  replace R5 := Lib.hid (R5.out.later (below_alloc wv6 (.cells #[.bool s0, .slice a0 n0 c0, .slice b0 m0 d0] 41)))
  clear X0
  obtain ⟨vk0, vk1, vk2⟩ := fcells_3 P0.out
  go_wp2_with fail
  refine (HSC _ a5 c5 (Fr.of A0.out B0.out (by omega) (by omega) EQ0.out) R5.out).mono ?_
  rintro e wv7 ⟨a7, n7, c7, rfl, h7, b⟩
  clear vk0 vk1 vk2
  replace HB := Lib.hid (below_then HB.out b)
  replace P0 := Lib.hid (blk_later P0.out b)
  replace A0 := Lib.hid (A0.out.later b)
  replace B0 := Lib.hid (B0.out.later b)
  replace R4 := Lib.hid (R4.out.later b)
  replace R5 := Lib.hid (R5.out.later b)
  clear b
  have R7 := Lib.hid h7
  clear h7
  obtain ⟨vk0, vk1, vk2⟩ := fcells_3 P0.out
  go_wp2_with fail
  refine (HAD _ _ a4 c4 a7 n7 c7 rfl R4.out R7.out).mono ?_
  rintro e wv8 ⟨a8, n8, c8, rfl, h8, b⟩
  clear vk0 vk1 vk2
  replace HB := Lib.hid (below_then HB.out b)
  replace P0 := Lib.hid (blk_later P0.out b)
  replace A0 := Lib.hid (A0.out.later b)
  replace B0 := Lib.hid (B0.out.later b)
  replace R4 := Lib.hid (R4.out.later b)
  replace R5 := Lib.hid (R5.out.later b)
  replace R7 := Lib.hid (R7.out.later b)
  clear b
  have R8 := Lib.hid h8
  clear h8
  clear R7
  obtain ⟨vk0, vk1, vk2⟩ := fcells_3 P0.out
  go_wp2_with fail
  refine (HD1 _ a8 n8 c8 a5 c5 R8.out R5.out).mono ?_
  rintro e wv9 ⟨a9, n9, c9, b9, m9, d9, rfl, h9, g9, b⟩
  clear vk0 vk1 vk2
  replace HB := Lib.hid (below_then HB.out b)
  replace P0 := Lib.hid (blk_later P0.out b)
  replace A0 := Lib.hid (A0.out.later b)
  replace B0 := Lib.hid (B0.out.later b)
  replace R4 := Lib.hid (R4.out.later b)
  replace R5 := Lib.hid (R5.out.later b)
  replace R8 := Lib.hid (R8.out.later b)
  clear b
  have hN9 : n9 ≤ 300 := (by rw [← h9.len]; exact Nat.le_trans (qlen_num _) LQL.out)
  have hM9 : m9 ≤ 300 := (by rw [← g9.len]; exact Nat.le_trans (qlen_den _) LQL.out)
  have R9 := Lib.hid h9
  have T9 := Lib.hid g9
  clear h9 g9
  unfold frV
  have P9 : Hid ((World.alloc wv9 (.cells #[.bool (zneg ql.num), .slice a9 n9 c9, .slice b9 m9 d9] 41)).heap[wv9.heap.size]? = some (.cells #[.bool (zneg ql.num), .slice a9 n9 c9, .slice b9 m9 d9] 41 (0, 0))) := Lib.hid (blk_new wv9 _ _)
  replace HB := Lib.hid (below_then HB.out (below_alloc wv9 (.cells #[.bool (zneg ql.num), .slice a9 n9 c9, .slice b9 m9 d9] 41)))
  replace P0 := Lib.hid (blk_later P0.out (below_alloc wv9 (.cells #[.bool (zneg ql.num), .slice a9 n9 c9, .slice b9 m9 d9] 41)))
  replace A0 := Lib.hid (A0.out.later (below_alloc wv9 (.cells #[.bool (zneg ql.num), .slice a9 n9 c9, .slice b9 m9 d9] 41)))
  replace B0 := Lib.hid (B0.out.later (below_alloc wv9 (.cells #[.bool (zneg ql.num), .slice a9 n9 c9, .slice b9 m9 d9] 41)))
  replace R4 := Lib.hid (R4.out.later (below_alloc wv9 (.cells #[.bool (zneg ql.num), .slice a9 n9 c9, .slice b9 m9 d9] 41)))
  replace R5 := Lib.hid (R5.out.later (below_alloc wv9 (.cells #[.bool (zneg ql.num), .slice a9 n9 c9, .slice b9 m9 d9] 41)))
  replace R8 := Lib.hid (R8.out.later (below_alloc wv9 (.cells #[.bool (zneg ql.num), .slice a9 n9 c9, .slice b9 m9 d9] 41)))
  replace R9 := Lib.hid (R9.out.later (below_alloc wv9 (.cells #[.bool (zneg ql.num), .slice a9 n9 c9, .slice b9 m9 d9] 41)))
  replace T9 := Lib.hid (T9.out.later (below_alloc wv9 (.cells #[.bool (zneg ql.num), .slice a9 n9 c9, .slice b9 m9 d9] 41)))
  obtain ⟨vk0, vk1, vk2, vk3, vk4, vk5⟩ := fcells_3_3 P0.out P9.out
  go_wp2_with fail
  refine (HD2 _ a4 c4 a5 c5 R4.out R5.out).mono ?_
  rintro e wv10 ⟨a10, n10, c10, b10, m10, d10, rfl, h10, g10, b⟩
  clear vk0 vk1 vk2 vk3 vk4 vk5
  replace HB := Lib.hid (below_then HB.out b)
  replace P0 := Lib.hid (blk_later P0.out b)
  replace P9 := Lib.hid (blk_later P9.out b)
  replace A0 := Lib.hid (A0.out.later b)
  replace B0 := Lib.hid (B0.out.later b)
  replace R4 := Lib.hid (R4.out.later b)
  replace R5 := Lib.hid (R5.out.later b)
  replace R8 := Lib.hid (R8.out.later b)
  replace R9 := Lib.hid (R9.out.later b)
  replace T9 := Lib.hid (T9.out.later b)
  clear b
  have hN10 : n10 ≤ 300 := (by rw [← h10.len]; exact Nat.le_trans (qlen_num _) (Nat.le_trans LQX.out (by decide)))
  have hM10 : m10 ≤ 300 := (by rw [← g10.len]; exact Nat.le_trans (qlen_den _) (Nat.le_trans LQX.out (by decide)))
  have R10 := Lib.hid h10
  have T10 := Lib.hid g10
  clear h10 g10
  unfold frV
  have P10 : Hid ((World.alloc wv10 (.cells #[.bool (zneg qx.num), .slice a10 n10 c10, .slice b10 m10 d10] 41)).heap[wv10.heap.size]? = some (.cells #[.bool (zneg qx.num), .slice a10 n10 c10, .slice b10 m10 d10] 41 (0, 0))) := Lib.hid (blk_new wv10 _ _)
  replace HB := Lib.hid (below_then HB.out (below_alloc wv10 (.cells #[.bool (zneg qx.num), .slice a10 n10 c10, .slice b10 m10 d10] 41)))
  replace P0 := Lib.hid (blk_later P0.out (below_alloc wv10 (.cells #[.bool (zneg qx.num), .slice a10 n10 c10, .slice b10 m10 d10] 41)))
  replace P9 := Lib.hid (blk_later P9.out (below_alloc wv10 (.cells #[.bool (zneg qx.num), .slice a10 n10 c10, .slice b10 m10 d10] 41)))
  replace A0 := Lib.hid (A0.out.later (below_alloc wv10 (.cells #[.bool (zneg qx.num), .slice a10 n10 c10, .slice b10 m10 d10] 41)))
  replace B0 := Lib.hid (B0.out.later (below_alloc wv10 (.cells #[.bool (zneg qx.num), .slice a10 n10 c10, .slice b10 m10 d10] 41)))
  replace R4 := Lib.hid (R4.out.later (below_alloc wv10 (.cells #[.bool (zneg qx.num), .slice a10 n10 c10, .slice b10 m10 d10] 41)))
  replace R5 := Lib.hid (R5.out.later (below_alloc wv10 (.cells #[.bool (zneg qx.num), .slice a10 n10 c10, .slice b10 m10 d10] 41)))
  replace R8 := Lib.hid (R8.out.later (below_alloc wv10 (.cells #[.bool (zneg qx.num), .slice a10 n10 c10, .slice b10 m10 d10] 41)))
  replace R9 := Lib.hid (R9.out.later (below_alloc wv10 (.cells #[.bool (zneg qx.num), .slice a10 n10 c10, .slice b10 m10 d10] 41)))
  replace T9 := Lib.hid (T9.out.later (below_alloc wv10 (.cells #[.bool (zneg qx.num), .slice a10 n10 c10, .slice b10 m10 d10] 41)))
  replace R10 := Lib.hid (R10.out.later (below_alloc wv10 (.cells #[.bool (zneg qx.num), .slice a10 n10 c10, .slice b10 m10 d10] 41)))
  replace T10 := Lib.hid (T10.out.later (below_alloc wv10 (.cells #[.bool (zneg qx.num), .slice a10 n10 c10, .slice b10 m10 d10] 41)))
  obtain ⟨vk0, vk1, vk2, vk3, vk4, vk5, vk6, vk7, vk8⟩ := fcells_3_3_3 P0.out P9.out P10.out
  go_wp2_with fail
  refine (HD3 _ a5 c5 R5.out).mono ?_
  rintro e wv11 ⟨a11, n11, c11, b11, m11, d11, rfl, h11, g11, b⟩
  clear vk0 vk1 vk2 vk3 vk4 vk5 vk6 vk7 vk8
  replace HB := Lib.hid (below_then HB.out b)
  replace P0 := Lib.hid (blk_later P0.out b)
  replace P9 := Lib.hid (blk_later P9.out b)
  replace P10 := Lib.hid (blk_later P10.out b)
  replace A0 := Lib.hid (A0.out.later b)
  replace B0 := Lib.hid (B0.out.later b)
  replace R4 := Lib.hid (R4.out.later b)
  replace R5 := Lib.hid (R5.out.later b)
  replace R8 := Lib.hid (R8.out.later b)
  replace R9 := Lib.hid (R9.out.later b)
  replace T9 := Lib.hid (T9.out.later b)
  replace R10 := Lib.hid (R10.out.later b)
  replace T10 := Lib.hid (T10.out.later b)
  clear b
  have hN11 : n11 ≤ 300 := (by rw [← h11.len]; exact Nat.le_trans (qlen_num _) (Nat.le_trans LQY.out (by decide)))
  have hM11 : m11 ≤ 300 := (by rw [← g11.len]; exact Nat.le_trans (qlen_den _) (Nat.le_trans LQY.out (by decide)))
  have R11 := Lib.hid h11
  have T11 := Lib.hid g11
  clear h11 g11
  unfold frV
  have P11 : Hid ((World.alloc wv11 (.cells #[.bool (zneg qy.num), .slice a11 n11 c11, .slice b11 m11 d11] 41)).heap[wv11.heap.size]? = some (.cells #[.bool (zneg qy.num), .slice a11 n11 c11, .slice b11 m11 d11] 41 (0, 0))) := Lib.hid (blk_new wv11 _ _)
  replace HB := Lib.hid (below_then HB.out (below_alloc wv11 (.cells #[.bool (zneg qy.num), .slice a11 n11 c11, .slice b11 m11 d11] 41)))
  replace P0 := Lib.hid (blk_later P0.out (below_alloc wv11 (.cells #[.bool (zneg qy.num), .slice a11 n11 c11, .slice b11 m11 d11] 41)))
  replace P9 := Lib.hid (blk_later P9.out (below_alloc wv11 (.cells #[.bool (zneg qy.num), .slice a11 n11 c11, .slice b11 m11 d11] 41)))
  replace P10 := Lib.hid (blk_later P10.out (below_alloc wv11 (.cells #[.bool (zneg qy.num), .slice a11 n11 c11, .slice b11 m11 d11] 41)))
  replace A0 := Lib.hid (A0.out.later (below_alloc wv11 (.cells #[.bool (zneg qy.num), .slice a11 n11 c11, .slice b11 m11 d11] 41)))
  replace B0 := Lib.hid (B0.out.later (below_alloc wv11 (.cells #[.bool (zneg qy.num), .slice a11 n11 c11, .slice b11 m11 d11] 41)))
  replace R4 := Lib.hid (R4.out.later (below_alloc wv11 (.cells #[.bool (zneg qy.num), .slice a11 n11 c11, .slice b11 m11 d11] 41)))
  replace R5 := Lib.hid (R5.out.later (below_alloc wv11 (.cells #[.bool (zneg qy.num), .slice a11 n11 c11, .slice b11 m11 d11] 41)))
  replace R8 := Lib.hid (R8.out.later (below_alloc wv11 (.cells #[.bool (zneg qy.num), .slice a11 n11 c11, .slice b11 m11 d11] 41)))
  replace R9 := Lib.hid (R9.out.later (below_alloc wv11 (.cells #[.bool (zneg qy.num), .slice a11 n11 c11, .slice b11 m11 d11] 41)))
  replace T9 := Lib.hid (T9.out.later (below_alloc wv11 (.cells #[.bool (zneg qy.num), .slice a11 n11 c11, .slice b11 m11 d11] 41)))
  replace R10 := Lib.hid (R10.out.later (below_alloc wv11 (.cells #[.bool (zneg qy.num), .slice a11 n11 c11, .slice b11 m11 d11] 41)))
  replace T10 := Lib.hid (T10.out.later (below_alloc wv11 (.cells #[.bool (zneg qy.num), .slice a11 n11 c11, .slice b11 m11 d11] 41)))
  replace R11 := Lib.hid (R11.out.later (below_alloc wv11 (.cells #[.bool (zneg qy.num), .slice a11 n11 c11, .slice b11 m11 d11] 41)))
  replace T11 := Lib.hid (T11.out.later (below_alloc wv11 (.cells #[.bool (zneg qy.num), .slice a11 n11 c11, .slice b11 m11 d11] 41)))
  go_wp2
  generalize (wv11.alloc (.cells #[.bool (zneg qy.num), .slice a11 n11 c11, .slice b11 m11 d11] 41)) = W at *
  replace HB := Lib.hid (below_then HB.out ((Below.refl _ _).drew : Below W.heap.size W W.drew))
  replace P0 : Hid (W.drew.heap[wv6.heap.size]? = _) := Lib.hid P0.out
  replace P9 : Hid (W.drew.heap[wv9.heap.size]? = _) := Lib.hid P9.out
  replace P10 : Hid (W.drew.heap[wv10.heap.size]? = _) := Lib.hid P10.out
  replace P11 : Hid (W.drew.heap[wv11.heap.size]? = _) := Lib.hid P11.out
  replace A0 := Lib.hid (A0.out.later ((Below.refl _ _).drew : Below W.heap.size W W.drew))
  replace B0 := Lib.hid (B0.out.later ((Below.refl _ _).drew : Below W.heap.size W W.drew))
  replace R4 := Lib.hid (R4.out.later ((Below.refl _ _).drew : Below W.heap.size W W.drew))
  replace R5 := Lib.hid (R5.out.later ((Below.refl _ _).drew : Below W.heap.size W W.drew))
  replace R8 := Lib.hid (R8.out.later ((Below.refl _ _).drew : Below W.heap.size W W.drew))
  replace R9 := Lib.hid (R9.out.later ((Below.refl _ _).drew : Below W.heap.size W W.drew))
  replace T9 := Lib.hid (T9.out.later ((Below.refl _ _).drew : Below W.heap.size W W.drew))
  replace R10 := Lib.hid (R10.out.later ((Below.refl _ _).drew : Below W.heap.size W W.drew))
  replace T10 := Lib.hid (T10.out.later ((Below.refl _ _).drew : Below W.heap.size W W.drew))
  replace R11 := Lib.hid (R11.out.later ((Below.refl _ _).drew : Below W.heap.size W W.drew))
  replace T11 := Lib.hid (T11.out.later ((Below.refl _ _).drew : Below W.heap.size W W.drew))
  have pSn := fcells_3_3_3_3 P0.out P9.out P10.out P11.out
  go_region_held3 (fun w' => w'.cell? ⟨wv6.heap.size, 0, none⟩ = some (.bool s0) ∧ w'.cell? ⟨wv6.heap.size, 1, none⟩ = some (.slice a0 n0 c0) ∧ w'.cell? ⟨wv6.heap.size, 2, none⟩ = some (.slice b0 m0 d0) ∧ w'.cell? ⟨wv9.heap.size, 0, none⟩ = some (.bool (zneg ql.num)) ∧ w'.cell? ⟨wv9.heap.size, 1, none⟩ = some (.slice a9 n9 c9) ∧ w'.cell? ⟨wv9.heap.size, 2, none⟩ = some (.slice b9 m9 d9) ∧ w'.cell? ⟨wv10.heap.size, 0, none⟩ = some (.bool (zneg qx.num)) ∧ w'.cell? ⟨wv10.heap.size, 1, none⟩ = some (.slice a10 n10 c10) ∧ w'.cell? ⟨wv10.heap.size, 2, none⟩ = some (.slice b10 m10 d10) ∧ w'.cell? ⟨wv11.heap.size, 0, none⟩ = some (.bool (zneg qy.num)) ∧ w'.cell? ⟨wv11.heap.size, 1, none⟩ = some (.slice a11 n11 c11) ∧ w'.cell? ⟨wv11.heap.size, 2, none⟩ = some (.slice b11 m11 d11)) (exact pSn)
    (first
    | (go_at_call 44; (first
      | (refine (FS.mul (frV s0 a0 n0 c0 b0 m0 d0) (frV (zneg (qy).num) a11 n11 c11 b11 m11 d11) k qy _ (Fr.of A0.out B0.out (by omega) (by omega) EQ0.out) (Fr.right R11.out T11.out (by omega) (by omega))).mono ?_; rintro e wp1 ⟨a12, n12, c12, b12, m12, d12, rfl, h12, g12, b⟩; replace HB := Lib.hid (below_then HB.out b); replace P0 := Lib.hid (blk_later P0.out b); replace P9 := Lib.hid (blk_later P9.out b); replace P10 := Lib.hid (blk_later P10.out b); replace P11 := Lib.hid (blk_later P11.out b); replace A0 := Lib.hid (A0.out.later b); replace B0 := Lib.hid (B0.out.later b); replace R4 := Lib.hid (R4.out.later b); replace R5 := Lib.hid (R5.out.later b); replace R8 := Lib.hid (R8.out.later b); replace R9 := Lib.hid (R9.out.later b); replace T9 := Lib.hid (T9.out.later b); replace R10 := Lib.hid (R10.out.later b); replace T10 := Lib.hid (T10.out.later b); replace R11 := Lib.hid (R11.out.later b); replace T11 := Lib.hid (T11.out.later b); have R12 := Lib.hid h12; have T12 := Lib.hid g12; have hN12 : n12 ≤ 300 := (by rw [← h12.len]; exact Nat.le_trans (qlen_num _) (Nat.le_trans LQM.out (by decide))); have hM12 : m12 ≤ 300 := (by rw [← g12.len]; exact Nat.le_trans (qlen_den _) (Nat.le_trans LQM.out (by decide))); clear h12 g12; clear b; clear pSn; have pSn := fcells_3_3_3_3 P0.out P9.out P10.out P11.out; have pM1 := True.intro)))
    | (go_at_call 43; (first
      | (have pm1 := pM1; refine (FS.add (frV (zneg (qx).num) a10 n10 c10 b10 m10 d10) (frV (zneg (k * qy).num) a12 n12 c12 b12 m12 d12) qx (k * qy) _ (Fr.right R10.out T10.out (by omega) (by omega)) (Fr.right R12.out T12.out (by omega) (by omega))).mono ?_; rintro e wp2 ⟨a13, n13, c13, b13, m13, d13, rfl, h13, g13, b⟩; replace HB := Lib.hid (below_then HB.out b); replace P0 := Lib.hid (blk_later P0.out b); replace P9 := Lib.hid (blk_later P9.out b); replace P10 := Lib.hid (blk_later P10.out b); replace P11 := Lib.hid (blk_later P11.out b); replace A0 := Lib.hid (A0.out.later b); replace B0 := Lib.hid (B0.out.later b); replace R4 := Lib.hid (R4.out.later b); replace R5 := Lib.hid (R5.out.later b); replace R8 := Lib.hid (R8.out.later b); replace R9 := Lib.hid (R9.out.later b); replace T9 := Lib.hid (T9.out.later b); replace R10 := Lib.hid (R10.out.later b); replace T10 := Lib.hid (T10.out.later b); replace R11 := Lib.hid (R11.out.later b); replace T11 := Lib.hid (T11.out.later b); clear R12; clear T12; have R13 := Lib.hid h13; have T13 := Lib.hid g13; have hN13 : n13 ≤ 300 := (by rw [← h13.len]; exact Nat.le_trans (qlen_num _) LQA.out); have hM13 : m13 ≤ 300 := (by rw [← g13.len]; exact Nat.le_trans (qlen_den _) LQA.out); clear h13 g13; clear b; clear pSn; have pSn := fcells_3_3_3_3 P0.out P9.out P10.out P11.out; clear pM1 pm1; have pM2 := True.intro)))
    | (go_at_call 42; (first
      | (have pm2 := pM2; refine (FS.same (frV (zneg (ql).num) a9 n9 c9 b9 m9 d9) (frV (zneg (qx + k * qy).num) a13 n13 c13 b13 m13 d13) ql (qx + k * qy) _ (Fr.right R9.out T9.out (by omega) (by omega)) (Fr.right R13.out T13.out (by omega) (by omega))).mono ?_; rintro e wp3 ⟨rfl, b⟩; replace HB := Lib.hid (below_then HB.out b); replace P0 := Lib.hid (blk_later P0.out b); replace P9 := Lib.hid (blk_later P9.out b); replace P10 := Lib.hid (blk_later P10.out b); replace P11 := Lib.hid (blk_later P11.out b); replace A0 := Lib.hid (A0.out.later b); replace B0 := Lib.hid (B0.out.later b); replace R4 := Lib.hid (R4.out.later b); replace R5 := Lib.hid (R5.out.later b); replace R8 := Lib.hid (R8.out.later b); replace R9 := Lib.hid (R9.out.later b); replace T9 := Lib.hid (T9.out.later b); replace R10 := Lib.hid (R10.out.later b); replace T10 := Lib.hid (T10.out.later b); replace R11 := Lib.hid (R11.out.later b); replace T11 := Lib.hid (T11.out.later b); clear R13; clear T13; rw [decide_eq_true EID.out]; clear b; clear pSn; have pSn := fcells_3_3_3_3 P0.out P9.out P10.out P11.out; clear pM2 pm2; have pM3 := True.intro))))
  clear R9 T9 R10 T10 P9 P10
  go_wp2
  generalize wp3 = W2 at *
  have hW2 : wv6.heap.size < W2.heap.size := (Array.getElem?_eq_some_iff.1 P0.out).1
  go_cut [18] from 94 to 101 (fun pv wx => ∃ (g : Nat) (a18 : Option Addr) (n18 c18 : Nat) (b18 : Option Addr) (m18 d18 : Nat), pv = .pointer (some ⟨g, 0, none⟩) ∧ n18 ≤ 300 ∧ m18 ≤ 300 ∧ Hid (wx.heap[g]? = some (.cells #[.bool (zneg (nx + ns).num), .slice a18 n18 c18, .slice b18 m18 d18] 41 (0, 0))) ∧ Hid (Wd wx a18 n18 c18 (dg (nx + ns).num.natAbs)) ∧ Hid (Wd wx b18 m18 d18 (dg (nx + ns).den)) ∧ Hid (Below W2.heap.size W2 wx))
  case first =>
    have HBd : Hid (Below W2.heap.size W2 W2.drew) := Lib.hid (Below.refl _ _).drew
    have pSn := fcells_3 (blk_later P0.out HBd.out)
    have pSa := fun o => fcells_3 (blk_later P0.out (below_then HBd.out (below_alloc _ o)))
    have pSd := fun o => fcells_3 (blk_drewn (blk_later P0.out (below_alloc W2 o)))
    go_region_held3 (fun w' => w'.cell? ⟨wv6.heap.size, 0, none⟩ = some (.bool s0) ∧ w'.cell? ⟨wv6.heap.size, 1, none⟩ = some (.slice a0 n0 c0) ∧ w'.cell? ⟨wv6.heap.size, 2, none⟩ = some (.slice b0 m0 d0)) (first | with_reducible exact pSn | with_reducible exact pSa _ | with_reducible exact pSd _ | with_reducible exact qSn | with_reducible exact qSa _ | with_reducible exact rSn | with_reducible exact rSa _ | with_reducible exact sSn | with_reducible exact sSa _ | with_reducible exact tSn | with_reducible exact tSa _ | with_reducible exact tSb _ _ _ _ hne3 | with_reducible exact tSb _ _ _ _ hne2 | with_reducible exact tSb _ _ _ _ hne1 | with_reducible exact tSb _ _ _ _ hne0 | with_reducible exact tSb _ _ _ _ hnew)
      (first
      | (go_at_call 21; (first
        | (have zm2 := zM2; refine (later_lstQ (v0 := w2) ?q5 (HN2 _ a16 n16 c16 (R16.out.later ?q6))).mono ?_; (case q5 => first | with_reducible exact Below.refl _ _ | with_reducible exact below_alloc _ _); (case q6 => first | with_reducible exact Below.refl _ _ | with_reducible exact below_alloc _ _); rintro e w3 ⟨a17, n17, c17, b17, m17, d17, rfl, h17, g17, hb3, k3⟩; have R17 := Lib.hid h17; have T17 := Lib.hid g17; have hN17 : n17 ≤ 300 := (by rw [← h17.len]; exact Nat.le_trans (qlen_num _) (Nat.le_trans LNS.out (by decide))); have hM17 : m17 ≤ 300 := (by rw [← g17.len]; exact Nat.le_trans (qlen_den _) (Nat.le_trans LNS.out (by decide))); replace R15 := Lib.hid (R15.out.later hb3); replace T15 := Lib.hid (T15.out.later hb3); have HB3 := Lib.hid (below_then HB2.out hb3); have hs3 := hb3.size; (first | (have N3 := Lib.hid (k3 _ _ N2.out)) | (have N3 := Lib.hid (k3 _ _ (blk_new _ _ _))) | skip); have sSn := fcells_3 (blk_later P0.out HB3.out); have sSa := fun o => fcells_3 (blk_later P0.out (below_then HB3.out (below_alloc _ o))); clear h17 g17 hb3 rSn rSa k3 R16 zM2 zm2; have zM3 := True.intro)
        | (refine (later_lstQ (v0 := W2) ?q0 (HN1 _ a4 c4 (R4.out.later ?q1))).mono ?_; (case q0 => first | with_reducible exact HBd.out | with_reducible exact below_then HBd.out (below_alloc _ _) | with_reducible exact (below_alloc _ _).drew); (case q1 => first | with_reducible exact HBd.out | with_reducible exact below_then HBd.out (below_alloc _ _) | with_reducible exact (below_alloc _ _).drew); rintro e w1 ⟨a15, n15, c15, b15, m15, d15, rfl, h15, g15, hb1, k1⟩; have R15 := Lib.hid h15; have T15 := Lib.hid g15; have hN15 : n15 ≤ 300 := (by rw [← h15.len]; exact Nat.le_trans (qlen_num _) (Nat.le_trans LNX.out (by decide))); have hM15 : m15 ≤ 300 := (by rw [← g15.len]; exact Nat.le_trans (qlen_den _) (Nat.le_trans LNX.out (by decide))); have HB1 := Lib.hid hb1; have hs1 := hb1.size; (first | (have N1 := Lib.hid (k1 _ _ (blk_new _ _ _))) | (have N1 := Lib.hid (k1 _ _ (blk_drewn (blk_new W2 _ _)))) | skip); have qSn := fcells_3 (blk_later P0.out hb1); have qSa := fun o => fcells_3 (blk_later P0.out (below_then hb1 (below_alloc _ o))); clear h15 g15 hb1 pSn pSa pSd k1; have zM1 := True.intro)))
      | (go_at_call 30; have zm1 := zM1; refine (later_lstRw (v0 := w1) ?q2 (HSC _ a5 c5 (Fr.of (A0.out.later ?q3) (B0.out.later ?q4) (by omega) (by omega) EQ0.out) (R5.out.later ?q9))).mono ?_; (case q2 => first | with_reducible exact Below.refl _ _ | with_reducible exact below_alloc _ _); (case q3 => first | with_reducible exact HB1.out | with_reducible exact below_then HB1.out (below_alloc _ _)); (case q4 => first | with_reducible exact HB1.out | with_reducible exact below_then HB1.out (below_alloc _ _)); (case q9 => first | with_reducible exact HB1.out | with_reducible exact below_then HB1.out (below_alloc _ _)); rintro e w2 ⟨a16, n16, c16, rfl, h16, hb2, k2⟩; have R16 := Lib.hid h16; replace R15 := Lib.hid (R15.out.later hb2); replace T15 := Lib.hid (T15.out.later hb2); have HB2 := Lib.hid (below_then HB1.out hb2); have hs2 := hb2.size; (first | (have N2 := Lib.hid (k2 _ _ N1.out)) | (have N2 := Lib.hid (k2 _ _ (blk_new _ _ _))) | skip); have rSn := fcells_3 (blk_later P0.out HB2.out); have rSa := fun o => fcells_3 (blk_later P0.out (below_then HB2.out (below_alloc _ o))); clear h16 hb2 qSn qSa k2 zM1 zm1; have zM2 := True.intro)
      | (go_at_call 43; have zm3 := zM3; refine (later_lstQ (v0 := w3) ?q7 (FS.add (frV (zneg (nx).num) a15 n15 c15 b15 m15 d15) (frV (zneg (ns).num) a17 n17 c17 b17 m17 d17) nx ns _ (Fr.right (R15.out.later ?q8) (T15.out.later ?q10) (by omega) (by omega)) (Fr.right (R17.out.later ?q11) (T17.out.later ?q12) (by omega) (by omega)))).mono ?_; (case q7 => first | with_reducible exact Below.refl _ _ | with_reducible exact below_alloc _ _); (case q8 => first | with_reducible exact Below.refl _ _ | with_reducible exact below_alloc _ _); (case q10 => first | with_reducible exact Below.refl _ _ | with_reducible exact below_alloc _ _); (case q11 => first | with_reducible exact Below.refl _ _ | with_reducible exact below_alloc _ _); (case q12 => first | with_reducible exact Below.refl _ _ | with_reducible exact below_alloc _ _); rintro e w4 ⟨a18, n18, c18, b18, m18, d18, rfl, h18, g18, hb4, k4⟩; have R18 := Lib.hid h18; have T18 := Lib.hid g18; have hN18 : n18 ≤ 300 := (by rw [← h18.len]; exact Nat.le_trans (qlen_num _) (Nat.le_trans LMO.out (by decide))); have hM18 : m18 ≤ 300 := (by rw [← g18.len]; exact Nat.le_trans (qlen_den _) (Nat.le_trans LMO.out (by decide))); have HB4 := Lib.hid (below_then HB3.out hb4); have hs4 := hb4.size; have hne0 : wv6.heap.size ≠ W2.heap.size := (by omega); have hnew : wv6.heap.size ≠ W2.drew.heap.size := hne0; have hne1 : wv6.heap.size ≠ w1.heap.size := (by omega); have hne2 : wv6.heap.size ≠ w2.heap.size := (by omega); have hne3 : wv6.heap.size ≠ w3.heap.size := (by omega); (first | (have N4 := Lib.hid (k4 _ _ N3.out)) | (have N4 := Lib.hid (k4 _ _ (blk_new _ _ _))) | skip); (try (have r0 := blk_cell N4.out 0; have r1 := blk_cell N4.out 1; have r2 := blk_cell N4.out 2; have f0 := blk_free N4.out 0; have f1 := blk_free N4.out 1; have f2 := blk_free N4.out 2; simp only [List.getElem?_toArray, List.getElem?_cons_zero, List.getElem?_cons_succ] at r0 r1 r2)); have tSn := fcells_3 (blk_later P0.out HB4.out); have tSa := fun o => fcells_3 (blk_later P0.out (below_then HB4.out (below_alloc _ o))); have tSb := fun g u v q hg => fcells_3 (blk_far3 (g := g) (blk_later P0.out HB4.out) hg u v q); clear h18 g18 hb4 sSn sSa k4 zM3 zm3; unfold frV))
    all_goals (
      go_wp2
      go_meet
      refine ⟨_, a18, n18, c18, b18, m18, d18, rfl, hN18, hM18, Lib.hid ?_, Lib.hid ?_, Lib.hid ?_, Lib.hid ?_⟩
      · first | with_reducible exact blk_new _ _ _ | with_reducible exact blk_set3 N4.out _ _ _
      · first | with_reducible exact R18.out.later (below_alloc _ _) | with_reducible exact R18.out.stored3 N4.out _ _ _ _ _
      · first | with_reducible exact T18.out.later (below_alloc _ _) | with_reducible exact T18.out.stored3 N4.out _ _ _ _ _
      · first | with_reducible exact below_then HB4.out (below_alloc _ _) | exact below_set3 HB4.out (by omega) _ _ _)
  case rest =>
    obtain ⟨g, a18, n18, c18, b18, m18, d18, rfl, hN18, hM18, P18, R18, T18, HBc⟩ := hcut
    replace HB := Lib.hid (below_then HB.out HBc.out)
    replace P11 := Lib.hid (blk_later P11.out HBc.out)
    replace R8 := Lib.hid (R8.out.later HBc.out)
    replace R11 := Lib.hid (R11.out.later HBc.out)
    replace T11 := Lib.hid (T11.out.later HBc.out)
    clear HBc R4 R5 A0 B0 P0
    go_wp2
    replace HB := Lib.hid (below_then HB.out ((Below.refl _ _).drew : Below wc.heap.size wc wc.drew))
    replace P11 : Hid (wc.drew.heap[wv11.heap.size]? = _) := Lib.hid P11.out
    replace P18 : Hid (wc.drew.heap[g]? = _) := Lib.hid P18.out
    replace R8 := Lib.hid (R8.out.later ((Below.refl _ _).drew : Below wc.heap.size wc wc.drew))
    replace R11 := Lib.hid (R11.out.later ((Below.refl _ _).drew : Below wc.heap.size wc wc.drew))
    replace T11 := Lib.hid (T11.out.later ((Below.refl _ _).drew : Below wc.heap.size wc wc.drew))
    replace R18 := Lib.hid (R18.out.later ((Below.refl _ _).drew : Below wc.heap.size wc wc.drew))
    replace T18 := Lib.hid (T18.out.later ((Below.refl _ _).drew : Below wc.heap.size wc wc.drew))
    have qSn := fcells_3_3 P11.out P18.out
    go_region_held3 (fun w' => w'.cell? ⟨wv11.heap.size, 0, none⟩ = some (.bool (zneg qy.num)) ∧ w'.cell? ⟨wv11.heap.size, 1, none⟩ = some (.slice a11 n11 c11) ∧ w'.cell? ⟨wv11.heap.size, 2, none⟩ = some (.slice b11 m11 d11) ∧ w'.cell? ⟨g, 0, none⟩ = some (.bool (zneg (nx + ns).num)) ∧ w'.cell? ⟨g, 1, none⟩ = some (.slice a18 n18 c18) ∧ w'.cell? ⟨g, 2, none⟩ = some (.slice b18 m18 d18)) (exact qSn)
      (first
      | (go_at_call 21; (first
        | (refine (HN3 _ a8 n8 c8 R8.out).mono ?_; rintro e wq1 ⟨a19, n19, c19, b19, m19, d19, rfl, h19, g19, b⟩; replace HB := Lib.hid (below_then HB.out b); replace P11 := Lib.hid (blk_later P11.out b); replace P18 := Lib.hid (blk_later P18.out b); replace R8 := Lib.hid (R8.out.later b); replace R11 := Lib.hid (R11.out.later b); replace T11 := Lib.hid (T11.out.later b); replace R18 := Lib.hid (R18.out.later b); replace T18 := Lib.hid (T18.out.later b); have R19 := Lib.hid h19; have T19 := Lib.hid g19; have hN19 : n19 ≤ 300 := (by rw [← h19.len]; exact Nat.le_trans (qlen_num _) (Nat.le_trans LNM.out (by decide))); have hM19 : m19 ≤ 300 := (by rw [← g19.len]; exact Nat.le_trans (qlen_den _) (Nat.le_trans LNM.out (by decide))); clear h19 g19; clear b; clear qSn; have qSn := fcells_3_3 P11.out P18.out; have qM1 := True.intro)))
      | (go_at_call 45; (first
        | (have qm1 := qM1; refine (FS.cmp (frV (zneg (nm).num) a19 n19 c19 b19 m19 d19) (frV (zneg (nx + ns).num) a18 n18 c18 b18 m18 d18) nm (nx + ns) _ (Fr.right R19.out T19.out (by omega) (by omega)) (Fr.right R18.out T18.out (by omega) (by omega))).mono ?_; rintro e wq2 ⟨rfl, b⟩; replace HB := Lib.hid (below_then HB.out b); replace P11 := Lib.hid (blk_later P11.out b); replace P18 := Lib.hid (blk_later P18.out b); replace R8 := Lib.hid (R8.out.later b); replace R11 := Lib.hid (R11.out.later b); replace T11 := Lib.hid (T11.out.later b); replace R18 := Lib.hid (R18.out.later b); replace T18 := Lib.hid (T18.out.later b); clear R19; clear T19; rw [HU.out]; clear b; clear qSn; have qSn := fcells_3_3 P11.out P18.out; clear qM1 qm1; have qM2 := True.intro)))
      | (go_at_call 33; (first
        | (have qm2 := qM2; refine (FS.sign (frV (zneg (qy).num) a11 n11 c11 b11 m11 d11) qy _ (Fr.right R11.out T11.out (by omega) (by omega))).mono ?_; rintro e wq3 ⟨rfl, b⟩; replace HB := Lib.hid (below_then HB.out b); replace P11 := Lib.hid (blk_later P11.out b); replace P18 := Lib.hid (blk_later P18.out b); replace R8 := Lib.hid (R8.out.later b); replace R11 := Lib.hid (R11.out.later b); replace T11 := Lib.hid (T11.out.later b); replace R18 := Lib.hid (R18.out.later b); replace T18 := Lib.hid (T18.out.later b); rw [HV.out]; clear b; clear qSn; have qSn := fcells_3_3 P11.out P18.out; clear qM2 qm2; have qM3 := True.intro)))
      | (go_at_call 10; (first
        | (have qm3 := qM3; refine (law11_works S FS _ (Lib.hid (hT.out.later HB.out))).mono ?_; rintro e wq4 ⟨rfl, b⟩; replace HB := Lib.hid (below_then HB.out b); replace P11 := Lib.hid (blk_later P11.out b); replace P18 := Lib.hid (blk_later P18.out b); replace R8 := Lib.hid (R8.out.later b); replace R11 := Lib.hid (R11.out.later b); replace T11 := Lib.hid (T11.out.later b); replace R18 := Lib.hid (R18.out.later b); replace T18 := Lib.hid (T18.out.later b); clear b; clear qSn; have qSn := fcells_3_3 P11.out P18.out; clear qM3 qm3; have qM4 := True.intro))))
    go_wp2
    go_ret
    exact ⟨rfl, HB.out⟩
theorem law11_shares (S : RowSaid) (FS : FracSaid) (a : Option Addr) (n c : Nat) (L : List Fx) (az : Option Addr) (nz cz : Nat) (Lz : List Fx) (s0 : Bool) (a0 : Option Addr) (n0 c0 : Nat) (la0 : List Nat) (b0 : Option Addr) (m0 d0 : Nat) (lb0 : List Nat) (w : World) (h : Fxs w a n c L) (hz : Fxs w az nz cz Lz) (ha0 : Wd w a0 n0 c0 la0) (hb0 : Wd w b0 m0 d0 lb0) (hT : Hid (Dec10 w)) : Calls Tryz.prog 7 #[.slice a n c, .slice az nz cz, frV s0 a0 n0 c0 b0 m0 d0] w (Gives (.bool true) w) := by
  by_cases hb : (n : Int) ≤ 6 ∧ thinI 3 L
  · by_cases hbz : (nz : Int) ≤ 6 ∧ thinI 3 Lz
    · by_cases hk : 3 < n0 ∨ 3 < m0
      · exact law11_shares_longc S FS a n c L az nz cz Lz s0 a0 n0 c0 b0 m0 d0 w h hz hT hb hbz hk
      · by_cases hne : n = nz
        · subst hne
          exact law11_shares_short S FS a n c L az cz Lz s0 a0 n0 c0 la0 b0 m0 d0 lb0 w h hz ha0 hb0 hT hb hbz (by omega) (by omega)
        · exact law11_shares_uneven S FS a n c L az nz cz Lz s0 a0 n0 c0 b0 m0 d0 w h hz hT hb hbz (by omega) (by omega) hne
    · exact law11_shares_longb S FS a n c L az nz cz Lz s0 a0 n0 c0 b0 m0 d0 w h hz hT hb hbz
  · exact law11_shares_longa S FS a n c L az nz cz Lz s0 a0 n0 c0 b0 m0 d0 w h hz hT hb
end Go.Proofs.YtjeigdlhjghinaaGreatDoor
