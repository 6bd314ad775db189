/-
  The walks of the laws of layer 11: RowSums.
-/
import Derived.Test.YtjeigdlhjghinaaGreatDoorG24
import Derived.Test.YtjeigdlhjghinaaGreatDoorLaw11IsM
import Derived.Test.YtjeigdlhjghinaaGreatDoorRowUse2M
import Derived.Test.YtjeigdlhjghinaaGreatDoorG19
import Derived.Test.YtjeigdlhjghinaaGreatDoorRef11eM
import Derived.Test.YtjeigdlhjghinaaGreatDoorG13
import Derived.Deep.RegionHeld3
namespace Go.Proofs.YtjeigdlhjghinaaGreatDoor
open Go.RowKit

theorem zero_sgn : sgn (0 : Rat).num = 0 := by decide +kernel
theorem minus_one : (((-1 : Int) : Rat)) = -1 := by decide +kernel
set_option maxRecDepth 4096 in
set_option maxHeartbeats 16000000 in
theorem law11_sums_longa (S : RowSaid) (FS : FracSaid) (a : Option Addr) (n c : Nat) (L : List Fx) (az : Option Addr) (nz cz : Nat) (Lz : List Fx) (s0 : Bool) (a0 : Option Addr) (n0 c0 : Nat) (b0 : Option Addr) (m0 d0 : Nat) (w : World) (h : Fxs w a n c L) (hz : Fxs w az nz cz Lz) (hT : Hid (Dec10 w)) (hb : ¬ ((n : Int) ≤ 12 ∧ thinI 4 L)) : Calls Tryz.prog 4 #[.slice a n c, .slice az nz cz, frV s0 a0 n0 c0 b0 m0 d0] w (Gives (.bool true) w) := by
  have HB := Lib.hid (below_alloc w (.cells #[.bool s0, .slice a0 n0 c0, .slice b0 m0 d0] 44))
  have X0 := Lib.hid (blk_new w #[.bool s0, .slice a0 n0 c0, .slice b0 m0 d0] 44)
  have HNB := Lib.hid hb
  have HF := Lib.hid h
  have HFz := Lib.hid hz
  replace HF := Lib.hid (HF.out.later HB.out)
  replace HFz := Lib.hid (HFz.out.later HB.out)
  clear h hz hb
  go_enter Tryz.func4, Tryz.ntmps4
  unfold frV
  obtain ⟨vk0, vk1, vk2⟩ := fcells_3 X0.out
  go_wp2_with fail
  refine (ref11_long a n c L 12 4 true _ HF.out (by decide) (Lib.hid ⟨fun _ => HNB.out, fun _ => rfl⟩)).mono ?_
  rintro e wv1 ⟨rfl, b⟩
  clear vk0 vk1 vk2
  replace HB := Lib.hid (below_then HB.out b)
  replace X0 := Lib.hid (blk_later X0.out b)
  replace HF := Lib.hid (HF.out.later b)
  replace HFz := Lib.hid (HFz.out.later b)
  clear b
  obtain ⟨vk0, vk1, vk2⟩ := fcells_3 X0.out
  go_wp2_with fail
  refine (law11_works S FS _ (Lib.hid (hT.out.later HB.out))).mono ?_
  rintro e wv2 ⟨rfl, b⟩
  clear vk0 vk1 vk2
  replace HB := Lib.hid (below_then HB.out b)
  replace X0 := Lib.hid (blk_later X0.out b)
  replace HF := Lib.hid (HF.out.later b)
  replace HFz := Lib.hid (HFz.out.later b)
  clear b
  go_wp2
  go_ret
  exact ⟨rfl, HB.out⟩
set_option maxRecDepth 4096 in
set_option maxHeartbeats 16000000 in
theorem law11_sums_longb (S : RowSaid) (FS : FracSaid) (a : Option Addr) (n c : Nat) (L : List Fx) (az : Option Addr) (nz cz : Nat) (Lz : List Fx) (s0 : Bool) (a0 : Option Addr) (n0 c0 : Nat) (b0 : Option Addr) (m0 d0 : Nat) (w : World) (h : Fxs w a n c L) (hz : Fxs w az nz cz Lz) (hT : Hid (Dec10 w)) (hb : (n : Int) ≤ 12 ∧ thinI 4 L) (hbz : ¬ ((nz : Int) ≤ 12 ∧ thinI 4 Lz)) : Calls Tryz.prog 4 #[.slice a n c, .slice az nz cz, frV s0 a0 n0 c0 b0 m0 d0] w (Gives (.bool true) w) := by
  have HB := Lib.hid (below_alloc w (.cells #[.bool s0, .slice a0 n0 c0, .slice b0 m0 d0] 44))
  have X0 := Lib.hid (blk_new w #[.bool s0, .slice a0 n0 c0, .slice b0 m0 d0] 44)
  have HNB := Lib.hid hb
  have HF := Lib.hid h
  have HFz := Lib.hid hz
  have HNBz := Lib.hid hbz
  replace HF := Lib.hid (HF.out.later HB.out)
  replace HFz := Lib.hid (HFz.out.later HB.out)
  clear h hz hb hbz
  go_enter Tryz.func4, Tryz.ntmps4
  unfold frV
  obtain ⟨vk0, vk1, vk2⟩ := fcells_3 X0.out
  go_wp2_with fail
  refine (ref11_long a n c L 12 4 false _ HF.out (by decide) (Lib.hid ⟨fun h => absurd h (by decide), fun h => absurd HNB.out h⟩)).mono ?_
  rintro e wv1 ⟨rfl, b⟩
  clear vk0 vk1 vk2
  replace HB := Lib.hid (below_then HB.out b)
  replace X0 := Lib.hid (blk_later X0.out b)
  replace HF := Lib.hid (HF.out.later b)
  replace HFz := Lib.hid (HFz.out.later b)
  clear b
  obtain ⟨vk0, vk1, vk2⟩ := fcells_3 X0.out
  go_wp2_with fail
  refine (ref11_long az nz cz Lz 12 4 true _ HFz.out (by decide) (Lib.hid ⟨fun _ => HNBz.out, fun _ => rfl⟩)).mono ?_
  rintro e wv2 ⟨rfl, b⟩
  clear vk0 vk1 vk2
  replace HB := Lib.hid (below_then HB.out b)
  replace X0 := Lib.hid (blk_later X0.out b)
  replace HF := Lib.hid (HF.out.later b)
  replace HFz := Lib.hid (HFz.out.later b)
  clear b
  obtain ⟨vk0, vk1, vk2⟩ := fcells_3 X0.out
  go_wp2_with fail
  refine (law11_works S FS _ (Lib.hid (hT.out.later HB.out))).mono ?_
  rintro e wv3 ⟨rfl, b⟩
  clear vk0 vk1 vk2
  replace HB := Lib.hid (below_then HB.out b)
  replace X0 := Lib.hid (blk_later X0.out b)
  replace HF := Lib.hid (HF.out.later b)
  replace HFz := Lib.hid (HFz.out.later b)
  clear b
  go_wp2
  go_ret
  exact ⟨rfl, HB.out⟩
set_option maxRecDepth 4096 in
set_option maxHeartbeats 16000000 in
theorem law11_sums_longc (S : RowSaid) (FS : FracSaid) (a : Option Addr) (n c : Nat) (L : List Fx) (az : Option Addr) (nz cz : Nat) (Lz : List Fx) (s0 : Bool) (a0 : Option Addr) (n0 c0 : Nat) (b0 : Option Addr) (m0 d0 : Nat) (w : World) (h : Fxs w a n c L) (hz : Fxs w az nz cz Lz) (hT : Hid (Dec10 w)) (hb : (n : Int) ≤ 12 ∧ thinI 4 L) (hbz : (nz : Int) ≤ 12 ∧ thinI 4 Lz) (hk : 4 < n0 ∨ 4 < m0) : Calls Tryz.prog 4 #[.slice a n c, .slice az nz cz, frV s0 a0 n0 c0 b0 m0 d0] w (Gives (.bool true) w) := by
  have HB := Lib.hid (below_alloc w (.cells #[.bool s0, .slice a0 n0 c0, .slice b0 m0 d0] 44))
  have X0 := Lib.hid (blk_new w #[.bool s0, .slice a0 n0 c0, .slice b0 m0 d0] 44)
  have HNB := Lib.hid hb
  have HF := Lib.hid h
  have HFz := Lib.hid hz
  have HNBz := Lib.hid hbz
  replace HF := Lib.hid (HF.out.later HB.out)
  replace HFz := Lib.hid (HFz.out.later HB.out)
  have hl0 : (decide ((4 : Int) < (n0 : Int)) || decide ((4 : Int) < (m0 : Int))) = true := by
    rcases hk with h | h
    · rw [decide_eq_true (show (4 : Int) < (n0 : Int) by omega)]; rfl
    · rw [decide_eq_true (show (4 : Int) < (m0 : Int) by omega), Bool.or_true]
  clear h hz hb hbz hk
  go_enter Tryz.func4, Tryz.ntmps4
  unfold frV
  obtain ⟨vk0, vk1, vk2⟩ := fcells_3 X0.out
  go_wp2_with fail
  refine (ref11_long a n c L 12 4 false _ HF.out (by decide) (Lib.hid ⟨fun h => absurd h (by decide), fun h => absurd HNB.out h⟩)).mono ?_
  rintro e wv1 ⟨rfl, b⟩
  clear vk0 vk1 vk2
  replace HB := Lib.hid (below_then HB.out b)
  replace X0 := Lib.hid (blk_later X0.out b)
  replace HF := Lib.hid (HF.out.later b)
  replace HFz := Lib.hid (HFz.out.later b)
  clear b
  obtain ⟨vk0, vk1, vk2⟩ := fcells_3 X0.out
  go_wp2_with fail
  refine (ref11_long az nz cz Lz 12 4 false _ HFz.out (by decide) (Lib.hid ⟨fun h => absurd h (by decide), fun h => absurd HNBz.out h⟩)).mono ?_
  rintro e wv2 ⟨rfl, b⟩
  clear vk0 vk1 vk2
  replace HB := Lib.hid (below_then HB.out b)
  replace X0 := Lib.hid (blk_later X0.out b)
  replace HF := Lib.hid (HF.out.later b)
  replace HFz := Lib.hid (HFz.out.later b)
  clear b
  obtain ⟨vk0, vk1, vk2⟩ := fcells_3 X0.out
  go_wp2_with fail
  refine (ref09_long s0 a0 n0 c0 b0 m0 d0 4 _).mono ?_
  rintro e wv3 ⟨rfl, b⟩
  clear vk0 vk1 vk2
  replace HB := Lib.hid (below_then HB.out b)
  replace X0 := Lib.hid (blk_later X0.out b)
  replace HF := Lib.hid (HF.out.later b)
  replace HFz := Lib.hid (HFz.out.later b)
  clear b
  rw [hl0]
  obtain ⟨vk0, vk1, vk2⟩ := fcells_3 X0.out
  go_wp2_with fail
  refine (law11_works S FS _ (Lib.hid (hT.out.later HB.out))).mono ?_
  rintro e wv4 ⟨rfl, b⟩
  clear vk0 vk1 vk2
  replace HB := Lib.hid (below_then HB.out b)
  replace X0 := Lib.hid (blk_later X0.out b)
  replace HF := Lib.hid (HF.out.later b)
  replace HFz := Lib.hid (HFz.out.later b)
  clear b
  go_wp2
  go_ret
  exact ⟨rfl, HB.out⟩
set_option maxRecDepth 4096 in
set_option maxHeartbeats 16000000 in
theorem law11_sums_even (S : RowSaid) (FS : FracSaid) (a : Option Addr) (n c : Nat) (L : List Fx) (az : Option Addr) (cz : Nat) (Lz : List Fx) (s0 : Bool) (a0 : Option Addr) (n0 c0 : Nat) (la0 : List Nat) (b0 : Option Addr) (m0 d0 : Nat) (lb0 : List Nat) (w : World) (h : Fxs w a n c L) (hz : Fxs w az n cz Lz) (ha0 : Wd w a0 n0 c0 la0) (hb0 : Wd w b0 m0 d0 lb0) (hT : Hid (Dec10 w)) (hb : (n : Int) ≤ 12 ∧ thinI 4 L) (hbz : (n : Int) ≤ 12 ∧ thinI 4 Lz) (hn0 : n0 ≤ 4) (hm0 : m0 ≤ 4) : Calls Tryz.prog 4 #[.slice a n c, .slice az n cz, frV s0 a0 n0 c0 b0 m0 d0] w (Gives (.bool true) w) := by
  have HB := Lib.hid (below_alloc w (.cells #[.bool s0, .slice a0 n0 c0, .slice b0 m0 d0] 44))
  have X0 := Lib.hid (blk_new w #[.bool s0, .slice a0 n0 c0, .slice b0 m0 d0] 44)
  have HNB := Lib.hid hb
  have hn : n ≤ 12 := by have := hb.1; omega
  have hth : thin 4 L := thinI.out (N := 4) hb.2
  have hq : ∀ q ∈ fqs L, qlen q ≤ 5 := fun q hq => by
    obtain ⟨x, hx, rfl⟩ := List.mem_map.1 hq
    exact ((h.ok hx).fr (hth x hx).1 (hth x hx).2).len
  have hlq : (fqs L).length = n := (fqs_length L).trans h.len
  have HTH := Lib.hid hth
  have HQ := Lib.hid hq
  have HLQ := Lib.hid hlq
  have HF := Lib.hid h
  have HNBz := Lib.hid hbz
  have hn : n ≤ 12 := by have := hbz.1; omega
  have hthz : thin 4 Lz := thinI.out (N := 4) hbz.2
  have hqz : ∀ q ∈ fqs Lz, qlen q ≤ 5 := fun q hq => by
    obtain ⟨x, hx, rfl⟩ := List.mem_map.1 hq
    exact ((hz.ok hx).fr (hthz x hx).1 (hthz x hx).2).len
  have hlqz : (fqs Lz).length = n := (fqs_length Lz).trans hz.len
  have HTHz := Lib.hid hthz
  have HQz := Lib.hid hqz
  have HLQz := Lib.hid hlqz
  have HFz := Lib.hid hz
  have A0 := Lib.hid (ha0.later HB.out)
  have B0 := Lib.hid (hb0.later HB.out)
  obtain ⟨k, hk⟩ : ∃ k, qval s0 (val la0) (val lb0) = k := ⟨_, rfl⟩
  have EQ0 := Lib.hid hk
  have LK := Lib.hid (show qlen k ≤ 5 from (Fr.of ha0 hb0 hn0 hm0 hk).len)
  obtain ⟨xs, hxs⟩ : ∃ xs, fqs L = xs := ⟨_, rfl⟩
  obtain ⟨ys, hys⟩ : ∃ ys, fqs Lz = ys := ⟨_, rfl⟩
  rw [hxs] at hq hlq
  rw [hys] at hqz hlqz
  have NX := Lib.hid hlq
  have NY := Lib.hid hlqz
  have LX := Lib.hid hq
  have LY := Lib.hid hqz
  obtain ⟨sc, hsc⟩ : ∃ sc, rscale k xs = sc := ⟨_, rfl⟩
  have LSC : Hid (∀ q ∈ sc, qlen q ≤ 15000) := Lib.hid (by rw [← hsc]; exact fun q hq' => Nat.le_trans (qlen_rscale LK.out hq q hq') (by decide))
  have NSC : Hid (sc.length ≤ 1000) := Lib.hid (by rw [← hsc, rscale_length]; omega)
  have HNX : ∀ (w' : World), Fxs w' a n c L → Calls Tryz.prog 11 #[.slice a n c] w' (LstRw xs w') := fun w' h1 => hxs ▸ ref11_norms a n c L w' h1 (by omega) (HTH.out.mono (by decide))
  have HNY : ∀ (w' : World), Fxs w' az n cz Lz → Calls Tryz.prog 11 #[.slice az n cz] w' (LstRw ys w') := fun w' h1 => hys ▸ ref11_norms az n cz Lz w' h1 (by omega) (HTHz.out.mono (by decide))
  have HSC : ∀ (w' : World) (a1 : Option Addr) (c1 : Nat), Fr w' (frV s0 a0 n0 c0 b0 m0 d0) k 300 → Fxs w' a1 n c1 L → Calls Tryz.prog 30 #[frV s0 a0 n0 c0 b0 m0 d0, .slice a1 n c1] w' (LstRw sc w') := fun w' a1 c1 h1 h2 => by
    have h9 := S.scale (frV s0 a0 n0 c0 b0 m0 d0) k a1 n c1 L w' h1 h2 (by omega) (HTH.out.mono (by decide))
    rw [hxs, hsc] at h9
    exact h9
  have HRC : ∀ (w' : World) (v : Value) (a1 : Option Addr) (n1 c1 : Nat), Rt w' v k 2000 → Rw w' a1 n1 c1 xs → Calls Tryz.prog 32 #[v, .slice a1 n1 c1] w' (LstRw sc w') := fun w' v a1 n1 c1 h1 h2 => by
    have h9 := ref11_scale v k a1 n1 c1 xs w' h1 h2 (by have := h2.len; have := NX.out; omega) (fun q hq => Nat.le_trans (LX.out q hq) (by decide))
    rw [hsc] at h9
    exact h9
  have HAN : ∀ (w' : World), Calls Tryz.prog 27 #[.slice none 0 0] w' (LstRwV [] (.bool true) w') := fun w' => S.add_yes none 0 0 [] w' (Fxss.ofNil _) (by decide) (fun _ h => by simp at h) (fun _ h => by simp at h)
  obtain ⟨s1, hs1⟩ : ∃ s1, radd xs ys = s1 := ⟨_, rfl⟩
  obtain ⟨sm, hsm⟩ : ∃ sm, radd s1 xs = sm := ⟨_, rfl⟩
  obtain ⟨mz, hmz⟩ : ∃ mz, rscale (-1) ys = mz := ⟨_, rfl⟩
  obtain ⟨sb, hsb⟩ : ∃ sb, radd xs mz = sb := ⟨_, rfl⟩
  obtain ⟨qd, hqd⟩ : ∃ qd, rdot xs ys = qd := ⟨_, rfl⟩
  obtain ⟨mo, hmo⟩ : ∃ mo : Rat, ((-1 : Int) : Rat) = mo := ⟨_, rfl⟩
  have lmo : qlen mo ≤ 2 := by rw [← hmo]; exact qlen_int (by decide)
  have ls1 : ∀ q ∈ s1, qlen q ≤ 12 := by rw [← hs1]; exact qlen_radd hq hqz
  have ns1 : s1.length = n := by rw [← hs1, radd_length _ _ (by omega)]; exact hlq
  have lsm : ∀ q ∈ sm, qlen q ≤ 19 := by rw [← hsm]; exact qlen_radd ls1 hq
  have nsm : sm.length = n := by rw [← hsm, radd_length _ _ (by omega)]; exact ns1
  have lmz : ∀ q ∈ mz, qlen q ≤ 8 := by rw [← hmz, ← minus_one, hmo]; exact qlen_rscale lmo hqz
  have nmz : mz.length = n := by rw [← hmz, rscale_length]; exact hlqz
  have lsb : ∀ q ∈ sb, qlen q ≤ 15 := by rw [← hsb]; exact qlen_radd hq lmz
  have nsb : sb.length = n := by rw [← hsb, radd_length _ _ (by omega)]; exact hlq
  have lqd : qlen qd ≤ 300 := by have := qlen_rdot hq hqz; rw [hqd] at this; omega
  have LQD := Lib.hid lqd
  have LMO := Lib.hid lmo
  have NS1 := Lib.hid ns1
  have LS1 := Lib.hid ls1
  have NMZ := Lib.hid nmz
  have LMZ := Lib.hid lmz
  have NSM : Hid (sm.length ≤ 1000) := Lib.hid (by omega)
  have LSM : Hid (∀ q ∈ sm, qlen q ≤ 15000) := Lib.hid (fun q hq' => Nat.le_trans (lsm q hq') (by decide))
  have NSB : Hid (sb.length ≤ 1000) := Lib.hid (by omega)
  have LSB : Hid (∀ q ∈ sb, qlen q ≤ 15000) := Lib.hid (fun q hq' => Nat.le_trans (lsb q hq') (by decide))
  have HAD : ∀ (w' : World) (g : Nat) (a1 : Option Addr) (c1 : Nat) (a2 : Option Addr) (c2 : Nat) (a3 : Option Addr) (c3 : Nat), w'.heap.size = g → Fxs w' a1 n c1 L → Fxs w' a2 n c2 Lz → Fxs w' a3 n c3 L → Calls Tryz.prog 27 #[.slice (some ⟨g, 0, none⟩) 3 3] (w'.alloc (.cells #[.slice a1 n c1, .slice a2 n c2, .slice a3 n c3] 28)) (LstRwV sm (.bool true) w') := fun w' g a1 c1 a2 c2 a3 c3 hg h1 h2 h3 => by
    have h9 := add3_yes S a1 n c1 L a2 n c2 Lz a3 n c3 w' g hg h1 h2 h3 (by omega) (Lib.hid rfl) (HTH.out.mono (by decide)) (HTHz.out.mono (by decide))
    rw [hxs, hys, hs1, hsm] at h9
    exact h9
  have HSB : ∀ (w' : World) (a1 : Option Addr) (c1 : Nat) (a2 : Option Addr) (c2 : Nat), Fxs w' a1 n c1 L → Fxs w' a2 n c2 Lz → Calls Tryz.prog 28 #[.slice a1 n c1, .slice a2 n c2] w' (LstRwV sb (.bool true) w') := fun w' a1 c1 a2 c2 h1 h2 => by
    have h9 := S.sub_yes a1 n c1 L a2 n c2 Lz w' h1 h2 (by omega) (by omega) (HTH.out.mono (by decide)) (HTHz.out.mono (by decide)) (Lib.hid rfl)
    rw [hxs, hys, hmz, hsb] at h9
    exact h9
  have HDT : ∀ (w' : World) (a1 : Option Addr) (c1 : Nat) (a2 : Option Addr) (c2 : Nat), Fxs w' a1 n c1 L → Fxs w' a2 n c2 Lz → Calls Tryz.prog 29 #[.slice a1 n c1, .slice a2 n c2] w' (LstQV qd (.bool true) w') := fun w' a1 c1 a2 c2 h1 h2 => by
    have h9 := S.dot_yes a1 n c1 L a2 n c2 Lz w' h1 h2 (by omega) (by omega) (HTH.out.mono (by decide)) (HTHz.out.mono (by decide)) (Lib.hid rfl)
    rw [hxs, hys, hqd] at h9
    exact h9
  have HRA : ∀ (w' : World) (a1 : Option Addr) (n1 c1 : Nat) (a2 : Option Addr) (n2 c2 : Nat), Rw w' a1 n1 c1 xs → Rw w' a2 n2 c2 ys → Calls Tryz.prog 34 #[.slice a1 n1 c1, .slice a2 n2 c2] w' (LstRw s1 w') := fun w' a1 n1 c1 a2 n2 c2 h1 h2 => by
    have h9 := ref11_add a1 n1 c1 xs a2 n2 c2 ys w' h1 h2 (Lib.hid (by have := h1.len; have := h2.len; have := NX.out; have := NY.out; omega)) (by have := h1.len; have := NX.out; omega) (fun q hq => Nat.le_trans (LX.out q hq) (by decide)) (fun q hq => Nat.le_trans (LY.out q hq) (by decide))
    rw [hs1] at h9
    exact h9
  have HRB : ∀ (w' : World) (a1 : Option Addr) (n1 c1 : Nat) (a2 : Option Addr) (n2 c2 : Nat), Rw w' a1 n1 c1 s1 → Rw w' a2 n2 c2 xs → Calls Tryz.prog 34 #[.slice a1 n1 c1, .slice a2 n2 c2] w' (LstRw sm w') := fun w' a1 n1 c1 a2 n2 c2 h1 h2 => by
    have h9 := ref11_add a1 n1 c1 s1 a2 n2 c2 xs w' h1 h2 (Lib.hid (by have := h1.len; have := h2.len; have := NX.out; have := NS1.out; omega)) (by have := h1.len; have := NS1.out; omega) (fun q hq => Nat.le_trans (LS1.out q hq) (by decide)) (fun q hq => Nat.le_trans (LX.out q hq) (by decide))
    rw [hsm] at h9
    exact h9
  have HRS : ∀ (w' : World) (v : Value) (a1 : Option Addr) (n1 c1 : Nat), Rt w' v mo 2000 → Rw w' a1 n1 c1 ys → Calls Tryz.prog 32 #[v, .slice a1 n1 c1] w' (LstRw mz w') := fun w' v a1 n1 c1 h1 h2 => by
    have h9 := ref11_scale v mo a1 n1 c1 ys w' h1 h2 (by have := h2.len; have := NY.out; omega) (fun q hq => Nat.le_trans (LY.out q hq) (by decide))
    rw [← hmo, minus_one, hmz] at h9
    exact h9
  have HRD : ∀ (w' : World) (a1 : Option Addr) (n1 c1 : Nat) (a2 : Option Addr) (n2 c2 : Nat), Rw w' a1 n1 c1 xs → Rw w' a2 n2 c2 mz → Calls Tryz.prog 34 #[.slice a1 n1 c1, .slice a2 n2 c2] w' (LstRw sb w') := fun w' a1 n1 c1 a2 n2 c2 h1 h2 => by
    have h9 := ref11_add a1 n1 c1 xs a2 n2 c2 mz w' h1 h2 (Lib.hid (by have := h1.len; have := h2.len; have := NX.out; have := NMZ.out; omega)) (by have := h1.len; have := NX.out; omega) (fun q hq => Nat.le_trans (LX.out q hq) (by decide)) (fun q hq => Nat.le_trans (LMZ.out q hq) (by decide))
    rw [hsb] at h9
    exact h9
  have HRT : ∀ (w' : World) (a1 : Option Addr) (n1 c1 : Nat) (a2 : Option Addr) (n2 c2 : Nat), Rw w' a1 n1 c1 xs → Rw w' a2 n2 c2 ys → Calls Tryz.prog 36 #[.slice a1 n1 c1, .slice a2 n2 c2] w' (LstQ qd w') := fun w' a1 n1 c1 a2 n2 c2 h1 h2 => by
    have h9 := ref11_dot a1 n1 c1 xs a2 n2 c2 ys w' h1 h2 (Lib.hid (by have := h1.len; have := h2.len; have := NX.out; have := NY.out; omega)) (by have := h1.len; have := NX.out; omega) (fun q hq => Nat.le_trans (LX.out q hq) (by decide)) (fun q hq => Nat.le_trans (LY.out q hq) (by decide))
    rw [hqd] at h9
    exact h9
  have HRI : ∀ (w' : World), Calls Tryz.prog 35 #[.int .i64 (-1)] w' (LstQ mo w') := fun w' => hmo ▸ ref09_int (-1) w' (by decide)
  have hl0 : (decide ((4 : Int) < (n0 : Int)) || decide ((4 : Int) < (m0 : Int))) = false := by rw [decide_eq_false (by omega), decide_eq_false (by omega)]; rfl
  replace HF := Lib.hid (HF.out.later HB.out)
  replace HFz := Lib.hid (HFz.out.later HB.out)
  clear hk hxs hys hsc hs1 hsm hmz hsb hqd hmo lmo ls1 ns1 lsm nsm lmz nmz lsb nsb lqd ha0 hb0
  clear h hb hlq hth hq
  clear hz hbz hlqz hthz hqz
  go_enter Tryz.func4, Tryz.ntmps4
  unfold frV
  obtain ⟨vk0, vk1, vk2⟩ := fcells_3 X0.out
  go_wp2_with fail
  refine (ref11_long a n c L 12 4 false _ HF.out (by decide) (Lib.hid ⟨fun h => absurd h (by decide), fun h => absurd HNB.out h⟩)).mono ?_
  rintro e wv1 ⟨rfl, b⟩
  clear vk0 vk1 vk2
  replace HB := Lib.hid (below_then HB.out b)
  replace X0 := Lib.hid (blk_later X0.out b)
  replace HF := Lib.hid (HF.out.later b)
  replace HFz := Lib.hid (HFz.out.later b)
  replace A0 := Lib.hid (A0.out.later b)
  replace B0 := Lib.hid (B0.out.later b)
  clear b
  obtain ⟨vk0, vk1, vk2⟩ := fcells_3 X0.out
  go_wp2_with fail
  refine (ref11_long az n cz Lz 12 4 false _ HFz.out (by decide) (Lib.hid ⟨fun h => absurd h (by decide), fun h => absurd HNBz.out h⟩)).mono ?_
  rintro e wv2 ⟨rfl, b⟩
  clear vk0 vk1 vk2
  replace HB := Lib.hid (below_then HB.out b)
  replace X0 := Lib.hid (blk_later X0.out b)
  replace HF := Lib.hid (HF.out.later b)
  replace HFz := Lib.hid (HFz.out.later b)
  replace A0 := Lib.hid (A0.out.later b)
  replace B0 := Lib.hid (B0.out.later b)
  clear b
  obtain ⟨vk0, vk1, vk2⟩ := fcells_3 X0.out
  go_wp2_with fail
  refine (ref09_long s0 a0 n0 c0 b0 m0 d0 4 _).mono ?_
  rintro e wv3 ⟨rfl, b⟩
  clear vk0 vk1 vk2
  replace HB := Lib.hid (below_then HB.out b)
  replace X0 := Lib.hid (blk_later X0.out b)
  replace HF := Lib.hid (HF.out.later b)
  replace HFz := Lib.hid (HFz.out.later b)
  replace A0 := Lib.hid (A0.out.later b)
  replace B0 := Lib.hid (B0.out.later b)
  clear b
  rw [hl0]
  obtain ⟨vk0, vk1, vk2⟩ := fcells_3 X0.out
  go_wp2_with fail
  refine (HNX _ HF.out).mono ?_
  rintro e wv4 ⟨a4, n4, c4, rfl, h4, b⟩
  clear vk0 vk1 vk2
  replace HB := Lib.hid (below_then HB.out b)
  replace X0 := Lib.hid (blk_later X0.out b)
  replace HF := Lib.hid (HF.out.later b)
  replace HFz := Lib.hid (HFz.out.later b)
  replace A0 := Lib.hid (A0.out.later b)
  replace B0 := Lib.hid (B0.out.later b)
  clear b
  have R4 := Lib.hid h4
  clear h4
  obtain ⟨vk0, vk1, vk2⟩ := fcells_3 X0.out
  go_wp2_with fail
  refine (HNY _ HFz.out).mono ?_
  rintro e wv5 ⟨a5, n5, c5, rfl, h5, b⟩
  clear vk0 vk1 vk2
  replace HB := Lib.hid (below_then HB.out b)
  replace X0 := Lib.hid (blk_later X0.out b)
  replace HF := Lib.hid (HF.out.later b)
  replace HFz := Lib.hid (HFz.out.later b)
  replace A0 := Lib.hid (A0.out.later b)
  replace B0 := Lib.hid (B0.out.later b)
  replace R4 := Lib.hid (R4.out.later b)
  clear b
  have R5 := Lib.hid h5
  clear h5
  obtain ⟨vk0, vk1, vk2⟩ := fcells_3 X0.out
  go_wp2_with fail
  refine (ref09_norm s0 a0 n0 c0 la0 b0 m0 d0 lb0 _ A0.out B0.out (by omega) (by omega)).mono ?_
  rintro e wv6 ⟨a6, n6, c6, b6, m6, d6, rfl, h6, g6, b⟩
  clear vk0 vk1 vk2
  replace HB := Lib.hid (below_then HB.out b)
  replace X0 := Lib.hid (blk_later X0.out b)
  replace HF := Lib.hid (HF.out.later b)
  replace HFz := Lib.hid (HFz.out.later b)
  replace A0 := Lib.hid (A0.out.later b)
  replace B0 := Lib.hid (B0.out.later b)
  replace R4 := Lib.hid (R4.out.later b)
  replace R5 := Lib.hid (R5.out.later b)
  clear b
  rw [EQ0.out] at h6 g6 ⊢
  have hN6 : n6 ≤ 300 := (by rw [← h6.len]; exact Nat.le_trans (qlen_num _) (Nat.le_trans LK.out (by decide)))
  have hM6 : m6 ≤ 300 := (by rw [← g6.len]; exact Nat.le_trans (qlen_den _) (Nat.le_trans LK.out (by decide)))
  have R6 := Lib.hid h6
  have T6 := Lib.hid g6
  clear h6 g6
  unfold frV
  have N6 : Hid ((World.alloc wv6 (.cells #[.bool (zneg k.num), .slice a6 n6 c6, .slice b6 m6 d6] 44)).heap[wv6.heap.size]? = some (.cells #[.bool (zneg k.num), .slice a6 n6 c6, .slice b6 m6 d6] 44 (0, 0))) := Lib.hid (blk_new wv6 _ _)
  replace HB := Lib.hid (below_then HB.out (below_alloc wv6 (.cells #[.bool (zneg k.num), .slice a6 n6 c6, .slice b6 m6 d6] 44)))
  replace X0 := Lib.hid (blk_later X0.out (below_alloc wv6 (.cells #[.bool (zneg k.num), .slice a6 n6 c6, .slice b6 m6 d6] 44)))
  replace HF := Lib.hid (HF.out.later (below_alloc wv6 (.cells #[.bool (zneg k.num), .slice a6 n6 c6, .slice b6 m6 d6] 44)))
  replace HFz := Lib.hid (HFz.out.later (below_alloc wv6 (.cells #[.bool (zneg k.num), .slice a6 n6 c6, .slice b6 m6 d6] 44)))
  replace A0 := Lib.hid (A0.out.later (below_alloc wv6 (.cells #[.bool (zneg k.num), .slice a6 n6 c6, .slice b6 m6 d6] 44)))
  replace B0 := Lib.hid (B0.out.later (below_alloc wv6 (.cells #[.bool (zneg k.num), .slice a6 n6 c6, .slice b6 m6 d6] 44)))
  replace R4 := Lib.hid (R4.out.later (below_alloc wv6 (.cells #[.bool (zneg k.num), .slice a6 n6 c6, .slice b6 m6 d6] 44)))
  replace R5 := Lib.hid (R5.out.later (below_alloc wv6 (.cells #[.bool (zneg k.num), .slice a6 n6 c6, .slice b6 m6 d6] 44)))
  replace R6 := Lib.hid (R6.out.later (below_alloc wv6 (.cells #[.bool (zneg k.num), .slice a6 n6 c6, .slice b6 m6 d6] 44)))
  replace T6 := Lib.hid (T6.out.later (below_alloc wv6 (.cells #[.bool (zneg k.num), .slice a6 n6 c6, .slice b6 m6 d6] 44)))
  obtain ⟨vk0, vk1, vk2, vk3, vk4, vk5⟩ := fcells_3_3 X0.out N6.out
  go_wp2_with fail
  refine (law11_to a n c L _ HF.out (by omega)).mono ?_
  rintro e wv7 ⟨a7, c7, rfl, h7, b⟩
  clear vk0 vk1 vk2 vk3 vk4 vk5
  replace HB := Lib.hid (below_then HB.out b)
  replace X0 := Lib.hid (blk_later X0.out b)
  replace N6 := Lib.hid (blk_later N6.out b)
  replace HF := Lib.hid (HF.out.later b)
  replace HFz := Lib.hid (HFz.out.later b)
  replace A0 := Lib.hid (A0.out.later b)
  replace B0 := Lib.hid (B0.out.later b)
  replace R4 := Lib.hid (R4.out.later b)
  replace R5 := Lib.hid (R5.out.later b)
  replace R6 := Lib.hid (R6.out.later b)
  replace T6 := Lib.hid (T6.out.later b)
  clear b
  have R7 := Lib.hid h7
  clear h7
  obtain ⟨vk0, vk1, vk2, vk3, vk4, vk5⟩ := fcells_3_3 X0.out N6.out
  go_wp2_with fail
  refine (law11_to az n cz Lz _ HFz.out (by omega)).mono ?_
  rintro e wv8 ⟨a8, c8, rfl, h8, b⟩
  clear vk0 vk1 vk2 vk3 vk4 vk5
  replace HB := Lib.hid (below_then HB.out b)
  replace X0 := Lib.hid (blk_later X0.out b)
  replace N6 := Lib.hid (blk_later N6.out b)
  replace HF := Lib.hid (HF.out.later b)
  replace HFz := Lib.hid (HFz.out.later b)
  replace A0 := Lib.hid (A0.out.later b)
  replace B0 := Lib.hid (B0.out.later b)
  replace R4 := Lib.hid (R4.out.later b)
  replace R5 := Lib.hid (R5.out.later b)
  replace R6 := Lib.hid (R6.out.later b)
  replace T6 := Lib.hid (T6.out.later b)
  replace R7 := Lib.hid (R7.out.later b)
  clear b
  have R8 := Lib.hid h8
  clear h8
  obtain ⟨vk0, vk1, vk2, vk3, vk4, vk5⟩ := fcells_3_3 X0.out N6.out
  go_wp2_with fail
  refine (law11_to a n c L _ HF.out (by omega)).mono ?_
  rintro e wv9 ⟨a9, c9, rfl, h9, b⟩
  clear vk0 vk1 vk2 vk3 vk4 vk5
  replace HB := Lib.hid (below_then HB.out b)
  replace X0 := Lib.hid (blk_later X0.out b)
  replace N6 := Lib.hid (blk_later N6.out b)
  replace HF := Lib.hid (HF.out.later b)
  replace HFz := Lib.hid (HFz.out.later b)
  replace A0 := Lib.hid (A0.out.later b)
  replace B0 := Lib.hid (B0.out.later b)
  replace R4 := Lib.hid (R4.out.later b)
  replace R5 := Lib.hid (R5.out.later b)
  replace R6 := Lib.hid (R6.out.later b)
  replace T6 := Lib.hid (T6.out.later b)
  replace R7 := Lib.hid (R7.out.later b)
  replace R8 := Lib.hid (R8.out.later b)
  clear b
  have R9 := Lib.hid h9
  clear h9
  obtain ⟨vk0, vk1, vk2, vk3, vk4, vk5⟩ := fcells_3_3 X0.out N6.out
  go_wp2_with fail
  refine (HAD _ _ a7 c7 a8 c8 a9 c9 rfl R7.out R8.out R9.out).mono ?_
  rintro e wv10 ⟨a10, n10, c10, rfl, h10, b⟩
  clear vk0 vk1 vk2 vk3 vk4 vk5
  replace HB := Lib.hid (below_then HB.out b)
  replace X0 := Lib.hid (blk_later X0.out b)
  replace N6 := Lib.hid (blk_later N6.out b)
  replace HF := Lib.hid (HF.out.later b)
  replace HFz := Lib.hid (HFz.out.later b)
  replace A0 := Lib.hid (A0.out.later b)
  replace B0 := Lib.hid (B0.out.later b)
  replace R4 := Lib.hid (R4.out.later b)
  replace R5 := Lib.hid (R5.out.later b)
  replace R6 := Lib.hid (R6.out.later b)
  replace T6 := Lib.hid (T6.out.later b)
  replace R7 := Lib.hid (R7.out.later b)
  replace R8 := Lib.hid (R8.out.later b)
  replace R9 := Lib.hid (R9.out.later b)
  clear b
  have R10 := Lib.hid h10
  clear h10
  clear R7 R8 R9
  obtain ⟨vk0, vk1, vk2, vk3, vk4, vk5⟩ := fcells_3_3 X0.out N6.out
  go_wp2_with fail
  refine (law11_to a n c L _ HF.out (by omega)).mono ?_
  rintro e wv11 ⟨a11, c11, rfl, h11, b⟩
  clear vk0 vk1 vk2 vk3 vk4 vk5
  replace HB := Lib.hid (below_then HB.out b)
  replace X0 := Lib.hid (blk_later X0.out b)
  replace N6 := Lib.hid (blk_later N6.out b)
  replace HF := Lib.hid (HF.out.later b)
  replace HFz := Lib.hid (HFz.out.later b)
  replace A0 := Lib.hid (A0.out.later b)
  replace B0 := Lib.hid (B0.out.later b)
  replace R4 := Lib.hid (R4.out.later b)
  replace R5 := Lib.hid (R5.out.later b)
  replace R6 := Lib.hid (R6.out.later b)
  replace T6 := Lib.hid (T6.out.later b)
  replace R10 := Lib.hid (R10.out.later b)
  clear b
  have R11 := Lib.hid h11
  clear h11
  obtain ⟨vk0, vk1, vk2, vk3, vk4, vk5⟩ := fcells_3_3 X0.out N6.out
  go_wp2_with fail
  refine (law11_to az n cz Lz _ HFz.out (by omega)).mono ?_
  rintro e wv12 ⟨a12, c12, rfl, h12, b⟩
  clear vk0 vk1 vk2 vk3 vk4 vk5
  replace HB := Lib.hid (below_then HB.out b)
  replace X0 := Lib.hid (blk_later X0.out b)
  replace N6 := Lib.hid (blk_later N6.out b)
  replace HF := Lib.hid (HF.out.later b)
  replace HFz := Lib.hid (HFz.out.later b)
  replace A0 := Lib.hid (A0.out.later b)
  replace B0 := Lib.hid (B0.out.later b)
  replace R4 := Lib.hid (R4.out.later b)
  replace R5 := Lib.hid (R5.out.later b)
  replace R6 := Lib.hid (R6.out.later b)
  replace T6 := Lib.hid (T6.out.later b)
  replace R10 := Lib.hid (R10.out.later b)
  replace R11 := Lib.hid (R11.out.later b)
  clear b
  have R12 := Lib.hid h12
  clear h12
  obtain ⟨vk0, vk1, vk2, vk3, vk4, vk5⟩ := fcells_3_3 X0.out N6.out
  go_wp2_with fail
  refine (HSB _ a11 c11 a12 c12 R11.out R12.out).mono ?_
  rintro e wv13 ⟨a13, n13, c13, rfl, h13, b⟩
  clear vk0 vk1 vk2 vk3 vk4 vk5
  replace HB := Lib.hid (below_then HB.out b)
  replace X0 := Lib.hid (blk_later X0.out b)
  replace N6 := Lib.hid (blk_later N6.out b)
  replace HF := Lib.hid (HF.out.later b)
  replace HFz := Lib.hid (HFz.out.later b)
  replace A0 := Lib.hid (A0.out.later b)
  replace B0 := Lib.hid (B0.out.later b)
  replace R4 := Lib.hid (R4.out.later b)
  replace R5 := Lib.hid (R5.out.later b)
  replace R6 := Lib.hid (R6.out.later b)
  replace T6 := Lib.hid (T6.out.later b)
  replace R10 := Lib.hid (R10.out.later b)
  replace R11 := Lib.hid (R11.out.later b)
  replace R12 := Lib.hid (R12.out.later b)
  clear b
  have R13 := Lib.hid h13
  clear h13
  clear R11 R12
  obtain ⟨vk0, vk1, vk2, vk3, vk4, vk5⟩ := fcells_3_3 X0.out N6.out
  go_wp2_with fail
  refine (law11_to a n c L _ HF.out (by omega)).mono ?_
  rintro e wv14 ⟨a14, c14, rfl, h14, b⟩
  clear vk0 vk1 vk2 vk3 vk4 vk5
  replace HB := Lib.hid (below_then HB.out b)
  replace X0 := Lib.hid (blk_later X0.out b)
  replace N6 := Lib.hid (blk_later N6.out b)
  replace HF := Lib.hid (HF.out.later b)
  replace HFz := Lib.hid (HFz.out.later b)
  replace A0 := Lib.hid (A0.out.later b)
  replace B0 := Lib.hid (B0.out.later b)
  replace R4 := Lib.hid (R4.out.later b)
  replace R5 := Lib.hid (R5.out.later b)
  replace R6 := Lib.hid (R6.out.later b)
  replace T6 := Lib.hid (T6.out.later b)
  replace R10 := Lib.hid (R10.out.later b)
  replace R13 := Lib.hid (R13.out.later b)
  clear b
  have R14 := Lib.hid h14
  clear h14
  obtain ⟨vk0, vk1, vk2, vk3, vk4, vk5⟩ := fcells_3_3 X0.out N6.out
  go_wp2_with fail
  refine (law11_to az n cz Lz _ HFz.out (by omega)).mono ?_
  rintro e wv15 ⟨a15, c15, rfl, h15, b⟩
  clear vk0 vk1 vk2 vk3 vk4 vk5
  replace HB := Lib.hid (below_then HB.out b)
  replace X0 := Lib.hid (blk_later X0.out b)
  replace N6 := Lib.hid (blk_later N6.out b)
  replace HF := Lib.hid (HF.out.later b)
  replace HFz := Lib.hid (HFz.out.later b)
  replace A0 := Lib.hid (A0.out.later b)
  replace B0 := Lib.hid (B0.out.later b)
  replace R4 := Lib.hid (R4.out.later b)
  replace R5 := Lib.hid (R5.out.later b)
  replace R6 := Lib.hid (R6.out.later b)
  replace T6 := Lib.hid (T6.out.later b)
  replace R10 := Lib.hid (R10.out.later b)
  replace R13 := Lib.hid (R13.out.later b)
  replace R14 := Lib.hid (R14.out.later b)
  clear b
  have R15 := Lib.hid h15
  clear h15
  obtain ⟨vk0, vk1, vk2, vk3, vk4, vk5⟩ := fcells_3_3 X0.out N6.out
  go_wp2_with fail
  refine (HDT _ a14 c14 a15 c15 R14.out R15.out).mono ?_
  rintro e wv16 ⟨a16, n16, c16, b16, m16, d16, rfl, h16, g16, b⟩
  clear vk0 vk1 vk2 vk3 vk4 vk5
  replace HB := Lib.hid (below_then HB.out b)
  replace X0 := Lib.hid (blk_later X0.out b)
  replace N6 := Lib.hid (blk_later N6.out b)
  replace HF := Lib.hid (HF.out.later b)
  replace HFz := Lib.hid (HFz.out.later b)
  replace A0 := Lib.hid (A0.out.later b)
  replace B0 := Lib.hid (B0.out.later b)
  replace R4 := Lib.hid (R4.out.later b)
  replace R5 := Lib.hid (R5.out.later b)
  replace R6 := Lib.hid (R6.out.later b)
  replace T6 := Lib.hid (T6.out.later b)
  replace R10 := Lib.hid (R10.out.later b)
  replace R13 := Lib.hid (R13.out.later b)
  replace R14 := Lib.hid (R14.out.later b)
  replace R15 := Lib.hid (R15.out.later b)
  clear b
  have hN16 : n16 ≤ 300 := (by rw [← h16.len]; exact Nat.le_trans (qlen_num _) LQD.out)
  have hM16 : m16 ≤ 300 := (by rw [← g16.len]; exact Nat.le_trans (qlen_den _) LQD.out)
  have R16 := Lib.hid h16
  have T16 := Lib.hid g16
  clear h16 g16
  unfold frV
  have P16 : Hid ((World.alloc wv16 (.cells #[.bool (zneg qd.num), .slice a16 n16 c16, .slice b16 m16 d16] 41)).heap[wv16.heap.size]? = some (.cells #[.bool (zneg qd.num), .slice a16 n16 c16, .slice b16 m16 d16] 41 (0, 0))) := Lib.hid (blk_new wv16 _ _)
  replace HB := Lib.hid (below_then HB.out (below_alloc wv16 (.cells #[.bool (zneg qd.num), .slice a16 n16 c16, .slice b16 m16 d16] 41)))
  replace X0 := Lib.hid (blk_later X0.out (below_alloc wv16 (.cells #[.bool (zneg qd.num), .slice a16 n16 c16, .slice b16 m16 d16] 41)))
  replace N6 := Lib.hid (blk_later N6.out (below_alloc wv16 (.cells #[.bool (zneg qd.num), .slice a16 n16 c16, .slice b16 m16 d16] 41)))
  replace HF := Lib.hid (HF.out.later (below_alloc wv16 (.cells #[.bool (zneg qd.num), .slice a16 n16 c16, .slice b16 m16 d16] 41)))
  replace HFz := Lib.hid (HFz.out.later (below_alloc wv16 (.cells #[.bool (zneg qd.num), .slice a16 n16 c16, .slice b16 m16 d16] 41)))
  replace A0 := Lib.hid (A0.out.later (below_alloc wv16 (.cells #[.bool (zneg qd.num), .slice a16 n16 c16, .slice b16 m16 d16] 41)))
  replace B0 := Lib.hid (B0.out.later (below_alloc wv16 (.cells #[.bool (zneg qd.num), .slice a16 n16 c16, .slice b16 m16 d16] 41)))
  replace R4 := Lib.hid (R4.out.later (below_alloc wv16 (.cells #[.bool (zneg qd.num), .slice a16 n16 c16, .slice b16 m16 d16] 41)))
  replace R5 := Lib.hid (R5.out.later (below_alloc wv16 (.cells #[.bool (zneg qd.num), .slice a16 n16 c16, .slice b16 m16 d16] 41)))
  replace R6 := Lib.hid (R6.out.later (below_alloc wv16 (.cells #[.bool (zneg qd.num), .slice a16 n16 c16, .slice b16 m16 d16] 41)))
  replace T6 := Lib.hid (T6.out.later (below_alloc wv16 (.cells #[.bool (zneg qd.num), .slice a16 n16 c16, .slice b16 m16 d16] 41)))
  replace R10 := Lib.hid (R10.out.later (below_alloc wv16 (.cells #[.bool (zneg qd.num), .slice a16 n16 c16, .slice b16 m16 d16] 41)))
  replace R13 := Lib.hid (R13.out.later (below_alloc wv16 (.cells #[.bool (zneg qd.num), .slice a16 n16 c16, .slice b16 m16 d16] 41)))
  replace R14 := Lib.hid (R14.out.later (below_alloc wv16 (.cells #[.bool (zneg qd.num), .slice a16 n16 c16, .slice b16 m16 d16] 41)))
  replace R15 := Lib.hid (R15.out.later (below_alloc wv16 (.cells #[.bool (zneg qd.num), .slice a16 n16 c16, .slice b16 m16 d16] 41)))
  replace R16 := Lib.hid (R16.out.later (below_alloc wv16 (.cells #[.bool (zneg qd.num), .slice a16 n16 c16, .slice b16 m16 d16] 41)))
  replace T16 := Lib.hid (T16.out.later (below_alloc wv16 (.cells #[.bool (zneg qd.num), .slice a16 n16 c16, .slice b16 m16 d16] 41)))
  clear R14 R15
  obtain ⟨vk0, vk1, vk2, vk3, vk4, vk5, vk6, vk7, vk8⟩ := fcells_3_3_3 X0.out N6.out P16.out
  go_wp2_with fail
  refine (HAN _).mono ?_
  rintro e wv17 ⟨a17, n17, c17, rfl, h17, b⟩
  clear vk0 vk1 vk2 vk3 vk4 vk5 vk6 vk7 vk8
  replace HB := Lib.hid (below_then HB.out b)
  replace X0 := Lib.hid (blk_later X0.out b)
  replace N6 := Lib.hid (blk_later N6.out b)
  replace P16 := Lib.hid (blk_later P16.out b)
  replace HF := Lib.hid (HF.out.later b)
  replace HFz := Lib.hid (HFz.out.later b)
  replace A0 := Lib.hid (A0.out.later b)
  replace B0 := Lib.hid (B0.out.later b)
  replace R4 := Lib.hid (R4.out.later b)
  replace R5 := Lib.hid (R5.out.later b)
  replace R6 := Lib.hid (R6.out.later b)
  replace T6 := Lib.hid (T6.out.later b)
  replace R10 := Lib.hid (R10.out.later b)
  replace R13 := Lib.hid (R13.out.later b)
  replace R16 := Lib.hid (R16.out.later b)
  replace T16 := Lib.hid (T16.out.later b)
  clear b
  obtain rfl : n17 = 0 := h17.len.symm
  clear h17
  go_wp2
  generalize wv17 = W at *
  replace HB := Lib.hid (below_then HB.out ((Below.refl _ _).drew : Below W.heap.size W W.drew))
  replace X0 : Hid (W.drew.heap[w.heap.size]? = _) := Lib.hid X0.out
  replace N6 : Hid (W.drew.heap[wv6.heap.size]? = _) := Lib.hid N6.out
  replace P16 : Hid (W.drew.heap[wv16.heap.size]? = _) := Lib.hid P16.out
  replace HF := Lib.hid (HF.out.later ((Below.refl _ _).drew : Below W.heap.size W W.drew))
  replace A0 := Lib.hid (A0.out.later ((Below.refl _ _).drew : Below W.heap.size W W.drew))
  replace B0 := Lib.hid (B0.out.later ((Below.refl _ _).drew : Below W.heap.size W W.drew))
  replace R4 := Lib.hid (R4.out.later ((Below.refl _ _).drew : Below W.heap.size W W.drew))
  replace R5 := Lib.hid (R5.out.later ((Below.refl _ _).drew : Below W.heap.size W W.drew))
  replace R6 := Lib.hid (R6.out.later ((Below.refl _ _).drew : Below W.heap.size W W.drew))
  replace T6 := Lib.hid (T6.out.later ((Below.refl _ _).drew : Below W.heap.size W W.drew))
  replace R10 := Lib.hid (R10.out.later ((Below.refl _ _).drew : Below W.heap.size W W.drew))
  replace R13 := Lib.hid (R13.out.later ((Below.refl _ _).drew : Below W.heap.size W W.drew))
  replace R16 := Lib.hid (R16.out.later ((Below.refl _ _).drew : Below W.heap.size W W.drew))
  replace T16 := Lib.hid (T16.out.later ((Below.refl _ _).drew : Below W.heap.size W W.drew))
  have pSn := fcells_3_3_3 X0.out N6.out P16.out
  go_region_held3 (fun w' => w'.cell? ⟨w.heap.size, 0, none⟩ = some (.bool s0) ∧ w'.cell? ⟨w.heap.size, 1, none⟩ = some (.slice a0 n0 c0) ∧ w'.cell? ⟨w.heap.size, 2, none⟩ = some (.slice b0 m0 d0) ∧ w'.cell? ⟨wv6.heap.size, 0, none⟩ = some (.bool (zneg k.num)) ∧ w'.cell? ⟨wv6.heap.size, 1, none⟩ = some (.slice a6 n6 c6) ∧ w'.cell? ⟨wv6.heap.size, 2, none⟩ = some (.slice b6 m6 d6) ∧ w'.cell? ⟨wv16.heap.size, 0, none⟩ = some (.bool (zneg qd.num)) ∧ w'.cell? ⟨wv16.heap.size, 1, none⟩ = some (.slice a16 n16 c16) ∧ w'.cell? ⟨wv16.heap.size, 2, none⟩ = some (.slice b16 m16 d16)) (exact pSn)
    (first
    | (go_at_call 31; (first
      | (refine (law09_to s0 a0 n0 c0 b0 m0 d0 _).mono ?_; rintro e wp1 ⟨rfl, b⟩; replace HB := Lib.hid (below_then HB.out b); replace X0 := Lib.hid (blk_later X0.out b); replace N6 := Lib.hid (blk_later N6.out b); replace P16 := Lib.hid (blk_later P16.out b); replace HF := Lib.hid (HF.out.later b); replace A0 := Lib.hid (A0.out.later b); replace B0 := Lib.hid (B0.out.later b); replace R4 := Lib.hid (R4.out.later b); replace R5 := Lib.hid (R5.out.later b); replace R6 := Lib.hid (R6.out.later b); replace T6 := Lib.hid (T6.out.later b); replace R10 := Lib.hid (R10.out.later b); replace R13 := Lib.hid (R13.out.later b); replace R16 := Lib.hid (R16.out.later b); replace T16 := Lib.hid (T16.out.later b); clear b; clear pSn; have pSn := fcells_3_3_3 X0.out N6.out P16.out; have pM1 := True.intro)))
    | (go_at_call 18; (first
      | (have pm1 := pM1; refine (law11_to a n c L _ HF.out (by omega)).mono ?_; rintro e wp2 ⟨a19, c19, rfl, h19, b⟩; replace HB := Lib.hid (below_then HB.out b); replace X0 := Lib.hid (blk_later X0.out b); replace N6 := Lib.hid (blk_later N6.out b); replace P16 := Lib.hid (blk_later P16.out b); replace HF := Lib.hid (HF.out.later b); replace A0 := Lib.hid (A0.out.later b); replace B0 := Lib.hid (B0.out.later b); replace R4 := Lib.hid (R4.out.later b); replace R5 := Lib.hid (R5.out.later b); replace R6 := Lib.hid (R6.out.later b); replace T6 := Lib.hid (T6.out.later b); replace R10 := Lib.hid (R10.out.later b); replace R13 := Lib.hid (R13.out.later b); replace R16 := Lib.hid (R16.out.later b); replace T16 := Lib.hid (T16.out.later b); have R19 := Lib.hid h19; clear h19; clear b; clear pSn; have pSn := fcells_3_3_3 X0.out N6.out P16.out; clear pM1 pm1; have pM2 := True.intro)))
    | (go_at_call 30; (first
      | (have pm2 := pM2; refine (HSC _ a19 c19 (Fr.of A0.out B0.out (by omega) (by omega) EQ0.out) R19.out).mono ?_; rintro e wp3 ⟨a20, n20, c20, rfl, h20, b⟩; replace HB := Lib.hid (below_then HB.out b); replace X0 := Lib.hid (blk_later X0.out b); replace N6 := Lib.hid (blk_later N6.out b); replace P16 := Lib.hid (blk_later P16.out b); replace HF := Lib.hid (HF.out.later b); replace A0 := Lib.hid (A0.out.later b); replace B0 := Lib.hid (B0.out.later b); replace R4 := Lib.hid (R4.out.later b); replace R5 := Lib.hid (R5.out.later b); replace R6 := Lib.hid (R6.out.later b); replace T6 := Lib.hid (T6.out.later b); replace R10 := Lib.hid (R10.out.later b); replace R13 := Lib.hid (R13.out.later b); replace R16 := Lib.hid (R16.out.later b); replace T16 := Lib.hid (T16.out.later b); clear R19; have R20 := Lib.hid h20; clear h20; clear b; clear pSn; have pSn := fcells_3_3_3 X0.out N6.out P16.out; clear pM2 pm2; have pM3 := True.intro)))
    | (go_at_call 32; (first
      | (have pm3 := pM3; refine (HRC _ (frV (zneg (k).num) a6 n6 c6 b6 m6 d6) a4 n4 c4 (Rt.of R6.out T6.out (by omega) (by omega)) R4.out).mono ?_; rintro e wp4 ⟨a21, n21, c21, rfl, h21, b⟩; replace HB := Lib.hid (below_then HB.out b); replace X0 := Lib.hid (blk_later X0.out b); replace N6 := Lib.hid (blk_later N6.out b); replace P16 := Lib.hid (blk_later P16.out b); replace HF := Lib.hid (HF.out.later b); replace A0 := Lib.hid (A0.out.later b); replace B0 := Lib.hid (B0.out.later b); replace R4 := Lib.hid (R4.out.later b); replace R5 := Lib.hid (R5.out.later b); replace R6 := Lib.hid (R6.out.later b); replace T6 := Lib.hid (T6.out.later b); replace R10 := Lib.hid (R10.out.later b); replace R13 := Lib.hid (R13.out.later b); replace R16 := Lib.hid (R16.out.later b); replace T16 := Lib.hid (T16.out.later b); replace R20 := Lib.hid (R20.out.later b); have R21 := Lib.hid h21; clear h21; clear b; clear pSn; have pSn := fcells_3_3_3 X0.out N6.out P16.out; clear pM3 pm3; have pM4 := True.intro)))
    | (go_at_call 12; (first
      | (have pm4 := pM4; refine (law11_is_yes a20 n20 c20 a21 n21 c21 sc _ R20.out R21.out NSC.out LSC.out).mono ?_; rintro e wp5 ⟨rfl, b⟩; replace HB := Lib.hid (below_then HB.out b); replace X0 := Lib.hid (blk_later X0.out b); replace N6 := Lib.hid (blk_later N6.out b); replace P16 := Lib.hid (blk_later P16.out b); replace HF := Lib.hid (HF.out.later b); replace A0 := Lib.hid (A0.out.later b); replace B0 := Lib.hid (B0.out.later b); replace R4 := Lib.hid (R4.out.later b); replace R5 := Lib.hid (R5.out.later b); replace R6 := Lib.hid (R6.out.later b); replace T6 := Lib.hid (T6.out.later b); replace R10 := Lib.hid (R10.out.later b); replace R13 := Lib.hid (R13.out.later b); replace R16 := Lib.hid (R16.out.later b); replace T16 := Lib.hid (T16.out.later b); clear R20; clear R21; clear b; clear pSn; have pSn := fcells_3_3_3 X0.out N6.out P16.out; clear pM4 pm4; have pM5 := True.intro))))
  go_wp2
  generalize wp5 = W2 at *
  replace HB := Lib.hid (below_then HB.out ((Below.refl _ _).drew : Below W2.heap.size W2 W2.drew))
  replace P16 : Hid (W2.drew.heap[wv16.heap.size]? = _) := Lib.hid P16.out
  replace R4 := Lib.hid (R4.out.later ((Below.refl _ _).drew : Below W2.heap.size W2 W2.drew))
  replace R5 := Lib.hid (R5.out.later ((Below.refl _ _).drew : Below W2.heap.size W2 W2.drew))
  replace R10 := Lib.hid (R10.out.later ((Below.refl _ _).drew : Below W2.heap.size W2 W2.drew))
  replace R13 := Lib.hid (R13.out.later ((Below.refl _ _).drew : Below W2.heap.size W2 W2.drew))
  replace R16 := Lib.hid (R16.out.later ((Below.refl _ _).drew : Below W2.heap.size W2 W2.drew))
  replace T16 := Lib.hid (T16.out.later ((Below.refl _ _).drew : Below W2.heap.size W2 W2.drew))
  have qSn := fcells_3 P16.out
  go_region_held3 (fun w' => w'.cell? ⟨wv16.heap.size, 0, none⟩ = some (.bool (zneg qd.num)) ∧ w'.cell? ⟨wv16.heap.size, 1, none⟩ = some (.slice a16 n16 c16) ∧ w'.cell? ⟨wv16.heap.size, 2, none⟩ = some (.slice b16 m16 d16)) (exact qSn)
    (first
    | (go_at_call 34; (first
      | (have qm5 := qM5; refine (HRD _ a4 n4 c4 a26 n26 c26 R4.out R26.out).mono ?_; rintro e wq6 ⟨a27, n27, c27, rfl, h27, b⟩; replace HB := Lib.hid (below_then HB.out b); replace P16 := Lib.hid (blk_later P16.out b); replace R4 := Lib.hid (R4.out.later b); replace R5 := Lib.hid (R5.out.later b); replace R10 := Lib.hid (R10.out.later b); replace R13 := Lib.hid (R13.out.later b); replace R16 := Lib.hid (R16.out.later b); replace T16 := Lib.hid (T16.out.later b); clear R26; have R27 := Lib.hid h27; clear h27; clear b; clear qSn; have qSn := fcells_3 P16.out; clear qM5 qm5; have qM6 := True.intro)
      | (have qm1 := qM1; refine (HRB _ a22 n22 c22 a4 n4 c4 R22.out R4.out).mono ?_; rintro e wq2 ⟨a23, n23, c23, rfl, h23, b⟩; replace HB := Lib.hid (below_then HB.out b); replace P16 := Lib.hid (blk_later P16.out b); replace R4 := Lib.hid (R4.out.later b); replace R5 := Lib.hid (R5.out.later b); replace R10 := Lib.hid (R10.out.later b); replace R13 := Lib.hid (R13.out.later b); replace R16 := Lib.hid (R16.out.later b); replace T16 := Lib.hid (T16.out.later b); clear R22; have R23 := Lib.hid h23; clear h23; clear b; clear qSn; have qSn := fcells_3 P16.out; clear qM1 qm1; have qM2 := True.intro)
      | (refine (HRA _ a4 n4 c4 a5 n5 c5 R4.out R5.out).mono ?_; rintro e wq1 ⟨a22, n22, c22, rfl, h22, b⟩; replace HB := Lib.hid (below_then HB.out b); replace P16 := Lib.hid (blk_later P16.out b); replace R4 := Lib.hid (R4.out.later b); replace R5 := Lib.hid (R5.out.later b); replace R10 := Lib.hid (R10.out.later b); replace R13 := Lib.hid (R13.out.later b); replace R16 := Lib.hid (R16.out.later b); replace T16 := Lib.hid (T16.out.later b); have R22 := Lib.hid h22; clear h22; clear b; clear qSn; have qSn := fcells_3 P16.out; have qM1 := True.intro)))
    | (go_at_call 12; (first
      | (have qm6 := qM6; refine (law11_is_yes a13 n13 c13 a27 n27 c27 sb _ R13.out R27.out NSB.out LSB.out).mono ?_; rintro e wq7 ⟨rfl, b⟩; replace HB := Lib.hid (below_then HB.out b); replace P16 := Lib.hid (blk_later P16.out b); replace R4 := Lib.hid (R4.out.later b); replace R5 := Lib.hid (R5.out.later b); replace R10 := Lib.hid (R10.out.later b); replace R13 := Lib.hid (R13.out.later b); replace R16 := Lib.hid (R16.out.later b); replace T16 := Lib.hid (T16.out.later b); clear R27; clear b; clear qSn; have qSn := fcells_3 P16.out; clear qM6 qm6; have qM7 := True.intro)
      | (have qm2 := qM2; refine (law11_is_yes a10 n10 c10 a23 n23 c23 sm _ R10.out R23.out NSM.out LSM.out).mono ?_; rintro e wq3 ⟨rfl, b⟩; replace HB := Lib.hid (below_then HB.out b); replace P16 := Lib.hid (blk_later P16.out b); replace R4 := Lib.hid (R4.out.later b); replace R5 := Lib.hid (R5.out.later b); replace R10 := Lib.hid (R10.out.later b); replace R13 := Lib.hid (R13.out.later b); replace R16 := Lib.hid (R16.out.later b); replace T16 := Lib.hid (T16.out.later b); clear R23; clear b; clear qSn; have qSn := fcells_3 P16.out; clear qM2 qm2; have qM3 := True.intro)))
    | (go_at_call 35; (first
      | (have qm3 := qM3; refine (HRI _).mono ?_; rintro e wq4 ⟨a25, n25, c25, b25, m25, d25, rfl, h25, g25, b⟩; replace HB := Lib.hid (below_then HB.out b); replace P16 := Lib.hid (blk_later P16.out b); replace R4 := Lib.hid (R4.out.later b); replace R5 := Lib.hid (R5.out.later b); replace R10 := Lib.hid (R10.out.later b); replace R13 := Lib.hid (R13.out.later b); replace R16 := Lib.hid (R16.out.later b); replace T16 := Lib.hid (T16.out.later b); have R25 := Lib.hid h25; have T25 := Lib.hid g25; have hN25 : n25 ≤ 300 := (by rw [← h25.len]; exact Nat.le_trans (qlen_num _) (Nat.le_trans LMO.out (by decide))); have hM25 : m25 ≤ 300 := (by rw [← g25.len]; exact Nat.le_trans (qlen_den _) (Nat.le_trans LMO.out (by decide))); clear h25 g25; clear b; clear qSn; have qSn := fcells_3 P16.out; clear qM3 qm3; have qM4 := True.intro)))
    | (go_at_call 32; (first
      | (have qm4 := qM4; refine (HRS _ (frV (zneg (mo).num) a25 n25 c25 b25 m25 d25) a5 n5 c5 (Rt.of R25.out T25.out (by omega) (by omega)) R5.out).mono ?_; rintro e wq5 ⟨a26, n26, c26, rfl, h26, b⟩; replace HB := Lib.hid (below_then HB.out b); replace P16 := Lib.hid (blk_later P16.out b); replace R4 := Lib.hid (R4.out.later b); replace R5 := Lib.hid (R5.out.later b); replace R10 := Lib.hid (R10.out.later b); replace R13 := Lib.hid (R13.out.later b); replace R16 := Lib.hid (R16.out.later b); replace T16 := Lib.hid (T16.out.later b); clear R25; clear T25; have R26 := Lib.hid h26; clear h26; clear b; clear qSn; have qSn := fcells_3 P16.out; clear qM4 qm4; have qM5 := True.intro)))
    | (go_at_call 36; (first
      | (have qm7 := qM7; refine (HRT _ a4 n4 c4 a5 n5 c5 R4.out R5.out).mono ?_; rintro e wq8 ⟨a29, n29, c29, b29, m29, d29, rfl, h29, g29, b⟩; replace HB := Lib.hid (below_then HB.out b); replace P16 := Lib.hid (blk_later P16.out b); replace R4 := Lib.hid (R4.out.later b); replace R5 := Lib.hid (R5.out.later b); replace R10 := Lib.hid (R10.out.later b); replace R13 := Lib.hid (R13.out.later b); replace R16 := Lib.hid (R16.out.later b); replace T16 := Lib.hid (T16.out.later b); have R29 := Lib.hid h29; have T29 := Lib.hid g29; clear h29 g29; clear b; clear qSn; have qSn := fcells_3 P16.out; clear qM7 qm7; have qM8 := True.intro)))
    | (go_at_call 20; (first
      | (have qm8 := qM8; refine (law09_is_yes (zneg qd.num) a16 n16 c16 b16 m16 d16 (dg qd.num.natAbs) (dg qd.den) a29 n29 c29 b29 m29 d29 _ R16.out T16.out R29.out T29.out).mono ?_; rintro e wq9 ⟨rfl, b⟩; replace HB := Lib.hid (below_then HB.out b); replace P16 := Lib.hid (blk_later P16.out b); replace R4 := Lib.hid (R4.out.later b); replace R5 := Lib.hid (R5.out.later b); replace R10 := Lib.hid (R10.out.later b); replace R13 := Lib.hid (R13.out.later b); replace R16 := Lib.hid (R16.out.later b); replace T16 := Lib.hid (T16.out.later b); clear R29; clear T29; clear b; clear qSn; have qSn := fcells_3 P16.out; clear qM8 qm8; have qM9 := True.intro)))
    | (go_at_call 10; (first
      | (have qm9 := qM9; refine (law11_works S FS _ (Lib.hid (hT.out.later HB.out))).mono ?_; rintro e wq10 ⟨rfl, b⟩; replace HB := Lib.hid (below_then HB.out b); replace P16 := Lib.hid (blk_later P16.out b); replace R4 := Lib.hid (R4.out.later b); replace R5 := Lib.hid (R5.out.later b); replace R10 := Lib.hid (R10.out.later b); replace R13 := Lib.hid (R13.out.later b); replace R16 := Lib.hid (R16.out.later b); replace T16 := Lib.hid (T16.out.later b); clear b; clear qSn; have qSn := fcells_3 P16.out; clear qM9 qm9; have qM10 := True.intro))))
  go_wp2
  go_ret
  exact ⟨rfl, HB.out⟩
set_option maxRecDepth 4096 in
set_option maxHeartbeats 16000000 in
theorem law11_sums_uneven (S : RowSaid) (FS : FracSaid) (a : Option Addr) (n c : Nat) (L : List Fx) (az : Option Addr) (nz cz : Nat) (Lz : List Fx) (s0 : Bool) (a0 : Option Addr) (n0 c0 : Nat) (la0 : List Nat) (b0 : Option Addr) (m0 d0 : Nat) (lb0 : List Nat) (w : World) (h : Fxs w a n c L) (hz : Fxs w az nz cz Lz) (ha0 : Wd w a0 n0 c0 la0) (hb0 : Wd w b0 m0 d0 lb0) (hT : Hid (Dec10 w)) (hb : (n : Int) ≤ 12 ∧ thinI 4 L) (hbz : (nz : Int) ≤ 12 ∧ thinI 4 Lz) (hn0 : n0 ≤ 4) (hm0 : m0 ≤ 4) (hne : n ≠ nz) : Calls Tryz.prog 4 #[.slice a n c, .slice az nz cz, frV s0 a0 n0 c0 b0 m0 d0] w (Gives (.bool true) w) := by
  have HB := Lib.hid (below_alloc w (.cells #[.bool s0, .slice a0 n0 c0, .slice b0 m0 d0] 44))
  have X0 := Lib.hid (blk_new w #[.bool s0, .slice a0 n0 c0, .slice b0 m0 d0] 44)
  have HNB := Lib.hid hb
  have hn : n ≤ 12 := by have := hb.1; omega
  have hth : thin 4 L := thinI.out (N := 4) hb.2
  have hq : ∀ q ∈ fqs L, qlen q ≤ 5 := fun q hq => by
    obtain ⟨x, hx, rfl⟩ := List.mem_map.1 hq
    exact ((h.ok hx).fr (hth x hx).1 (hth x hx).2).len
  have hlq : (fqs L).length = n := (fqs_length L).trans h.len
  have HTH := Lib.hid hth
  have HQ := Lib.hid hq
  have HLQ := Lib.hid hlq
  have HF := Lib.hid h
  have HNBz := Lib.hid hbz
  have hnz : nz ≤ 12 := by have := hbz.1; omega
  have hthz : thin 4 Lz := thinI.out (N := 4) hbz.2
  have hqz : ∀ q ∈ fqs Lz, qlen q ≤ 5 := fun q hq => by
    obtain ⟨x, hx, rfl⟩ := List.mem_map.1 hq
    exact ((hz.ok hx).fr (hthz x hx).1 (hthz x hx).2).len
  have hlqz : (fqs Lz).length = nz := (fqs_length Lz).trans hz.len
  have HTHz := Lib.hid hthz
  have HQz := Lib.hid hqz
  have HLQz := Lib.hid hlqz
  have HFz := Lib.hid hz
  have A0 := Lib.hid (ha0.later HB.out)
  have B0 := Lib.hid (hb0.later HB.out)
  obtain ⟨k, hk⟩ : ∃ k, qval s0 (val la0) (val lb0) = k := ⟨_, rfl⟩
  have EQ0 := Lib.hid hk
  have LK := Lib.hid (show qlen k ≤ 5 from (Fr.of ha0 hb0 hn0 hm0 hk).len)
  obtain ⟨xs, hxs⟩ : ∃ xs, fqs L = xs := ⟨_, rfl⟩
  obtain ⟨ys, hys⟩ : ∃ ys, fqs Lz = ys := ⟨_, rfl⟩
  rw [hxs] at hq hlq
  rw [hys] at hqz hlqz
  have NX := Lib.hid hlq
  have NY := Lib.hid hlqz
  have LX := Lib.hid hq
  have LY := Lib.hid hqz
  obtain ⟨sc, hsc⟩ : ∃ sc, rscale k xs = sc := ⟨_, rfl⟩
  have LSC : Hid (∀ q ∈ sc, qlen q ≤ 15000) := Lib.hid (by rw [← hsc]; exact fun q hq' => Nat.le_trans (qlen_rscale LK.out hq q hq') (by decide))
  have NSC : Hid (sc.length ≤ 1000) := Lib.hid (by rw [← hsc, rscale_length]; omega)
  have HNX : ∀ (w' : World), Fxs w' a n c L → Calls Tryz.prog 11 #[.slice a n c] w' (LstRw xs w') := fun w' h1 => hxs ▸ ref11_norms a n c L w' h1 (by omega) (HTH.out.mono (by decide))
  have HNY : ∀ (w' : World), Fxs w' az nz cz Lz → Calls Tryz.prog 11 #[.slice az nz cz] w' (LstRw ys w') := fun w' h1 => hys ▸ ref11_norms az nz cz Lz w' h1 (by omega) (HTHz.out.mono (by decide))
  have HSC : ∀ (w' : World) (a1 : Option Addr) (c1 : Nat), Fr w' (frV s0 a0 n0 c0 b0 m0 d0) k 300 → Fxs w' a1 n c1 L → Calls Tryz.prog 30 #[frV s0 a0 n0 c0 b0 m0 d0, .slice a1 n c1] w' (LstRw sc w') := fun w' a1 c1 h1 h2 => by
    have h9 := S.scale (frV s0 a0 n0 c0 b0 m0 d0) k a1 n c1 L w' h1 h2 (by omega) (HTH.out.mono (by decide))
    rw [hxs, hsc] at h9
    exact h9
  have HRC : ∀ (w' : World) (v : Value) (a1 : Option Addr) (n1 c1 : Nat), Rt w' v k 2000 → Rw w' a1 n1 c1 xs → Calls Tryz.prog 32 #[v, .slice a1 n1 c1] w' (LstRw sc w') := fun w' v a1 n1 c1 h1 h2 => by
    have h9 := ref11_scale v k a1 n1 c1 xs w' h1 h2 (by have := h2.len; have := NX.out; omega) (fun q hq => Nat.le_trans (LX.out q hq) (by decide))
    rw [hsc] at h9
    exact h9
  have HAN : ∀ (w' : World), Calls Tryz.prog 27 #[.slice none 0 0] w' (LstRwV [] (.bool true) w') := fun w' => S.add_yes none 0 0 [] w' (Fxss.ofNil _) (by decide) (fun _ h => by simp at h) (fun _ h => by simp at h)
  have HNE : Hid (n ≠ nz) := Lib.hid hne
  have hq9 : ((n : Int) == (nz : Int)) = false := by simp; omega
  have hq8 : ¬ ((n : Int) = (nz : Int)) := by omega
  obtain ⟨qd, hqd⟩ : ∃ qd : Rat, (0 : Rat) = qd := ⟨_, rfl⟩
  have lqd : qlen qd ≤ 300 := by rw [← hqd, qlen_nought]; decide
  have LQD := Lib.hid lqd
  have SQD : Hid (sgn qd.num = 0) := Lib.hid (by rw [← hqd]; exact zero_sgn)
  have HAD : ∀ (w' : World) (g : Nat) (a1 : Option Addr) (c1 : Nat) (a2 : Option Addr) (c2 : Nat) (a3 : Option Addr) (c3 : Nat), w'.heap.size = g → Fxs w' a1 n c1 L → Fxs w' a2 nz c2 Lz → Fxs w' a3 n c3 L → Calls Tryz.prog 27 #[.slice (some ⟨g, 0, none⟩) 3 3] (w'.alloc (.cells #[.slice a1 n c1, .slice a2 nz c2, .slice a3 n c3] 28)) (LstRwV [] (.bool false) w') := fun w' g a1 c1 a2 c2 a3 c3 hg h1 h2 h3 => add3_no S a1 n c1 L a2 nz c2 Lz a3 n c3 w' g hg h1 h2 h3 (by omega) (by omega) HNE (HTH.out.mono (by decide)) (HTHz.out.mono (by decide))
  have HSB : ∀ (w' : World) (a1 : Option Addr) (c1 : Nat) (a2 : Option Addr) (c2 : Nat), Fxs w' a1 n c1 L → Fxs w' a2 nz c2 Lz → Calls Tryz.prog 28 #[.slice a1 n c1, .slice a2 nz c2] w' (LstRwV [] (.bool false) w') := fun w' a1 c1 a2 c2 h1 h2 => S.sub_no a1 n c1 L a2 nz c2 Lz w' h1 h2 (by omega) (by omega) (HTH.out.mono (by decide)) (HTHz.out.mono (by decide)) HNE
  have HDT : ∀ (w' : World) (a1 : Option Addr) (c1 : Nat) (a2 : Option Addr) (c2 : Nat), Fxs w' a1 n c1 L → Fxs w' a2 nz c2 Lz → Calls Tryz.prog 29 #[.slice a1 n c1, .slice a2 nz c2] w' (LstQV qd (.bool false) w') := fun w' a1 c1 a2 c2 h1 h2 => by
    have h9 := S.dot_no a1 n c1 L a2 nz c2 Lz w' h1 h2 (by omega) (by omega) (HTH.out.mono (by decide)) (HTHz.out.mono (by decide)) HNE
    rw [hqd] at h9
    exact h9
  have hl0 : (decide ((4 : Int) < (n0 : Int)) || decide ((4 : Int) < (m0 : Int))) = false := by rw [decide_eq_false (by omega), decide_eq_false (by omega)]; rfl
  replace HF := Lib.hid (HF.out.later HB.out)
  replace HFz := Lib.hid (HFz.out.later HB.out)
  clear hk hxs hys hsc hqd lqd ha0 hb0 hne
  clear h hb hlq hth hq
  clear hz hbz hlqz hthz hqz
  go_enter Tryz.func4, Tryz.ntmps4
  unfold frV
  obtain ⟨vk0, vk1, vk2⟩ := fcells_3 X0.out
  go_wp2_with fail
  refine (ref11_long a n c L 12 4 false _ HF.out (by decide) (Lib.hid ⟨fun h => absurd h (by decide), fun h => absurd HNB.out h⟩)).mono ?_
  rintro e wv1 ⟨rfl, b⟩
  clear vk0 vk1 vk2
  replace HB := Lib.hid (below_then HB.out b)
  replace X0 := Lib.hid (blk_later X0.out b)
  replace HF := Lib.hid (HF.out.later b)
  replace HFz := Lib.hid (HFz.out.later b)
  replace A0 := Lib.hid (A0.out.later b)
  replace B0 := Lib.hid (B0.out.later b)
  clear b
  obtain ⟨vk0, vk1, vk2⟩ := fcells_3 X0.out
  go_wp2_with fail
  refine (ref11_long az nz cz Lz 12 4 false _ HFz.out (by decide) (Lib.hid ⟨fun h => absurd h (by decide), fun h => absurd HNBz.out h⟩)).mono ?_
  rintro e wv2 ⟨rfl, b⟩
  clear vk0 vk1 vk2
  replace HB := Lib.hid (below_then HB.out b)
  replace X0 := Lib.hid (blk_later X0.out b)
  replace HF := Lib.hid (HF.out.later b)
  replace HFz := Lib.hid (HFz.out.later b)
  replace A0 := Lib.hid (A0.out.later b)
  replace B0 := Lib.hid (B0.out.later b)
  clear b
  obtain ⟨vk0, vk1, vk2⟩ := fcells_3 X0.out
  go_wp2_with fail
  refine (ref09_long s0 a0 n0 c0 b0 m0 d0 4 _).mono ?_
  rintro e wv3 ⟨rfl, b⟩
  clear vk0 vk1 vk2
  replace HB := Lib.hid (below_then HB.out b)
  replace X0 := Lib.hid (blk_later X0.out b)
  replace HF := Lib.hid (HF.out.later b)
  replace HFz := Lib.hid (HFz.out.later b)
  replace A0 := Lib.hid (A0.out.later b)
  replace B0 := Lib.hid (B0.out.later b)
  clear b
  rw [hl0]
  obtain ⟨vk0, vk1, vk2⟩ := fcells_3 X0.out
  go_wp2_with fail
  refine (HNX _ HF.out).mono ?_
  rintro e wv4 ⟨a4, n4, c4, rfl, h4, b⟩
  clear vk0 vk1 vk2
  replace HB := Lib.hid (below_then HB.out b)
  replace X0 := Lib.hid (blk_later X0.out b)
  replace HF := Lib.hid (HF.out.later b)
  replace HFz := Lib.hid (HFz.out.later b)
  replace A0 := Lib.hid (A0.out.later b)
  replace B0 := Lib.hid (B0.out.later b)
  clear b
  have R4 := Lib.hid h4
  clear h4
  obtain ⟨vk0, vk1, vk2⟩ := fcells_3 X0.out
  go_wp2_with fail
  refine (HNY _ HFz.out).mono ?_
  rintro e wv5 ⟨a5, n5, c5, rfl, h5, b⟩
  clear vk0 vk1 vk2
  replace HB := Lib.hid (below_then HB.out b)
  replace X0 := Lib.hid (blk_later X0.out b)
  replace HF := Lib.hid (HF.out.later b)
  replace HFz := Lib.hid (HFz.out.later b)
  replace A0 := Lib.hid (A0.out.later b)
  replace B0 := Lib.hid (B0.out.later b)
  replace R4 := Lib.hid (R4.out.later b)
  clear b
  have R5 := Lib.hid h5
  clear h5
  obtain ⟨vk0, vk1, vk2⟩ := fcells_3 X0.out
  go_wp2_with fail
  refine (ref09_norm s0 a0 n0 c0 la0 b0 m0 d0 lb0 _ A0.out B0.out (by omega) (by omega)).mono ?_
  rintro e wv6 ⟨a6, n6, c6, b6, m6, d6, rfl, h6, g6, b⟩
  clear vk0 vk1 vk2
  replace HB := Lib.hid (below_then HB.out b)
  replace X0 := Lib.hid (blk_later X0.out b)
  replace HF := Lib.hid (HF.out.later b)
  replace HFz := Lib.hid (HFz.out.later b)
  replace A0 := Lib.hid (A0.out.later b)
  replace B0 := Lib.hid (B0.out.later b)
  replace R4 := Lib.hid (R4.out.later b)
  replace R5 := Lib.hid (R5.out.later b)
  clear b
  rw [EQ0.out] at h6 g6 ⊢
  have hN6 : n6 ≤ 300 := (by rw [← h6.len]; exact Nat.le_trans (qlen_num _) (Nat.le_trans LK.out (by decide)))
  have hM6 : m6 ≤ 300 := (by rw [← g6.len]; exact Nat.le_trans (qlen_den _) (Nat.le_trans LK.out (by decide)))
  have R6 := Lib.hid h6
  have T6 := Lib.hid g6
  clear h6 g6
  unfold frV
  have N6 : Hid ((World.alloc wv6 (.cells #[.bool (zneg k.num), .slice a6 n6 c6, .slice b6 m6 d6] 44)).heap[wv6.heap.size]? = some (.cells #[.bool (zneg k.num), .slice a6 n6 c6, .slice b6 m6 d6] 44 (0, 0))) := Lib.hid (blk_new wv6 _ _)
  replace HB := Lib.hid (below_then HB.out (below_alloc wv6 (.cells #[.bool (zneg k.num), .slice a6 n6 c6, .slice b6 m6 d6] 44)))
  replace X0 := Lib.hid (blk_later X0.out (below_alloc wv6 (.cells #[.bool (zneg k.num), .slice a6 n6 c6, .slice b6 m6 d6] 44)))
  replace HF := Lib.hid (HF.out.later (below_alloc wv6 (.cells #[.bool (zneg k.num), .slice a6 n6 c6, .slice b6 m6 d6] 44)))
  replace HFz := Lib.hid (HFz.out.later (below_alloc wv6 (.cells #[.bool (zneg k.num), .slice a6 n6 c6, .slice b6 m6 d6] 44)))
  replace A0 := Lib.hid (A0.out.later (below_alloc wv6 (.cells #[.bool (zneg k.num), .slice a6 n6 c6, .slice b6 m6 d6] 44)))
  replace B0 := Lib.hid (B0.out.later (below_alloc wv6 (.cells #[.bool (zneg k.num), .slice a6 n6 c6, .slice b6 m6 d6] 44)))
  replace R4 := Lib.hid (R4.out.later (below_alloc wv6 (.cells #[.bool (zneg k.num), .slice a6 n6 c6, .slice b6 m6 d6] 44)))
  replace R5 := Lib.hid (R5.out.later (below_alloc wv6 (.cells #[.bool (zneg k.num), .slice a6 n6 c6, .slice b6 m6 d6] 44)))
  replace R6 := Lib.hid (R6.out.later (below_alloc wv6 (.cells #[.bool (zneg k.num), .slice a6 n6 c6, .slice b6 m6 d6] 44)))
  replace T6 := Lib.hid (T6.out.later (below_alloc wv6 (.cells #[.bool (zneg k.num), .slice a6 n6 c6, .slice b6 m6 d6] 44)))
  obtain ⟨vk0, vk1, vk2, vk3, vk4, vk5⟩ := fcells_3_3 X0.out N6.out
  go_wp2_with fail
  refine (law11_to a n c L _ HF.out (by omega)).mono ?_
  rintro e wv7 ⟨a7, c7, rfl, h7, b⟩
  clear vk0 vk1 vk2 vk3 vk4 vk5
  replace HB := Lib.hid (below_then HB.out b)
  replace X0 := Lib.hid (blk_later X0.out b)
  replace N6 := Lib.hid (blk_later N6.out b)
  replace HF := Lib.hid (HF.out.later b)
  replace HFz := Lib.hid (HFz.out.later b)
  replace A0 := Lib.hid (A0.out.later b)
  replace B0 := Lib.hid (B0.out.later b)
  replace R4 := Lib.hid (R4.out.later b)
  replace R5 := Lib.hid (R5.out.later b)
  replace R6 := Lib.hid (R6.out.later b)
  replace T6 := Lib.hid (T6.out.later b)
  clear b
  have R7 := Lib.hid h7
  clear h7
  obtain ⟨vk0, vk1, vk2, vk3, vk4, vk5⟩ := fcells_3_3 X0.out N6.out
  go_wp2_with fail
  refine (law11_to az nz cz Lz _ HFz.out (by omega)).mono ?_
  rintro e wv8 ⟨a8, c8, rfl, h8, b⟩
  clear vk0 vk1 vk2 vk3 vk4 vk5
  replace HB := Lib.hid (below_then HB.out b)
  replace X0 := Lib.hid (blk_later X0.out b)
  replace N6 := Lib.hid (blk_later N6.out b)
  replace HF := Lib.hid (HF.out.later b)
  replace HFz := Lib.hid (HFz.out.later b)
  replace A0 := Lib.hid (A0.out.later b)
  replace B0 := Lib.hid (B0.out.later b)
  replace R4 := Lib.hid (R4.out.later b)
  replace R5 := Lib.hid (R5.out.later b)
  replace R6 := Lib.hid (R6.out.later b)
  replace T6 := Lib.hid (T6.out.later b)
  replace R7 := Lib.hid (R7.out.later b)
  clear b
  have R8 := Lib.hid h8
  clear h8
  obtain ⟨vk0, vk1, vk2, vk3, vk4, vk5⟩ := fcells_3_3 X0.out N6.out
  go_wp2_with fail
  refine (law11_to a n c L _ HF.out (by omega)).mono ?_
  rintro e wv9 ⟨a9, c9, rfl, h9, b⟩
  clear vk0 vk1 vk2 vk3 vk4 vk5
  replace HB := Lib.hid (below_then HB.out b)
  replace X0 := Lib.hid (blk_later X0.out b)
  replace N6 := Lib.hid (blk_later N6.out b)
  replace HF := Lib.hid (HF.out.later b)
  replace HFz := Lib.hid (HFz.out.later b)
  replace A0 := Lib.hid (A0.out.later b)
  replace B0 := Lib.hid (B0.out.later b)
  replace R4 := Lib.hid (R4.out.later b)
  replace R5 := Lib.hid (R5.out.later b)
  replace R6 := Lib.hid (R6.out.later b)
  replace T6 := Lib.hid (T6.out.later b)
  replace R7 := Lib.hid (R7.out.later b)
  replace R8 := Lib.hid (R8.out.later b)
  clear b
  have R9 := Lib.hid h9
  clear h9
  obtain ⟨vk0, vk1, vk2, vk3, vk4, vk5⟩ := fcells_3_3 X0.out N6.out
  go_wp2_with fail
  refine (HAD _ _ a7 c7 a8 c8 a9 c9 rfl R7.out R8.out R9.out).mono ?_
  rintro e wv10 ⟨a10, n10, c10, rfl, h10, b⟩
  clear vk0 vk1 vk2 vk3 vk4 vk5
  replace HB := Lib.hid (below_then HB.out b)
  replace X0 := Lib.hid (blk_later X0.out b)
  replace N6 := Lib.hid (blk_later N6.out b)
  replace HF := Lib.hid (HF.out.later b)
  replace HFz := Lib.hid (HFz.out.later b)
  replace A0 := Lib.hid (A0.out.later b)
  replace B0 := Lib.hid (B0.out.later b)
  replace R4 := Lib.hid (R4.out.later b)
  replace R5 := Lib.hid (R5.out.later b)
  replace R6 := Lib.hid (R6.out.later b)
  replace T6 := Lib.hid (T6.out.later b)
  replace R7 := Lib.hid (R7.out.later b)
  replace R8 := Lib.hid (R8.out.later b)
  replace R9 := Lib.hid (R9.out.later b)
  clear b
  obtain rfl : n10 = 0 := h10.len.symm
  have R10 := Lib.hid h10
  clear h10
  clear R7 R8 R9
  obtain ⟨vk0, vk1, vk2, vk3, vk4, vk5⟩ := fcells_3_3 X0.out N6.out
  go_wp2_with fail
  refine (law11_to a n c L _ HF.out (by omega)).mono ?_
  rintro e wv11 ⟨a11, c11, rfl, h11, b⟩
  clear vk0 vk1 vk2 vk3 vk4 vk5
  replace HB := Lib.hid (below_then HB.out b)
  replace X0 := Lib.hid (blk_later X0.out b)
  replace N6 := Lib.hid (blk_later N6.out b)
  replace HF := Lib.hid (HF.out.later b)
  replace HFz := Lib.hid (HFz.out.later b)
  replace A0 := Lib.hid (A0.out.later b)
  replace B0 := Lib.hid (B0.out.later b)
  replace R4 := Lib.hid (R4.out.later b)
  replace R5 := Lib.hid (R5.out.later b)
  replace R6 := Lib.hid (R6.out.later b)
  replace T6 := Lib.hid (T6.out.later b)
  replace R10 := Lib.hid (R10.out.later b)
  clear b
  have R11 := Lib.hid h11
  clear h11
  obtain ⟨vk0, vk1, vk2, vk3, vk4, vk5⟩ := fcells_3_3 X0.out N6.out
  go_wp2_with fail
  refine (law11_to az nz cz Lz _ HFz.out (by omega)).mono ?_
  rintro e wv12 ⟨a12, c12, rfl, h12, b⟩
  clear vk0 vk1 vk2 vk3 vk4 vk5
  replace HB := Lib.hid (below_then HB.out b)
  replace X0 := Lib.hid (blk_later X0.out b)
  replace N6 := Lib.hid (blk_later N6.out b)
  replace HF := Lib.hid (HF.out.later b)
  replace HFz := Lib.hid (HFz.out.later b)
  replace A0 := Lib.hid (A0.out.later b)
  replace B0 := Lib.hid (B0.out.later b)
  replace R4 := Lib.hid (R4.out.later b)
  replace R5 := Lib.hid (R5.out.later b)
  replace R6 := Lib.hid (R6.out.later b)
  replace T6 := Lib.hid (T6.out.later b)
  replace R10 := Lib.hid (R10.out.later b)
  replace R11 := Lib.hid (R11.out.later b)
  clear b
  have R12 := Lib.hid h12
  clear h12
  obtain ⟨vk0, vk1, vk2, vk3, vk4, vk5⟩ := fcells_3_3 X0.out N6.out
  go_wp2_with fail
  refine (HSB _ a11 c11 a12 c12 R11.out R12.out).mono ?_
  rintro e wv13 ⟨a13, n13, c13, rfl, h13, b⟩
  clear vk0 vk1 vk2 vk3 vk4 vk5
  replace HB := Lib.hid (below_then HB.out b)
  replace X0 := Lib.hid (blk_later X0.out b)
  replace N6 := Lib.hid (blk_later N6.out b)
  replace HF := Lib.hid (HF.out.later b)
  replace HFz := Lib.hid (HFz.out.later b)
  replace A0 := Lib.hid (A0.out.later b)
  replace B0 := Lib.hid (B0.out.later b)
  replace R4 := Lib.hid (R4.out.later b)
  replace R5 := Lib.hid (R5.out.later b)
  replace R6 := Lib.hid (R6.out.later b)
  replace T6 := Lib.hid (T6.out.later b)
  replace R10 := Lib.hid (R10.out.later b)
  replace R11 := Lib.hid (R11.out.later b)
  replace R12 := Lib.hid (R12.out.later b)
  clear b
  obtain rfl : n13 = 0 := h13.len.symm
  have R13 := Lib.hid h13
  clear h13
  clear R11 R12
  obtain ⟨vk0, vk1, vk2, vk3, vk4, vk5⟩ := fcells_3_3 X0.out N6.out
  go_wp2_with fail
  refine (law11_to a n c L _ HF.out (by omega)).mono ?_
  rintro e wv14 ⟨a14, c14, rfl, h14, b⟩
  clear vk0 vk1 vk2 vk3 vk4 vk5
  replace HB := Lib.hid (below_then HB.out b)
  replace X0 := Lib.hid (blk_later X0.out b)
  replace N6 := Lib.hid (blk_later N6.out b)
  replace HF := Lib.hid (HF.out.later b)
  replace HFz := Lib.hid (HFz.out.later b)
  replace A0 := Lib.hid (A0.out.later b)
  replace B0 := Lib.hid (B0.out.later b)
  replace R4 := Lib.hid (R4.out.later b)
  replace R5 := Lib.hid (R5.out.later b)
  replace R6 := Lib.hid (R6.out.later b)
  replace T6 := Lib.hid (T6.out.later b)
  replace R10 := Lib.hid (R10.out.later b)
  replace R13 := Lib.hid (R13.out.later b)
  clear b
  have R14 := Lib.hid h14
  clear h14
  obtain ⟨vk0, vk1, vk2, vk3, vk4, vk5⟩ := fcells_3_3 X0.out N6.out
  go_wp2_with fail
  refine (law11_to az nz cz Lz _ HFz.out (by omega)).mono ?_
  rintro e wv15 ⟨a15, c15, rfl, h15, b⟩
  clear vk0 vk1 vk2 vk3 vk4 vk5
  replace HB := Lib.hid (below_then HB.out b)
  replace X0 := Lib.hid (blk_later X0.out b)
  replace N6 := Lib.hid (blk_later N6.out b)
  replace HF := Lib.hid (HF.out.later b)
  replace HFz := Lib.hid (HFz.out.later b)
  replace A0 := Lib.hid (A0.out.later b)
  replace B0 := Lib.hid (B0.out.later b)
  replace R4 := Lib.hid (R4.out.later b)
  replace R5 := Lib.hid (R5.out.later b)
  replace R6 := Lib.hid (R6.out.later b)
  replace T6 := Lib.hid (T6.out.later b)
  replace R10 := Lib.hid (R10.out.later b)
  replace R13 := Lib.hid (R13.out.later b)
  replace R14 := Lib.hid (R14.out.later b)
  clear b
  have R15 := Lib.hid h15
  clear h15
  obtain ⟨vk0, vk1, vk2, vk3, vk4, vk5⟩ := fcells_3_3 X0.out N6.out
  go_wp2_with fail
  refine (HDT _ a14 c14 a15 c15 R14.out R15.out).mono ?_
  rintro e wv16 ⟨a16, n16, c16, b16, m16, d16, rfl, h16, g16, b⟩
  clear vk0 vk1 vk2 vk3 vk4 vk5
  replace HB := Lib.hid (below_then HB.out b)
  replace X0 := Lib.hid (blk_later X0.out b)
  replace N6 := Lib.hid (blk_later N6.out b)
  replace HF := Lib.hid (HF.out.later b)
  replace HFz := Lib.hid (HFz.out.later b)
  replace A0 := Lib.hid (A0.out.later b)
  replace B0 := Lib.hid (B0.out.later b)
  replace R4 := Lib.hid (R4.out.later b)
  replace R5 := Lib.hid (R5.out.later b)
  replace R6 := Lib.hid (R6.out.later b)
  replace T6 := Lib.hid (T6.out.later b)
  replace R10 := Lib.hid (R10.out.later b)
  replace R13 := Lib.hid (R13.out.later b)
  replace R14 := Lib.hid (R14.out.later b)
  replace R15 := Lib.hid (R15.out.later b)
  clear b
  have hN16 : n16 ≤ 300 := (by rw [← h16.len]; exact Nat.le_trans (qlen_num _) LQD.out)
  have hM16 : m16 ≤ 300 := (by rw [← g16.len]; exact Nat.le_trans (qlen_den _) LQD.out)
  have R16 := Lib.hid h16
  have T16 := Lib.hid g16
  clear h16 g16
  unfold frV
  have P16 : Hid ((World.alloc wv16 (.cells #[.bool (zneg qd.num), .slice a16 n16 c16, .slice b16 m16 d16] 41)).heap[wv16.heap.size]? = some (.cells #[.bool (zneg qd.num), .slice a16 n16 c16, .slice b16 m16 d16] 41 (0, 0))) := Lib.hid (blk_new wv16 _ _)
  replace HB := Lib.hid (below_then HB.out (below_alloc wv16 (.cells #[.bool (zneg qd.num), .slice a16 n16 c16, .slice b16 m16 d16] 41)))
  replace X0 := Lib.hid (blk_later X0.out (below_alloc wv16 (.cells #[.bool (zneg qd.num), .slice a16 n16 c16, .slice b16 m16 d16] 41)))
  replace N6 := Lib.hid (blk_later N6.out (below_alloc wv16 (.cells #[.bool (zneg qd.num), .slice a16 n16 c16, .slice b16 m16 d16] 41)))
  replace HF := Lib.hid (HF.out.later (below_alloc wv16 (.cells #[.bool (zneg qd.num), .slice a16 n16 c16, .slice b16 m16 d16] 41)))
  replace HFz := Lib.hid (HFz.out.later (below_alloc wv16 (.cells #[.bool (zneg qd.num), .slice a16 n16 c16, .slice b16 m16 d16] 41)))
  replace A0 := Lib.hid (A0.out.later (below_alloc wv16 (.cells #[.bool (zneg qd.num), .slice a16 n16 c16, .slice b16 m16 d16] 41)))
  replace B0 := Lib.hid (B0.out.later (below_alloc wv16 (.cells #[.bool (zneg qd.num), .slice a16 n16 c16, .slice b16 m16 d16] 41)))
  replace R4 := Lib.hid (R4.out.later (below_alloc wv16 (.cells #[.bool (zneg qd.num), .slice a16 n16 c16, .slice b16 m16 d16] 41)))
  replace R5 := Lib.hid (R5.out.later (below_alloc wv16 (.cells #[.bool (zneg qd.num), .slice a16 n16 c16, .slice b16 m16 d16] 41)))
  replace R6 := Lib.hid (R6.out.later (below_alloc wv16 (.cells #[.bool (zneg qd.num), .slice a16 n16 c16, .slice b16 m16 d16] 41)))
  replace T6 := Lib.hid (T6.out.later (below_alloc wv16 (.cells #[.bool (zneg qd.num), .slice a16 n16 c16, .slice b16 m16 d16] 41)))
  replace R10 := Lib.hid (R10.out.later (below_alloc wv16 (.cells #[.bool (zneg qd.num), .slice a16 n16 c16, .slice b16 m16 d16] 41)))
  replace R13 := Lib.hid (R13.out.later (below_alloc wv16 (.cells #[.bool (zneg qd.num), .slice a16 n16 c16, .slice b16 m16 d16] 41)))
  replace R14 := Lib.hid (R14.out.later (below_alloc wv16 (.cells #[.bool (zneg qd.num), .slice a16 n16 c16, .slice b16 m16 d16] 41)))
  replace R15 := Lib.hid (R15.out.later (below_alloc wv16 (.cells #[.bool (zneg qd.num), .slice a16 n16 c16, .slice b16 m16 d16] 41)))
  replace R16 := Lib.hid (R16.out.later (below_alloc wv16 (.cells #[.bool (zneg qd.num), .slice a16 n16 c16, .slice b16 m16 d16] 41)))
  replace T16 := Lib.hid (T16.out.later (below_alloc wv16 (.cells #[.bool (zneg qd.num), .slice a16 n16 c16, .slice b16 m16 d16] 41)))
  clear R14 R15
  obtain ⟨vk0, vk1, vk2, vk3, vk4, vk5, vk6, vk7, vk8⟩ := fcells_3_3_3 X0.out N6.out P16.out
  go_wp2_with fail
  refine (HAN _).mono ?_
  rintro e wv17 ⟨a17, n17, c17, rfl, h17, b⟩
  clear vk0 vk1 vk2 vk3 vk4 vk5 vk6 vk7 vk8
  replace HB := Lib.hid (below_then HB.out b)
  replace X0 := Lib.hid (blk_later X0.out b)
  replace N6 := Lib.hid (blk_later N6.out b)
  replace P16 := Lib.hid (blk_later P16.out b)
  replace HF := Lib.hid (HF.out.later b)
  replace HFz := Lib.hid (HFz.out.later b)
  replace A0 := Lib.hid (A0.out.later b)
  replace B0 := Lib.hid (B0.out.later b)
  replace R4 := Lib.hid (R4.out.later b)
  replace R5 := Lib.hid (R5.out.later b)
  replace R6 := Lib.hid (R6.out.later b)
  replace T6 := Lib.hid (T6.out.later b)
  replace R10 := Lib.hid (R10.out.later b)
  replace R13 := Lib.hid (R13.out.later b)
  replace R16 := Lib.hid (R16.out.later b)
  replace T16 := Lib.hid (T16.out.later b)
  clear b
  obtain rfl : n17 = 0 := h17.len.symm
  clear h17
  go_wp2
  generalize wv17 = W at *
  replace HB := Lib.hid (below_then HB.out ((Below.refl _ _).drew : Below W.heap.size W W.drew))
  replace X0 : Hid (W.drew.heap[w.heap.size]? = _) := Lib.hid X0.out
  replace N6 : Hid (W.drew.heap[wv6.heap.size]? = _) := Lib.hid N6.out
  replace P16 : Hid (W.drew.heap[wv16.heap.size]? = _) := Lib.hid P16.out
  replace HF := Lib.hid (HF.out.later ((Below.refl _ _).drew : Below W.heap.size W W.drew))
  replace A0 := Lib.hid (A0.out.later ((Below.refl _ _).drew : Below W.heap.size W W.drew))
  replace B0 := Lib.hid (B0.out.later ((Below.refl _ _).drew : Below W.heap.size W W.drew))
  replace R4 := Lib.hid (R4.out.later ((Below.refl _ _).drew : Below W.heap.size W W.drew))
  replace R5 := Lib.hid (R5.out.later ((Below.refl _ _).drew : Below W.heap.size W W.drew))
  replace R6 := Lib.hid (R6.out.later ((Below.refl _ _).drew : Below W.heap.size W W.drew))
  replace T6 := Lib.hid (T6.out.later ((Below.refl _ _).drew : Below W.heap.size W W.drew))
  replace R10 := Lib.hid (R10.out.later ((Below.refl _ _).drew : Below W.heap.size W W.drew))
  replace R13 := Lib.hid (R13.out.later ((Below.refl _ _).drew : Below W.heap.size W W.drew))
  replace R16 := Lib.hid (R16.out.later ((Below.refl _ _).drew : Below W.heap.size W W.drew))
  replace T16 := Lib.hid (T16.out.later ((Below.refl _ _).drew : Below W.heap.size W W.drew))
  have pSn := fcells_3_3_3 X0.out N6.out P16.out
  go_region_held3 (fun w' => w'.cell? ⟨w.heap.size, 0, none⟩ = some (.bool s0) ∧ w'.cell? ⟨w.heap.size, 1, none⟩ = some (.slice a0 n0 c0) ∧ w'.cell? ⟨w.heap.size, 2, none⟩ = some (.slice b0 m0 d0) ∧ w'.cell? ⟨wv6.heap.size, 0, none⟩ = some (.bool (zneg k.num)) ∧ w'.cell? ⟨wv6.heap.size, 1, none⟩ = some (.slice a6 n6 c6) ∧ w'.cell? ⟨wv6.heap.size, 2, none⟩ = some (.slice b6 m6 d6) ∧ w'.cell? ⟨wv16.heap.size, 0, none⟩ = some (.bool (zneg qd.num)) ∧ w'.cell? ⟨wv16.heap.size, 1, none⟩ = some (.slice a16 n16 c16) ∧ w'.cell? ⟨wv16.heap.size, 2, none⟩ = some (.slice b16 m16 d16)) (exact pSn)
    (first
    | (go_at_call 31; (first
      | (refine (law09_to s0 a0 n0 c0 b0 m0 d0 _).mono ?_; rintro e wp1 ⟨rfl, b⟩; replace HB := Lib.hid (below_then HB.out b); replace X0 := Lib.hid (blk_later X0.out b); replace N6 := Lib.hid (blk_later N6.out b); replace P16 := Lib.hid (blk_later P16.out b); replace HF := Lib.hid (HF.out.later b); replace A0 := Lib.hid (A0.out.later b); replace B0 := Lib.hid (B0.out.later b); replace R4 := Lib.hid (R4.out.later b); replace R5 := Lib.hid (R5.out.later b); replace R6 := Lib.hid (R6.out.later b); replace T6 := Lib.hid (T6.out.later b); replace R10 := Lib.hid (R10.out.later b); replace R13 := Lib.hid (R13.out.later b); replace R16 := Lib.hid (R16.out.later b); replace T16 := Lib.hid (T16.out.later b); clear b; clear pSn; have pSn := fcells_3_3_3 X0.out N6.out P16.out; have pM1 := True.intro)))
    | (go_at_call 18; (first
      | (have pm1 := pM1; refine (law11_to a n c L _ HF.out (by omega)).mono ?_; rintro e wp2 ⟨a19, c19, rfl, h19, b⟩; replace HB := Lib.hid (below_then HB.out b); replace X0 := Lib.hid (blk_later X0.out b); replace N6 := Lib.hid (blk_later N6.out b); replace P16 := Lib.hid (blk_later P16.out b); replace HF := Lib.hid (HF.out.later b); replace A0 := Lib.hid (A0.out.later b); replace B0 := Lib.hid (B0.out.later b); replace R4 := Lib.hid (R4.out.later b); replace R5 := Lib.hid (R5.out.later b); replace R6 := Lib.hid (R6.out.later b); replace T6 := Lib.hid (T6.out.later b); replace R10 := Lib.hid (R10.out.later b); replace R13 := Lib.hid (R13.out.later b); replace R16 := Lib.hid (R16.out.later b); replace T16 := Lib.hid (T16.out.later b); have R19 := Lib.hid h19; clear h19; clear b; clear pSn; have pSn := fcells_3_3_3 X0.out N6.out P16.out; clear pM1 pm1; have pM2 := True.intro)))
    | (go_at_call 30; (first
      | (have pm2 := pM2; refine (HSC _ a19 c19 (Fr.of A0.out B0.out (by omega) (by omega) EQ0.out) R19.out).mono ?_; rintro e wp3 ⟨a20, n20, c20, rfl, h20, b⟩; replace HB := Lib.hid (below_then HB.out b); replace X0 := Lib.hid (blk_later X0.out b); replace N6 := Lib.hid (blk_later N6.out b); replace P16 := Lib.hid (blk_later P16.out b); replace HF := Lib.hid (HF.out.later b); replace A0 := Lib.hid (A0.out.later b); replace B0 := Lib.hid (B0.out.later b); replace R4 := Lib.hid (R4.out.later b); replace R5 := Lib.hid (R5.out.later b); replace R6 := Lib.hid (R6.out.later b); replace T6 := Lib.hid (T6.out.later b); replace R10 := Lib.hid (R10.out.later b); replace R13 := Lib.hid (R13.out.later b); replace R16 := Lib.hid (R16.out.later b); replace T16 := Lib.hid (T16.out.later b); clear R19; have R20 := Lib.hid h20; clear h20; clear b; clear pSn; have pSn := fcells_3_3_3 X0.out N6.out P16.out; clear pM2 pm2; have pM3 := True.intro)))
    | (go_at_call 32; (first
      | (have pm3 := pM3; refine (HRC _ (frV (zneg (k).num) a6 n6 c6 b6 m6 d6) a4 n4 c4 (Rt.of R6.out T6.out (by omega) (by omega)) R4.out).mono ?_; rintro e wp4 ⟨a21, n21, c21, rfl, h21, b⟩; replace HB := Lib.hid (below_then HB.out b); replace X0 := Lib.hid (blk_later X0.out b); replace N6 := Lib.hid (blk_later N6.out b); replace P16 := Lib.hid (blk_later P16.out b); replace HF := Lib.hid (HF.out.later b); replace A0 := Lib.hid (A0.out.later b); replace B0 := Lib.hid (B0.out.later b); replace R4 := Lib.hid (R4.out.later b); replace R5 := Lib.hid (R5.out.later b); replace R6 := Lib.hid (R6.out.later b); replace T6 := Lib.hid (T6.out.later b); replace R10 := Lib.hid (R10.out.later b); replace R13 := Lib.hid (R13.out.later b); replace R16 := Lib.hid (R16.out.later b); replace T16 := Lib.hid (T16.out.later b); replace R20 := Lib.hid (R20.out.later b); have R21 := Lib.hid h21; clear h21; clear b; clear pSn; have pSn := fcells_3_3_3 X0.out N6.out P16.out; clear pM3 pm3; have pM4 := True.intro)))
    | (go_at_call 12; (first
      | (have pm4 := pM4; refine (law11_is_yes a20 n20 c20 a21 n21 c21 sc _ R20.out R21.out NSC.out LSC.out).mono ?_; rintro e wp5 ⟨rfl, b⟩; replace HB := Lib.hid (below_then HB.out b); replace X0 := Lib.hid (blk_later X0.out b); replace N6 := Lib.hid (blk_later N6.out b); replace P16 := Lib.hid (blk_later P16.out b); replace HF := Lib.hid (HF.out.later b); replace A0 := Lib.hid (A0.out.later b); replace B0 := Lib.hid (B0.out.later b); replace R4 := Lib.hid (R4.out.later b); replace R5 := Lib.hid (R5.out.later b); replace R6 := Lib.hid (R6.out.later b); replace T6 := Lib.hid (T6.out.later b); replace R10 := Lib.hid (R10.out.later b); replace R13 := Lib.hid (R13.out.later b); replace R16 := Lib.hid (R16.out.later b); replace T16 := Lib.hid (T16.out.later b); clear R20; clear R21; clear b; clear pSn; have pSn := fcells_3_3_3 X0.out N6.out P16.out; clear pM4 pm4; have pM5 := True.intro))))
  obtain ⟨zk0, zk1, zk2⟩ := fcells_3 P16.out
  go_wp2_with fail
  refine (FS.sign (frV (zneg (qd).num) a16 n16 c16 b16 m16 d16) qd _ (Fr.right R16.out T16.out (by omega) (by omega))).mono ?_
  rintro e wz1 ⟨rfl, b⟩
  clear zk0 zk1 zk2
  replace HB := Lib.hid (below_then HB.out b)
  replace P16 := Lib.hid (blk_later P16.out b)
  replace R16 := Lib.hid (R16.out.later b)
  replace T16 := Lib.hid (T16.out.later b)
  clear b
  rw [SQD.out]
  obtain ⟨zk0, zk1, zk2⟩ := fcells_3 P16.out
  go_wp2_with fail
  refine (law11_works S FS _ (Lib.hid (hT.out.later HB.out))).mono ?_
  rintro e wz2 ⟨rfl, b⟩
  clear zk0 zk1 zk2
  replace HB := Lib.hid (below_then HB.out b)
  replace P16 := Lib.hid (blk_later P16.out b)
  replace R16 := Lib.hid (R16.out.later b)
  replace T16 := Lib.hid (T16.out.later b)
  clear b
  go_wp2
  go_ret
  exact ⟨rfl, HB.out⟩
theorem law11_sums (S : RowSaid) (FS : FracSaid) (a : Option Addr) (n c : Nat) (L : List Fx) (az : Option Addr) (nz cz : Nat) (Lz : List Fx) (s0 : Bool) (a0 : Option Addr) (n0 c0 : Nat) (la0 : List Nat) (b0 : Option Addr) (m0 d0 : Nat) (lb0 : List Nat) (w : World) (h : Fxs w a n c L) (hz : Fxs w az nz cz Lz) (ha0 : Wd w a0 n0 c0 la0) (hb0 : Wd w b0 m0 d0 lb0) (hT : Hid (Dec10 w)) : Calls Tryz.prog 4 #[.slice a n c, .slice az nz cz, frV s0 a0 n0 c0 b0 m0 d0] w (Gives (.bool true) w) := by
  by_cases hb : (n : Int) ≤ 12 ∧ thinI 4 L
  · by_cases hbz : (nz : Int) ≤ 12 ∧ thinI 4 Lz
    · by_cases hk : 4 < n0 ∨ 4 < m0
      · exact law11_sums_longc S FS a n c L az nz cz Lz s0 a0 n0 c0 b0 m0 d0 w h hz hT hb hbz hk
      · by_cases hne : n = nz
        · subst hne
          exact law11_sums_even S FS a n c L az cz Lz s0 a0 n0 c0 la0 b0 m0 d0 lb0 w h hz ha0 hb0 hT hb hbz (by omega) (by omega)
        · exact law11_sums_uneven S FS a n c L az nz cz Lz s0 a0 n0 c0 la0 b0 m0 d0 lb0 w h hz ha0 hb0 hT hb hbz (by omega) (by omega) hne
    · exact law11_sums_longb S FS a n c L az nz cz Lz s0 a0 n0 c0 b0 m0 d0 w h hz hT hb hbz
  · exact law11_sums_longa S FS a n c L az nz cz Lz s0 a0 n0 c0 b0 m0 d0 w h hz hT hb
end Go.Proofs.YtjeigdlhjghinaaGreatDoor
