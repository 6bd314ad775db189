/-
  The walks of the laws of layer 14: PolySums.
-/
import Derived.Test.YtipcgehcineblaaGreatG22
import Derived.Test.YtipcgehcineblaaGreatRef11bM
import Derived.Test.YtipcgehcineblaaGreatG16
import Derived.Test.YtipcgehcineblaaGreatG11
import Derived.Test.YtipcgehcineblaaGreatG15
import Derived.Test.YtipcgehcineblaaGreatG17
import Derived.Test.YtipcgehcineblaaGreatLaw11IsM
import Derived.Test.YtipcgehcineblaaGreatRef14dM
import Derived.Test.YtipcgehcineblaaGreatRef14eM
import Derived.Deep.RegionHeld3
namespace Go.Proofs.YtipcgehcineblaaGreat
open Go.RowKit

theorem scale_pv (S : PolySaid) {w : World} {a : Option Addr} {n c N : Nat} {P : List Rat} {v : Value} {q : Rat} (h : Pv w a n c P N) (k : Fr w v q 900000000) (hn : n ≤ 300) (hN : N ≤ 900000000) : Calls Tryz.prog 27 #[v, .slice a n c] w (LstRw (pnorm (rscale q P)) w) := by
  obtain ⟨L, h1, rfl, h3⟩ := h
  exact S.scale v q a n c L w k h1 hn (h3.mono hN)
theorem Fr.wide {w : World} {v : Value} {q : Rat} {N M : Nat} (h : Fr w v q N) (hm : N ≤ M) : Fr w v q M := by
  obtain ⟨x1, x2, x3, x4, x5, x6, x7, x8, x9, y0, y1, y2, y3, y4, y5⟩ := h
  exact ⟨x1, x2, x3, x4, x5, x6, x7, x8, x9, y0, y1, y2, Nat.le_trans y3 hm, Nat.le_trans y4 hm, y5⟩
theorem eval_small14 {n N X : Nat} (h1 : n ≤ 20) (h2 : N ≤ 1000) (h3 : X ≤ 1000) : (n + 1) * ((n + 1) * (X + 8) + N + 8) ≤ 1900000000 :=
  Nat.le_trans (Nat.mul_le_mul (Nat.succ_le_succ h1) (Nat.add_le_add_right (Nat.add_le_add (Nat.mul_le_mul (Nat.succ_le_succ h1) (Nat.add_le_add_right h3 8)) h2) 8)) (by decide)
set_option maxRecDepth 4096 in
set_option maxHeartbeats 16000000 in
theorem law14_sums_longa (HW : ∀ w : World, Calls Tryz.prog 7 #[] w (Gives (.bool true) w)) (a : Option Addr) (n c : Nat) (L : List Fx) (az : Option Addr) (nz cz : Nat) (Lz : List Fx) (s0 : Bool) (a0 : Option Addr) (n0 c0 : Nat) (b0 : Option Addr) (m0 d0 : Nat) (w : World) (h : Fxs w a n c L) (hz : Fxs w az nz cz Lz) (hb : ¬ ((n : Int) ≤ 10 ∧ thinI 4 L)) : Calls Tryz.prog 3 #[.slice a n c, .slice az nz cz, frV s0 a0 n0 c0 b0 m0 d0] w (Gives (.bool true) w) := by
  have HB := Lib.hid (below_alloc w (.cells #[.bool s0, .slice a0 n0 c0, .slice b0 m0 d0] 25))
  have X0 : Hid ((w.alloc (.cells #[.bool s0, .slice a0 n0 c0, .slice b0 m0 d0] 25)).heap[w.heap.size]? = some (.cells #[.bool s0, .slice a0 n0 c0, .slice b0 m0 d0] 25 (0, 0))) := Lib.hid (blk_new w _ _)
  have HNB := Lib.hid hb
  have HF := Lib.hid (h.later HB.out)
  have HFz := Lib.hid (hz.later HB.out)
  clear h hz hb
  go_enter Tryz.func3, Tryz.ntmps3
  unfold frV
  obtain ⟨vk0, vk1, vk2⟩ := fcells_3 X0.out
  go_wp2_with fail
  refine (ref11_long a n c L 10 4 true _ HF.out (by decide) (Lib.hid ⟨fun _ => HNB.out, fun _ => rfl⟩)).mono ?_
  rintro e wv1 ⟨rfl, b⟩
  clear vk0 vk1 vk2
  replace HB := Lib.hid (below_then HB.out b)
  replace X0 := Lib.hid (blk_later X0.out b)
  replace HF := Lib.hid (HF.out.later b)
  replace HFz := Lib.hid (HFz.out.later b)
  clear b
  obtain ⟨vk0, vk1, vk2⟩ := fcells_3 X0.out
  go_wp2_with fail
  refine (HW _).mono ?_
  rintro e wv2 ⟨rfl, b⟩
  clear vk0 vk1 vk2
  replace HB := Lib.hid (below_then HB.out b)
  replace X0 := Lib.hid (blk_later X0.out b)
  replace HF := Lib.hid (HF.out.later b)
  replace HFz := Lib.hid (HFz.out.later b)
  clear b
  go_wp2
  go_ret
  exact ⟨rfl, HB.out⟩
set_option maxRecDepth 4096 in
set_option maxHeartbeats 16000000 in
theorem law14_sums_longb (HW : ∀ w : World, Calls Tryz.prog 7 #[] w (Gives (.bool true) w)) (a : Option Addr) (n c : Nat) (L : List Fx) (az : Option Addr) (nz cz : Nat) (Lz : List Fx) (s0 : Bool) (a0 : Option Addr) (n0 c0 : Nat) (b0 : Option Addr) (m0 d0 : Nat) (w : World) (h : Fxs w a n c L) (hz : Fxs w az nz cz Lz) (hb : ((n : Int) ≤ 10 ∧ thinI 4 L)) (hbz : ¬ ((nz : Int) ≤ 10 ∧ thinI 4 Lz)) : Calls Tryz.prog 3 #[.slice a n c, .slice az nz cz, frV s0 a0 n0 c0 b0 m0 d0] w (Gives (.bool true) w) := by
  have HB := Lib.hid (below_alloc w (.cells #[.bool s0, .slice a0 n0 c0, .slice b0 m0 d0] 25))
  have X0 : Hid ((w.alloc (.cells #[.bool s0, .slice a0 n0 c0, .slice b0 m0 d0] 25)).heap[w.heap.size]? = some (.cells #[.bool s0, .slice a0 n0 c0, .slice b0 m0 d0] 25 (0, 0))) := Lib.hid (blk_new w _ _)
  have HNB := Lib.hid hb
  have HF := Lib.hid (h.later HB.out)
  have HFz := Lib.hid (hz.later HB.out)
  have HNBz := Lib.hid hbz
  clear h hz hb hbz
  go_enter Tryz.func3, Tryz.ntmps3
  unfold frV
  obtain ⟨vk0, vk1, vk2⟩ := fcells_3 X0.out
  go_wp2_with fail
  refine (ref11_long a n c L 10 4 false _ HF.out (by decide) (Lib.hid ⟨fun h => absurd h (by decide), fun h => absurd HNB.out h⟩)).mono ?_
  rintro e wv1 ⟨rfl, b⟩
  clear vk0 vk1 vk2
  replace HB := Lib.hid (below_then HB.out b)
  replace X0 := Lib.hid (blk_later X0.out b)
  replace HF := Lib.hid (HF.out.later b)
  replace HFz := Lib.hid (HFz.out.later b)
  clear b
  obtain ⟨vk0, vk1, vk2⟩ := fcells_3 X0.out
  go_wp2_with fail
  refine (ref11_long az nz cz Lz 10 4 true _ HFz.out (by decide) (Lib.hid ⟨fun _ => HNBz.out, fun _ => rfl⟩)).mono ?_
  rintro e wv2 ⟨rfl, b⟩
  clear vk0 vk1 vk2
  replace HB := Lib.hid (below_then HB.out b)
  replace X0 := Lib.hid (blk_later X0.out b)
  replace HF := Lib.hid (HF.out.later b)
  replace HFz := Lib.hid (HFz.out.later b)
  clear b
  obtain ⟨vk0, vk1, vk2⟩ := fcells_3 X0.out
  go_wp2_with fail
  refine (HW _).mono ?_
  rintro e wv3 ⟨rfl, b⟩
  clear vk0 vk1 vk2
  replace HB := Lib.hid (below_then HB.out b)
  replace X0 := Lib.hid (blk_later X0.out b)
  replace HF := Lib.hid (HF.out.later b)
  replace HFz := Lib.hid (HFz.out.later b)
  clear b
  go_wp2
  go_ret
  exact ⟨rfl, HB.out⟩
set_option maxRecDepth 4096 in
set_option maxHeartbeats 16000000 in
theorem law14_sums_longc (HW : ∀ w : World, Calls Tryz.prog 7 #[] w (Gives (.bool true) w)) (a : Option Addr) (n c : Nat) (L : List Fx) (az : Option Addr) (nz cz : Nat) (Lz : List Fx) (s0 : Bool) (a0 : Option Addr) (n0 c0 : Nat) (b0 : Option Addr) (m0 d0 : Nat) (w : World) (h : Fxs w a n c L) (hz : Fxs w az nz cz Lz) (hb : ((n : Int) ≤ 10 ∧ thinI 4 L)) (hbz : ((nz : Int) ≤ 10 ∧ thinI 4 Lz)) (hk : 4 < n0 ∨ 4 < m0) : Calls Tryz.prog 3 #[.slice a n c, .slice az nz cz, frV s0 a0 n0 c0 b0 m0 d0] w (Gives (.bool true) w) := by
  have HB := Lib.hid (below_alloc w (.cells #[.bool s0, .slice a0 n0 c0, .slice b0 m0 d0] 25))
  have X0 : Hid ((w.alloc (.cells #[.bool s0, .slice a0 n0 c0, .slice b0 m0 d0] 25)).heap[w.heap.size]? = some (.cells #[.bool s0, .slice a0 n0 c0, .slice b0 m0 d0] 25 (0, 0))) := Lib.hid (blk_new w _ _)
  have HNB := Lib.hid hb
  have HF := Lib.hid (h.later HB.out)
  have HFz := Lib.hid (hz.later HB.out)
  have HNBz := Lib.hid hbz
  have hl0 : (decide ((4 : Int) < (n0 : Int)) || decide ((4 : Int) < (m0 : Int))) = true := by
    rcases hk with h | h
    · rw [decide_eq_true (show (4 : Int) < (n0 : Int) by omega)]; rfl
    · rw [decide_eq_true (show (4 : Int) < (m0 : Int) by omega), Bool.or_true]
  clear h hz hb hbz hk
  go_enter Tryz.func3, Tryz.ntmps3
  unfold frV
  obtain ⟨vk0, vk1, vk2⟩ := fcells_3 X0.out
  go_wp2_with fail
  refine (ref11_long a n c L 10 4 false _ HF.out (by decide) (Lib.hid ⟨fun h => absurd h (by decide), fun h => absurd HNB.out h⟩)).mono ?_
  rintro e wv1 ⟨rfl, b⟩
  clear vk0 vk1 vk2
  replace HB := Lib.hid (below_then HB.out b)
  replace X0 := Lib.hid (blk_later X0.out b)
  replace HF := Lib.hid (HF.out.later b)
  replace HFz := Lib.hid (HFz.out.later b)
  clear b
  obtain ⟨vk0, vk1, vk2⟩ := fcells_3 X0.out
  go_wp2_with fail
  refine (ref11_long az nz cz Lz 10 4 false _ HFz.out (by decide) (Lib.hid ⟨fun h => absurd h (by decide), fun h => absurd HNBz.out h⟩)).mono ?_
  rintro e wv2 ⟨rfl, b⟩
  clear vk0 vk1 vk2
  replace HB := Lib.hid (below_then HB.out b)
  replace X0 := Lib.hid (blk_later X0.out b)
  replace HF := Lib.hid (HF.out.later b)
  replace HFz := Lib.hid (HFz.out.later b)
  clear b
  obtain ⟨vk0, vk1, vk2⟩ := fcells_3 X0.out
  go_wp2_with fail
  refine (ref09_long s0 a0 n0 c0 b0 m0 d0 4 _).mono ?_
  rintro e wv3 ⟨rfl, b⟩
  clear vk0 vk1 vk2
  replace HB := Lib.hid (below_then HB.out b)
  replace X0 := Lib.hid (blk_later X0.out b)
  replace HF := Lib.hid (HF.out.later b)
  replace HFz := Lib.hid (HFz.out.later b)
  clear b
  rw [hl0]
  obtain ⟨vk0, vk1, vk2⟩ := fcells_3 X0.out
  go_wp2_with fail
  refine (HW _).mono ?_
  rintro e wv4 ⟨rfl, b⟩
  clear vk0 vk1 vk2
  replace HB := Lib.hid (below_then HB.out b)
  replace X0 := Lib.hid (blk_later X0.out b)
  replace HF := Lib.hid (HF.out.later b)
  replace HFz := Lib.hid (HFz.out.later b)
  clear b
  go_wp2
  go_ret
  exact ⟨rfl, HB.out⟩
set_option maxRecDepth 4096 in
set_option maxHeartbeats 16000000 in
theorem law14_sums_main (S : PolySaid) (HW : ∀ w : World, Calls Tryz.prog 7 #[] w (Gives (.bool true) w)) (a : Option Addr) (n c : Nat) (L : List Fx) (az : Option Addr) (nz cz : Nat) (Lz : List Fx) (s0 : Bool) (a0 : Option Addr) (n0 c0 : Nat) (la0 : List Nat) (b0 : Option Addr) (m0 d0 : Nat) (lb0 : List Nat) (w : World) (h : Fxs w a n c L) (hz : Fxs w az nz cz Lz) (ha0 : Wd w a0 n0 c0 la0) (hb0 : Wd w b0 m0 d0 lb0) (hb : ((n : Int) ≤ 10 ∧ thinI 4 L)) (hbz : ((nz : Int) ≤ 10 ∧ thinI 4 Lz)) (hn0 : n0 ≤ 4) (hm0 : m0 ≤ 4) : Calls Tryz.prog 3 #[.slice a n c, .slice az nz cz, frV s0 a0 n0 c0 b0 m0 d0] w (Gives (.bool true) w) := by
  have HB := Lib.hid (below_alloc w (.cells #[.bool s0, .slice a0 n0 c0, .slice b0 m0 d0] 25))
  have X0 : Hid ((w.alloc (.cells #[.bool s0, .slice a0 n0 c0, .slice b0 m0 d0] 25)).heap[w.heap.size]? = some (.cells #[.bool s0, .slice a0 n0 c0, .slice b0 m0 d0] 25 (0, 0))) := Lib.hid (blk_new w _ _)
  have HNB := Lib.hid hb
  have hn : n ≤ 10 := by have := hb.1; omega
  have hth : thin 4 L := thinI.out (N := 4) hb.2
  have HTH := Lib.hid hth
  have HF := Lib.hid (h.later HB.out)
  have hq : ∀ q ∈ fqs L, qlen q ≤ 5 := (Pv.of h hth).qlen
  have hl : (fqs L).length = n := (fqs_length L).trans h.len
  have HNBz := Lib.hid hbz
  have hnz : nz ≤ 10 := by have := hbz.1; omega
  have hthz : thin 4 Lz := thinI.out (N := 4) hbz.2
  have HTHz := Lib.hid hthz
  have HFz := Lib.hid (hz.later HB.out)
  have hqz : ∀ q ∈ fqs Lz, qlen q ≤ 5 := (Pv.of hz hthz).qlen
  have hlz : (fqs Lz).length = nz := (fqs_length Lz).trans hz.len
  have hl0 : (decide ((4 : Int) < (n0 : Int)) || decide ((4 : Int) < (m0 : Int))) = false := by rw [decide_eq_false (by omega), decide_eq_false (by omega)]; rfl
  have A0 := Lib.hid (ha0.later HB.out)
  have B0 := Lib.hid (hb0.later HB.out)
  obtain ⟨k, hk⟩ : ∃ k, qval s0 (val la0) (val lb0) = k := ⟨_, rfl⟩
  have EQ0 := Lib.hid hk
  have lk : qlen k ≤ 5 := (Fr.of ha0 hb0 hn0 hm0 hk).len
  obtain ⟨xs, hxs⟩ : ∃ xs, fqs L = xs := ⟨_, rfl⟩
  obtain ⟨ys, hys⟩ : ∃ ys, fqs Lz = ys := ⟨_, rfl⟩
  have HTX : ∀ w' : World, Fxs w' a n c L → Calls Tryz.prog 11 #[.slice a n c] w' (fun e w'' => ∃ (a' : Option Addr) (c' : Nat), e = .returned (.slice a' n c') ∧ Pv w'' a' n c' xs 4 ∧ Below w'.heap.size w' w'') := fun w' h9 => (law11_to a n c L w' h9 (by omega)).mono fun e w'' ⟨x, y, z1, z2, z3⟩ => ⟨x, y, z1, hxs ▸ Pv.of z2 HTH.out, z3⟩
  have HTY : ∀ w' : World, Fxs w' az nz cz Lz → Calls Tryz.prog 11 #[.slice az nz cz] w' (fun e w'' => ∃ (a' : Option Addr) (c' : Nat), e = .returned (.slice a' nz c') ∧ Pv w'' a' nz c' ys 4 ∧ Below w'.heap.size w' w'') := fun w' h9 => (law11_to az nz cz Lz w' h9 (by omega)).mono fun e w'' ⟨x, y, z1, z2, z3⟩ => ⟨x, y, z1, hys ▸ Pv.of z2 HTHz.out, z3⟩
  have HNX : ∀ w' : World, Fxs w' a n c L → Calls Tryz.prog 9 #[.slice a n c] w' (LstRw xs w') := fun w' h9 => hxs ▸ ref11_norms_more a n c L w' h9 (by omega) (HTH.out.mono (by decide))
  have HNY : ∀ w' : World, Fxs w' az nz cz Lz → Calls Tryz.prog 9 #[.slice az nz cz] w' (LstRw ys w') := fun w' h9 => hys ▸ ref11_norms_more az nz cz Lz w' h9 (by omega) (HTHz.out.mono (by decide))
  rw [hxs] at hq hl
  rw [hys] at hqz hlz
  obtain ⟨ms, hms⟩ : ∃ l, pnorm xs = l := ⟨_, rfl⟩
  obtain ⟨ns, hns⟩ : ∃ l, pnorm ys = l := ⟨_, rfl⟩
  have lms : ∀ q ∈ ms, qlen q ≤ 5 := fun q h9 => hq q (pnorm_mem (hms ▸ h9))
  have lns : ∀ q ∈ ns, qlen q ≤ 5 := fun q h9 => hqz q (pnorm_mem (hns ▸ h9))
  have nms : ms.length ≤ 10 := by rw [← hms]; exact Nat.le_trans (pnorm_length_le _) (by omega)
  have nns : ns.length ≤ 10 := by rw [← hns]; exact Nat.le_trans (pnorm_length_le _) (by omega)
  have pms : peq ms xs := hms ▸ pnorm_co xs
  have pns : peq ns ys := hns ▸ pnorm_co ys
  have HRX : ∀ (w' : World) (a3 : Option Addr) (n3 c3 : Nat), Rw w' a3 n3 c3 xs → Calls Tryz.prog 8 #[.slice a3 n3 c3] w' (LstRw ms w') := fun w' a3 n3 c3 h9 => hms ▸ ref14_norm a3 n3 c3 xs w' h9 (by have := h9.len; omega) (fun q h8 => Nat.le_trans (hq q h8) (by decide))
  have HRY : ∀ (w' : World) (a3 : Option Addr) (n3 c3 : Nat), Rw w' a3 n3 c3 ys → Calls Tryz.prog 8 #[.slice a3 n3 c3] w' (LstRw ns w') := fun w' a3 n3 c3 h9 => hns ▸ ref14_norm a3 n3 c3 ys w' h9 (by have := h9.len; omega) (fun q h8 => Nat.le_trans (hqz q h8) (by decide))
  have HFR : ∀ w' : World, Wd w' a0 n0 c0 la0 → Wd w' b0 m0 d0 lb0 → Fr w' (frV s0 a0 n0 c0 b0 m0 d0) k 4 := fun w' h8 h9 => Fr.of h8 h9 hn0 hm0 EQ0.out
  have HRK : ∀ w' : World, Wd w' a0 n0 c0 la0 → Wd w' b0 m0 d0 lb0 → Calls Tryz.prog 10 #[frV s0 a0 n0 c0 b0 m0 d0] w' (LstQ k w') := fun w' h8 h9 => ref09_norm_q _ k w' ((HFR w' h8 h9).wide (by decide))
  have HPN : ∀ (w' : World) (a3 : Option Addr) (c3 : Nat), Pv w' a3 n c3 xs 4 → Calls Tryz.prog 14 #[.slice a3 n c3] w' (LstRw ms w') := fun w' a3 c3 h9 => hms ▸ norm_pv S h9 (by omega) (by decide)
  have HIS : ∀ (V : List Rat) (w' : World) (a3 : Option Addr) (n3 c3 : Nat) (a4 : Option Addr) (n4 c4 : Nat), V.length ≤ 1000 → (∀ q ∈ V, qlen q ≤ 1000) → Rw w' a3 n3 c3 V → Rw w' a4 n4 c4 V → Calls Tryz.prog 13 #[.slice a3 n3 c3, .slice a4 n4 c4] w' (Gives (.bool true) w') := fun V w' a3 n3 c3 a4 n4 c4 h6 h7 h8 h9 => law11_is_yes a3 n3 c3 a4 n4 c4 V w' h8 h9 h6 (fun q hq => Nat.le_trans (h7 q hq) (by decide))
  have HIM := fun w' a3 n3 c3 a4 n4 c4 h8 h9 => HIS ms w' a3 n3 c3 a4 n4 c4 (by omega) (fun q hq => Nat.le_trans (lms q hq) (by decide)) h8 h9
  obtain ⟨zz, hzz⟩ : ∃ z : Int, (plen xs : Int) - 1 = z := ⟨_, rfl⟩
  have hzb : -1 ≤ zz ∧ zz ≤ 10 := by have h9 : plen xs = ms.length := by unfold plen; rw [hms]
                                     omega
  have HZM : Hid (∀ n3 : Nat, ms.length = n3 → (n3 : Int) - 1 = zz) := Lib.hid (fun n3 h9 => by have h8 : plen xs = ms.length := by unfold plen; rw [hms]
                                                                                                omega)
  have hzw : IntKind.i64.wrap zz = zz := by rw [IntKind.wrap_i64]; omega
  have HDG : ∀ (w' : World) (a3 : Option Addr) (c3 : Nat), Pv w' a3 n c3 xs 4 → Calls Tryz.prog 15 #[.slice a3 n c3] w' (Gives (.int .i64 zz) w') := fun w' a3 c3 h9 => hzz ▸ degree_pv S h9 (by omega) (by decide)
  obtain ⟨r, hr⟩ : ∃ r, decide (ms = ns) = r := ⟨_, rfl⟩
  have hrr := beq_same r
  have HSX : ∀ (w' : World) (a3 a4 : Option Addr) (c3 c4 : Nat), Pv w' a3 n c3 xs 4 → Pv w' a4 nz c4 ys 4 → Calls Tryz.prog 16 #[.slice a3 n c3, .slice a4 nz c4] w' (Gives (.bool r) w') := fun w' a3 a4 c3 c4 h8 h9 => by
    have h7 := same_pv S h8 h9 (by omega) (by omega) (by decide) (by decide)
    rwa [hms, hns, hr] at h7
  have HSR : ∀ (w' : World) (a3 : Option Addr) (n3 c3 : Nat) (a4 : Option Addr) (n4 c4 : Nat), Rw w' a3 n3 c3 ms → Rw w' a4 n4 c4 ns → Calls Tryz.prog 17 #[.slice a3 n3 c3, .slice a4 n4 c4] w' (Gives (.bool r) w') := fun w' a3 n3 c3 a4 n4 c4 h8 h9 => hr ▸ ref11_same a3 n3 c3 ms a4 n4 c4 ns w' h8 h9 (by have := h8.len; omega) (fun q hq => Nat.le_trans (lms q hq) (by decide)) (fun q hq => Nat.le_trans (lns q hq) (by decide))
  obtain ⟨ex, hex⟩ : ∃ q, peval k xs = q := ⟨_, rfl⟩
  have hex2 : peval k ms = ex := by rw [peval_congr k pms, hex]
  have HEX : ∀ (w' : World) (a3 : Option Addr) (c3 : Nat), Pv w' a3 n c3 xs 4 → Fr w' (frV s0 a0 n0 c0 b0 m0 d0) k 4 → Calls Tryz.prog 19 #[.slice a3 n c3, frV s0 a0 n0 c0 b0 m0 d0] w' (LstQ ex w') := fun w' a3 c3 h8 h9 => hex ▸ eval_pv S h8 h9 (by omega) (eval_small14 (by omega) (by decide) (by decide))
  have HER : ∀ (w' : World) (a3 : Option Addr) (n3 c3 : Nat) (v : Value), Rw w' a3 n3 c3 ms → Rt w' v k 5 → Calls Tryz.prog 20 #[.slice a3 n3 c3, v] w' (LstQ ex w') := fun w' a3 n3 c3 v h8 h9 => hex2 ▸ ref14_eval a3 n3 c3 ms v k 5 5 w' h8 h9 lms (Nat.le_trans (eval_small14 (by have := h8.len; omega) (by decide) (by decide)) (by decide))
  obtain ⟨sa, hsa⟩ : ∃ l, pnorm (padd xs ys) = l := ⟨_, rfl⟩
  obtain ⟨sd, hsd⟩ : ∃ l, pnorm (psub xs ys) = l := ⟨_, rfl⟩
  obtain ⟨pm, hpm⟩ : ∃ l, pnorm (pmul xs ys) = l := ⟨_, rfl⟩
  obtain ⟨sc, hsc⟩ : ∃ l, pnorm (rscale k xs) = l := ⟨_, rfl⟩
  have hsa2 : pnorm (padd ms ns) = sa := by rw [← hsa]; exact pnorm_congr (padd_congr pms pns)
  have hsd2 : pnorm (psub ms ns) = sd := by rw [← hsd]; exact pnorm_congr (padd_congr pms (rscale_congr _ pns))
  have hpm2 : pnorm (pmul ms ns) = pm := by rw [← hpm]; exact pnorm_congr (pmul_congr pms pns)
  have hsc2 : pnorm (rscale k ms) = sc := by rw [← hsc]; exact pnorm_congr (rscale_congr _ pms)
  have hl1 : qlen (-1) ≤ 2 := qlen_int (z := -1) (by decide)
  have lsa : ∀ q ∈ sa, qlen q ≤ 1000 := fun q h9 => Nat.le_trans (qlen_padd (A := 5) (B := 5) (by decide) (by decide) hq hqz q (hsa ▸ h9)) (by decide)
  have lsd : ∀ q ∈ sd, qlen q ≤ 1000 := fun q h9 => Nat.le_trans (qlen_padd (A := 5) (B := 8) (by decide) (by decide) hq (fun u hu => Nat.le_trans (qlen_rscale hl1 hqz u hu) (by decide)) q (hsd ▸ h9)) (by decide)
  have lpm : ∀ q ∈ pm, qlen q ≤ 1000 := fun q h9 => Nat.le_trans (qlen_pmul (A := 5) (B := 5) (by decide) (by decide) hq hqz q (hpm ▸ h9)) (by omega)
  have lsc : ∀ q ∈ sc, qlen q ≤ 1000 := fun q h9 => Nat.le_trans (qlen_rscale lk hq q (pnorm_mem (hsc ▸ h9))) (by decide)
  have nsa : sa.length ≤ 1000 := by rw [← hsa]; exact Nat.le_trans (pnorm_length_le _) (Nat.le_trans (padd_length _ _) (by omega))
  have nsd : sd.length ≤ 1000 := by rw [← hsd]; exact Nat.le_trans (pnorm_length_le _) (Nat.le_trans (padd_length _ _) (by rw [rscale_length]; omega))
  have npm : pm.length ≤ 1000 := by rw [← hpm]; exact Nat.le_trans (pnorm_length_le _) (Nat.le_trans (pmul_length _ _) (by omega))
  have nsc : sc.length ≤ 1000 := by rw [← hsc]; exact Nat.le_trans (pnorm_length_le _) (by rw [rscale_length]; omega)
  have HIA := fun w' a3 n3 c3 a4 n4 c4 h8 h9 => HIS sa w' a3 n3 c3 a4 n4 c4 nsa lsa h8 h9
  have HID := fun w' a3 n3 c3 a4 n4 c4 h8 h9 => HIS sd w' a3 n3 c3 a4 n4 c4 nsd lsd h8 h9
  have HIP := fun w' a3 n3 c3 a4 n4 c4 h8 h9 => HIS pm w' a3 n3 c3 a4 n4 c4 npm lpm h8 h9
  have HIC := fun w' a3 n3 c3 a4 n4 c4 h8 h9 => HIS sc w' a3 n3 c3 a4 n4 c4 nsc lsc h8 h9
  have HPA : ∀ (w' : World) (a3 a4 : Option Addr) (c3 c4 : Nat), Pv w' a3 n c3 xs 4 → Pv w' a4 nz c4 ys 4 → Calls Tryz.prog 21 #[.slice a3 n c3, .slice a4 nz c4] w' (LstRw sa w') := fun w' a3 a4 c3 c4 h8 h9 => hsa ▸ add_pv S h8 h9 (by omega) (by omega) (by decide) (by decide)
  have HPD : ∀ (w' : World) (a3 a4 : Option Addr) (c3 c4 : Nat), Pv w' a3 n c3 xs 4 → Pv w' a4 nz c4 ys 4 → Calls Tryz.prog 23 #[.slice a3 n c3, .slice a4 nz c4] w' (LstRw sd w') := fun w' a3 a4 c3 c4 h8 h9 => hsd ▸ sub_pv S h8 h9 (by omega) (by omega) (by decide) (by decide)
  have HPM : ∀ (w' : World) (a3 a4 : Option Addr) (c3 c4 : Nat), Pv w' a3 n c3 xs 4 → Pv w' a4 nz c4 ys 4 → Calls Tryz.prog 25 #[.slice a3 n c3, .slice a4 nz c4] w' (LstRw pm w') := fun w' a3 a4 c3 c4 h8 h9 => hpm ▸ mul_pv S h8 h9 (by omega) (by omega) (by omega)
  have HPC : ∀ (w' : World) (a3 : Option Addr) (c3 : Nat), Pv w' a3 n c3 xs 4 → Fr w' (frV s0 a0 n0 c0 b0 m0 d0) k 4 → Calls Tryz.prog 27 #[frV s0 a0 n0 c0 b0 m0 d0, .slice a3 n c3] w' (LstRw sc w') := fun w' a3 c3 h8 h9 => hsc ▸ scale_pv S h8 (h9.wide (by decide)) (by omega) (by decide)
  have HRA : ∀ (w' : World) (a3 : Option Addr) (n3 c3 : Nat) (a4 : Option Addr) (n4 c4 : Nat), Rw w' a3 n3 c3 ms → Rw w' a4 n4 c4 ns → Calls Tryz.prog 22 #[.slice a3 n3 c3, .slice a4 n4 c4] w' (LstRw sa w') := fun w' a3 n3 c3 a4 n4 c4 h8 h9 => hsa2 ▸ ref14_add a3 n3 c3 ms a4 n4 c4 ns w' h8 h9 (by have := h8.len; omega) (by have := h9.len; omega) (fun q hq => Nat.le_trans (lms q hq) (by decide)) (fun q hq => Nat.le_trans (lns q hq) (by decide))
  have HRD : ∀ (w' : World) (a3 : Option Addr) (n3 c3 : Nat) (a4 : Option Addr) (n4 c4 : Nat), Rw w' a3 n3 c3 ms → Rw w' a4 n4 c4 ns → Calls Tryz.prog 24 #[.slice a3 n3 c3, .slice a4 n4 c4] w' (LstRw sd w') := fun w' a3 n3 c3 a4 n4 c4 h8 h9 => hsd2 ▸ ref14_sub a3 n3 c3 ms a4 n4 c4 ns w' h8 h9 (by have := h8.len; omega) (by have := h9.len; omega) (fun q hq => Nat.le_trans (lms q hq) (by decide)) (fun q hq => Nat.le_trans (lns q hq) (by decide))
  have HRM : ∀ (w' : World) (a3 : Option Addr) (n3 c3 : Nat) (a4 : Option Addr) (n4 c4 : Nat), Rw w' a3 n3 c3 ms → Rw w' a4 n4 c4 ns → Calls Tryz.prog 26 #[.slice a3 n3 c3, .slice a4 n4 c4] w' (LstRw pm w') := fun w' a3 n3 c3 a4 n4 c4 h8 h9 => hpm2 ▸ ref14_mul a3 n3 c3 ms a4 n4 c4 ns 5 5 w' h8 h9 (by have := h8.len; omega) (by have := h9.len; omega) lms lns (by decide) (by decide) (by have := h8.len; omega)
  have HRC : ∀ (w' : World) (a3 : Option Addr) (n3 c3 : Nat) (v : Value), Rw w' a3 n3 c3 ms → Rt w' v k 5 → Calls Tryz.prog 28 #[v, .slice a3 n3 c3] w' (LstRw sc w') := fun w' a3 n3 c3 v h8 h9 => hsc2 ▸ ref14_scale v k a3 n3 c3 ms w' (by obtain ⟨x1, x2, x3, x4, x5, x6, y0, y1, y2, y3, y4⟩ := h9; exact ⟨x1, x2, x3, x4, x5, x6, y0, y1, y2, by omega, by omega⟩) h8 (by have := h8.len; omega) (fun q hq => Nat.le_trans (lms q hq) (by decide))
  have LK := Lib.hid lk
  clear h hz hb hbz hn0 hm0 hth hthz hq hqz hl hlz ha0 hb0 hk lk hxs hys hms hns lms lns nms nns pms pns HIS hzz hzb hr hex hex2 hsa hsd hpm hsc hsa2 hsd2 hpm2 hsc2 hl1 lsa lsd lpm lsc nsa nsd npm nsc
  go_enter Tryz.func3, Tryz.ntmps3
  unfold frV
  obtain ⟨vk0, vk1, vk2⟩ := fcells_3 X0.out
  go_wp2_with fail
  refine (ref11_long a n c L 10 4 false _ HF.out (by decide) (Lib.hid ⟨fun h => absurd h (by decide), fun h => absurd HNB.out h⟩)).mono ?_
  rintro e wv1 ⟨rfl, b⟩
  clear vk0 vk1 vk2
  replace HB := Lib.hid (below_then HB.out b)
  replace X0 := Lib.hid (blk_later X0.out b)
  replace HF := Lib.hid (HF.out.later b)
  replace HFz := Lib.hid (HFz.out.later b)
  replace A0 := Lib.hid (A0.out.later b)
  replace B0 := Lib.hid (B0.out.later b)
  clear b
  obtain ⟨vk0, vk1, vk2⟩ := fcells_3 X0.out
  go_wp2_with fail
  refine (ref11_long az nz cz Lz 10 4 false _ HFz.out (by decide) (Lib.hid ⟨fun h => absurd h (by decide), fun h => absurd HNBz.out h⟩)).mono ?_
  rintro e wv2 ⟨rfl, b⟩
  clear vk0 vk1 vk2
  replace HB := Lib.hid (below_then HB.out b)
  replace X0 := Lib.hid (blk_later X0.out b)
  replace HF := Lib.hid (HF.out.later b)
  replace HFz := Lib.hid (HFz.out.later b)
  replace A0 := Lib.hid (A0.out.later b)
  replace B0 := Lib.hid (B0.out.later b)
  clear b
  obtain ⟨vk0, vk1, vk2⟩ := fcells_3 X0.out
  go_wp2_with fail
  refine (ref09_long s0 a0 n0 c0 b0 m0 d0 4 _).mono ?_
  rintro e wv3 ⟨rfl, b⟩
  clear vk0 vk1 vk2
  replace HB := Lib.hid (below_then HB.out b)
  replace X0 := Lib.hid (blk_later X0.out b)
  replace HF := Lib.hid (HF.out.later b)
  replace HFz := Lib.hid (HFz.out.later b)
  replace A0 := Lib.hid (A0.out.later b)
  replace B0 := Lib.hid (B0.out.later b)
  clear b
  rw [hl0]
  obtain ⟨vk0, vk1, vk2⟩ := fcells_3 X0.out
  go_wp2_with fail
  refine (HNX _ HF.out).mono ?_
  rintro e wv4 ⟨a3, n3, c3, rfl, h3, b⟩
  clear vk0 vk1 vk2
  replace HB := Lib.hid (below_then HB.out b)
  replace X0 := Lib.hid (blk_later X0.out b)
  replace HF := Lib.hid (HF.out.later b)
  replace HFz := Lib.hid (HFz.out.later b)
  replace A0 := Lib.hid (A0.out.later b)
  replace B0 := Lib.hid (B0.out.later b)
  clear b
  have XX := Lib.hid h3
  clear h3
  obtain ⟨vk0, vk1, vk2⟩ := fcells_3 X0.out
  go_wp2_with fail
  refine (HRX _ a3 n3 c3 XX.out).mono ?_
  rintro e wv5 ⟨a4, n4, c4, rfl, h4, b⟩
  clear vk0 vk1 vk2
  replace HB := Lib.hid (below_then HB.out b)
  replace X0 := Lib.hid (blk_later X0.out b)
  clear XX
  replace HF := Lib.hid (HF.out.later b)
  replace HFz := Lib.hid (HFz.out.later b)
  replace A0 := Lib.hid (A0.out.later b)
  replace B0 := Lib.hid (B0.out.later b)
  clear b
  have MS := Lib.hid h4
  clear h4
  obtain ⟨vk0, vk1, vk2⟩ := fcells_3 X0.out
  go_wp2_with fail
  refine (HNY _ HFz.out).mono ?_
  rintro e wv6 ⟨a5, n5, c5, rfl, h5, b⟩
  clear vk0 vk1 vk2
  replace HB := Lib.hid (below_then HB.out b)
  replace X0 := Lib.hid (blk_later X0.out b)
  replace HF := Lib.hid (HF.out.later b)
  replace HFz := Lib.hid (HFz.out.later b)
  replace A0 := Lib.hid (A0.out.later b)
  replace B0 := Lib.hid (B0.out.later b)
  replace MS := Lib.hid (MS.out.later b)
  clear b
  have YY := Lib.hid h5
  clear h5
  obtain ⟨vk0, vk1, vk2⟩ := fcells_3 X0.out
  go_wp2_with fail
  refine (HRY _ a5 n5 c5 YY.out).mono ?_
  rintro e wv7 ⟨a6, n6, c6, rfl, h6, b⟩
  clear vk0 vk1 vk2
  replace HB := Lib.hid (below_then HB.out b)
  replace X0 := Lib.hid (blk_later X0.out b)
  clear YY
  replace HF := Lib.hid (HF.out.later b)
  replace HFz := Lib.hid (HFz.out.later b)
  replace A0 := Lib.hid (A0.out.later b)
  replace B0 := Lib.hid (B0.out.later b)
  replace MS := Lib.hid (MS.out.later b)
  clear b
  have NS := Lib.hid h6
  clear h6
  obtain ⟨vk0, vk1, vk2⟩ := fcells_3 X0.out
  go_wp2_with fail
  refine (HRK _ A0.out B0.out).mono ?_
  rintro e wv8 ⟨a7, n7, c7, b7, m7, d7, rfl, h7, g7, b⟩
  clear vk0 vk1 vk2
  replace HB := Lib.hid (below_then HB.out b)
  replace X0 := Lib.hid (blk_later X0.out b)
  replace HF := Lib.hid (HF.out.later b)
  replace HFz := Lib.hid (HFz.out.later b)
  replace A0 := Lib.hid (A0.out.later b)
  replace B0 := Lib.hid (B0.out.later b)
  replace MS := Lib.hid (MS.out.later b)
  replace NS := Lib.hid (NS.out.later b)
  clear b
  have hn7 : n7 ≤ 5 := (by rw [← h7.len]; exact Nat.le_trans (qlen_num _) LK.out)
  have hm7 : m7 ≤ 5 := (by rw [← g7.len]; exact Nat.le_trans (qlen_den _) LK.out)
  have KA := Lib.hid h7
  have KD := Lib.hid g7
  clear h7 g7
  unfold frV
  have K0 : Hid ((World.alloc wv8 (.cells #[.bool (zneg k.num), .slice a7 n7 c7, .slice b7 m7 d7] 25)).heap[wv8.heap.size]? = some (.cells #[.bool (zneg k.num), .slice a7 n7 c7, .slice b7 m7 d7] 25 (0, 0))) := Lib.hid (blk_new wv8 _ _)
  replace HB := Lib.hid (below_then HB.out (below_alloc wv8 (.cells #[.bool (zneg k.num), .slice a7 n7 c7, .slice b7 m7 d7] 25)))
  replace X0 := Lib.hid (blk_later X0.out (below_alloc wv8 (.cells #[.bool (zneg k.num), .slice a7 n7 c7, .slice b7 m7 d7] 25)))
  replace HF := Lib.hid (HF.out.later (below_alloc wv8 (.cells #[.bool (zneg k.num), .slice a7 n7 c7, .slice b7 m7 d7] 25)))
  replace HFz := Lib.hid (HFz.out.later (below_alloc wv8 (.cells #[.bool (zneg k.num), .slice a7 n7 c7, .slice b7 m7 d7] 25)))
  replace A0 := Lib.hid (A0.out.later (below_alloc wv8 (.cells #[.bool (zneg k.num), .slice a7 n7 c7, .slice b7 m7 d7] 25)))
  replace B0 := Lib.hid (B0.out.later (below_alloc wv8 (.cells #[.bool (zneg k.num), .slice a7 n7 c7, .slice b7 m7 d7] 25)))
  replace MS := Lib.hid (MS.out.later (below_alloc wv8 (.cells #[.bool (zneg k.num), .slice a7 n7 c7, .slice b7 m7 d7] 25)))
  replace NS := Lib.hid (NS.out.later (below_alloc wv8 (.cells #[.bool (zneg k.num), .slice a7 n7 c7, .slice b7 m7 d7] 25)))
  replace KA := Lib.hid (KA.out.later (below_alloc wv8 (.cells #[.bool (zneg k.num), .slice a7 n7 c7, .slice b7 m7 d7] 25)))
  replace KD := Lib.hid (KD.out.later (below_alloc wv8 (.cells #[.bool (zneg k.num), .slice a7 n7 c7, .slice b7 m7 d7] 25)))
  obtain ⟨vk0, vk1, vk2, vk3, vk4, vk5⟩ := fcells_3_3 X0.out K0.out
  go_wp2_with fail
  refine (HTX _ HF.out).mono ?_
  rintro e wv9 ⟨a8, c8, rfl, h8, b⟩
  clear vk0 vk1 vk2 vk3 vk4 vk5
  replace HB := Lib.hid (below_then HB.out b)
  replace X0 := Lib.hid (blk_later X0.out b)
  replace K0 := Lib.hid (blk_later K0.out b)
  clear HF
  replace HFz := Lib.hid (HFz.out.later b)
  replace A0 := Lib.hid (A0.out.later b)
  replace B0 := Lib.hid (B0.out.later b)
  replace MS := Lib.hid (MS.out.later b)
  replace NS := Lib.hid (NS.out.later b)
  replace KA := Lib.hid (KA.out.later b)
  replace KD := Lib.hid (KD.out.later b)
  clear b
  have X := Lib.hid h8
  clear h8
  obtain ⟨vk0, vk1, vk2, vk3, vk4, vk5⟩ := fcells_3_3 X0.out K0.out
  go_wp2_with fail
  refine (HTY _ HFz.out).mono ?_
  rintro e wv10 ⟨a9, c9, rfl, h9, b⟩
  clear vk0 vk1 vk2 vk3 vk4 vk5
  replace HB := Lib.hid (below_then HB.out b)
  replace X0 := Lib.hid (blk_later X0.out b)
  replace K0 := Lib.hid (blk_later K0.out b)
  clear HFz
  replace A0 := Lib.hid (A0.out.later b)
  replace B0 := Lib.hid (B0.out.later b)
  replace MS := Lib.hid (MS.out.later b)
  replace NS := Lib.hid (NS.out.later b)
  replace KA := Lib.hid (KA.out.later b)
  replace KD := Lib.hid (KD.out.later b)
  replace X := Lib.hid (X.out.later b)
  clear b
  have Y := Lib.hid h9
  clear h9
  obtain ⟨vk0, vk1, vk2, vk3, vk4, vk5⟩ := fcells_3_3 X0.out K0.out
  go_wp2_with fail
  refine (law09_to s0 a0 n0 c0 b0 m0 d0 _).mono ?_
  rintro e wv11 ⟨rfl, b⟩
  clear vk0 vk1 vk2 vk3 vk4 vk5
  replace HB := Lib.hid (below_then HB.out b)
  replace X0 := Lib.hid (blk_later X0.out b)
  replace K0 := Lib.hid (blk_later K0.out b)
  replace A0 := Lib.hid (A0.out.later b)
  replace B0 := Lib.hid (B0.out.later b)
  replace MS := Lib.hid (MS.out.later b)
  replace NS := Lib.hid (NS.out.later b)
  replace KA := Lib.hid (KA.out.later b)
  replace KD := Lib.hid (KD.out.later b)
  replace X := Lib.hid (X.out.later b)
  replace Y := Lib.hid (Y.out.later b)
  clear b
  unfold frV
  have Z0 : Hid ((World.alloc wv11 (.cells #[.bool s0, .slice a0 n0 c0, .slice b0 m0 d0] 36)).heap[wv11.heap.size]? = some (.cells #[.bool s0, .slice a0 n0 c0, .slice b0 m0 d0] 36 (0, 0))) := Lib.hid (blk_new wv11 _ _)
  replace HB := Lib.hid (below_then HB.out (below_alloc wv11 (.cells #[.bool s0, .slice a0 n0 c0, .slice b0 m0 d0] 36)))
  replace X0 := Lib.hid (blk_later X0.out (below_alloc wv11 (.cells #[.bool s0, .slice a0 n0 c0, .slice b0 m0 d0] 36)))
  replace K0 := Lib.hid (blk_later K0.out (below_alloc wv11 (.cells #[.bool s0, .slice a0 n0 c0, .slice b0 m0 d0] 36)))
  replace A0 := Lib.hid (A0.out.later (below_alloc wv11 (.cells #[.bool s0, .slice a0 n0 c0, .slice b0 m0 d0] 36)))
  replace B0 := Lib.hid (B0.out.later (below_alloc wv11 (.cells #[.bool s0, .slice a0 n0 c0, .slice b0 m0 d0] 36)))
  replace MS := Lib.hid (MS.out.later (below_alloc wv11 (.cells #[.bool s0, .slice a0 n0 c0, .slice b0 m0 d0] 36)))
  replace NS := Lib.hid (NS.out.later (below_alloc wv11 (.cells #[.bool s0, .slice a0 n0 c0, .slice b0 m0 d0] 36)))
  replace KA := Lib.hid (KA.out.later (below_alloc wv11 (.cells #[.bool s0, .slice a0 n0 c0, .slice b0 m0 d0] 36)))
  replace KD := Lib.hid (KD.out.later (below_alloc wv11 (.cells #[.bool s0, .slice a0 n0 c0, .slice b0 m0 d0] 36)))
  replace X := Lib.hid (X.out.later (below_alloc wv11 (.cells #[.bool s0, .slice a0 n0 c0, .slice b0 m0 d0] 36)))
  replace Y := Lib.hid (Y.out.later (below_alloc wv11 (.cells #[.bool s0, .slice a0 n0 c0, .slice b0 m0 d0] 36)))
  clear X0
  have hzm := HZM.out n4 MS.out.len
  go_wp2
  replace HB := Lib.hid (below_then HB.out ((Below.refl _ _).drew : Below (wv11.alloc (.cells #[.bool s0, .slice a0 n0 c0, .slice b0 m0 d0] 36)).heap.size (wv11.alloc (.cells #[.bool s0, .slice a0 n0 c0, .slice b0 m0 d0] 36)) (wv11.alloc (.cells #[.bool s0, .slice a0 n0 c0, .slice b0 m0 d0] 36)).drew))
  replace Z0 : Hid ((wv11.alloc (.cells #[.bool s0, .slice a0 n0 c0, .slice b0 m0 d0] 36)).drew.heap[wv11.heap.size]? = _) := Lib.hid Z0.out
  replace K0 : Hid ((wv11.alloc (.cells #[.bool s0, .slice a0 n0 c0, .slice b0 m0 d0] 36)).drew.heap[wv8.heap.size]? = _) := Lib.hid K0.out
  replace X := Lib.hid (X.out.later ((Below.refl _ _).drew : Below (wv11.alloc (.cells #[.bool s0, .slice a0 n0 c0, .slice b0 m0 d0] 36)).heap.size (wv11.alloc (.cells #[.bool s0, .slice a0 n0 c0, .slice b0 m0 d0] 36)) (wv11.alloc (.cells #[.bool s0, .slice a0 n0 c0, .slice b0 m0 d0] 36)).drew))
  replace Y := Lib.hid (Y.out.later ((Below.refl _ _).drew : Below (wv11.alloc (.cells #[.bool s0, .slice a0 n0 c0, .slice b0 m0 d0] 36)).heap.size (wv11.alloc (.cells #[.bool s0, .slice a0 n0 c0, .slice b0 m0 d0] 36)) (wv11.alloc (.cells #[.bool s0, .slice a0 n0 c0, .slice b0 m0 d0] 36)).drew))
  replace MS := Lib.hid (MS.out.later ((Below.refl _ _).drew : Below (wv11.alloc (.cells #[.bool s0, .slice a0 n0 c0, .slice b0 m0 d0] 36)).heap.size (wv11.alloc (.cells #[.bool s0, .slice a0 n0 c0, .slice b0 m0 d0] 36)) (wv11.alloc (.cells #[.bool s0, .slice a0 n0 c0, .slice b0 m0 d0] 36)).drew))
  replace NS := Lib.hid (NS.out.later ((Below.refl _ _).drew : Below (wv11.alloc (.cells #[.bool s0, .slice a0 n0 c0, .slice b0 m0 d0] 36)).heap.size (wv11.alloc (.cells #[.bool s0, .slice a0 n0 c0, .slice b0 m0 d0] 36)) (wv11.alloc (.cells #[.bool s0, .slice a0 n0 c0, .slice b0 m0 d0] 36)).drew))
  replace A0 := Lib.hid (A0.out.later ((Below.refl _ _).drew : Below (wv11.alloc (.cells #[.bool s0, .slice a0 n0 c0, .slice b0 m0 d0] 36)).heap.size (wv11.alloc (.cells #[.bool s0, .slice a0 n0 c0, .slice b0 m0 d0] 36)) (wv11.alloc (.cells #[.bool s0, .slice a0 n0 c0, .slice b0 m0 d0] 36)).drew))
  replace B0 := Lib.hid (B0.out.later ((Below.refl _ _).drew : Below (wv11.alloc (.cells #[.bool s0, .slice a0 n0 c0, .slice b0 m0 d0] 36)).heap.size (wv11.alloc (.cells #[.bool s0, .slice a0 n0 c0, .slice b0 m0 d0] 36)) (wv11.alloc (.cells #[.bool s0, .slice a0 n0 c0, .slice b0 m0 d0] 36)).drew))
  replace KA := Lib.hid (KA.out.later ((Below.refl _ _).drew : Below (wv11.alloc (.cells #[.bool s0, .slice a0 n0 c0, .slice b0 m0 d0] 36)).heap.size (wv11.alloc (.cells #[.bool s0, .slice a0 n0 c0, .slice b0 m0 d0] 36)) (wv11.alloc (.cells #[.bool s0, .slice a0 n0 c0, .slice b0 m0 d0] 36)).drew))
  replace KD := Lib.hid (KD.out.later ((Below.refl _ _).drew : Below (wv11.alloc (.cells #[.bool s0, .slice a0 n0 c0, .slice b0 m0 d0] 36)).heap.size (wv11.alloc (.cells #[.bool s0, .slice a0 n0 c0, .slice b0 m0 d0] 36)) (wv11.alloc (.cells #[.bool s0, .slice a0 n0 c0, .slice b0 m0 d0] 36)).drew))
  have qSn := fcells_3_3 Z0.out K0.out
  go_region_held3 (fun w' => w'.cell? ⟨wv11.heap.size, 0, none⟩ = some (.bool s0) ∧ w'.cell? ⟨wv11.heap.size, 1, none⟩ = some (.slice a0 n0 c0) ∧ w'.cell? ⟨wv11.heap.size, 2, none⟩ = some (.slice b0 m0 d0) ∧ w'.cell? ⟨wv8.heap.size, 0, none⟩ = some (.bool (zneg k.num)) ∧ w'.cell? ⟨wv8.heap.size, 1, none⟩ = some (.slice a7 n7 c7) ∧ w'.cell? ⟨wv8.heap.size, 2, none⟩ = some (.slice b7 m7 d7)) (exact qSn)
    (first
    | (go_at_call 14; (first
      | (refine (HPN _ a8 c8 X.out).mono ?_; rintro e wq1 ⟨a21, n21, c21, rfl, h21, b⟩; replace HB := Lib.hid (below_then HB.out b); replace Z0 := Lib.hid (blk_later Z0.out b); replace K0 := Lib.hid (blk_later K0.out b); replace X := Lib.hid (X.out.later b); replace Y := Lib.hid (Y.out.later b); replace MS := Lib.hid (MS.out.later b); replace NS := Lib.hid (NS.out.later b); replace A0 := Lib.hid (A0.out.later b); replace B0 := Lib.hid (B0.out.later b); replace KA := Lib.hid (KA.out.later b); replace KD := Lib.hid (KD.out.later b); have N1 := Lib.hid h21; clear h21; clear b; clear qSn; have qSn := fcells_3_3 Z0.out K0.out; have qM1 := True.intro)))
    | (go_at_call 13; (first
      | (have qm1 := qM1; refine (HIM _ _ _ _ _ _ _ N1.out MS.out).mono ?_; rintro e wq2 ⟨rfl, b⟩; replace HB := Lib.hid (below_then HB.out b); replace Z0 := Lib.hid (blk_later Z0.out b); replace K0 := Lib.hid (blk_later K0.out b); replace X := Lib.hid (X.out.later b); replace Y := Lib.hid (Y.out.later b); replace MS := Lib.hid (MS.out.later b); replace NS := Lib.hid (NS.out.later b); replace A0 := Lib.hid (A0.out.later b); replace B0 := Lib.hid (B0.out.later b); replace KA := Lib.hid (KA.out.later b); replace KD := Lib.hid (KD.out.later b); clear N1; clear b; clear qSn; have qSn := fcells_3_3 Z0.out K0.out; clear qM1 qm1; have qM2 := True.intro)))
    | (go_at_call 15; (first
      | (have qm2 := qM2; refine (HDG _ a8 c8 X.out).mono ?_; rintro e wq3 ⟨rfl, b⟩; replace HB := Lib.hid (below_then HB.out b); replace Z0 := Lib.hid (blk_later Z0.out b); replace K0 := Lib.hid (blk_later K0.out b); replace X := Lib.hid (X.out.later b); replace Y := Lib.hid (Y.out.later b); replace MS := Lib.hid (MS.out.later b); replace NS := Lib.hid (NS.out.later b); replace A0 := Lib.hid (A0.out.later b); replace B0 := Lib.hid (B0.out.later b); replace KA := Lib.hid (KA.out.later b); replace KD := Lib.hid (KD.out.later b); clear b; clear qSn; have qSn := fcells_3_3 Z0.out K0.out; clear qM2 qm2; have qM3 := True.intro)))
    | (go_at_call 16; (first
      | (have qm3 := qM3; refine (HSX _ a8 a9 c8 c9 X.out Y.out).mono ?_; rintro e wq4 ⟨rfl, b⟩; replace HB := Lib.hid (below_then HB.out b); replace Z0 := Lib.hid (blk_later Z0.out b); replace K0 := Lib.hid (blk_later K0.out b); replace X := Lib.hid (X.out.later b); replace Y := Lib.hid (Y.out.later b); replace MS := Lib.hid (MS.out.later b); replace NS := Lib.hid (NS.out.later b); replace A0 := Lib.hid (A0.out.later b); replace B0 := Lib.hid (B0.out.later b); replace KA := Lib.hid (KA.out.later b); replace KD := Lib.hid (KD.out.later b); clear b; clear qSn; have qSn := fcells_3_3 Z0.out K0.out; clear qM3 qm3; have qM4 := True.intro)))
    | (go_at_call 17; (first
      | (have qm4 := qM4; refine (HSR _ _ _ _ _ _ _ MS.out NS.out).mono ?_; rintro e wq5 ⟨rfl, b⟩; replace HB := Lib.hid (below_then HB.out b); replace Z0 := Lib.hid (blk_later Z0.out b); replace K0 := Lib.hid (blk_later K0.out b); replace X := Lib.hid (X.out.later b); replace Y := Lib.hid (Y.out.later b); replace MS := Lib.hid (MS.out.later b); replace NS := Lib.hid (NS.out.later b); replace A0 := Lib.hid (A0.out.later b); replace B0 := Lib.hid (B0.out.later b); replace KA := Lib.hid (KA.out.later b); replace KD := Lib.hid (KD.out.later b); clear b; clear qSn; have qSn := fcells_3_3 Z0.out K0.out; clear qM4 qm4; have qM5 := True.intro)))
    | (go_at_call 19; (first
      | (have qm5 := qM5; refine (HEX _ a8 c8 X.out (HFR _ A0.out B0.out)).mono ?_; rintro e wq6 ⟨a22, n22, c22, b22, m22, d22, rfl, h22, g22, b⟩; replace HB := Lib.hid (below_then HB.out b); replace Z0 := Lib.hid (blk_later Z0.out b); replace K0 := Lib.hid (blk_later K0.out b); replace X := Lib.hid (X.out.later b); replace Y := Lib.hid (Y.out.later b); replace MS := Lib.hid (MS.out.later b); replace NS := Lib.hid (NS.out.later b); replace A0 := Lib.hid (A0.out.later b); replace B0 := Lib.hid (B0.out.later b); replace KA := Lib.hid (KA.out.later b); replace KD := Lib.hid (KD.out.later b); have R22 := Lib.hid h22; have T22 := Lib.hid g22; clear h22 g22; unfold frV; clear b; clear qSn; have qSn := fcells_3_3 Z0.out K0.out; clear qM5 qm5; have qM6 := True.intro)))
    | (go_at_call 20; (first
      | (have qm6 := qM6; refine (HER _ _ _ _ _ MS.out (Rt.of (q := k) KA.out KD.out hn7 hm7)).mono ?_; rintro e wq7 ⟨a23, n23, c23, b23, m23, d23, rfl, h23, g23, b⟩; replace HB := Lib.hid (below_then HB.out b); replace Z0 := Lib.hid (blk_later Z0.out b); replace K0 := Lib.hid (blk_later K0.out b); replace X := Lib.hid (X.out.later b); replace Y := Lib.hid (Y.out.later b); replace MS := Lib.hid (MS.out.later b); replace NS := Lib.hid (NS.out.later b); replace A0 := Lib.hid (A0.out.later b); replace B0 := Lib.hid (B0.out.later b); replace KA := Lib.hid (KA.out.later b); replace KD := Lib.hid (KD.out.later b); replace R22 := Lib.hid (R22.out.later b); replace T22 := Lib.hid (T22.out.later b); have R23 := Lib.hid h23; have T23 := Lib.hid g23; clear h23 g23; unfold frV; clear b; clear qSn; have qSn := fcells_3_3 Z0.out K0.out; clear qM6 qm6; have qM7 := True.intro)))
    | (go_at_call 18; (first
      | (have qm7 := qM7; refine (law09_is_yes _ _ _ _ _ _ _ _ _ _ _ _ _ _ _ _ R22.out T22.out R23.out T23.out).mono ?_; rintro e wq8 ⟨rfl, b⟩; replace HB := Lib.hid (below_then HB.out b); replace Z0 := Lib.hid (blk_later Z0.out b); replace K0 := Lib.hid (blk_later K0.out b); replace X := Lib.hid (X.out.later b); replace Y := Lib.hid (Y.out.later b); replace MS := Lib.hid (MS.out.later b); replace NS := Lib.hid (NS.out.later b); replace A0 := Lib.hid (A0.out.later b); replace B0 := Lib.hid (B0.out.later b); replace KA := Lib.hid (KA.out.later b); replace KD := Lib.hid (KD.out.later b); clear R22; clear T22; clear R23; clear T23; clear b; clear qSn; have qSn := fcells_3_3 Z0.out K0.out; clear qM7 qm7; have qM8 := True.intro))))
  go_wp2
  replace HB := Lib.hid (below_then HB.out ((Below.refl _ _).drew : Below wq8.heap.size wq8 wq8.drew))
  replace Z0 : Hid (wq8.drew.heap[wv11.heap.size]? = _) := Lib.hid Z0.out
  replace K0 : Hid (wq8.drew.heap[wv8.heap.size]? = _) := Lib.hid K0.out
  replace X := Lib.hid (X.out.later ((Below.refl _ _).drew : Below wq8.heap.size wq8 wq8.drew))
  replace Y := Lib.hid (Y.out.later ((Below.refl _ _).drew : Below wq8.heap.size wq8 wq8.drew))
  replace MS := Lib.hid (MS.out.later ((Below.refl _ _).drew : Below wq8.heap.size wq8 wq8.drew))
  replace NS := Lib.hid (NS.out.later ((Below.refl _ _).drew : Below wq8.heap.size wq8 wq8.drew))
  replace A0 := Lib.hid (A0.out.later ((Below.refl _ _).drew : Below wq8.heap.size wq8 wq8.drew))
  replace B0 := Lib.hid (B0.out.later ((Below.refl _ _).drew : Below wq8.heap.size wq8 wq8.drew))
  replace KA := Lib.hid (KA.out.later ((Below.refl _ _).drew : Below wq8.heap.size wq8 wq8.drew))
  replace KD := Lib.hid (KD.out.later ((Below.refl _ _).drew : Below wq8.heap.size wq8 wq8.drew))
  have pSn := fcells_3_3 Z0.out K0.out
  go_region_held3 (fun w' => w'.cell? ⟨wv11.heap.size, 0, none⟩ = some (.bool s0) ∧ w'.cell? ⟨wv11.heap.size, 1, none⟩ = some (.slice a0 n0 c0) ∧ w'.cell? ⟨wv11.heap.size, 2, none⟩ = some (.slice b0 m0 d0) ∧ w'.cell? ⟨wv8.heap.size, 0, none⟩ = some (.bool (zneg k.num)) ∧ w'.cell? ⟨wv8.heap.size, 1, none⟩ = some (.slice a7 n7 c7) ∧ w'.cell? ⟨wv8.heap.size, 2, none⟩ = some (.slice b7 m7 d7)) (exact pSn)
    (first
    | (go_at_call 21; (first
      | (refine (HPA _ a8 a9 c8 c9 X.out Y.out).mono ?_; rintro e wp1 ⟨a31, n31, c31, rfl, h31, b⟩; replace HB := Lib.hid (below_then HB.out b); replace Z0 := Lib.hid (blk_later Z0.out b); replace K0 := Lib.hid (blk_later K0.out b); replace X := Lib.hid (X.out.later b); replace Y := Lib.hid (Y.out.later b); replace MS := Lib.hid (MS.out.later b); replace NS := Lib.hid (NS.out.later b); replace A0 := Lib.hid (A0.out.later b); replace B0 := Lib.hid (B0.out.later b); replace KA := Lib.hid (KA.out.later b); replace KD := Lib.hid (KD.out.later b); have S1 := Lib.hid h31; clear h31; clear b; clear pSn; have pSn := fcells_3_3 Z0.out K0.out; have pM1 := True.intro)))
    | (go_at_call 22; (first
      | (have pm1 := pM1; refine (HRA _ _ _ _ _ _ _ MS.out NS.out).mono ?_; rintro e wp2 ⟨a32, n32, c32, rfl, h32, b⟩; replace HB := Lib.hid (below_then HB.out b); replace Z0 := Lib.hid (blk_later Z0.out b); replace K0 := Lib.hid (blk_later K0.out b); replace X := Lib.hid (X.out.later b); replace Y := Lib.hid (Y.out.later b); replace MS := Lib.hid (MS.out.later b); replace NS := Lib.hid (NS.out.later b); replace A0 := Lib.hid (A0.out.later b); replace B0 := Lib.hid (B0.out.later b); replace KA := Lib.hid (KA.out.later b); replace KD := Lib.hid (KD.out.later b); replace S1 := Lib.hid (S1.out.later b); have S2 := Lib.hid h32; clear h32; clear b; clear pSn; have pSn := fcells_3_3 Z0.out K0.out; clear pM1 pm1; have pM2 := True.intro)))
    | (go_at_call 13; (first
      | (have pm11 := pM11; refine (HIC _ _ _ _ _ _ _ S7.out S8.out).mono ?_; rintro e wp12 ⟨rfl, b⟩; replace HB := Lib.hid (below_then HB.out b); replace Z0 := Lib.hid (blk_later Z0.out b); replace K0 := Lib.hid (blk_later K0.out b); replace X := Lib.hid (X.out.later b); replace Y := Lib.hid (Y.out.later b); replace MS := Lib.hid (MS.out.later b); replace NS := Lib.hid (NS.out.later b); replace A0 := Lib.hid (A0.out.later b); replace B0 := Lib.hid (B0.out.later b); replace KA := Lib.hid (KA.out.later b); replace KD := Lib.hid (KD.out.later b); clear S7; clear S8; clear b; clear pSn; have pSn := fcells_3_3 Z0.out K0.out; clear pM11 pm11; have pM12 := True.intro)
      | (have pm8 := pM8; refine (HIP _ _ _ _ _ _ _ S5.out S6.out).mono ?_; rintro e wp9 ⟨rfl, b⟩; replace HB := Lib.hid (below_then HB.out b); replace Z0 := Lib.hid (blk_later Z0.out b); replace K0 := Lib.hid (blk_later K0.out b); replace X := Lib.hid (X.out.later b); replace Y := Lib.hid (Y.out.later b); replace MS := Lib.hid (MS.out.later b); replace NS := Lib.hid (NS.out.later b); replace A0 := Lib.hid (A0.out.later b); replace B0 := Lib.hid (B0.out.later b); replace KA := Lib.hid (KA.out.later b); replace KD := Lib.hid (KD.out.later b); clear S5; clear S6; clear b; clear pSn; have pSn := fcells_3_3 Z0.out K0.out; clear pM8 pm8; have pM9 := True.intro)
      | (have pm5 := pM5; refine (HID _ _ _ _ _ _ _ S3.out S4.out).mono ?_; rintro e wp6 ⟨rfl, b⟩; replace HB := Lib.hid (below_then HB.out b); replace Z0 := Lib.hid (blk_later Z0.out b); replace K0 := Lib.hid (blk_later K0.out b); replace X := Lib.hid (X.out.later b); replace Y := Lib.hid (Y.out.later b); replace MS := Lib.hid (MS.out.later b); replace NS := Lib.hid (NS.out.later b); replace A0 := Lib.hid (A0.out.later b); replace B0 := Lib.hid (B0.out.later b); replace KA := Lib.hid (KA.out.later b); replace KD := Lib.hid (KD.out.later b); clear S3; clear S4; clear b; clear pSn; have pSn := fcells_3_3 Z0.out K0.out; clear pM5 pm5; have pM6 := True.intro)
      | (have pm2 := pM2; refine (HIA _ _ _ _ _ _ _ S1.out S2.out).mono ?_; rintro e wp3 ⟨rfl, b⟩; replace HB := Lib.hid (below_then HB.out b); replace Z0 := Lib.hid (blk_later Z0.out b); replace K0 := Lib.hid (blk_later K0.out b); replace X := Lib.hid (X.out.later b); replace Y := Lib.hid (Y.out.later b); replace MS := Lib.hid (MS.out.later b); replace NS := Lib.hid (NS.out.later b); replace A0 := Lib.hid (A0.out.later b); replace B0 := Lib.hid (B0.out.later b); replace KA := Lib.hid (KA.out.later b); replace KD := Lib.hid (KD.out.later b); clear S1; clear S2; clear b; clear pSn; have pSn := fcells_3_3 Z0.out K0.out; clear pM2 pm2; have pM3 := True.intro)))
    | (go_at_call 23; (first
      | (have pm3 := pM3; refine (HPD _ a8 a9 c8 c9 X.out Y.out).mono ?_; rintro e wp4 ⟨a33, n33, c33, rfl, h33, b⟩; replace HB := Lib.hid (below_then HB.out b); replace Z0 := Lib.hid (blk_later Z0.out b); replace K0 := Lib.hid (blk_later K0.out b); replace X := Lib.hid (X.out.later b); replace Y := Lib.hid (Y.out.later b); replace MS := Lib.hid (MS.out.later b); replace NS := Lib.hid (NS.out.later b); replace A0 := Lib.hid (A0.out.later b); replace B0 := Lib.hid (B0.out.later b); replace KA := Lib.hid (KA.out.later b); replace KD := Lib.hid (KD.out.later b); have S3 := Lib.hid h33; clear h33; clear b; clear pSn; have pSn := fcells_3_3 Z0.out K0.out; clear pM3 pm3; have pM4 := True.intro)))
    | (go_at_call 24; (first
      | (have pm4 := pM4; refine (HRD _ _ _ _ _ _ _ MS.out NS.out).mono ?_; rintro e wp5 ⟨a34, n34, c34, rfl, h34, b⟩; replace HB := Lib.hid (below_then HB.out b); replace Z0 := Lib.hid (blk_later Z0.out b); replace K0 := Lib.hid (blk_later K0.out b); replace X := Lib.hid (X.out.later b); replace Y := Lib.hid (Y.out.later b); replace MS := Lib.hid (MS.out.later b); replace NS := Lib.hid (NS.out.later b); replace A0 := Lib.hid (A0.out.later b); replace B0 := Lib.hid (B0.out.later b); replace KA := Lib.hid (KA.out.later b); replace KD := Lib.hid (KD.out.later b); replace S3 := Lib.hid (S3.out.later b); have S4 := Lib.hid h34; clear h34; clear b; clear pSn; have pSn := fcells_3_3 Z0.out K0.out; clear pM4 pm4; have pM5 := True.intro)))
    | (go_at_call 25; (first
      | (have pm6 := pM6; refine (HPM _ a8 a9 c8 c9 X.out Y.out).mono ?_; rintro e wp7 ⟨a35, n35, c35, rfl, h35, b⟩; replace HB := Lib.hid (below_then HB.out b); replace Z0 := Lib.hid (blk_later Z0.out b); replace K0 := Lib.hid (blk_later K0.out b); replace X := Lib.hid (X.out.later b); replace Y := Lib.hid (Y.out.later b); replace MS := Lib.hid (MS.out.later b); replace NS := Lib.hid (NS.out.later b); replace A0 := Lib.hid (A0.out.later b); replace B0 := Lib.hid (B0.out.later b); replace KA := Lib.hid (KA.out.later b); replace KD := Lib.hid (KD.out.later b); have S5 := Lib.hid h35; clear h35; clear b; clear pSn; have pSn := fcells_3_3 Z0.out K0.out; clear pM6 pm6; have pM7 := True.intro)))
    | (go_at_call 26; (first
      | (have pm7 := pM7; refine (HRM _ _ _ _ _ _ _ MS.out NS.out).mono ?_; rintro e wp8 ⟨a36, n36, c36, rfl, h36, b⟩; replace HB := Lib.hid (below_then HB.out b); replace Z0 := Lib.hid (blk_later Z0.out b); replace K0 := Lib.hid (blk_later K0.out b); replace X := Lib.hid (X.out.later b); replace Y := Lib.hid (Y.out.later b); replace MS := Lib.hid (MS.out.later b); replace NS := Lib.hid (NS.out.later b); replace A0 := Lib.hid (A0.out.later b); replace B0 := Lib.hid (B0.out.later b); replace KA := Lib.hid (KA.out.later b); replace KD := Lib.hid (KD.out.later b); replace S5 := Lib.hid (S5.out.later b); have S6 := Lib.hid h36; clear h36; clear b; clear pSn; have pSn := fcells_3_3 Z0.out K0.out; clear pM7 pm7; have pM8 := True.intro)))
    | (go_at_call 27; (first
      | (have pm9 := pM9; refine (HPC _ a8 c8 X.out (HFR _ A0.out B0.out)).mono ?_; rintro e wp10 ⟨a37, n37, c37, rfl, h37, b⟩; replace HB := Lib.hid (below_then HB.out b); replace Z0 := Lib.hid (blk_later Z0.out b); replace K0 := Lib.hid (blk_later K0.out b); replace X := Lib.hid (X.out.later b); replace Y := Lib.hid (Y.out.later b); replace MS := Lib.hid (MS.out.later b); replace NS := Lib.hid (NS.out.later b); replace A0 := Lib.hid (A0.out.later b); replace B0 := Lib.hid (B0.out.later b); replace KA := Lib.hid (KA.out.later b); replace KD := Lib.hid (KD.out.later b); have S7 := Lib.hid h37; clear h37; clear b; clear pSn; have pSn := fcells_3_3 Z0.out K0.out; clear pM9 pm9; have pM10 := True.intro)))
    | (go_at_call 28; (first
      | (have pm10 := pM10; refine (HRC _ _ _ _ _ MS.out (Rt.of (q := k) KA.out KD.out hn7 hm7)).mono ?_; rintro e wp11 ⟨a38, n38, c38, rfl, h38, b⟩; replace HB := Lib.hid (below_then HB.out b); replace Z0 := Lib.hid (blk_later Z0.out b); replace K0 := Lib.hid (blk_later K0.out b); replace X := Lib.hid (X.out.later b); replace Y := Lib.hid (Y.out.later b); replace MS := Lib.hid (MS.out.later b); replace NS := Lib.hid (NS.out.later b); replace A0 := Lib.hid (A0.out.later b); replace B0 := Lib.hid (B0.out.later b); replace KA := Lib.hid (KA.out.later b); replace KD := Lib.hid (KD.out.later b); replace S7 := Lib.hid (S7.out.later b); have S8 := Lib.hid h38; clear h38; clear b; clear pSn; have pSn := fcells_3_3 Z0.out K0.out; clear pM10 pm10; have pM11 := True.intro)))
    | (go_at_call 7; (first
      | (have pm12 := pM12; refine (HW _).mono ?_; rintro e wp13 ⟨rfl, b⟩; replace HB := Lib.hid (below_then HB.out b); replace Z0 := Lib.hid (blk_later Z0.out b); replace K0 := Lib.hid (blk_later K0.out b); replace X := Lib.hid (X.out.later b); replace Y := Lib.hid (Y.out.later b); replace MS := Lib.hid (MS.out.later b); replace NS := Lib.hid (NS.out.later b); replace A0 := Lib.hid (A0.out.later b); replace B0 := Lib.hid (B0.out.later b); replace KA := Lib.hid (KA.out.later b); replace KD := Lib.hid (KD.out.later b); clear b; clear pSn; have pSn := fcells_3_3 Z0.out K0.out; clear pM12 pm12; have pM13 := True.intro))))
  go_wp2
  go_ret
  exact ⟨rfl, HB.out⟩
theorem law14_sums (S : PolySaid) (HW : ∀ w : World, Calls Tryz.prog 7 #[] w (Gives (.bool true) w)) (a : Option Addr) (n c : Nat) (L : List Fx) (az : Option Addr) (nz cz : Nat) (Lz : List Fx) (s0 : Bool) (a0 : Option Addr) (n0 c0 : Nat) (la0 : List Nat) (b0 : Option Addr) (m0 d0 : Nat) (lb0 : List Nat) (w : World) (h : Fxs w a n c L) (hz : Fxs w az nz cz Lz) (ha0 : Wd w a0 n0 c0 la0) (hb0 : Wd w b0 m0 d0 lb0) : Calls Tryz.prog 3 #[.slice a n c, .slice az nz cz, frV s0 a0 n0 c0 b0 m0 d0] w (Gives (.bool true) w) := by
  by_cases hb : ((n : Int) ≤ 10 ∧ thinI 4 L)
  · by_cases hbz : ((nz : Int) ≤ 10 ∧ thinI 4 Lz)
    · by_cases hk : 4 < n0 ∨ 4 < m0
      · exact law14_sums_longc HW a n c L az nz cz Lz s0 a0 n0 c0 b0 m0 d0 w h hz hb hbz hk
      · exact law14_sums_main S HW a n c L az nz cz Lz s0 a0 n0 c0 la0 b0 m0 d0 lb0 w h hz ha0 hb0 hb hbz (by omega) (by omega)
    · exact law14_sums_longb HW a n c L az nz cz Lz s0 a0 n0 c0 b0 m0 d0 w h hz hb hbz
  · exact law14_sums_longa HW a n c L az nz cz Lz s0 a0 n0 c0 b0 m0 d0 w h hz hb
end Go.Proofs.YtipcgehcineblaaGreat
