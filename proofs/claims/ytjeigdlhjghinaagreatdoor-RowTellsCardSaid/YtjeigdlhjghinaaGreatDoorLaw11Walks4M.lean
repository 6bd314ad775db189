/-
  The walks of the laws of layer 11: RowTells.
-/
import Derived.Test.YtjeigdlhjghinaaGreatDoorG24
import Derived.Test.YtjeigdlhjghinaaGreatDoorLaw11IsM
import Derived.Test.YtjeigdlhjghinaaGreatDoorRowLenM
import Derived.Test.YtjeigdlhjghinaaGreatDoorRef11fM
import Derived.Deep.RegionHeld3
namespace Go.Proofs.YtjeigdlhjghinaaGreatDoor
open Go.RowKit

set_option maxRecDepth 4096 in
set_option maxHeartbeats 16000000 in
theorem law11_tells_longa (S : RowSaid) (FS : FracSaid) (a : Option Addr) (n c : Nat) (L : List Fx) (az : Option Addr) (nz cz : Nat) (Lz : List Fx) (x y : Int) (w : World) (h : Fxs w a n c L) (hz : Fxs w az nz cz Lz) (_hx : isInt x) (_hy : isInt y) (hT : Hid (Dec10 w)) (hb : ¬ ((n : Int) ≤ 12 ∧ thinI 6 L)) : Calls Tryz.prog 3 #[.slice a n c, .slice az nz cz, .agg #[.int .i64 x, .int .i64 y]] w (Gives (.bool true) w) := by
  have HB := Lib.hid (below_alloc w (.cells #[.int .i64 x, .int .i64 y] 23))
  have X0 := Lib.hid (blk_new w #[.int .i64 x, .int .i64 y] 23)
  have HNB := Lib.hid hb
  have HF := Lib.hid h
  have HFz := Lib.hid hz
  replace HF := Lib.hid (HF.out.later HB.out)
  replace HFz := Lib.hid (HFz.out.later HB.out)
  clear h hz hb
  go_enter Tryz.func3, Tryz.ntmps3
  obtain ⟨vk0, vk1⟩ := fcells_2 X0.out
  go_wp2_with fail
  refine (ref11_long a n c L 12 6 true _ HF.out (by decide) (Lib.hid ⟨fun _ => HNB.out, fun _ => rfl⟩)).mono ?_
  rintro e wv1 ⟨rfl, b⟩
  clear vk0 vk1
  replace HB := Lib.hid (below_then HB.out b)
  replace X0 := Lib.hid (blk_later X0.out b)
  replace HF := Lib.hid (HF.out.later b)
  replace HFz := Lib.hid (HFz.out.later b)
  clear b
  obtain ⟨vk0, vk1⟩ := fcells_2 X0.out
  go_wp2_with fail
  refine (law11_works S FS _ (Lib.hid (hT.out.later HB.out))).mono ?_
  rintro e wv2 ⟨rfl, b⟩
  clear vk0 vk1
  replace HB := Lib.hid (below_then HB.out b)
  replace X0 := Lib.hid (blk_later X0.out b)
  replace HF := Lib.hid (HF.out.later b)
  replace HFz := Lib.hid (HFz.out.later b)
  clear b
  go_wp2
  go_ret
  exact ⟨rfl, HB.out⟩
set_option maxRecDepth 4096 in
set_option maxHeartbeats 16000000 in
theorem law11_tells_longb (S : RowSaid) (FS : FracSaid) (a : Option Addr) (n c : Nat) (L : List Fx) (az : Option Addr) (nz cz : Nat) (Lz : List Fx) (x y : Int) (w : World) (h : Fxs w a n c L) (hz : Fxs w az nz cz Lz) (_hx : isInt x) (_hy : isInt y) (hT : Hid (Dec10 w)) (hb : (n : Int) ≤ 12 ∧ thinI 6 L) (hbz : ¬ ((nz : Int) ≤ 12 ∧ thinI 6 Lz)) : Calls Tryz.prog 3 #[.slice a n c, .slice az nz cz, .agg #[.int .i64 x, .int .i64 y]] w (Gives (.bool true) w) := by
  have HB := Lib.hid (below_alloc w (.cells #[.int .i64 x, .int .i64 y] 23))
  have X0 := Lib.hid (blk_new w #[.int .i64 x, .int .i64 y] 23)
  have HNB := Lib.hid hb
  have HF := Lib.hid h
  have HFz := Lib.hid hz
  have HNBz := Lib.hid hbz
  replace HF := Lib.hid (HF.out.later HB.out)
  replace HFz := Lib.hid (HFz.out.later HB.out)
  clear h hz hb hbz
  go_enter Tryz.func3, Tryz.ntmps3
  obtain ⟨vk0, vk1⟩ := fcells_2 X0.out
  go_wp2_with fail
  refine (ref11_long a n c L 12 6 false _ HF.out (by decide) (Lib.hid ⟨fun h => absurd h (by decide), fun h => absurd HNB.out h⟩)).mono ?_
  rintro e wv1 ⟨rfl, b⟩
  clear vk0 vk1
  replace HB := Lib.hid (below_then HB.out b)
  replace X0 := Lib.hid (blk_later X0.out b)
  replace HF := Lib.hid (HF.out.later b)
  replace HFz := Lib.hid (HFz.out.later b)
  clear b
  obtain ⟨vk0, vk1⟩ := fcells_2 X0.out
  go_wp2_with fail
  refine (ref11_long az nz cz Lz 12 6 true _ HFz.out (by decide) (Lib.hid ⟨fun _ => HNBz.out, fun _ => rfl⟩)).mono ?_
  rintro e wv2 ⟨rfl, b⟩
  clear vk0 vk1
  replace HB := Lib.hid (below_then HB.out b)
  replace X0 := Lib.hid (blk_later X0.out b)
  replace HF := Lib.hid (HF.out.later b)
  replace HFz := Lib.hid (HFz.out.later b)
  clear b
  obtain ⟨vk0, vk1⟩ := fcells_2 X0.out
  go_wp2_with fail
  refine (law11_works S FS _ (Lib.hid (hT.out.later HB.out))).mono ?_
  rintro e wv3 ⟨rfl, b⟩
  clear vk0 vk1
  replace HB := Lib.hid (below_then HB.out b)
  replace X0 := Lib.hid (blk_later X0.out b)
  replace HF := Lib.hid (HF.out.later b)
  replace HFz := Lib.hid (HFz.out.later b)
  clear b
  go_wp2
  go_ret
  exact ⟨rfl, HB.out⟩
set_option maxRecDepth 4096 in
set_option maxHeartbeats 16000000 in
theorem law11_tells_short (S : RowSaid) (FS : FracSaid) (a : Option Addr) (n c : Nat) (L : List Fx) (az : Option Addr) (nz cz : Nat) (Lz : List Fx) (x y : Int) (w : World) (h : Fxs w a n c L) (hz : Fxs w az nz cz Lz) (hx : isInt x) (hy : isInt y) (hT : Hid (Dec10 w)) (hb : (n : Int) ≤ 12 ∧ thinI 6 L) (hbz : (nz : Int) ≤ 12 ∧ thinI 6 Lz) : Calls Tryz.prog 3 #[.slice a n c, .slice az nz cz, .agg #[.int .i64 x, .int .i64 y]] w (Gives (.bool true) w) := by
  have HB := Lib.hid (below_alloc w (.cells #[.int .i64 x, .int .i64 y] 23))
  have X0 := Lib.hid (blk_new w #[.int .i64 x, .int .i64 y] 23)
  have HNB := Lib.hid hb
  have hn : n ≤ 12 := by have := hb.1; omega
  have hth : thin 6 L := thinI.out (N := 6) hb.2
  have hq : ∀ q ∈ fqs L, qlen q ≤ 7 := fun q hq => by
    obtain ⟨x, hx, rfl⟩ := List.mem_map.1 hq
    exact ((h.ok hx).fr (hth x hx).1 (hth x hx).2).len
  have hlq : (fqs L).length = n := (fqs_length L).trans h.len
  have HTH := Lib.hid hth
  have HQ := Lib.hid hq
  have HLQ := Lib.hid hlq
  have HF := Lib.hid h
  have HNBz := Lib.hid hbz
  have hnz : nz ≤ 12 := by have := hbz.1; omega
  have hthz : thin 6 Lz := thinI.out (N := 6) hbz.2
  have hqz : ∀ q ∈ fqs Lz, qlen q ≤ 7 := fun q hq => by
    obtain ⟨x, hx, rfl⟩ := List.mem_map.1 hq
    exact ((hz.ok hx).fr (hthz x hx).1 (hthz x hx).2).len
  have hlqz : (fqs Lz).length = nz := (fqs_length Lz).trans hz.len
  have HTHz := Lib.hid hthz
  have HQz := Lib.hid hqz
  have HLQz := Lib.hid hlqz
  have HFz := Lib.hid hz
  have HX := Lib.hid hx
  have HY := Lib.hid hy
  obtain ⟨Z, hZ⟩ : ∃ Z : List Rat, List.replicate (rcut x) 0 = Z := ⟨_, rfl⟩
  obtain ⟨U, hU⟩ : ∃ U : List Rat, runit (rcut x) y = U := ⟨_, rfl⟩
  have HZC : Hid (Z.length ≤ 1000) := Lib.hid (by rw [← hZ, List.length_replicate]; exact Nat.le_trans (rcut_most x) (by decide))
  have HUC : Hid (U.length ≤ 1000) := Lib.hid (by rw [← hU, runit_length]; exact Nat.le_trans (rcut_most x) (by decide))
  have HZL : Hid (∀ q ∈ Z, qlen q ≤ 15000) := Lib.hid (fun q hq => Nat.le_trans (qlen_reps _ q (by rw [hZ]; exact hq)) (by decide))
  have HUL : Hid (∀ q ∈ U, qlen q ≤ 15000) := Lib.hid (fun q hq => Nat.le_trans (qlen_runit _ _ q (by rw [hU]; exact hq)) (by decide))
  have HZ1 : ∀ w' : World, Calls Tryz.prog 13 #[.int .i64 x] w' (LstRw Z w') := fun w' => hZ ▸ S.zero x w' HX.out
  have HZ2 : ∀ w' : World, Calls Tryz.prog 14 #[.int .i64 x] w' (LstRw Z w') := fun w' => hZ ▸ ref11_zero x w'
  have HU1 : ∀ w' : World, Calls Tryz.prog 15 #[.int .i64 x, .int .i64 y] w' (LstRw U w') := fun w' => hU ▸ S.unit x y w' HX.out HY.out
  have HU2 : ∀ w' : World, Calls Tryz.prog 16 #[.int .i64 x, .int .i64 y] w' (LstRw U w') := fun w' => hU ▸ ref11_unit x y w'
  obtain ⟨qs, hqs⟩ : ∃ qs, fqs L = qs := ⟨_, rfl⟩
  obtain ⟨rs, hrs⟩ : ∃ rs, fqs Lz = rs := ⟨_, rfl⟩
  obtain ⟨r, hr⟩ : ∃ r, decide (qs = rs) = r := ⟨_, rfl⟩
  obtain ⟨q, hq9⟩ : ∃ q, rnorm qs = q := ⟨_, rfl⟩
  obtain ⟨sz, hsz⟩ : ∃ sz, rsizeFrom 0 L = sz := ⟨_, rfl⟩
  have HN1 : ∀ (w' : World), Fxs w' a n c L → Calls Tryz.prog 11 #[.slice a n c] w' (LstRw qs w') := fun w' h1 => hqs ▸ ref11_norms a n c L w' h1 (by omega) (HTH.out.mono (by decide))
  have HN2 : ∀ (w' : World), Fxs w' az nz cz Lz → Calls Tryz.prog 11 #[.slice az nz cz] w' (LstRw rs w') := fun w' h1 => hrs ▸ ref11_norms az nz cz Lz w' h1 (by omega) (HTHz.out.mono (by decide))
  have HS1 : ∀ (w' : World) (a1 : Option Addr) (c1 : Nat) (a2 : Option Addr) (c2 : Nat), Fxs w' a1 n c1 L → Fxs w' a2 nz c2 Lz → Calls Tryz.prog 17 #[.slice a1 n c1, .slice a2 nz c2] w' (Gives (.bool r) w') := fun w' a1 c1 a2 c2 h1 h2 => by
    have h9 := S.same a1 n c1 L a2 nz c2 Lz w' h1 h2 (by omega) (by omega) (HTH.out.mono (by decide)) (HTHz.out.mono (by decide))
    rw [hqs, hrs, hr] at h9
    exact h9
  have HS2 : ∀ (w' : World) (a1 : Option Addr) (n1 c1 : Nat) (a2 : Option Addr) (n2 c2 : Nat), Rw w' a1 n1 c1 qs → Rw w' a2 n2 c2 rs → Calls Tryz.prog 19 #[.slice a1 n1 c1, .slice a2 n2 c2] w' (Gives (.bool r) w') := fun w' a1 n1 c1 a2 n2 c2 h1 h2 => by
    have h9 := ref11_same a1 n1 c1 qs a2 n2 c2 rs w' h1 h2 (by have := h1.len; have := HLQ.out; rw [hqs] at this; omega) (fun q hq => Nat.le_trans (HQ.out q (hqs ▸ hq)) (by decide)) (fun q hq => Nat.le_trans (HQz.out q (hrs ▸ hq)) (by decide))
    rw [hr] at h9
    exact h9
  have HM1 : ∀ (w' : World) (a1 : Option Addr) (c1 : Nat), Fxs w' a1 n c1 L → Calls Tryz.prog 21 #[.slice a1 n c1] w' (LstQ q w') := fun w' a1 c1 h1 => by
    have h9 := S.norm a1 n c1 L w' h1 (by omega) (HTH.out.mono (by decide))
    rw [hqs, hq9] at h9
    exact h9
  have HM2 : ∀ (w' : World) (a1 : Option Addr) (n1 c1 : Nat), Rw w' a1 n1 c1 qs → Calls Tryz.prog 22 #[.slice a1 n1 c1] w' (LstQ q w') := fun w' a1 n1 c1 h1 => by
    have h9 := ref11_max a1 n1 c1 qs w' h1 (by have := h1.len; have := HLQ.out; rw [hqs] at this; omega) (fun q hq => Nat.le_trans (HQ.out q (hqs ▸ hq)) (by decide))
    rw [hq9] at h9
    exact h9
  have HG1 : ∀ (w' : World) (a1 : Option Addr) (c1 : Nat), Fxs w' a1 n c1 L → Calls Tryz.prog 23 #[.slice a1 n c1] w' (Gives (.int .i64 (sz : Int)) w') := fun w' a1 c1 h1 => hsz ▸ S.size a1 n c1 L w' h1 (by omega) (HTH.out.mono (by decide))
  have HG2 : ∀ (w' : World), Fxs w' a n c L → Calls Tryz.prog 24 #[.slice a n c] w' (Gives (.int .i64 (sz : Int)) w') := fun w' h1 => hsz ▸ law11_size a n c L w' h1 (HTH.out.mono (by decide))
  have b1 := beq_same r
  have b2 : ((sz : Int) == (sz : Int)) = true := by simp
  clear hZ hU hqs hrs hr hq9 hsz hx hy
  replace HF := Lib.hid (HF.out.later HB.out)
  replace HFz := Lib.hid (HFz.out.later HB.out)
  clear h hb hlq hth hq
  clear hz hbz hlqz hthz hqz
  go_enter Tryz.func3, Tryz.ntmps3
  obtain ⟨vk0, vk1⟩ := fcells_2 X0.out
  go_wp2_with fail
  refine (ref11_long a n c L 12 6 false _ HF.out (by decide) (Lib.hid ⟨fun h => absurd h (by decide), fun h => absurd HNB.out h⟩)).mono ?_
  rintro e wv1 ⟨rfl, b⟩
  clear vk0 vk1
  replace HB := Lib.hid (below_then HB.out b)
  replace X0 := Lib.hid (blk_later X0.out b)
  replace HF := Lib.hid (HF.out.later b)
  replace HFz := Lib.hid (HFz.out.later b)
  clear b
  obtain ⟨vk0, vk1⟩ := fcells_2 X0.out
  go_wp2_with fail
  refine (ref11_long az nz cz Lz 12 6 false _ HFz.out (by decide) (Lib.hid ⟨fun h => absurd h (by decide), fun h => absurd HNBz.out h⟩)).mono ?_
  rintro e wv2 ⟨rfl, b⟩
  clear vk0 vk1
  replace HB := Lib.hid (below_then HB.out b)
  replace X0 := Lib.hid (blk_later X0.out b)
  replace HF := Lib.hid (HF.out.later b)
  replace HFz := Lib.hid (HFz.out.later b)
  clear b
  obtain ⟨vk0, vk1⟩ := fcells_2 X0.out
  go_wp2_with fail
  refine (HN1 _ HF.out).mono ?_
  rintro e wv3 ⟨a3, n3, c3, rfl, h3, b⟩
  clear vk0 vk1
  replace HB := Lib.hid (below_then HB.out b)
  replace X0 := Lib.hid (blk_later X0.out b)
  replace HF := Lib.hid (HF.out.later b)
  replace HFz := Lib.hid (HFz.out.later b)
  clear b
  have R3 := Lib.hid h3
  clear h3
  obtain ⟨vk0, vk1⟩ := fcells_2 X0.out
  go_wp2_with fail
  refine (HN2 _ HFz.out).mono ?_
  rintro e wv4 ⟨a4, n4, c4, rfl, h4, b⟩
  clear vk0 vk1
  replace HB := Lib.hid (below_then HB.out b)
  replace X0 := Lib.hid (blk_later X0.out b)
  replace HF := Lib.hid (HF.out.later b)
  replace HFz := Lib.hid (HFz.out.later b)
  replace R3 := Lib.hid (R3.out.later b)
  clear b
  have R4 := Lib.hid h4
  clear h4
  go_wp2
  generalize wv4 = W at *
  replace HB := Lib.hid (below_then HB.out ((Below.refl _ _).drew : Below W.heap.size W W.drew))
  replace X0 : Hid (W.drew.heap[w.heap.size]? = _) := Lib.hid X0.out
  replace HF := Lib.hid (HF.out.later ((Below.refl _ _).drew : Below W.heap.size W W.drew))
  replace HFz := Lib.hid (HFz.out.later ((Below.refl _ _).drew : Below W.heap.size W W.drew))
  replace R3 := Lib.hid (R3.out.later ((Below.refl _ _).drew : Below W.heap.size W W.drew))
  replace R4 := Lib.hid (R4.out.later ((Below.refl _ _).drew : Below W.heap.size W W.drew))
  have pSn := fcells_2 X0.out
  go_region_held3 (fun w' => w'.cell? ⟨w.heap.size, 0, none⟩ = some (.int .i64 x) ∧ w'.cell? ⟨w.heap.size, 1, none⟩ = some (.int .i64 y)) (exact pSn)
    (first
    | (go_at_call 13; (first
      | (refine (HZ1 _).mono ?_; rintro e wp1 ⟨a5, n5, c5, rfl, h5, b⟩; replace HB := Lib.hid (below_then HB.out b); replace X0 := Lib.hid (blk_later X0.out b); replace HF := Lib.hid (HF.out.later b); replace HFz := Lib.hid (HFz.out.later b); replace R3 := Lib.hid (R3.out.later b); replace R4 := Lib.hid (R4.out.later b); have R5 := Lib.hid h5; clear h5; clear b; clear pSn; have pSn := fcells_2 X0.out; have pM1 := True.intro)))
    | (go_at_call 14; (first
      | (have pm1 := pM1; refine (HZ2 _).mono ?_; rintro e wp2 ⟨a6, n6, c6, rfl, h6, b⟩; replace HB := Lib.hid (below_then HB.out b); replace X0 := Lib.hid (blk_later X0.out b); replace HF := Lib.hid (HF.out.later b); replace HFz := Lib.hid (HFz.out.later b); replace R3 := Lib.hid (R3.out.later b); replace R4 := Lib.hid (R4.out.later b); replace R5 := Lib.hid (R5.out.later b); have R6 := Lib.hid h6; clear h6; clear b; clear pSn; have pSn := fcells_2 X0.out; clear pM1 pm1; have pM2 := True.intro)))
    | (go_at_call 12; (first
      | (have pm5 := pM5; refine (law11_is_yes a8 n8 c8 a9 n9 c9 U _ R8.out R9.out HUC.out HUL.out).mono ?_; rintro e wp6 ⟨rfl, b⟩; replace HB := Lib.hid (below_then HB.out b); replace X0 := Lib.hid (blk_later X0.out b); replace HF := Lib.hid (HF.out.later b); replace HFz := Lib.hid (HFz.out.later b); replace R3 := Lib.hid (R3.out.later b); replace R4 := Lib.hid (R4.out.later b); clear R8; clear R9; clear b; clear pSn; have pSn := fcells_2 X0.out; clear pM5 pm5; have pM6 := True.intro)
      | (have pm2 := pM2; refine (law11_is_yes a5 n5 c5 a6 n6 c6 Z _ R5.out R6.out HZC.out HZL.out).mono ?_; rintro e wp3 ⟨rfl, b⟩; replace HB := Lib.hid (below_then HB.out b); replace X0 := Lib.hid (blk_later X0.out b); replace HF := Lib.hid (HF.out.later b); replace HFz := Lib.hid (HFz.out.later b); replace R3 := Lib.hid (R3.out.later b); replace R4 := Lib.hid (R4.out.later b); clear R5; clear R6; clear b; clear pSn; have pSn := fcells_2 X0.out; clear pM2 pm2; have pM3 := True.intro)))
    | (go_at_call 15; (first
      | (have pm3 := pM3; refine (HU1 _).mono ?_; rintro e wp4 ⟨a8, n8, c8, rfl, h8, b⟩; replace HB := Lib.hid (below_then HB.out b); replace X0 := Lib.hid (blk_later X0.out b); replace HF := Lib.hid (HF.out.later b); replace HFz := Lib.hid (HFz.out.later b); replace R3 := Lib.hid (R3.out.later b); replace R4 := Lib.hid (R4.out.later b); have R8 := Lib.hid h8; clear h8; clear b; clear pSn; have pSn := fcells_2 X0.out; clear pM3 pm3; have pM4 := True.intro)))
    | (go_at_call 16; (first
      | (have pm4 := pM4; refine (HU2 _).mono ?_; rintro e wp5 ⟨a9, n9, c9, rfl, h9, b⟩; replace HB := Lib.hid (below_then HB.out b); replace X0 := Lib.hid (blk_later X0.out b); replace HF := Lib.hid (HF.out.later b); replace HFz := Lib.hid (HFz.out.later b); replace R3 := Lib.hid (R3.out.later b); replace R4 := Lib.hid (R4.out.later b); replace R8 := Lib.hid (R8.out.later b); have R9 := Lib.hid h9; clear h9; clear b; clear pSn; have pSn := fcells_2 X0.out; clear pM4 pm4; have pM5 := True.intro)))
    | (go_at_call 18; (first
      | (have pm14 := pM14; refine (law11_to a n c L _ HF.out (by omega)).mono ?_; rintro e wp15 ⟨a19, c19, rfl, h19, b⟩; replace HB := Lib.hid (below_then HB.out b); replace X0 := Lib.hid (blk_later X0.out b); replace HF := Lib.hid (HF.out.later b); replace HFz := Lib.hid (HFz.out.later b); replace R3 := Lib.hid (R3.out.later b); replace R4 := Lib.hid (R4.out.later b); have R19 := Lib.hid h19; clear h19; clear b; clear pSn; have pSn := fcells_2 X0.out; clear pM14 pm14; have pM15 := True.intro)
      | (have pm10 := pM10; refine (law11_to a n c L _ HF.out (by omega)).mono ?_; rintro e wp11 ⟨a15, c15, rfl, h15, b⟩; replace HB := Lib.hid (below_then HB.out b); replace X0 := Lib.hid (blk_later X0.out b); replace HF := Lib.hid (HF.out.later b); replace HFz := Lib.hid (HFz.out.later b); replace R3 := Lib.hid (R3.out.later b); replace R4 := Lib.hid (R4.out.later b); have R15 := Lib.hid h15; clear h15; clear b; clear pSn; have pSn := fcells_2 X0.out; clear pM10 pm10; have pM11 := True.intro)
      | (have pm7 := pM7; refine (law11_to az nz cz Lz _ HFz.out (by omega)).mono ?_; rintro e wp8 ⟨a12, c12, rfl, h12, b⟩; replace HB := Lib.hid (below_then HB.out b); replace X0 := Lib.hid (blk_later X0.out b); replace HF := Lib.hid (HF.out.later b); replace HFz := Lib.hid (HFz.out.later b); replace R3 := Lib.hid (R3.out.later b); replace R4 := Lib.hid (R4.out.later b); replace R11 := Lib.hid (R11.out.later b); have R12 := Lib.hid h12; clear h12; clear b; clear pSn; have pSn := fcells_2 X0.out; clear pM7 pm7; have pM8 := True.intro)
      | (have pm6 := pM6; refine (law11_to a n c L _ HF.out (by omega)).mono ?_; rintro e wp7 ⟨a11, c11, rfl, h11, b⟩; replace HB := Lib.hid (below_then HB.out b); replace X0 := Lib.hid (blk_later X0.out b); replace HF := Lib.hid (HF.out.later b); replace HFz := Lib.hid (HFz.out.later b); replace R3 := Lib.hid (R3.out.later b); replace R4 := Lib.hid (R4.out.later b); have R11 := Lib.hid h11; clear h11; clear b; clear pSn; have pSn := fcells_2 X0.out; clear pM6 pm6; have pM7 := True.intro)))
    | (go_at_call 17; (first
      | (have pm8 := pM8; refine (HS1 _ a11 c11 a12 c12 R11.out R12.out).mono ?_; rintro e wp9 ⟨rfl, b⟩; replace HB := Lib.hid (below_then HB.out b); replace X0 := Lib.hid (blk_later X0.out b); replace HF := Lib.hid (HF.out.later b); replace HFz := Lib.hid (HFz.out.later b); replace R3 := Lib.hid (R3.out.later b); replace R4 := Lib.hid (R4.out.later b); clear R11; clear R12; clear b; clear pSn; have pSn := fcells_2 X0.out; clear pM8 pm8; have pM9 := True.intro)))
    | (go_at_call 19; (first
      | (have pm9 := pM9; refine (HS2 _ a3 n3 c3 a4 n4 c4 R3.out R4.out).mono ?_; rintro e wp10 ⟨rfl, b⟩; replace HB := Lib.hid (below_then HB.out b); replace X0 := Lib.hid (blk_later X0.out b); replace HF := Lib.hid (HF.out.later b); replace HFz := Lib.hid (HFz.out.later b); replace R3 := Lib.hid (R3.out.later b); replace R4 := Lib.hid (R4.out.later b); clear b; clear pSn; have pSn := fcells_2 X0.out; clear pM9 pm9; have pM10 := True.intro)))
    | (go_at_call 21; (first
      | (have pm11 := pM11; refine (HM1 _ a15 c15 R15.out).mono ?_; rintro e wp12 ⟨a16, n16, c16, b16, m16, d16, rfl, h16, g16, b⟩; replace HB := Lib.hid (below_then HB.out b); replace X0 := Lib.hid (blk_later X0.out b); replace HF := Lib.hid (HF.out.later b); replace HFz := Lib.hid (HFz.out.later b); replace R3 := Lib.hid (R3.out.later b); replace R4 := Lib.hid (R4.out.later b); clear R15; have R16 := Lib.hid h16; have T16 := Lib.hid g16; clear h16 g16; clear b; clear pSn; have pSn := fcells_2 X0.out; clear pM11 pm11; have pM12 := True.intro)))
    | (go_at_call 22; (first
      | (have pm12 := pM12; refine (HM2 _ a3 n3 c3 R3.out).mono ?_; rintro e wp13 ⟨a17, n17, c17, b17, m17, d17, rfl, h17, g17, b⟩; replace HB := Lib.hid (below_then HB.out b); replace X0 := Lib.hid (blk_later X0.out b); replace HF := Lib.hid (HF.out.later b); replace HFz := Lib.hid (HFz.out.later b); replace R3 := Lib.hid (R3.out.later b); replace R4 := Lib.hid (R4.out.later b); replace R16 := Lib.hid (R16.out.later b); replace T16 := Lib.hid (T16.out.later b); have R17 := Lib.hid h17; have T17 := Lib.hid g17; clear h17 g17; clear b; clear pSn; have pSn := fcells_2 X0.out; clear pM12 pm12; have pM13 := True.intro)))
    | (go_at_call 20; (first
      | (have pm13 := pM13; refine (law09_is_yes (zneg q.num) a16 n16 c16 b16 m16 d16 (dg q.num.natAbs) (dg q.den) a17 n17 c17 b17 m17 d17 _ R16.out T16.out R17.out T17.out).mono ?_; rintro e wp14 ⟨rfl, b⟩; replace HB := Lib.hid (below_then HB.out b); replace X0 := Lib.hid (blk_later X0.out b); replace HF := Lib.hid (HF.out.later b); replace HFz := Lib.hid (HFz.out.later b); replace R3 := Lib.hid (R3.out.later b); replace R4 := Lib.hid (R4.out.later b); clear R16; clear T16; clear R17; clear T17; clear b; clear pSn; have pSn := fcells_2 X0.out; clear pM13 pm13; have pM14 := True.intro)))
    | (go_at_call 23; (first
      | (have pm15 := pM15; refine (HG1 _ a19 c19 R19.out).mono ?_; rintro e wp16 ⟨rfl, b⟩; replace HB := Lib.hid (below_then HB.out b); replace X0 := Lib.hid (blk_later X0.out b); replace HF := Lib.hid (HF.out.later b); replace HFz := Lib.hid (HFz.out.later b); replace R3 := Lib.hid (R3.out.later b); replace R4 := Lib.hid (R4.out.later b); clear R19; clear b; clear pSn; have pSn := fcells_2 X0.out; clear pM15 pm15; have pM16 := True.intro)))
    | (go_at_call 24; (first
      | (have pm16 := pM16; refine (HG2 _ HF.out).mono ?_; rintro e wp17 ⟨rfl, b⟩; replace HB := Lib.hid (below_then HB.out b); replace X0 := Lib.hid (blk_later X0.out b); replace HF := Lib.hid (HF.out.later b); replace HFz := Lib.hid (HFz.out.later b); replace R3 := Lib.hid (R3.out.later b); replace R4 := Lib.hid (R4.out.later b); clear b; clear pSn; have pSn := fcells_2 X0.out; clear pM16 pm16; have pM17 := True.intro)))
    | (go_at_call 10; (first
      | (have pm17 := pM17; refine (law11_works S FS _ (Lib.hid (hT.out.later HB.out))).mono ?_; rintro e wp18 ⟨rfl, b⟩; replace HB := Lib.hid (below_then HB.out b); replace X0 := Lib.hid (blk_later X0.out b); replace HF := Lib.hid (HF.out.later b); replace HFz := Lib.hid (HFz.out.later b); replace R3 := Lib.hid (R3.out.later b); replace R4 := Lib.hid (R4.out.later b); clear b; clear pSn; have pSn := fcells_2 X0.out; clear pM17 pm17; have pM18 := True.intro))))
  go_wp2
  go_ret
  exact ⟨rfl, HB.out⟩
theorem law11_tells (S : RowSaid) (FS : FracSaid) (a : Option Addr) (n c : Nat) (L : List Fx) (az : Option Addr) (nz cz : Nat) (Lz : List Fx) (x y : Int) (w : World) (h : Fxs w a n c L) (hz : Fxs w az nz cz Lz) (hx : isInt x) (hy : isInt y) (hT : Hid (Dec10 w)) : Calls Tryz.prog 3 #[.slice a n c, .slice az nz cz, .agg #[.int .i64 x, .int .i64 y]] w (Gives (.bool true) w) := by
  by_cases hb : (n : Int) ≤ 12 ∧ thinI 6 L
  · by_cases hbz : (nz : Int) ≤ 12 ∧ thinI 6 Lz
    · exact law11_tells_short S FS a n c L az nz cz Lz x y w h hz hx hy hT hb hbz
    · exact law11_tells_longb S FS a n c L az nz cz Lz x y w h hz hx hy hT hb hbz
  · exact law11_tells_longa S FS a n c L az nz cz Lz x y w h hz hx hy hT hb
end Go.Proofs.YtjeigdlhjghinaaGreatDoor
