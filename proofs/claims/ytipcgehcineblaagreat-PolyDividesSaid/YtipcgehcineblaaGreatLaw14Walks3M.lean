/-
  The walks of the laws of layer 14: PolyDivides.
-/
import Derived.Test.YtipcgehcineblaaGreatG22
import Derived.Test.YtipcgehcineblaaGreatRef11bM
import Derived.Test.YtipcgehcineblaaGreatG16
import Derived.Test.YtipcgehcineblaaGreatG17
import Derived.Test.YtipcgehcineblaaGreatLaw11IsM
import Derived.Test.YtipcgehcineblaaGreatRef14cM
import Derived.Test.YtipcgehcineblaaGreatRef14hM
namespace Go.Proofs.YtipcgehcineblaaGreat
open Go.RowKit

theorem gcd14_one {A B A' B' g k : List Rat} (h : isGcd A B g) (hh : isGcd A' B' k) (ha : peq A' A) (hb : peq B' B) (hg : pnorm g = g) (hk : pnorm k = k) : k = g := by
  have h9 : isGcd A B k := ⟨hh.1.of ha hb (peq.refl k), hh.2⟩
  rw [← hk, ← hg]
  exact pnorm_congr (h9.same h)
theorem div14_one {A B A' B' q r s t : List Rat} (h : isDiv A B q r) (k : isDiv A' B' s t) (ha : peq A' A) (hb : peq B' B) (h1 : pnorm q = q) (h2 : pnorm r = r) (k1 : pnorm s = s) (k2 : pnorm t = t) : q = s ∧ r = t := by
  obtain ⟨g1, g2⟩ := h.same (k.of ha hb (peq.refl s) (peq.refl t))
  constructor
  · rw [← h1, ← k1]; exact pnorm_congr g1
  · rw [← h2, ← k2]; exact pnorm_congr g2
theorem gcd14_len {A B g : List Rat} (h : isGcd A B g) (hg : pnorm g = g) (ha : A.length ≤ 7) (hb : B.length ≤ 7) : g.length ≤ 1000 := by
  have h1 := gcd_plen h
  have h2 := plen_le_length A
  have h3 := plen_le_length B
  rw [plen_right hg] at h1
  omega
theorem pow14_le {k K c B : Nat} (h : k ≤ K) (hB : 2 ^ K * c ≤ B) : 2 ^ k * c ≤ B := Nat.le_trans (Nat.mul_le_mul_right c (Nat.pow_le_pow_right (by decide) h)) hB
set_option maxRecDepth 4096 in
set_option maxHeartbeats 16000000 in
theorem law14_divides_longa (HW : ∀ w : World, Calls Tryz.prog 7 #[] w (Gives (.bool true) w)) (a : Option Addr) (n c : Nat) (L : List Fx) (az : Option Addr) (nz cz : Nat) (Lz : List Fx) (w : World) (h : Fxs w a n c L) (_hz : Fxs w az nz cz Lz) (hb : ¬ ((n : Int) ≤ 7 ∧ thinI 2 L)) : Calls Tryz.prog 4 #[.slice a n c, .slice az nz cz] w (Gives (.bool true) w) := by
  have HB : Hid (Below w.heap.size w w) := Lib.hid (Below.refl _ _)
  have HNB := Lib.hid hb
  have HF := Lib.hid h
  clear h hb
  go_enter Tryz.func4, Tryz.ntmps4
  go_wp2_with fail
  refine (ref11_long a n c L 7 2 true _ HF.out (by decide) (Lib.hid ⟨fun _ => HNB.out, fun _ => rfl⟩)).mono ?_
  rintro e wv1 ⟨rfl, b⟩
  replace HB := Lib.hid (below_then HB.out b)
  replace HF := Lib.hid (HF.out.later b)
  clear b
  go_wp2_with fail
  refine (HW _).mono ?_
  rintro e wv2 ⟨rfl, b⟩
  replace HB := Lib.hid (below_then HB.out b)
  replace HF := Lib.hid (HF.out.later b)
  clear b
  go_wp2
  go_ret
  exact ⟨rfl, HB.out⟩
set_option maxRecDepth 4096 in
set_option maxHeartbeats 16000000 in
theorem law14_divides_longb (HW : ∀ w : World, Calls Tryz.prog 7 #[] w (Gives (.bool true) w)) (a : Option Addr) (n c : Nat) (L : List Fx) (az : Option Addr) (nz cz : Nat) (Lz : List Fx) (w : World) (h : Fxs w a n c L) (hz : Fxs w az nz cz Lz) (hb : ((n : Int) ≤ 7 ∧ thinI 2 L)) (hbz : ¬ ((nz : Int) ≤ 7 ∧ thinI 2 Lz)) : Calls Tryz.prog 4 #[.slice a n c, .slice az nz cz] w (Gives (.bool true) w) := by
  have HB : Hid (Below w.heap.size w w) := Lib.hid (Below.refl _ _)
  have HNB := Lib.hid hb
  have HF := Lib.hid h
  have HFz := Lib.hid hz
  have HNBz := Lib.hid hbz
  clear h hb hz hbz
  go_enter Tryz.func4, Tryz.ntmps4
  go_wp2_with fail
  refine (ref11_long a n c L 7 2 false _ HF.out (by decide) (Lib.hid ⟨fun h => absurd h (by decide), fun h => absurd HNB.out h⟩)).mono ?_
  rintro e wv1 ⟨rfl, b⟩
  replace HB := Lib.hid (below_then HB.out b)
  replace HF := Lib.hid (HF.out.later b)
  replace HFz := Lib.hid (HFz.out.later b)
  clear b
  go_wp2_with fail
  refine (ref11_long az nz cz Lz 7 2 true _ HFz.out (by decide) (Lib.hid ⟨fun _ => HNBz.out, fun _ => rfl⟩)).mono ?_
  rintro e wv2 ⟨rfl, b⟩
  replace HB := Lib.hid (below_then HB.out b)
  replace HF := Lib.hid (HF.out.later b)
  replace HFz := Lib.hid (HFz.out.later b)
  clear b
  go_wp2_with fail
  refine (HW _).mono ?_
  rintro e wv3 ⟨rfl, b⟩
  replace HB := Lib.hid (below_then HB.out b)
  replace HF := Lib.hid (HF.out.later b)
  replace HFz := Lib.hid (HFz.out.later b)
  clear b
  go_wp2
  go_ret
  exact ⟨rfl, HB.out⟩
set_option maxRecDepth 4096 in
set_option maxHeartbeats 16000000 in
theorem law14_divides_main (S : PolySaid) (HW : ∀ w : World, Calls Tryz.prog 7 #[] w (Gives (.bool true) w)) (a : Option Addr) (n c : Nat) (L : List Fx) (az : Option Addr) (nz cz : Nat) (Lz : List Fx) (w : World) (h : Fxs w a n c L) (hz : Fxs w az nz cz Lz) (hb : ((n : Int) ≤ 7 ∧ thinI 2 L)) (hbz : ((nz : Int) ≤ 7 ∧ thinI 2 Lz)) : Calls Tryz.prog 4 #[.slice a n c, .slice az nz cz] w (Gives (.bool true) w) := by
  have HB : Hid (Below w.heap.size w w) := Lib.hid (Below.refl _ _)
  have HNB := Lib.hid hb
  have hn : n ≤ 7 := by have := hb.1; omega
  have hth : thin 2 L := thinI.out (N := 2) hb.2
  have HTH := Lib.hid hth
  have HF := Lib.hid h
  have hq : ∀ q ∈ fqs L, qlen q ≤ 3 := (Pv.of h hth).qlen
  have hl : (fqs L).length = n := (fqs_length L).trans h.len
  have HNBz := Lib.hid hbz
  have hnz : nz ≤ 7 := by have := hbz.1; omega
  have hthz : thin 2 Lz := thinI.out (N := 2) hbz.2
  have HTHz := Lib.hid hthz
  have HFz := Lib.hid hz
  have hqz : ∀ q ∈ fqs Lz, qlen q ≤ 3 := (Pv.of hz hthz).qlen
  have hlz : (fqs Lz).length = nz := (fqs_length Lz).trans hz.len
  obtain ⟨xs, hxs⟩ : ∃ xs, fqs L = xs := ⟨_, rfl⟩
  obtain ⟨ys, hys⟩ : ∃ ys, fqs Lz = ys := ⟨_, rfl⟩
  have HTX : ∀ w' : World, Fxs w' a n c L → Calls Tryz.prog 11 #[.slice a n c] w' (fun e w'' => ∃ (a' : Option Addr) (c' : Nat), e = .returned (.slice a' n c') ∧ Pv w'' a' n c' xs 2 ∧ Below w'.heap.size w' w'') := fun w' h9 => (law11_to a n c L w' h9 (by omega)).mono fun e w'' ⟨x, y, z1, z2, z3⟩ => ⟨x, y, z1, hxs ▸ Pv.of z2 HTH.out, z3⟩
  have HTY : ∀ w' : World, Fxs w' az nz cz Lz → Calls Tryz.prog 11 #[.slice az nz cz] w' (fun e w'' => ∃ (a' : Option Addr) (c' : Nat), e = .returned (.slice a' nz c') ∧ Pv w'' a' nz c' ys 2 ∧ Below w'.heap.size w' w'') := fun w' h9 => (law11_to az nz cz Lz w' h9 (by omega)).mono fun e w'' ⟨x, y, z1, z2, z3⟩ => ⟨x, y, z1, hys ▸ Pv.of z2 HTHz.out, z3⟩
  have HNX : ∀ w' : World, Fxs w' a n c L → Calls Tryz.prog 9 #[.slice a n c] w' (LstRw xs w') := fun w' h9 => hxs ▸ ref11_norms_more a n c L w' h9 (by omega) (HTH.out.mono (by decide))
  have HNY : ∀ w' : World, Fxs w' az nz cz Lz → Calls Tryz.prog 9 #[.slice az nz cz] w' (LstRw ys w') := fun w' h9 => hys ▸ ref11_norms_more az nz cz Lz w' h9 (by omega) (HTHz.out.mono (by decide))
  rw [hxs] at hq hl
  rw [hys] at hqz hlz
  obtain ⟨ms, hms⟩ : ∃ l, pnorm xs = l := ⟨_, rfl⟩
  obtain ⟨ns, hns⟩ : ∃ l, pnorm ys = l := ⟨_, rfl⟩
  have lms : ∀ q ∈ ms, qlen q ≤ 3 := fun q h9 => hq q (pnorm_mem (hms ▸ h9))
  have lns : ∀ q ∈ ns, qlen q ≤ 3 := fun q h9 => hqz q (pnorm_mem (hns ▸ h9))
  have nms : ms.length ≤ 7 := by rw [← hms]; exact Nat.le_trans (pnorm_length_le _) (by omega)
  have nns : ns.length ≤ 7 := by rw [← hns]; exact Nat.le_trans (pnorm_length_le _) (by omega)
  have pms : peq ms xs := hms ▸ pnorm_co xs
  have pns : peq ns ys := hns ▸ pnorm_co ys
  have HPM := Lib.hid pms
  have HPN := Lib.hid pns
  have HPL : Hid (plen ys = ns.length) := Lib.hid (by unfold plen; rw [hns])
  have HNN : Hid (pnorm ns = ns) := Lib.hid (by rw [← hns]; exact pnorm_pnorm _)
  have HLX := Lib.hid hl
  have HLY := Lib.hid hlz
  have HRX : ∀ (w' : World) (a3 : Option Addr) (n3 c3 : Nat), Rw w' a3 n3 c3 xs → Calls Tryz.prog 8 #[.slice a3 n3 c3] w' (LstRw ms w') := fun w' a3 n3 c3 h9 => hms ▸ ref14_norm a3 n3 c3 xs w' h9 (by have := h9.len; omega) (fun q h8 => Nat.le_trans (hq q h8) (by decide))
  have HRY : ∀ (w' : World) (a3 : Option Addr) (n3 c3 : Nat), Rw w' a3 n3 c3 ys → Calls Tryz.prog 8 #[.slice a3 n3 c3] w' (LstRw ns w') := fun w' a3 n3 c3 h9 => hns ▸ ref14_norm a3 n3 c3 ys w' h9 (by have := h9.len; omega) (fun q h8 => Nat.le_trans (hqz q h8) (by decide))
  have HIS : ∀ (V : List Rat) (w' : World) (a3 : Option Addr) (n3 c3 : Nat) (a4 : Option Addr) (n4 c4 : Nat), V.length ≤ 1000 → (∀ q ∈ V, qlen q ≤ 100000000) → Rw w' a3 n3 c3 V → Rw w' a4 n4 c4 V → Calls Tryz.prog 13 #[.slice a3 n3 c3, .slice a4 n4 c4] w' (Gives (.bool true) w') := fun V w' a3 n3 c3 a4 n4 c4 h6 h7 h8 h9 => law11_is_yes a3 n3 c3 a4 n4 c4 V w' h8 h9 h6 (fun q hq => Nat.le_trans (h7 q hq) (by decide))
  obtain ⟨df, hdf⟩ : ∃ l, pnorm (pdiff xs) = l := ⟨_, rfl⟩
  have hdf2 : pnorm (pdiff ms) = df := by rw [← hdf]; exact pnorm_congr (pdiff_congr pms)
  have ldf : ∀ q ∈ df, qlen q ≤ 100000000 := fun q h9 => Nat.le_trans (qlen_pdiff (A := 3) (by decide) (by omega) hq q (hdf ▸ h9)) (by decide)
  have ndf : df.length ≤ 1000 := by rw [← hdf]; exact Nat.le_trans (pnorm_length_le _) (Nat.le_trans (pdiff_length _) (by omega))
  have HIF := fun w' a3 n3 c3 a4 n4 c4 h8 h9 => HIS df w' a3 n3 c3 a4 n4 c4 ndf ldf h8 h9
  have HPF : ∀ (w' : World) (a3 : Option Addr) (c3 : Nat), Pv w' a3 n c3 xs 2 → Calls Tryz.prog 30 #[.slice a3 n c3] w' (LstRw df w') := fun w' a3 c3 h9 => hdf ▸ diff_pv S h9 (by omega) (by decide)
  have HRF : ∀ (w' : World) (a3 : Option Addr) (n3 c3 : Nat), Rw w' a3 n3 c3 ms → Calls Tryz.prog 31 #[.slice a3 n3 c3] w' (LstRw df w') := fun w' a3 n3 c3 h9 => hdf2 ▸ ref14_diff a3 n3 c3 ms w' h9 (by have := h9.len; omega) (fun q h8 => Nat.le_trans (lms q h8) (by decide))
  have HRG : ∀ (w' : World) (a3 : Option Addr) (n3 c3 : Nat) (a4 : Option Addr) (n4 c4 : Nat), Rw w' a3 n3 c3 ms → Rw w' a4 n4 c4 ns → Calls Tryz.prog 33 #[.slice a3 n3 c3, .slice a4 n4 c4] w' (LstGcd ms ns 100000 w') := fun w' a3 n3 c3 a4 n4 c4 h8 h9 => by
    have k3 := h8.len
    have k4 := h9.len
    have k5 : n3 + n4 ≤ 14 := by omega
    have k6 : (3 * (n3 + n4) + 1) * (n3 + n4 + 1) ≤ 43 * 15 := Nat.mul_le_mul (by omega) (by omega)
    have k7 : 2 * (n3 + n4) * ((3 * (n3 + n4) + 1) * (n3 + n4 + 1) + 3) ≤ 28 * 648 := Nat.mul_le_mul (by omega) (by omega)
    refine (ref14_gcd a3 n3 c3 ms a4 n4 c4 ns 3 _ _ w' h8 h9 (by omega) (by omega) lms lns (by decide) rfl rfl (by omega)).mono fun e w2 h7 => ?_
    obtain ⟨a1, n1, c1, q, o1, o2, o3, o4, o5, o6⟩ := h7
    exact ⟨a1, n1, c1, q, o1, o2, o3, o4, fun u hu => Nat.le_trans (o5 u hu) (by omega), o6⟩
  have HRV : ∀ (w' : World) (a3 : Option Addr) (n3 c3 : Nat) (a4 : Option Addr) (n4 c4 : Nat), 0 < n4 → Rw w' a3 n3 c3 ms → Rw w' a4 n4 c4 ns → Calls Tryz.prog 34 #[.slice a3 n3 c3, .slice a4 n4 c4] w' (LstDivs ms ns n3 3 15 w') := fun w' a3 n3 c3 a4 n4 c4 h7 h8 h9 => ref14_div a3 n3 c3 ms a4 n4 c4 ns 3 3 15 w' h8 h9 (by have := h8.len; omega) (by have := h9.len; omega) lms lns HNN.out h7 rfl (pow14_le (K := 8) (by have := h8.len; omega) (by decide))
  have HNM := Lib.hid nms
  clear h hz hb hbz hth hthz hq hqz hl hlz hxs hys hms hns lms lns nms nns pms pns hdf hdf2 ldf ndf
  go_enter Tryz.func4, Tryz.ntmps4
  go_wp2_with fail
  refine (ref11_long a n c L 7 2 false _ HF.out (by decide) (Lib.hid ⟨fun h => absurd h (by decide), fun h => absurd HNB.out h⟩)).mono ?_
  rintro e wv1 ⟨rfl, b⟩
  replace HB := Lib.hid (below_then HB.out b)
  replace HF := Lib.hid (HF.out.later b)
  replace HFz := Lib.hid (HFz.out.later b)
  clear b
  go_wp2_with fail
  refine (ref11_long az nz cz Lz 7 2 false _ HFz.out (by decide) (Lib.hid ⟨fun h => absurd h (by decide), fun h => absurd HNBz.out h⟩)).mono ?_
  rintro e wv2 ⟨rfl, b⟩
  replace HB := Lib.hid (below_then HB.out b)
  replace HF := Lib.hid (HF.out.later b)
  replace HFz := Lib.hid (HFz.out.later b)
  clear b
  go_wp2_with fail
  refine (HNX _ HF.out).mono ?_
  rintro e wv3 ⟨a3, n3, c3, rfl, h3, b⟩
  replace HB := Lib.hid (below_then HB.out b)
  replace HF := Lib.hid (HF.out.later b)
  replace HFz := Lib.hid (HFz.out.later b)
  clear b
  have XX := Lib.hid h3
  clear h3
  go_wp2_with fail
  refine (HRX _ a3 n3 c3 XX.out).mono ?_
  rintro e wv4 ⟨a4, n4, c4, rfl, h4, b⟩
  replace HB := Lib.hid (below_then HB.out b)
  clear XX
  replace HF := Lib.hid (HF.out.later b)
  replace HFz := Lib.hid (HFz.out.later b)
  clear b
  have MS := Lib.hid h4
  clear h4
  go_wp2_with fail
  refine (HNY _ HFz.out).mono ?_
  rintro e wv5 ⟨a5, n5, c5, rfl, h5, b⟩
  replace HB := Lib.hid (below_then HB.out b)
  replace HF := Lib.hid (HF.out.later b)
  replace HFz := Lib.hid (HFz.out.later b)
  replace MS := Lib.hid (MS.out.later b)
  clear b
  have YY := Lib.hid h5
  clear h5
  go_wp2_with fail
  refine (HRY _ a5 n5 c5 YY.out).mono ?_
  rintro e wv6 ⟨a6, n6, c6, rfl, h6, b⟩
  replace HB := Lib.hid (below_then HB.out b)
  clear YY
  replace HF := Lib.hid (HF.out.later b)
  replace HFz := Lib.hid (HFz.out.later b)
  replace MS := Lib.hid (MS.out.later b)
  clear b
  have NS := Lib.hid h6
  clear h6
  go_wp2_with fail
  refine (HTX _ HF.out).mono ?_
  rintro e wv7 ⟨a8, c8, rfl, h8, b⟩
  replace HB := Lib.hid (below_then HB.out b)
  clear HF
  replace HFz := Lib.hid (HFz.out.later b)
  replace MS := Lib.hid (MS.out.later b)
  replace NS := Lib.hid (NS.out.later b)
  clear b
  have X := Lib.hid h8
  clear h8
  go_wp2_with fail
  refine (HTY _ HFz.out).mono ?_
  rintro e wv8 ⟨a9, c9, rfl, h9, b⟩
  replace HB := Lib.hid (below_then HB.out b)
  clear HFz
  replace MS := Lib.hid (MS.out.later b)
  replace NS := Lib.hid (NS.out.later b)
  replace X := Lib.hid (X.out.later b)
  clear b
  have Y := Lib.hid h9
  clear h9
  clear HTX HTY HNX HNY HRX HRY HNB HNBz HTH HTHz
  by_cases hy : plen ys = 0
  · have hn6 : n6 = 0 := by rw [← NS.out.len, ← HPL.out]; exact hy
    have hne : ((n6 : Int) == 0) = true := by simp [hn6]
    have HDV := fun (w' : World) (h8 : Pv w' a8 n c8 xs 2) (h9 : Pv w' a9 nz c9 ys 2) => div0_pv S h8 h9 (by omega) (by omega) (by decide) (by decide) hy
    clear hn6 hy
    go_wp2_with fail
    refine (HDV _ X.out Y.out).mono ?_
    rintro e wx1 ⟨rfl, b⟩
    replace HB := Lib.hid (below_then HB.out b)
    replace X := Lib.hid (X.out.later b)
    replace Y := Lib.hid (Y.out.later b)
    replace MS := Lib.hid (MS.out.later b)
    replace NS := Lib.hid (NS.out.later b)
    clear b
    go_wp2_with fail
    refine (HPF _ a8 c8 X.out).mono ?_
    rintro e wx2 ⟨a21, n21, c21, rfl, h21, b⟩
    replace HB := Lib.hid (below_then HB.out b)
    replace X := Lib.hid (X.out.later b)
    replace Y := Lib.hid (Y.out.later b)
    replace MS := Lib.hid (MS.out.later b)
    replace NS := Lib.hid (NS.out.later b)
    clear b
    have D1 := Lib.hid h21
    clear h21
    go_wp2_with fail
    refine (HRF _ a4 n4 c4 MS.out).mono ?_
    rintro e wx3 ⟨a22, n22, c22, rfl, h22, b⟩
    replace HB := Lib.hid (below_then HB.out b)
    replace X := Lib.hid (X.out.later b)
    replace Y := Lib.hid (Y.out.later b)
    replace MS := Lib.hid (MS.out.later b)
    replace NS := Lib.hid (NS.out.later b)
    replace D1 := Lib.hid (D1.out.later b)
    clear b
    have D2 := Lib.hid h22
    clear h22
    go_wp2_with fail
    refine (HIF _ _ _ _ _ _ _ D1.out D2.out).mono ?_
    rintro e wx4 ⟨rfl, b⟩
    replace HB := Lib.hid (below_then HB.out b)
    clear D1
    clear D2
    replace X := Lib.hid (X.out.later b)
    replace Y := Lib.hid (Y.out.later b)
    replace MS := Lib.hid (MS.out.later b)
    replace NS := Lib.hid (NS.out.later b)
    clear b
    go_wp2_with fail
    refine (gcd_pv S (B := 37748736) 7 7 X.out Y.out (by omega) (by omega) (by decide) (by decide) (by decide) (by decide) (by decide)).mono ?_
    rintro e wx5 ⟨a23, n23, c23, g1, rfl, h23, hg1, hg2, hg3, b⟩
    replace HB := Lib.hid (below_then HB.out b)
    replace X := Lib.hid (X.out.later b)
    replace Y := Lib.hid (Y.out.later b)
    replace MS := Lib.hid (MS.out.later b)
    replace NS := Lib.hid (NS.out.later b)
    clear b
    have G1 := Lib.hid h23
    have HG1 := Lib.hid hg1
    have HG2 := Lib.hid hg2
    have HG3 := Lib.hid hg3
    have HGL := Lib.hid (gcd14_len hg1 hg2 (by rw [HLX.out]; omega) (by rw [HLY.out]; omega))
    clear h23 hg1 hg2 hg3
    go_wp2_with fail
    refine (HRG _ a4 n4 c4 a6 n6 c6 MS.out NS.out).mono ?_
    rintro e wx6 ⟨a24, n24, c24, g2, rfl, h24, hk1, hk2, hk3, b⟩
    replace HB := Lib.hid (below_then HB.out b)
    replace X := Lib.hid (X.out.later b)
    replace Y := Lib.hid (Y.out.later b)
    replace MS := Lib.hid (MS.out.later b)
    replace NS := Lib.hid (NS.out.later b)
    replace G1 := Lib.hid (G1.out.later b)
    clear b
    obtain rfl : g2 = g1 := gcd14_one HG1.out hk1 HPM.out HPN.out HG2.out hk2
    have G2 := Lib.hid h24
    clear h24 hk1 hk2 hk3
    go_wp2_with fail
    refine (HIS g2 _ _ _ _ _ _ _ HGL.out (fun q hq => Nat.le_trans (HG3.out q hq) (by decide)) G1.out G2.out).mono ?_
    rintro e wx7 ⟨rfl, b⟩
    replace HB := Lib.hid (below_then HB.out b)
    clear G1
    clear G2
    replace X := Lib.hid (X.out.later b)
    replace Y := Lib.hid (Y.out.later b)
    replace MS := Lib.hid (MS.out.later b)
    replace NS := Lib.hid (NS.out.later b)
    clear b
    go_wp2_with fail
    refine (HW _).mono ?_
    rintro e wx8 ⟨rfl, b⟩
    replace HB := Lib.hid (below_then HB.out b)
    replace X := Lib.hid (X.out.later b)
    replace Y := Lib.hid (Y.out.later b)
    replace MS := Lib.hid (MS.out.later b)
    replace NS := Lib.hid (NS.out.later b)
    clear b
    go_wp2
    go_ret
    exact ⟨rfl, HB.out⟩
  · have hn6 : 0 < n6 := by rw [← NS.out.len, ← HPL.out]; omega
    have hne : ((n6 : Int) == 0) = false := by simp; omega
    have HY := Lib.hid hy
    clear hy
    go_wp2_with fail
    refine (div_pv S (B := 4608) X.out Y.out (by omega) (by omega) (pow14_le (K := 8) (by omega) (by decide)) (by decide) HY.out).mono ?_
    rintro e wx1 ⟨a11, n11, c11, q, a12, n12, c12, r, rfl, h11, h12, hd1, hd2, hd3, hd4, hd5, b⟩
    replace HB := Lib.hid (below_then HB.out b)
    replace X := Lib.hid (X.out.later b)
    replace Y := Lib.hid (Y.out.later b)
    replace MS := Lib.hid (MS.out.later b)
    replace NS := Lib.hid (NS.out.later b)
    clear b
    have QQ := Lib.hid h11
    have RR := Lib.hid h12
    have HD1 := Lib.hid hd1
    have HD2 := Lib.hid hd2
    have HD3 := Lib.hid hd3
    have HD4 := Lib.hid hd4
    have HD5 := Lib.hid hd5
    clear h11 h12 hd1 hd2 hd3 hd4 hd5
    go_wp2_with fail
    refine (HPF _ a8 c8 X.out).mono ?_
    rintro e wx2 ⟨a21, n21, c21, rfl, h21, b⟩
    replace HB := Lib.hid (below_then HB.out b)
    replace X := Lib.hid (X.out.later b)
    replace Y := Lib.hid (Y.out.later b)
    replace MS := Lib.hid (MS.out.later b)
    replace NS := Lib.hid (NS.out.later b)
    replace QQ := Lib.hid (QQ.out.later b)
    replace RR := Lib.hid (RR.out.later b)
    clear b
    have D1 := Lib.hid h21
    clear h21
    go_wp2_with fail
    refine (HRF _ a4 n4 c4 MS.out).mono ?_
    rintro e wx3 ⟨a22, n22, c22, rfl, h22, b⟩
    replace HB := Lib.hid (below_then HB.out b)
    replace X := Lib.hid (X.out.later b)
    replace Y := Lib.hid (Y.out.later b)
    replace MS := Lib.hid (MS.out.later b)
    replace NS := Lib.hid (NS.out.later b)
    replace QQ := Lib.hid (QQ.out.later b)
    replace RR := Lib.hid (RR.out.later b)
    replace D1 := Lib.hid (D1.out.later b)
    clear b
    have D2 := Lib.hid h22
    clear h22
    go_wp2_with fail
    refine (HIF _ _ _ _ _ _ _ D1.out D2.out).mono ?_
    rintro e wx4 ⟨rfl, b⟩
    replace HB := Lib.hid (below_then HB.out b)
    clear D1
    clear D2
    replace X := Lib.hid (X.out.later b)
    replace Y := Lib.hid (Y.out.later b)
    replace MS := Lib.hid (MS.out.later b)
    replace NS := Lib.hid (NS.out.later b)
    replace QQ := Lib.hid (QQ.out.later b)
    replace RR := Lib.hid (RR.out.later b)
    clear b
    go_wp2_with fail
    refine (gcd_pv S (B := 37748736) 7 7 X.out Y.out (by omega) (by omega) (by decide) (by decide) (by decide) (by decide) (by decide)).mono ?_
    rintro e wx5 ⟨a23, n23, c23, g1, rfl, h23, hg1, hg2, hg3, b⟩
    replace HB := Lib.hid (below_then HB.out b)
    replace X := Lib.hid (X.out.later b)
    replace Y := Lib.hid (Y.out.later b)
    replace MS := Lib.hid (MS.out.later b)
    replace NS := Lib.hid (NS.out.later b)
    replace QQ := Lib.hid (QQ.out.later b)
    replace RR := Lib.hid (RR.out.later b)
    clear b
    have G1 := Lib.hid h23
    have HG1 := Lib.hid hg1
    have HG2 := Lib.hid hg2
    have HG3 := Lib.hid hg3
    have HGL := Lib.hid (gcd14_len hg1 hg2 (by rw [HLX.out]; omega) (by rw [HLY.out]; omega))
    clear h23 hg1 hg2 hg3
    go_wp2_with fail
    refine (HRG _ a4 n4 c4 a6 n6 c6 MS.out NS.out).mono ?_
    rintro e wx6 ⟨a24, n24, c24, g2, rfl, h24, hk1, hk2, hk3, b⟩
    replace HB := Lib.hid (below_then HB.out b)
    replace X := Lib.hid (X.out.later b)
    replace Y := Lib.hid (Y.out.later b)
    replace MS := Lib.hid (MS.out.later b)
    replace NS := Lib.hid (NS.out.later b)
    replace QQ := Lib.hid (QQ.out.later b)
    replace RR := Lib.hid (RR.out.later b)
    replace G1 := Lib.hid (G1.out.later b)
    clear b
    obtain rfl : g2 = g1 := gcd14_one HG1.out hk1 HPM.out HPN.out HG2.out hk2
    have G2 := Lib.hid h24
    clear h24 hk1 hk2 hk3
    go_wp2_with fail
    refine (HIS g2 _ _ _ _ _ _ _ HGL.out (fun q hq => Nat.le_trans (HG3.out q hq) (by decide)) G1.out G2.out).mono ?_
    rintro e wx7 ⟨rfl, b⟩
    replace HB := Lib.hid (below_then HB.out b)
    clear G1
    clear G2
    replace X := Lib.hid (X.out.later b)
    replace Y := Lib.hid (Y.out.later b)
    replace MS := Lib.hid (MS.out.later b)
    replace NS := Lib.hid (NS.out.later b)
    replace QQ := Lib.hid (QQ.out.later b)
    replace RR := Lib.hid (RR.out.later b)
    clear b
    go_wp2_with fail
    refine (HRV _ a4 n4 c4 a6 n6 c6 hn6 MS.out NS.out).mono ?_
    rintro e wx8 ⟨a31, n31, c31, s, a32, n32, c32, t, rfl, h31, h32, k1, k2, k3, k4, _, _, k7, b⟩
    replace HB := Lib.hid (below_then HB.out b)
    replace X := Lib.hid (X.out.later b)
    replace Y := Lib.hid (Y.out.later b)
    replace MS := Lib.hid (MS.out.later b)
    replace NS := Lib.hid (NS.out.later b)
    replace QQ := Lib.hid (QQ.out.later b)
    replace RR := Lib.hid (RR.out.later b)
    clear b
    obtain ⟨rfl, rfl⟩ := div14_one HD1.out k1 HPM.out HPN.out HD2.out HD3.out k2 k3
    have hn4 : n4 ≤ 7 := (by rw [← MS.out.len]; exact HNM.out)
    have HK4 : Hid (r.length ≤ 1000) := Lib.hid (by omega)
    have HK7 : Hid (q.length ≤ 1000) := Lib.hid (by omega)
    have SS := Lib.hid h31
    have TT := Lib.hid h32
    clear h31 h32 k1 k2 k3 k4 k7
    go_wp2_with fail
    refine (HIS q _ _ _ _ _ _ _ HK7.out (fun u hu => Nat.le_trans (HD4.out u hu) (by decide)) QQ.out SS.out).mono ?_
    rintro e wx9 ⟨rfl, b⟩
    replace HB := Lib.hid (below_then HB.out b)
    clear QQ
    clear SS
    replace X := Lib.hid (X.out.later b)
    replace Y := Lib.hid (Y.out.later b)
    replace MS := Lib.hid (MS.out.later b)
    replace NS := Lib.hid (NS.out.later b)
    replace RR := Lib.hid (RR.out.later b)
    replace TT := Lib.hid (TT.out.later b)
    clear b
    go_wp2_with fail
    refine (HIS r _ _ _ _ _ _ _ HK4.out (fun u hu => Nat.le_trans (HD5.out u hu) (by decide)) RR.out TT.out).mono ?_
    rintro e wx10 ⟨rfl, b⟩
    replace HB := Lib.hid (below_then HB.out b)
    clear RR
    clear TT
    replace X := Lib.hid (X.out.later b)
    replace Y := Lib.hid (Y.out.later b)
    replace MS := Lib.hid (MS.out.later b)
    replace NS := Lib.hid (NS.out.later b)
    clear b
    go_wp2_with fail
    refine (HW _).mono ?_
    rintro e wx11 ⟨rfl, b⟩
    replace HB := Lib.hid (below_then HB.out b)
    replace X := Lib.hid (X.out.later b)
    replace Y := Lib.hid (Y.out.later b)
    replace MS := Lib.hid (MS.out.later b)
    replace NS := Lib.hid (NS.out.later b)
    clear b
    go_wp2
    go_ret
    exact ⟨rfl, HB.out⟩
theorem law14_divides (S : PolySaid) (HW : ∀ w : World, Calls Tryz.prog 7 #[] w (Gives (.bool true) w)) (a : Option Addr) (n c : Nat) (L : List Fx) (az : Option Addr) (nz cz : Nat) (Lz : List Fx) (w : World) (h : Fxs w a n c L) (hz : Fxs w az nz cz Lz) : Calls Tryz.prog 4 #[.slice a n c, .slice az nz cz] w (Gives (.bool true) w) := by
  by_cases hb : ((n : Int) ≤ 7 ∧ thinI 2 L)
  · by_cases hbz : ((nz : Int) ≤ 7 ∧ thinI 2 Lz)
    · exact law14_divides_main S HW a n c L az nz cz Lz w h hz hb hbz
    · exact law14_divides_longb HW a n c L az nz cz Lz w h hz hb hbz
  · exact law14_divides_longa HW a n c L az nz cz Lz w h hz hb
end Go.Proofs.YtipcgehcineblaaGreat
