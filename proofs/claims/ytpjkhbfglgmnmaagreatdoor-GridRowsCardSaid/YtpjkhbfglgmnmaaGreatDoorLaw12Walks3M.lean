/-
  The walks of the laws of layer 12: GridRows.
-/
import Derived.Test.YtpjkhbfglgmnmaaGreatDoorLaw12Walks2M
import Derived.Test.YtpjkhbfglgmnmaaGreatDoorLaw11IsM
import Derived.Test.YtpjkhbfglgmnmaaGreatDoorG18
namespace Go.Proofs.YtpjkhbfglgmnmaaGreatDoor
open Go.RowKit

theorem gapply_len12 {B C K w n : Nat} {m : List (List Rat)} {c : List Rat} (hm : mat n w m) (hw : w ≤ K) (hq : ∀ r ∈ m, ∀ q ∈ r, qlen q ≤ B) (hc : ∀ q ∈ c, qlen q ≤ C) : ∀ q ∈ gapply m c, qlen q ≤ 1 + K * (B + C + 3) := fun q hq' => by
  unfold gapply at hq'
  obtain ⟨r, hr, rfl⟩ := List.mem_map.1 hq'
  have h1 := qlen_rdot (hq r hr) hc
  rw [hm.2 r hr] at h1
  exact Nat.le_trans h1 (Nat.add_le_add_left (Nat.mul_le_mul_right _ hw) 1)
set_option maxRecDepth 4096 in
set_option maxHeartbeats 16000000 in
theorem law12_rows_longa (S : GridSaid) (RS : RowSaid) (FS : FracSaid) (a : Option Addr) (n c : Nat) (LL : List (List Fx)) (az : Option Addr) (nz cz : Nat) (Lz : List Fx) (w : World) (h : Fxss w a n c LL) (hz : Fxs w az nz cz Lz) (hT : Hid (Dec10 w)) (hb : ¬ ((n : Int) ≤ 8 ∧ ∀ M ∈ LL, (M.length : Int) ≤ 8 ∧ thinI 3 M)) : Calls Tryz.prog 4 #[.slice a n c, .slice az nz cz] w (Gives (.bool true) w) := by
  have HB : Hid (Below w.heap.size w w) := Lib.hid (Below.refl _ _)
  have HNB := Lib.hid hb
  have HF := Lib.hid h
  have HFz := Lib.hid hz
  clear h hz hb
  go_enter Tryz.func4, Tryz.ntmps4
  go_wp2_with fail
  refine (ref12_long a n c LL 8 3 true _ HF.out (by decide) (Lib.hid ⟨fun _ => HNB.out, fun _ => rfl⟩)).mono ?_
  rintro e wv1 ⟨rfl, b⟩
  replace HB := Lib.hid (below_then HB.out b)
  replace HF := Lib.hid (HF.out.later b)
  replace HFz := Lib.hid (HFz.out.later b)
  clear b
  go_wp2_with fail
  refine (law12_works S RS FS _ (Lib.hid (hT.out.later HB.out))).mono ?_
  rintro e wv2 ⟨rfl, b⟩
  replace HB := Lib.hid (below_then HB.out b)
  replace HF := Lib.hid (HF.out.later b)
  replace HFz := Lib.hid (HFz.out.later b)
  clear b
  go_wp2
  go_ret
  exact ⟨rfl, HB.out⟩
set_option maxRecDepth 4096 in
set_option maxHeartbeats 16000000 in
theorem law12_rows_longb (S : GridSaid) (RS : RowSaid) (FS : FracSaid) (a : Option Addr) (n c : Nat) (LL : List (List Fx)) (az : Option Addr) (nz cz : Nat) (Lz : List Fx) (w : World) (h : Fxss w a n c LL) (hz : Fxs w az nz cz Lz) (hT : Hid (Dec10 w)) (hb : ((n : Int) ≤ 8 ∧ ∀ M ∈ LL, (M.length : Int) ≤ 8 ∧ thinI 3 M)) (hbz : ¬ ((nz : Int) ≤ 8 ∧ thinI 3 Lz)) : Calls Tryz.prog 4 #[.slice a n c, .slice az nz cz] w (Gives (.bool true) w) := by
  have HB : Hid (Below w.heap.size w w) := Lib.hid (Below.refl _ _)
  have HNB := Lib.hid hb
  have HF := Lib.hid h
  have HFz := Lib.hid hz
  have HNBz := Lib.hid hbz
  clear h hz hb hbz
  go_enter Tryz.func4, Tryz.ntmps4
  go_wp2_with fail
  refine (ref12_long a n c LL 8 3 false _ HF.out (by decide) (Lib.hid ⟨fun h => absurd h (by decide), fun h => absurd HNB.out h⟩)).mono ?_
  rintro e wv1 ⟨rfl, b⟩
  replace HB := Lib.hid (below_then HB.out b)
  replace HF := Lib.hid (HF.out.later b)
  replace HFz := Lib.hid (HFz.out.later b)
  clear b
  go_wp2_with fail
  refine (ref11_long az nz cz Lz 8 3 true _ HFz.out (by decide) (Lib.hid ⟨fun _ => HNBz.out, fun _ => rfl⟩)).mono ?_
  rintro e wv2 ⟨rfl, b⟩
  replace HB := Lib.hid (below_then HB.out b)
  replace HF := Lib.hid (HF.out.later b)
  replace HFz := Lib.hid (HFz.out.later b)
  clear b
  go_wp2_with fail
  refine (law12_works S RS FS _ (Lib.hid (hT.out.later HB.out))).mono ?_
  rintro e wv3 ⟨rfl, b⟩
  replace HB := Lib.hid (below_then HB.out b)
  replace HF := Lib.hid (HF.out.later b)
  replace HFz := Lib.hid (HFz.out.later b)
  clear b
  go_wp2
  go_ret
  exact ⟨rfl, HB.out⟩
set_option maxRecDepth 4096 in
set_option maxHeartbeats 16000000 in
theorem law12_rows_rmc (S : GridSaid) (RS : RowSaid) (FS : FracSaid) (a : Option Addr) (n c : Nat) (LL : List (List Fx)) (az : Option Addr) (nz cz : Nat) (Lz : List Fx) (w : World) (h : Fxss w a n c LL) (hz : Fxs w az nz cz Lz) (hT : Hid (Dec10 w)) (hb : ((n : Int) ≤ 8 ∧ ∀ M ∈ LL, (M.length : Int) ≤ 8 ∧ thinI 3 M)) (hbz : ((nz : Int) ≤ 8 ∧ thinI 3 Lz)) (hrc : rect LL) (hmy : nz = n) (hcn : nz = gwidth LL) : Calls Tryz.prog 4 #[.slice a n c, .slice az nz cz] w (Gives (.bool true) w) := by
  have HB : Hid (Below w.heap.size w w) := Lib.hid (Below.refl _ _)
  have HNB := Lib.hid hb
  have hn : n ≤ 8 := by have := hb.1; omega
  have hsm : small 8 3 LL := fun M hM => ⟨by have := (hb.2 M hM).1; omega, thinI.out (N := 3) (hb.2 M hM).2⟩
  have hpq : ∀ r ∈ LL.map fqs, r.length ≤ 8 ∧ ∀ q ∈ r, qlen q ≤ 4 := fun r hr => by
    obtain ⟨M, hM, rfl⟩ := List.mem_map.1 hr
    refine ⟨by rw [fqs_length]; exact (hsm M hM).1, fun q hq => ?_⟩
    obtain ⟨x, hx, rfl⟩ := List.mem_map.1 hq
    obtain ⟨i, hi, rfl⟩ := List.getElem_of_mem hM
    obtain ⟨_, _, _, a5, n5, c5, _, h5⟩ := h.at (j := i) (by rw [← h.len]; exact hi)
    rw [List.getD_eq_getElem?_getD, List.getElem?_eq_getElem hi] at h5
    have ht := (hsm _ hM).2 x hx
    exact ((h5.ok hx).fr ht.1 ht.2).len
  have hlm : (LL.map fqs).length = n := by rw [List.length_map]; exact h.len
  have HSM := Lib.hid hsm
  have HPQ := Lib.hid hpq
  have HLM := Lib.hid hlm
  have HF := Lib.hid h
  have HNBz := Lib.hid hbz
  have hnz : nz ≤ 8 := by have := hbz.1; omega
  have hthz : thin 3 Lz := thinI.out (N := 3) hbz.2
  have hqz : ∀ q ∈ fqs Lz, qlen q ≤ 4 := fun q hq => by
    obtain ⟨x, hx, rfl⟩ := List.mem_map.1 hq
    exact ((hz.ok hx).fr (hthz x hx).1 (hthz x hx).2).len
  have hlqz : (fqs Lz).length = nz := (fqs_length Lz).trans hz.len
  have HTHz := Lib.hid hthz
  have HFz := Lib.hid hz
  have HRC := Lib.hid hrc
  obtain ⟨P, hP⟩ : ∃ P, LL.map fqs = P := ⟨_, rfl⟩
  obtain ⟨qs, hqs⟩ : ∃ qs, fqs Lz = qs := ⟨_, rfl⟩
  obtain ⟨wd, hwd⟩ : ∃ wd, gwidth LL = wd := ⟨_, rfl⟩
  rw [hP] at hpq hlm
  rw [hqs] at hqz hlqz
  have HPP := Lib.hid hpq
  have HQZ := Lib.hid hqz
  have hwP : gwidth P = wd := by rw [← hP, gwidth_fqs]; exact hwd
  have hwd8 : wd ≤ 8 := by
    rw [← hwP]
    unfold gwidth
    cases P with
    | nil => exact Nat.zero_le _
    | cons x r => exact (HPP.out x (List.mem_cons_self ..)).1
  have HNO : ∀ (w' : World) , Fxss w' a n c LL → Calls Tryz.prog 9 #[.slice a n c] w' (LstRws P w') := fun w' h1 => hP ▸ ref12_norms a n c LL w' h1 (by omega) (fun M hM => ⟨by have := (HSM.out M hM).1; omega, (HSM.out M hM).2.mono (by decide)⟩)
  have HNOz : ∀ (w' : World) , Fxs w' az nz cz Lz → Calls Tryz.prog 26 #[.slice az nz cz] w' (LstRw qs w') := fun w' h1 => hqs ▸ ref11_norms az nz cz Lz w' h1 (by omega) (HTHz.out.mono (by decide))
  have HTO : ∀ (w' : World) , Fxss w' a n c LL → Calls Tryz.prog 11 #[.slice a n c] w' (fun e w'' => ∃ (a' : Option Addr) (c' : Nat), e = .returned (.slice a' n c') ∧ Fxss w'' a' n c' LL ∧ Below w'.heap.size w' w'') := fun w' h1 => law12_to a n c LL w' h1 (by omega) (fun M hM => by have := (HSM.out M hM).1; omega)
  have HTOz : ∀ (w' : World) , Fxs w' az nz cz Lz → Calls Tryz.prog 24 #[.slice az nz cz] w' (fun e w'' => ∃ (a' : Option Addr) (c' : Nat), e = .returned (.slice a' nz c') ∧ Fxs w'' a' nz c' Lz ∧ Below w'.heap.size w' w'') := fun w' h1 => law11_to az nz cz Lz w' h1 (by omega)
  have HRI : ∀ (w' : World) , Fxss w' a n c LL → Calls Tryz.prog 12 #[.slice a n c] w' (Gives (.bool true) w') := fun w' h1 => ref12_right a n c LL true w' h1 (Lib.hid ⟨fun _ => HRC.out, fun _ => rfl⟩)
  have HRW : ∀ (w' : World) , Fxss w' a n c LL → Calls Tryz.prog 17 #[.slice a n c] w' (Gives (.int .i64 (wd : Int)) w') := fun w' h1 => hwd ▸ ref12_width a n c LL w' h1
  rw [hwd] at hcn
  have hrP : rect P := by rw [← hP]; exact (rect_fqs LL).2 hrc
  have hmat : mat n wd P := by have := hrP.mat; rw [hlm, hwP] at this; exact this
  have qm : ((nz : Int) == (n : Int)) = true := by simp; omega
  have qc : ((nz : Int) == (wd : Int)) = true := by simp; omega
  obtain ⟨LV, hLV⟩ : ∃ LV, gleft wd qs P = LV := ⟨_, rfl⟩
  have HLVC : Hid (LV.length ≤ 1000) := Lib.hid (by rw [← hLV, gleft_length hmat]; omega)
  have HLVL : Hid (∀ q ∈ LV, qlen q ≤ 15000) := Lib.hid (by
    rw [← hLV, ← gleft_turn hmat (by omega)]
    exact fun q hq => Nat.le_trans (gapply_len12 (gturn_mat hmat) hn (fun r hr => (gturn_rows hmat hn (fun r hr => (HPP.out r hr).2) r hr).2) HQZ.out q hq) (by decide))
  have HGL : ∀ (w' : World) (a1 : Option Addr) (c1 : Nat) (a2 : Option Addr) (c2 : Nat), Fxs w' a1 nz c1 Lz → Fxss w' a2 n c2 LL → Calls Tryz.prog 23 #[.slice a1 nz c1, .slice a2 n c2] w' (LstRwV LV (.bool true) w') := fun w' a1 c1 a2 c2 h1 h2 => by
    have h9 := S.left_yes a1 nz c1 Lz a2 n c2 LL 3 w' h1 h2 HTHz.out (fun M hM => ⟨Nat.le_trans (HSM.out M hM).1 (by decide), (HSM.out M hM).2⟩) (by omega) (by omega) (by decide) (Lib.hid ⟨HRC.out, hmy⟩)
    rw [hwd, hqs, hP, hLV] at h9
    exact h9
  have HRL : ∀ (w' : World) (a1 : Option Addr) (n1 c1 : Nat) (a2 : Option Addr) (n2 c2 : Nat), Rw w' a1 n1 c1 qs → Rwss w' a2 n2 c2 P → Calls Tryz.prog 28 #[.slice a1 n1 c1, .slice a2 n2 c2] w' (LstRw LV w') := fun w' a1 n1 c1 a2 n2 c2 h1 h2 => by
    have h9 := ref12_left a1 n1 c1 qs a2 n2 c2 P w' h1 h2 (by have := h1.len; omega) (by have := h1.len; have := h2.len; omega) hrP (by rw [hwP]; omega) (fun q hq => Nat.le_trans (HQZ.out q hq) (by decide)) (fun r hr q hq => Nat.le_trans ((HPP.out r hr).2 q hq) (by decide))
    rw [hwP, hLV] at h9
    exact h9
  obtain ⟨AV, hAV⟩ : ∃ AV, gapply P qs = AV := ⟨_, rfl⟩
  have HAVC : Hid (AV.length ≤ 1000) := Lib.hid (by rw [← hAV, gapply_length]; omega)
  have HAVL : Hid (∀ q ∈ AV, qlen q ≤ 15000) := Lib.hid (by
    rw [← hAV]
    exact fun q hq => Nat.le_trans (gapply_len12 hmat hwd8 (fun r hr => (HPP.out r hr).2) HQZ.out q hq) (by decide))
  have HGA : ∀ (w' : World) (a2 : Option Addr) (c2 : Nat) (a1 : Option Addr) (c1 : Nat), Fxss w' a2 n c2 LL → Fxs w' a1 nz c1 Lz → Calls Tryz.prog 25 #[.slice a2 n c2, .slice a1 nz c1] w' (LstRwV AV (.bool true) w') := fun w' a2 c2 a1 c1 h2 h1 => by
    have h9 := S.apply_yes a2 n c2 LL a1 nz c1 Lz 3 w' h2 h1 (fun M hM => ⟨Nat.le_trans (HSM.out M hM).1 (by decide), (HSM.out M hM).2⟩) HTHz.out (by omega) (by omega) (by omega) (by decide) (Lib.hid ⟨HRC.out, hcn.trans hwd.symm⟩)
    rw [hqs, hP, hAV] at h9
    exact h9
  have HRA : ∀ (w' : World) (a2 : Option Addr) (n2 c2 : Nat) (a1 : Option Addr) (n1 c1 : Nat), Rwss w' a2 n2 c2 P → Rw w' a1 n1 c1 qs → Calls Tryz.prog 29 #[.slice a2 n2 c2, .slice a1 n1 c1] w' (LstRw AV w') := fun w' a2 n2 c2 a1 n1 c1 h2 h1 => by
    have h9 := ref12_apply a2 n2 c2 P a1 n1 c1 qs w' h2 h1 (by have := h2.len; omega) (by have := h1.len; omega) (fun r hr => ⟨by rw [hmat.2 r hr]; have := h1.len; omega, fun q hq => Nat.le_trans ((HPP.out r hr).2 q hq) (by decide)⟩) (fun q hq => Nat.le_trans (HQZ.out q hq) (by decide))
    rw [hAV] at h9
    exact h9
  clear hP hqs hwd hwP hwd8 h hz hb hbz hrc hsm hpq hlm hthz hqz hlqz hmy hcn hrP hmat hLV hAV
  go_enter Tryz.func4, Tryz.ntmps4
  go_wp2_with fail
  refine (ref12_long a n c LL 8 3 false _ HF.out (by decide) (Lib.hid ⟨fun h => absurd h (by decide), fun h => absurd HNB.out h⟩)).mono ?_
  rintro e wv1 ⟨rfl, b⟩
  replace HB := Lib.hid (below_then HB.out b)
  replace HF := Lib.hid (HF.out.later b)
  replace HFz := Lib.hid (HFz.out.later b)
  clear b
  go_wp2_with fail
  refine (ref11_long az nz cz Lz 8 3 false _ HFz.out (by decide) (Lib.hid ⟨fun h => absurd h (by decide), fun h => absurd HNBz.out h⟩)).mono ?_
  rintro e wv2 ⟨rfl, b⟩
  replace HB := Lib.hid (below_then HB.out b)
  replace HF := Lib.hid (HF.out.later b)
  replace HFz := Lib.hid (HFz.out.later b)
  clear b
  go_wp2_with fail
  refine (HTOz _ HFz.out).mono ?_
  rintro e wv3 ⟨a3, c3, rfl, h3, b⟩
  replace HB := Lib.hid (below_then HB.out b)
  replace HF := Lib.hid (HF.out.later b)
  replace HFz := Lib.hid (HFz.out.later b)
  clear b
  have R3 := Lib.hid h3
  clear h3
  go_wp2_with fail
  refine (HTO _ HF.out).mono ?_
  rintro e wv4 ⟨a4, c4, rfl, h4, b⟩
  replace HB := Lib.hid (below_then HB.out b)
  replace HF := Lib.hid (HF.out.later b)
  replace HFz := Lib.hid (HFz.out.later b)
  replace R3 := Lib.hid (R3.out.later b)
  clear b
  have R4 := Lib.hid h4
  clear h4
  go_wp2_with fail
  refine (HGL _ a3 c3 a4 c4 R3.out R4.out).mono ?_
  rintro e wv5 ⟨a5, n5, c5, rfl, h5, b⟩
  replace HB := Lib.hid (below_then HB.out b)
  replace HF := Lib.hid (HF.out.later b)
  replace HFz := Lib.hid (HFz.out.later b)
  replace R3 := Lib.hid (R3.out.later b)
  replace R4 := Lib.hid (R4.out.later b)
  clear b
  have R5 := Lib.hid h5
  clear h5
  clear R3 R4
  go_wp2_with fail
  refine (HTO _ HF.out).mono ?_
  rintro e wv6 ⟨a6, c6, rfl, h6, b⟩
  replace HB := Lib.hid (below_then HB.out b)
  replace HF := Lib.hid (HF.out.later b)
  replace HFz := Lib.hid (HFz.out.later b)
  replace R5 := Lib.hid (R5.out.later b)
  clear b
  have R6 := Lib.hid h6
  clear h6
  go_wp2_with fail
  refine (HTOz _ HFz.out).mono ?_
  rintro e wv7 ⟨a7, c7, rfl, h7, b⟩
  replace HB := Lib.hid (below_then HB.out b)
  replace HF := Lib.hid (HF.out.later b)
  replace HFz := Lib.hid (HFz.out.later b)
  replace R5 := Lib.hid (R5.out.later b)
  replace R6 := Lib.hid (R6.out.later b)
  clear b
  have R7 := Lib.hid h7
  clear h7
  go_wp2_with fail
  refine (HGA _ a6 c6 a7 c7 R6.out R7.out).mono ?_
  rintro e wv8 ⟨a8, n8, c8, rfl, h8, b⟩
  replace HB := Lib.hid (below_then HB.out b)
  replace HF := Lib.hid (HF.out.later b)
  replace HFz := Lib.hid (HFz.out.later b)
  replace R5 := Lib.hid (R5.out.later b)
  replace R6 := Lib.hid (R6.out.later b)
  replace R7 := Lib.hid (R7.out.later b)
  clear b
  have R8 := Lib.hid h8
  clear h8
  clear R6 R7
  go_wp2_with fail
  refine (HRI _ HF.out).mono ?_
  rintro e wv9 ⟨rfl, b⟩
  replace HB := Lib.hid (below_then HB.out b)
  replace HF := Lib.hid (HF.out.later b)
  replace HFz := Lib.hid (HFz.out.later b)
  replace R5 := Lib.hid (R5.out.later b)
  replace R8 := Lib.hid (R8.out.later b)
  clear b
  go_wp2_with fail
  refine (HRI _ HF.out).mono ?_
  rintro e wv10 ⟨rfl, b⟩
  replace HB := Lib.hid (below_then HB.out b)
  replace HF := Lib.hid (HF.out.later b)
  replace HFz := Lib.hid (HFz.out.later b)
  replace R5 := Lib.hid (R5.out.later b)
  replace R8 := Lib.hid (R8.out.later b)
  clear b
  go_wp2_with fail
  refine (HRW _ HF.out).mono ?_
  rintro e wv11 ⟨rfl, b⟩
  replace HB := Lib.hid (below_then HB.out b)
  replace HF := Lib.hid (HF.out.later b)
  replace HFz := Lib.hid (HFz.out.later b)
  replace R5 := Lib.hid (R5.out.later b)
  replace R8 := Lib.hid (R8.out.later b)
  clear b
  go_wp2_with fail
  refine (HNO _ HF.out).mono ?_
  rintro e wv12 ⟨a12, n12, c12, rfl, h12, b⟩
  replace HB := Lib.hid (below_then HB.out b)
  replace HF := Lib.hid (HF.out.later b)
  replace HFz := Lib.hid (HFz.out.later b)
  replace R5 := Lib.hid (R5.out.later b)
  replace R8 := Lib.hid (R8.out.later b)
  clear b
  have R12 := Lib.hid h12
  clear h12
  go_wp2_with fail
  refine (HNOz _ HFz.out).mono ?_
  rintro e wv13 ⟨a13, n13, c13, rfl, h13, b⟩
  replace HB := Lib.hid (below_then HB.out b)
  replace HF := Lib.hid (HF.out.later b)
  replace HFz := Lib.hid (HFz.out.later b)
  replace R5 := Lib.hid (R5.out.later b)
  replace R8 := Lib.hid (R8.out.later b)
  replace R12 := Lib.hid (R12.out.later b)
  clear b
  have R13 := Lib.hid h13
  clear h13
  go_wp2_with fail
  refine (HRL _ a13 n13 c13 a12 n12 c12 R13.out R12.out).mono ?_
  rintro e wv14 ⟨a14, n14, c14, rfl, h14, b⟩
  replace HB := Lib.hid (below_then HB.out b)
  replace HF := Lib.hid (HF.out.later b)
  replace HFz := Lib.hid (HFz.out.later b)
  replace R5 := Lib.hid (R5.out.later b)
  replace R8 := Lib.hid (R8.out.later b)
  replace R12 := Lib.hid (R12.out.later b)
  replace R13 := Lib.hid (R13.out.later b)
  clear b
  have R14 := Lib.hid h14
  clear h14
  go_wp2_with fail
  refine (law11_is_yes a5 n5 c5 a14 n14 c14 LV _ R5.out R14.out HLVC.out HLVL.out).mono ?_
  rintro e wv15 ⟨rfl, b⟩
  replace HB := Lib.hid (below_then HB.out b)
  replace HF := Lib.hid (HF.out.later b)
  replace HFz := Lib.hid (HFz.out.later b)
  replace R5 := Lib.hid (R5.out.later b)
  replace R8 := Lib.hid (R8.out.later b)
  replace R12 := Lib.hid (R12.out.later b)
  replace R13 := Lib.hid (R13.out.later b)
  replace R14 := Lib.hid (R14.out.later b)
  clear b
  clear R5 R14
  go_wp2_with fail
  refine (HRA _ a12 n12 c12 a13 n13 c13 R12.out R13.out).mono ?_
  rintro e wv16 ⟨a16, n16, c16, rfl, h16, b⟩
  replace HB := Lib.hid (below_then HB.out b)
  replace HF := Lib.hid (HF.out.later b)
  replace HFz := Lib.hid (HFz.out.later b)
  replace R8 := Lib.hid (R8.out.later b)
  replace R12 := Lib.hid (R12.out.later b)
  replace R13 := Lib.hid (R13.out.later b)
  clear b
  have R16 := Lib.hid h16
  clear h16
  go_wp2_with fail
  refine (law11_is_yes a8 n8 c8 a16 n16 c16 AV _ R8.out R16.out HAVC.out HAVL.out).mono ?_
  rintro e wv17 ⟨rfl, b⟩
  replace HB := Lib.hid (below_then HB.out b)
  replace HF := Lib.hid (HF.out.later b)
  replace HFz := Lib.hid (HFz.out.later b)
  replace R8 := Lib.hid (R8.out.later b)
  replace R12 := Lib.hid (R12.out.later b)
  replace R13 := Lib.hid (R13.out.later b)
  replace R16 := Lib.hid (R16.out.later b)
  clear b
  clear R8 R16
  go_wp2_with fail
  refine (law12_works S RS FS _ (Lib.hid (hT.out.later HB.out))).mono ?_
  rintro e wv18 ⟨rfl, b⟩
  replace HB := Lib.hid (below_then HB.out b)
  replace HF := Lib.hid (HF.out.later b)
  replace HFz := Lib.hid (HFz.out.later b)
  replace R12 := Lib.hid (R12.out.later b)
  replace R13 := Lib.hid (R13.out.later b)
  clear b
  go_wp2
  go_ret
  exact ⟨rfl, HB.out⟩
set_option maxRecDepth 4096 in
set_option maxHeartbeats 16000000 in
theorem law12_rows_rmx (S : GridSaid) (RS : RowSaid) (FS : FracSaid) (a : Option Addr) (n c : Nat) (LL : List (List Fx)) (az : Option Addr) (nz cz : Nat) (Lz : List Fx) (w : World) (h : Fxss w a n c LL) (hz : Fxs w az nz cz Lz) (hT : Hid (Dec10 w)) (hb : ((n : Int) ≤ 8 ∧ ∀ M ∈ LL, (M.length : Int) ≤ 8 ∧ thinI 3 M)) (hbz : ((nz : Int) ≤ 8 ∧ thinI 3 Lz)) (hrc : rect LL) (hmy : nz = n) (hcn : nz ≠ gwidth LL) : Calls Tryz.prog 4 #[.slice a n c, .slice az nz cz] w (Gives (.bool true) w) := by
  have HB : Hid (Below w.heap.size w w) := Lib.hid (Below.refl _ _)
  have HNB := Lib.hid hb
  have hn : n ≤ 8 := by have := hb.1; omega
  have hsm : small 8 3 LL := fun M hM => ⟨by have := (hb.2 M hM).1; omega, thinI.out (N := 3) (hb.2 M hM).2⟩
  have hpq : ∀ r ∈ LL.map fqs, r.length ≤ 8 ∧ ∀ q ∈ r, qlen q ≤ 4 := fun r hr => by
    obtain ⟨M, hM, rfl⟩ := List.mem_map.1 hr
    refine ⟨by rw [fqs_length]; exact (hsm M hM).1, fun q hq => ?_⟩
    obtain ⟨x, hx, rfl⟩ := List.mem_map.1 hq
    obtain ⟨i, hi, rfl⟩ := List.getElem_of_mem hM
    obtain ⟨_, _, _, a5, n5, c5, _, h5⟩ := h.at (j := i) (by rw [← h.len]; exact hi)
    rw [List.getD_eq_getElem?_getD, List.getElem?_eq_getElem hi] at h5
    have ht := (hsm _ hM).2 x hx
    exact ((h5.ok hx).fr ht.1 ht.2).len
  have hlm : (LL.map fqs).length = n := by rw [List.length_map]; exact h.len
  have HSM := Lib.hid hsm
  have HPQ := Lib.hid hpq
  have HLM := Lib.hid hlm
  have HF := Lib.hid h
  have HNBz := Lib.hid hbz
  have hnz : nz ≤ 8 := by have := hbz.1; omega
  have hthz : thin 3 Lz := thinI.out (N := 3) hbz.2
  have hqz : ∀ q ∈ fqs Lz, qlen q ≤ 4 := fun q hq => by
    obtain ⟨x, hx, rfl⟩ := List.mem_map.1 hq
    exact ((hz.ok hx).fr (hthz x hx).1 (hthz x hx).2).len
  have hlqz : (fqs Lz).length = nz := (fqs_length Lz).trans hz.len
  have HTHz := Lib.hid hthz
  have HFz := Lib.hid hz
  have HRC := Lib.hid hrc
  obtain ⟨P, hP⟩ : ∃ P, LL.map fqs = P := ⟨_, rfl⟩
  obtain ⟨qs, hqs⟩ : ∃ qs, fqs Lz = qs := ⟨_, rfl⟩
  obtain ⟨wd, hwd⟩ : ∃ wd, gwidth LL = wd := ⟨_, rfl⟩
  rw [hP] at hpq hlm
  rw [hqs] at hqz hlqz
  have HPP := Lib.hid hpq
  have HQZ := Lib.hid hqz
  have hwP : gwidth P = wd := by rw [← hP, gwidth_fqs]; exact hwd
  have hwd8 : wd ≤ 8 := by
    rw [← hwP]
    unfold gwidth
    cases P with
    | nil => exact Nat.zero_le _
    | cons x r => exact (HPP.out x (List.mem_cons_self ..)).1
  have HNO : ∀ (w' : World) , Fxss w' a n c LL → Calls Tryz.prog 9 #[.slice a n c] w' (LstRws P w') := fun w' h1 => hP ▸ ref12_norms a n c LL w' h1 (by omega) (fun M hM => ⟨by have := (HSM.out M hM).1; omega, (HSM.out M hM).2.mono (by decide)⟩)
  have HNOz : ∀ (w' : World) , Fxs w' az nz cz Lz → Calls Tryz.prog 26 #[.slice az nz cz] w' (LstRw qs w') := fun w' h1 => hqs ▸ ref11_norms az nz cz Lz w' h1 (by omega) (HTHz.out.mono (by decide))
  have HTO : ∀ (w' : World) , Fxss w' a n c LL → Calls Tryz.prog 11 #[.slice a n c] w' (fun e w'' => ∃ (a' : Option Addr) (c' : Nat), e = .returned (.slice a' n c') ∧ Fxss w'' a' n c' LL ∧ Below w'.heap.size w' w'') := fun w' h1 => law12_to a n c LL w' h1 (by omega) (fun M hM => by have := (HSM.out M hM).1; omega)
  have HTOz : ∀ (w' : World) , Fxs w' az nz cz Lz → Calls Tryz.prog 24 #[.slice az nz cz] w' (fun e w'' => ∃ (a' : Option Addr) (c' : Nat), e = .returned (.slice a' nz c') ∧ Fxs w'' a' nz c' Lz ∧ Below w'.heap.size w' w'') := fun w' h1 => law11_to az nz cz Lz w' h1 (by omega)
  have HRI : ∀ (w' : World) , Fxss w' a n c LL → Calls Tryz.prog 12 #[.slice a n c] w' (Gives (.bool true) w') := fun w' h1 => ref12_right a n c LL true w' h1 (Lib.hid ⟨fun _ => HRC.out, fun _ => rfl⟩)
  have HRW : ∀ (w' : World) , Fxss w' a n c LL → Calls Tryz.prog 17 #[.slice a n c] w' (Gives (.int .i64 (wd : Int)) w') := fun w' h1 => hwd ▸ ref12_width a n c LL w' h1
  rw [hwd] at hcn
  have hrP : rect P := by rw [← hP]; exact (rect_fqs LL).2 hrc
  have hmat : mat n wd P := by have := hrP.mat; rw [hlm, hwP] at this; exact this
  have qm : ((nz : Int) == (n : Int)) = true := by simp; omega
  have qc : ((nz : Int) == (wd : Int)) = false := by simp; omega
  obtain ⟨LV, hLV⟩ : ∃ LV, gleft wd qs P = LV := ⟨_, rfl⟩
  have HLVC : Hid (LV.length ≤ 1000) := Lib.hid (by rw [← hLV, gleft_length hmat]; omega)
  have HLVL : Hid (∀ q ∈ LV, qlen q ≤ 15000) := Lib.hid (by
    rw [← hLV, ← gleft_turn hmat (by omega)]
    exact fun q hq => Nat.le_trans (gapply_len12 (gturn_mat hmat) hn (fun r hr => (gturn_rows hmat hn (fun r hr => (HPP.out r hr).2) r hr).2) HQZ.out q hq) (by decide))
  have HGL : ∀ (w' : World) (a1 : Option Addr) (c1 : Nat) (a2 : Option Addr) (c2 : Nat), Fxs w' a1 nz c1 Lz → Fxss w' a2 n c2 LL → Calls Tryz.prog 23 #[.slice a1 nz c1, .slice a2 n c2] w' (LstRwV LV (.bool true) w') := fun w' a1 c1 a2 c2 h1 h2 => by
    have h9 := S.left_yes a1 nz c1 Lz a2 n c2 LL 3 w' h1 h2 HTHz.out (fun M hM => ⟨Nat.le_trans (HSM.out M hM).1 (by decide), (HSM.out M hM).2⟩) (by omega) (by omega) (by decide) (Lib.hid ⟨HRC.out, hmy⟩)
    rw [hwd, hqs, hP, hLV] at h9
    exact h9
  have HRL : ∀ (w' : World) (a1 : Option Addr) (n1 c1 : Nat) (a2 : Option Addr) (n2 c2 : Nat), Rw w' a1 n1 c1 qs → Rwss w' a2 n2 c2 P → Calls Tryz.prog 28 #[.slice a1 n1 c1, .slice a2 n2 c2] w' (LstRw LV w') := fun w' a1 n1 c1 a2 n2 c2 h1 h2 => by
    have h9 := ref12_left a1 n1 c1 qs a2 n2 c2 P w' h1 h2 (by have := h1.len; omega) (by have := h1.len; have := h2.len; omega) hrP (by rw [hwP]; omega) (fun q hq => Nat.le_trans (HQZ.out q hq) (by decide)) (fun r hr q hq => Nat.le_trans ((HPP.out r hr).2 q hq) (by decide))
    rw [hwP, hLV] at h9
    exact h9
  have HGA : ∀ (w' : World) (a2 : Option Addr) (c2 : Nat) (a1 : Option Addr) (c1 : Nat), Fxss w' a2 n c2 LL → Fxs w' a1 nz c1 Lz → Calls Tryz.prog 25 #[.slice a2 n c2, .slice a1 nz c1] w' (LstRwV [] (.bool false) w') := fun w' a2 c2 a1 c1 h2 h1 => S.apply_no a2 n c2 LL a1 nz c1 Lz w' h2 h1 (by omega) (by omega) (fun M hM => ⟨Nat.le_trans (HSM.out M hM).1 (by decide), (HSM.out M hM).2.mono (by decide)⟩) (HTHz.out.mono (by decide)) (Lib.hid (fun h9 => hcn (h9.2.trans hwd)))
  clear hP hqs hwd hwP hwd8 h hz hb hbz hrc hsm hpq hlm hthz hqz hlqz hmy hcn hrP hmat hLV
  go_enter Tryz.func4, Tryz.ntmps4
  go_wp2_with fail
  refine (ref12_long a n c LL 8 3 false _ HF.out (by decide) (Lib.hid ⟨fun h => absurd h (by decide), fun h => absurd HNB.out h⟩)).mono ?_
  rintro e wv1 ⟨rfl, b⟩
  replace HB := Lib.hid (below_then HB.out b)
  replace HF := Lib.hid (HF.out.later b)
  replace HFz := Lib.hid (HFz.out.later b)
  clear b
  go_wp2_with fail
  refine (ref11_long az nz cz Lz 8 3 false _ HFz.out (by decide) (Lib.hid ⟨fun h => absurd h (by decide), fun h => absurd HNBz.out h⟩)).mono ?_
  rintro e wv2 ⟨rfl, b⟩
  replace HB := Lib.hid (below_then HB.out b)
  replace HF := Lib.hid (HF.out.later b)
  replace HFz := Lib.hid (HFz.out.later b)
  clear b
  go_wp2_with fail
  refine (HTOz _ HFz.out).mono ?_
  rintro e wv3 ⟨a3, c3, rfl, h3, b⟩
  replace HB := Lib.hid (below_then HB.out b)
  replace HF := Lib.hid (HF.out.later b)
  replace HFz := Lib.hid (HFz.out.later b)
  clear b
  have R3 := Lib.hid h3
  clear h3
  go_wp2_with fail
  refine (HTO _ HF.out).mono ?_
  rintro e wv4 ⟨a4, c4, rfl, h4, b⟩
  replace HB := Lib.hid (below_then HB.out b)
  replace HF := Lib.hid (HF.out.later b)
  replace HFz := Lib.hid (HFz.out.later b)
  replace R3 := Lib.hid (R3.out.later b)
  clear b
  have R4 := Lib.hid h4
  clear h4
  go_wp2_with fail
  refine (HGL _ a3 c3 a4 c4 R3.out R4.out).mono ?_
  rintro e wv5 ⟨a5, n5, c5, rfl, h5, b⟩
  replace HB := Lib.hid (below_then HB.out b)
  replace HF := Lib.hid (HF.out.later b)
  replace HFz := Lib.hid (HFz.out.later b)
  replace R3 := Lib.hid (R3.out.later b)
  replace R4 := Lib.hid (R4.out.later b)
  clear b
  have R5 := Lib.hid h5
  clear h5
  clear R3 R4
  go_wp2_with fail
  refine (HTO _ HF.out).mono ?_
  rintro e wv6 ⟨a6, c6, rfl, h6, b⟩
  replace HB := Lib.hid (below_then HB.out b)
  replace HF := Lib.hid (HF.out.later b)
  replace HFz := Lib.hid (HFz.out.later b)
  replace R5 := Lib.hid (R5.out.later b)
  clear b
  have R6 := Lib.hid h6
  clear h6
  go_wp2_with fail
  refine (HTOz _ HFz.out).mono ?_
  rintro e wv7 ⟨a7, c7, rfl, h7, b⟩
  replace HB := Lib.hid (below_then HB.out b)
  replace HF := Lib.hid (HF.out.later b)
  replace HFz := Lib.hid (HFz.out.later b)
  replace R5 := Lib.hid (R5.out.later b)
  replace R6 := Lib.hid (R6.out.later b)
  clear b
  have R7 := Lib.hid h7
  clear h7
  go_wp2_with fail
  refine (HGA _ a6 c6 a7 c7 R6.out R7.out).mono ?_
  rintro e wv8 ⟨a8, n8, c8, rfl, h8, b⟩
  replace HB := Lib.hid (below_then HB.out b)
  replace HF := Lib.hid (HF.out.later b)
  replace HFz := Lib.hid (HFz.out.later b)
  replace R5 := Lib.hid (R5.out.later b)
  replace R6 := Lib.hid (R6.out.later b)
  replace R7 := Lib.hid (R7.out.later b)
  clear b
  obtain rfl : n8 = 0 := h8.len.symm
  clear h8
  clear R6 R7
  go_wp2_with fail
  refine (HRI _ HF.out).mono ?_
  rintro e wv9 ⟨rfl, b⟩
  replace HB := Lib.hid (below_then HB.out b)
  replace HF := Lib.hid (HF.out.later b)
  replace HFz := Lib.hid (HFz.out.later b)
  replace R5 := Lib.hid (R5.out.later b)
  clear b
  go_wp2_with fail
  refine (HRI _ HF.out).mono ?_
  rintro e wv10 ⟨rfl, b⟩
  replace HB := Lib.hid (below_then HB.out b)
  replace HF := Lib.hid (HF.out.later b)
  replace HFz := Lib.hid (HFz.out.later b)
  replace R5 := Lib.hid (R5.out.later b)
  clear b
  go_wp2_with fail
  refine (HRW _ HF.out).mono ?_
  rintro e wv11 ⟨rfl, b⟩
  replace HB := Lib.hid (below_then HB.out b)
  replace HF := Lib.hid (HF.out.later b)
  replace HFz := Lib.hid (HFz.out.later b)
  replace R5 := Lib.hid (R5.out.later b)
  clear b
  go_wp2_with fail
  refine (HNO _ HF.out).mono ?_
  rintro e wv12 ⟨a12, n12, c12, rfl, h12, b⟩
  replace HB := Lib.hid (below_then HB.out b)
  replace HF := Lib.hid (HF.out.later b)
  replace HFz := Lib.hid (HFz.out.later b)
  replace R5 := Lib.hid (R5.out.later b)
  clear b
  have R12 := Lib.hid h12
  clear h12
  go_wp2_with fail
  refine (HNOz _ HFz.out).mono ?_
  rintro e wv13 ⟨a13, n13, c13, rfl, h13, b⟩
  replace HB := Lib.hid (below_then HB.out b)
  replace HF := Lib.hid (HF.out.later b)
  replace HFz := Lib.hid (HFz.out.later b)
  replace R5 := Lib.hid (R5.out.later b)
  replace R12 := Lib.hid (R12.out.later b)
  clear b
  have R13 := Lib.hid h13
  clear h13
  go_wp2_with fail
  refine (HRL _ a13 n13 c13 a12 n12 c12 R13.out R12.out).mono ?_
  rintro e wv14 ⟨a14, n14, c14, rfl, h14, b⟩
  replace HB := Lib.hid (below_then HB.out b)
  replace HF := Lib.hid (HF.out.later b)
  replace HFz := Lib.hid (HFz.out.later b)
  replace R5 := Lib.hid (R5.out.later b)
  replace R12 := Lib.hid (R12.out.later b)
  replace R13 := Lib.hid (R13.out.later b)
  clear b
  have R14 := Lib.hid h14
  clear h14
  go_wp2_with fail
  refine (law11_is_yes a5 n5 c5 a14 n14 c14 LV _ R5.out R14.out HLVC.out HLVL.out).mono ?_
  rintro e wv15 ⟨rfl, b⟩
  replace HB := Lib.hid (below_then HB.out b)
  replace HF := Lib.hid (HF.out.later b)
  replace HFz := Lib.hid (HFz.out.later b)
  replace R5 := Lib.hid (R5.out.later b)
  replace R12 := Lib.hid (R12.out.later b)
  replace R13 := Lib.hid (R13.out.later b)
  replace R14 := Lib.hid (R14.out.later b)
  clear b
  clear R5 R14
  go_wp2_with fail
  refine (law12_works S RS FS _ (Lib.hid (hT.out.later HB.out))).mono ?_
  rintro e wv16 ⟨rfl, b⟩
  replace HB := Lib.hid (below_then HB.out b)
  replace HF := Lib.hid (HF.out.later b)
  replace HFz := Lib.hid (HFz.out.later b)
  replace R12 := Lib.hid (R12.out.later b)
  replace R13 := Lib.hid (R13.out.later b)
  clear b
  go_wp2
  go_ret
  exact ⟨rfl, HB.out⟩
set_option maxRecDepth 4096 in
set_option maxHeartbeats 16000000 in
theorem law12_rows_rxc (S : GridSaid) (RS : RowSaid) (FS : FracSaid) (a : Option Addr) (n c : Nat) (LL : List (List Fx)) (az : Option Addr) (nz cz : Nat) (Lz : List Fx) (w : World) (h : Fxss w a n c LL) (hz : Fxs w az nz cz Lz) (hT : Hid (Dec10 w)) (hb : ((n : Int) ≤ 8 ∧ ∀ M ∈ LL, (M.length : Int) ≤ 8 ∧ thinI 3 M)) (hbz : ((nz : Int) ≤ 8 ∧ thinI 3 Lz)) (hrc : rect LL) (hmy : nz ≠ n) (hcn : nz = gwidth LL) : Calls Tryz.prog 4 #[.slice a n c, .slice az nz cz] w (Gives (.bool true) w) := by
  have HB : Hid (Below w.heap.size w w) := Lib.hid (Below.refl _ _)
  have HNB := Lib.hid hb
  have hn : n ≤ 8 := by have := hb.1; omega
  have hsm : small 8 3 LL := fun M hM => ⟨by have := (hb.2 M hM).1; omega, thinI.out (N := 3) (hb.2 M hM).2⟩
  have hpq : ∀ r ∈ LL.map fqs, r.length ≤ 8 ∧ ∀ q ∈ r, qlen q ≤ 4 := fun r hr => by
    obtain ⟨M, hM, rfl⟩ := List.mem_map.1 hr
    refine ⟨by rw [fqs_length]; exact (hsm M hM).1, fun q hq => ?_⟩
    obtain ⟨x, hx, rfl⟩ := List.mem_map.1 hq
    obtain ⟨i, hi, rfl⟩ := List.getElem_of_mem hM
    obtain ⟨_, _, _, a5, n5, c5, _, h5⟩ := h.at (j := i) (by rw [← h.len]; exact hi)
    rw [List.getD_eq_getElem?_getD, List.getElem?_eq_getElem hi] at h5
    have ht := (hsm _ hM).2 x hx
    exact ((h5.ok hx).fr ht.1 ht.2).len
  have hlm : (LL.map fqs).length = n := by rw [List.length_map]; exact h.len
  have HSM := Lib.hid hsm
  have HPQ := Lib.hid hpq
  have HLM := Lib.hid hlm
  have HF := Lib.hid h
  have HNBz := Lib.hid hbz
  have hnz : nz ≤ 8 := by have := hbz.1; omega
  have hthz : thin 3 Lz := thinI.out (N := 3) hbz.2
  have hqz : ∀ q ∈ fqs Lz, qlen q ≤ 4 := fun q hq => by
    obtain ⟨x, hx, rfl⟩ := List.mem_map.1 hq
    exact ((hz.ok hx).fr (hthz x hx).1 (hthz x hx).2).len
  have hlqz : (fqs Lz).length = nz := (fqs_length Lz).trans hz.len
  have HTHz := Lib.hid hthz
  have HFz := Lib.hid hz
  have HRC := Lib.hid hrc
  obtain ⟨P, hP⟩ : ∃ P, LL.map fqs = P := ⟨_, rfl⟩
  obtain ⟨qs, hqs⟩ : ∃ qs, fqs Lz = qs := ⟨_, rfl⟩
  obtain ⟨wd, hwd⟩ : ∃ wd, gwidth LL = wd := ⟨_, rfl⟩
  rw [hP] at hpq hlm
  rw [hqs] at hqz hlqz
  have HPP := Lib.hid hpq
  have HQZ := Lib.hid hqz
  have hwP : gwidth P = wd := by rw [← hP, gwidth_fqs]; exact hwd
  have hwd8 : wd ≤ 8 := by
    rw [← hwP]
    unfold gwidth
    cases P with
    | nil => exact Nat.zero_le _
    | cons x r => exact (HPP.out x (List.mem_cons_self ..)).1
  have HNO : ∀ (w' : World) , Fxss w' a n c LL → Calls Tryz.prog 9 #[.slice a n c] w' (LstRws P w') := fun w' h1 => hP ▸ ref12_norms a n c LL w' h1 (by omega) (fun M hM => ⟨by have := (HSM.out M hM).1; omega, (HSM.out M hM).2.mono (by decide)⟩)
  have HNOz : ∀ (w' : World) , Fxs w' az nz cz Lz → Calls Tryz.prog 26 #[.slice az nz cz] w' (LstRw qs w') := fun w' h1 => hqs ▸ ref11_norms az nz cz Lz w' h1 (by omega) (HTHz.out.mono (by decide))
  have HTO : ∀ (w' : World) , Fxss w' a n c LL → Calls Tryz.prog 11 #[.slice a n c] w' (fun e w'' => ∃ (a' : Option Addr) (c' : Nat), e = .returned (.slice a' n c') ∧ Fxss w'' a' n c' LL ∧ Below w'.heap.size w' w'') := fun w' h1 => law12_to a n c LL w' h1 (by omega) (fun M hM => by have := (HSM.out M hM).1; omega)
  have HTOz : ∀ (w' : World) , Fxs w' az nz cz Lz → Calls Tryz.prog 24 #[.slice az nz cz] w' (fun e w'' => ∃ (a' : Option Addr) (c' : Nat), e = .returned (.slice a' nz c') ∧ Fxs w'' a' nz c' Lz ∧ Below w'.heap.size w' w'') := fun w' h1 => law11_to az nz cz Lz w' h1 (by omega)
  have HRI : ∀ (w' : World) , Fxss w' a n c LL → Calls Tryz.prog 12 #[.slice a n c] w' (Gives (.bool true) w') := fun w' h1 => ref12_right a n c LL true w' h1 (Lib.hid ⟨fun _ => HRC.out, fun _ => rfl⟩)
  have HRW : ∀ (w' : World) , Fxss w' a n c LL → Calls Tryz.prog 17 #[.slice a n c] w' (Gives (.int .i64 (wd : Int)) w') := fun w' h1 => hwd ▸ ref12_width a n c LL w' h1
  rw [hwd] at hcn
  have hrP : rect P := by rw [← hP]; exact (rect_fqs LL).2 hrc
  have hmat : mat n wd P := by have := hrP.mat; rw [hlm, hwP] at this; exact this
  have qm : ((nz : Int) == (n : Int)) = false := by simp; omega
  have qc : ((nz : Int) == (wd : Int)) = true := by simp; omega
  have HGL : ∀ (w' : World) (a1 : Option Addr) (c1 : Nat) (a2 : Option Addr) (c2 : Nat), Fxs w' a1 nz c1 Lz → Fxss w' a2 n c2 LL → Calls Tryz.prog 23 #[.slice a1 nz c1, .slice a2 n c2] w' (LstRwV [] (.bool false) w') := fun w' a1 c1 a2 c2 h1 h2 => S.left_no a1 nz c1 Lz a2 n c2 LL w' h1 h2 (by omega) (by omega) (HTHz.out.mono (by decide)) (fun M hM => ⟨Nat.le_trans (HSM.out M hM).1 (by decide), (HSM.out M hM).2.mono (by decide)⟩) (Lib.hid (fun h9 => hmy h9.2))
  obtain ⟨AV, hAV⟩ : ∃ AV, gapply P qs = AV := ⟨_, rfl⟩
  have HAVC : Hid (AV.length ≤ 1000) := Lib.hid (by rw [← hAV, gapply_length]; omega)
  have HAVL : Hid (∀ q ∈ AV, qlen q ≤ 15000) := Lib.hid (by
    rw [← hAV]
    exact fun q hq => Nat.le_trans (gapply_len12 hmat hwd8 (fun r hr => (HPP.out r hr).2) HQZ.out q hq) (by decide))
  have HGA : ∀ (w' : World) (a2 : Option Addr) (c2 : Nat) (a1 : Option Addr) (c1 : Nat), Fxss w' a2 n c2 LL → Fxs w' a1 nz c1 Lz → Calls Tryz.prog 25 #[.slice a2 n c2, .slice a1 nz c1] w' (LstRwV AV (.bool true) w') := fun w' a2 c2 a1 c1 h2 h1 => by
    have h9 := S.apply_yes a2 n c2 LL a1 nz c1 Lz 3 w' h2 h1 (fun M hM => ⟨Nat.le_trans (HSM.out M hM).1 (by decide), (HSM.out M hM).2⟩) HTHz.out (by omega) (by omega) (by omega) (by decide) (Lib.hid ⟨HRC.out, hcn.trans hwd.symm⟩)
    rw [hqs, hP, hAV] at h9
    exact h9
  have HRA : ∀ (w' : World) (a2 : Option Addr) (n2 c2 : Nat) (a1 : Option Addr) (n1 c1 : Nat), Rwss w' a2 n2 c2 P → Rw w' a1 n1 c1 qs → Calls Tryz.prog 29 #[.slice a2 n2 c2, .slice a1 n1 c1] w' (LstRw AV w') := fun w' a2 n2 c2 a1 n1 c1 h2 h1 => by
    have h9 := ref12_apply a2 n2 c2 P a1 n1 c1 qs w' h2 h1 (by have := h2.len; omega) (by have := h1.len; omega) (fun r hr => ⟨by rw [hmat.2 r hr]; have := h1.len; omega, fun q hq => Nat.le_trans ((HPP.out r hr).2 q hq) (by decide)⟩) (fun q hq => Nat.le_trans (HQZ.out q hq) (by decide))
    rw [hAV] at h9
    exact h9
  clear hP hqs hwd hwP hwd8 h hz hb hbz hrc hsm hpq hlm hthz hqz hlqz hmy hcn hrP hmat hAV
  go_enter Tryz.func4, Tryz.ntmps4
  go_wp2_with fail
  refine (ref12_long a n c LL 8 3 false _ HF.out (by decide) (Lib.hid ⟨fun h => absurd h (by decide), fun h => absurd HNB.out h⟩)).mono ?_
  rintro e wv1 ⟨rfl, b⟩
  replace HB := Lib.hid (below_then HB.out b)
  replace HF := Lib.hid (HF.out.later b)
  replace HFz := Lib.hid (HFz.out.later b)
  clear b
  go_wp2_with fail
  refine (ref11_long az nz cz Lz 8 3 false _ HFz.out (by decide) (Lib.hid ⟨fun h => absurd h (by decide), fun h => absurd HNBz.out h⟩)).mono ?_
  rintro e wv2 ⟨rfl, b⟩
  replace HB := Lib.hid (below_then HB.out b)
  replace HF := Lib.hid (HF.out.later b)
  replace HFz := Lib.hid (HFz.out.later b)
  clear b
  go_wp2_with fail
  refine (HTOz _ HFz.out).mono ?_
  rintro e wv3 ⟨a3, c3, rfl, h3, b⟩
  replace HB := Lib.hid (below_then HB.out b)
  replace HF := Lib.hid (HF.out.later b)
  replace HFz := Lib.hid (HFz.out.later b)
  clear b
  have R3 := Lib.hid h3
  clear h3
  go_wp2_with fail
  refine (HTO _ HF.out).mono ?_
  rintro e wv4 ⟨a4, c4, rfl, h4, b⟩
  replace HB := Lib.hid (below_then HB.out b)
  replace HF := Lib.hid (HF.out.later b)
  replace HFz := Lib.hid (HFz.out.later b)
  replace R3 := Lib.hid (R3.out.later b)
  clear b
  have R4 := Lib.hid h4
  clear h4
  go_wp2_with fail
  refine (HGL _ a3 c3 a4 c4 R3.out R4.out).mono ?_
  rintro e wv5 ⟨a5, n5, c5, rfl, h5, b⟩
  replace HB := Lib.hid (below_then HB.out b)
  replace HF := Lib.hid (HF.out.later b)
  replace HFz := Lib.hid (HFz.out.later b)
  replace R3 := Lib.hid (R3.out.later b)
  replace R4 := Lib.hid (R4.out.later b)
  clear b
  obtain rfl : n5 = 0 := h5.len.symm
  clear h5
  clear R3 R4
  go_wp2_with fail
  refine (HTO _ HF.out).mono ?_
  rintro e wv6 ⟨a6, c6, rfl, h6, b⟩
  replace HB := Lib.hid (below_then HB.out b)
  replace HF := Lib.hid (HF.out.later b)
  replace HFz := Lib.hid (HFz.out.later b)
  clear b
  have R6 := Lib.hid h6
  clear h6
  go_wp2_with fail
  refine (HTOz _ HFz.out).mono ?_
  rintro e wv7 ⟨a7, c7, rfl, h7, b⟩
  replace HB := Lib.hid (below_then HB.out b)
  replace HF := Lib.hid (HF.out.later b)
  replace HFz := Lib.hid (HFz.out.later b)
  replace R6 := Lib.hid (R6.out.later b)
  clear b
  have R7 := Lib.hid h7
  clear h7
  go_wp2_with fail
  refine (HGA _ a6 c6 a7 c7 R6.out R7.out).mono ?_
  rintro e wv8 ⟨a8, n8, c8, rfl, h8, b⟩
  replace HB := Lib.hid (below_then HB.out b)
  replace HF := Lib.hid (HF.out.later b)
  replace HFz := Lib.hid (HFz.out.later b)
  replace R6 := Lib.hid (R6.out.later b)
  replace R7 := Lib.hid (R7.out.later b)
  clear b
  have R8 := Lib.hid h8
  clear h8
  clear R6 R7
  go_wp2_with fail
  refine (HRI _ HF.out).mono ?_
  rintro e wv9 ⟨rfl, b⟩
  replace HB := Lib.hid (below_then HB.out b)
  replace HF := Lib.hid (HF.out.later b)
  replace HFz := Lib.hid (HFz.out.later b)
  replace R8 := Lib.hid (R8.out.later b)
  clear b
  go_wp2_with fail
  refine (HRI _ HF.out).mono ?_
  rintro e wv10 ⟨rfl, b⟩
  replace HB := Lib.hid (below_then HB.out b)
  replace HF := Lib.hid (HF.out.later b)
  replace HFz := Lib.hid (HFz.out.later b)
  replace R8 := Lib.hid (R8.out.later b)
  clear b
  go_wp2_with fail
  refine (HRW _ HF.out).mono ?_
  rintro e wv11 ⟨rfl, b⟩
  replace HB := Lib.hid (below_then HB.out b)
  replace HF := Lib.hid (HF.out.later b)
  replace HFz := Lib.hid (HFz.out.later b)
  replace R8 := Lib.hid (R8.out.later b)
  clear b
  go_wp2_with fail
  refine (HNO _ HF.out).mono ?_
  rintro e wv12 ⟨a12, n12, c12, rfl, h12, b⟩
  replace HB := Lib.hid (below_then HB.out b)
  replace HF := Lib.hid (HF.out.later b)
  replace HFz := Lib.hid (HFz.out.later b)
  replace R8 := Lib.hid (R8.out.later b)
  clear b
  have R12 := Lib.hid h12
  clear h12
  go_wp2_with fail
  refine (HNOz _ HFz.out).mono ?_
  rintro e wv13 ⟨a13, n13, c13, rfl, h13, b⟩
  replace HB := Lib.hid (below_then HB.out b)
  replace HF := Lib.hid (HF.out.later b)
  replace HFz := Lib.hid (HFz.out.later b)
  replace R8 := Lib.hid (R8.out.later b)
  replace R12 := Lib.hid (R12.out.later b)
  clear b
  have R13 := Lib.hid h13
  clear h13
  go_wp2_with fail
  refine (HRA _ a12 n12 c12 a13 n13 c13 R12.out R13.out).mono ?_
  rintro e wv14 ⟨a16, n16, c16, rfl, h16, b⟩
  replace HB := Lib.hid (below_then HB.out b)
  replace HF := Lib.hid (HF.out.later b)
  replace HFz := Lib.hid (HFz.out.later b)
  replace R8 := Lib.hid (R8.out.later b)
  replace R12 := Lib.hid (R12.out.later b)
  replace R13 := Lib.hid (R13.out.later b)
  clear b
  have R16 := Lib.hid h16
  clear h16
  go_wp2_with fail
  refine (law11_is_yes a8 n8 c8 a16 n16 c16 AV _ R8.out R16.out HAVC.out HAVL.out).mono ?_
  rintro e wv15 ⟨rfl, b⟩
  replace HB := Lib.hid (below_then HB.out b)
  replace HF := Lib.hid (HF.out.later b)
  replace HFz := Lib.hid (HFz.out.later b)
  replace R8 := Lib.hid (R8.out.later b)
  replace R12 := Lib.hid (R12.out.later b)
  replace R13 := Lib.hid (R13.out.later b)
  replace R16 := Lib.hid (R16.out.later b)
  clear b
  clear R8 R16
  go_wp2_with fail
  refine (law12_works S RS FS _ (Lib.hid (hT.out.later HB.out))).mono ?_
  rintro e wv16 ⟨rfl, b⟩
  replace HB := Lib.hid (below_then HB.out b)
  replace HF := Lib.hid (HF.out.later b)
  replace HFz := Lib.hid (HFz.out.later b)
  replace R12 := Lib.hid (R12.out.later b)
  replace R13 := Lib.hid (R13.out.later b)
  clear b
  go_wp2
  go_ret
  exact ⟨rfl, HB.out⟩
set_option maxRecDepth 4096 in
set_option maxHeartbeats 16000000 in
theorem law12_rows_rxx (S : GridSaid) (RS : RowSaid) (FS : FracSaid) (a : Option Addr) (n c : Nat) (LL : List (List Fx)) (az : Option Addr) (nz cz : Nat) (Lz : List Fx) (w : World) (h : Fxss w a n c LL) (hz : Fxs w az nz cz Lz) (hT : Hid (Dec10 w)) (hb : ((n : Int) ≤ 8 ∧ ∀ M ∈ LL, (M.length : Int) ≤ 8 ∧ thinI 3 M)) (hbz : ((nz : Int) ≤ 8 ∧ thinI 3 Lz)) (hrc : rect LL) (hmy : nz ≠ n) (hcn : nz ≠ gwidth LL) : Calls Tryz.prog 4 #[.slice a n c, .slice az nz cz] w (Gives (.bool true) w) := by
  have HB : Hid (Below w.heap.size w w) := Lib.hid (Below.refl _ _)
  have HNB := Lib.hid hb
  have hn : n ≤ 8 := by have := hb.1; omega
  have hsm : small 8 3 LL := fun M hM => ⟨by have := (hb.2 M hM).1; omega, thinI.out (N := 3) (hb.2 M hM).2⟩
  have hpq : ∀ r ∈ LL.map fqs, r.length ≤ 8 ∧ ∀ q ∈ r, qlen q ≤ 4 := fun r hr => by
    obtain ⟨M, hM, rfl⟩ := List.mem_map.1 hr
    refine ⟨by rw [fqs_length]; exact (hsm M hM).1, fun q hq => ?_⟩
    obtain ⟨x, hx, rfl⟩ := List.mem_map.1 hq
    obtain ⟨i, hi, rfl⟩ := List.getElem_of_mem hM
    obtain ⟨_, _, _, a5, n5, c5, _, h5⟩ := h.at (j := i) (by rw [← h.len]; exact hi)
    rw [List.getD_eq_getElem?_getD, List.getElem?_eq_getElem hi] at h5
    have ht := (hsm _ hM).2 x hx
    exact ((h5.ok hx).fr ht.1 ht.2).len
  have hlm : (LL.map fqs).length = n := by rw [List.length_map]; exact h.len
  have HSM := Lib.hid hsm
  have HPQ := Lib.hid hpq
  have HLM := Lib.hid hlm
  have HF := Lib.hid h
  have HNBz := Lib.hid hbz
  have hnz : nz ≤ 8 := by have := hbz.1; omega
  have hthz : thin 3 Lz := thinI.out (N := 3) hbz.2
  have hqz : ∀ q ∈ fqs Lz, qlen q ≤ 4 := fun q hq => by
    obtain ⟨x, hx, rfl⟩ := List.mem_map.1 hq
    exact ((hz.ok hx).fr (hthz x hx).1 (hthz x hx).2).len
  have hlqz : (fqs Lz).length = nz := (fqs_length Lz).trans hz.len
  have HTHz := Lib.hid hthz
  have HFz := Lib.hid hz
  have HRC := Lib.hid hrc
  obtain ⟨P, hP⟩ : ∃ P, LL.map fqs = P := ⟨_, rfl⟩
  obtain ⟨qs, hqs⟩ : ∃ qs, fqs Lz = qs := ⟨_, rfl⟩
  obtain ⟨wd, hwd⟩ : ∃ wd, gwidth LL = wd := ⟨_, rfl⟩
  rw [hP] at hpq hlm
  rw [hqs] at hqz hlqz
  have HPP := Lib.hid hpq
  have HQZ := Lib.hid hqz
  have hwP : gwidth P = wd := by rw [← hP, gwidth_fqs]; exact hwd
  have hwd8 : wd ≤ 8 := by
    rw [← hwP]
    unfold gwidth
    cases P with
    | nil => exact Nat.zero_le _
    | cons x r => exact (HPP.out x (List.mem_cons_self ..)).1
  have HNO : ∀ (w' : World) , Fxss w' a n c LL → Calls Tryz.prog 9 #[.slice a n c] w' (LstRws P w') := fun w' h1 => hP ▸ ref12_norms a n c LL w' h1 (by omega) (fun M hM => ⟨by have := (HSM.out M hM).1; omega, (HSM.out M hM).2.mono (by decide)⟩)
  have HNOz : ∀ (w' : World) , Fxs w' az nz cz Lz → Calls Tryz.prog 26 #[.slice az nz cz] w' (LstRw qs w') := fun w' h1 => hqs ▸ ref11_norms az nz cz Lz w' h1 (by omega) (HTHz.out.mono (by decide))
  have HTO : ∀ (w' : World) , Fxss w' a n c LL → Calls Tryz.prog 11 #[.slice a n c] w' (fun e w'' => ∃ (a' : Option Addr) (c' : Nat), e = .returned (.slice a' n c') ∧ Fxss w'' a' n c' LL ∧ Below w'.heap.size w' w'') := fun w' h1 => law12_to a n c LL w' h1 (by omega) (fun M hM => by have := (HSM.out M hM).1; omega)
  have HTOz : ∀ (w' : World) , Fxs w' az nz cz Lz → Calls Tryz.prog 24 #[.slice az nz cz] w' (fun e w'' => ∃ (a' : Option Addr) (c' : Nat), e = .returned (.slice a' nz c') ∧ Fxs w'' a' nz c' Lz ∧ Below w'.heap.size w' w'') := fun w' h1 => law11_to az nz cz Lz w' h1 (by omega)
  have HRI : ∀ (w' : World) , Fxss w' a n c LL → Calls Tryz.prog 12 #[.slice a n c] w' (Gives (.bool true) w') := fun w' h1 => ref12_right a n c LL true w' h1 (Lib.hid ⟨fun _ => HRC.out, fun _ => rfl⟩)
  have HRW : ∀ (w' : World) , Fxss w' a n c LL → Calls Tryz.prog 17 #[.slice a n c] w' (Gives (.int .i64 (wd : Int)) w') := fun w' h1 => hwd ▸ ref12_width a n c LL w' h1
  rw [hwd] at hcn
  have hrP : rect P := by rw [← hP]; exact (rect_fqs LL).2 hrc
  have hmat : mat n wd P := by have := hrP.mat; rw [hlm, hwP] at this; exact this
  have qm : ((nz : Int) == (n : Int)) = false := by simp; omega
  have qc : ((nz : Int) == (wd : Int)) = false := by simp; omega
  have HGL : ∀ (w' : World) (a1 : Option Addr) (c1 : Nat) (a2 : Option Addr) (c2 : Nat), Fxs w' a1 nz c1 Lz → Fxss w' a2 n c2 LL → Calls Tryz.prog 23 #[.slice a1 nz c1, .slice a2 n c2] w' (LstRwV [] (.bool false) w') := fun w' a1 c1 a2 c2 h1 h2 => S.left_no a1 nz c1 Lz a2 n c2 LL w' h1 h2 (by omega) (by omega) (HTHz.out.mono (by decide)) (fun M hM => ⟨Nat.le_trans (HSM.out M hM).1 (by decide), (HSM.out M hM).2.mono (by decide)⟩) (Lib.hid (fun h9 => hmy h9.2))
  have HGA : ∀ (w' : World) (a2 : Option Addr) (c2 : Nat) (a1 : Option Addr) (c1 : Nat), Fxss w' a2 n c2 LL → Fxs w' a1 nz c1 Lz → Calls Tryz.prog 25 #[.slice a2 n c2, .slice a1 nz c1] w' (LstRwV [] (.bool false) w') := fun w' a2 c2 a1 c1 h2 h1 => S.apply_no a2 n c2 LL a1 nz c1 Lz w' h2 h1 (by omega) (by omega) (fun M hM => ⟨Nat.le_trans (HSM.out M hM).1 (by decide), (HSM.out M hM).2.mono (by decide)⟩) (HTHz.out.mono (by decide)) (Lib.hid (fun h9 => hcn (h9.2.trans hwd)))
  clear hP hqs hwd hwP hwd8 h hz hb hbz hrc hsm hpq hlm hthz hqz hlqz hmy hcn hrP hmat
  go_enter Tryz.func4, Tryz.ntmps4
  go_wp2_with fail
  refine (ref12_long a n c LL 8 3 false _ HF.out (by decide) (Lib.hid ⟨fun h => absurd h (by decide), fun h => absurd HNB.out h⟩)).mono ?_
  rintro e wv1 ⟨rfl, b⟩
  replace HB := Lib.hid (below_then HB.out b)
  replace HF := Lib.hid (HF.out.later b)
  replace HFz := Lib.hid (HFz.out.later b)
  clear b
  go_wp2_with fail
  refine (ref11_long az nz cz Lz 8 3 false _ HFz.out (by decide) (Lib.hid ⟨fun h => absurd h (by decide), fun h => absurd HNBz.out h⟩)).mono ?_
  rintro e wv2 ⟨rfl, b⟩
  replace HB := Lib.hid (below_then HB.out b)
  replace HF := Lib.hid (HF.out.later b)
  replace HFz := Lib.hid (HFz.out.later b)
  clear b
  go_wp2_with fail
  refine (HTOz _ HFz.out).mono ?_
  rintro e wv3 ⟨a3, c3, rfl, h3, b⟩
  replace HB := Lib.hid (below_then HB.out b)
  replace HF := Lib.hid (HF.out.later b)
  replace HFz := Lib.hid (HFz.out.later b)
  clear b
  have R3 := Lib.hid h3
  clear h3
  go_wp2_with fail
  refine (HTO _ HF.out).mono ?_
  rintro e wv4 ⟨a4, c4, rfl, h4, b⟩
  replace HB := Lib.hid (below_then HB.out b)
  replace HF := Lib.hid (HF.out.later b)
  replace HFz := Lib.hid (HFz.out.later b)
  replace R3 := Lib.hid (R3.out.later b)
  clear b
  have R4 := Lib.hid h4
  clear h4
  go_wp2_with fail
  refine (HGL _ a3 c3 a4 c4 R3.out R4.out).mono ?_
  rintro e wv5 ⟨a5, n5, c5, rfl, h5, b⟩
  replace HB := Lib.hid (below_then HB.out b)
  replace HF := Lib.hid (HF.out.later b)
  replace HFz := Lib.hid (HFz.out.later b)
  replace R3 := Lib.hid (R3.out.later b)
  replace R4 := Lib.hid (R4.out.later b)
  clear b
  obtain rfl : n5 = 0 := h5.len.symm
  clear h5
  clear R3 R4
  go_wp2_with fail
  refine (HTO _ HF.out).mono ?_
  rintro e wv6 ⟨a6, c6, rfl, h6, b⟩
  replace HB := Lib.hid (below_then HB.out b)
  replace HF := Lib.hid (HF.out.later b)
  replace HFz := Lib.hid (HFz.out.later b)
  clear b
  have R6 := Lib.hid h6
  clear h6
  go_wp2_with fail
  refine (HTOz _ HFz.out).mono ?_
  rintro e wv7 ⟨a7, c7, rfl, h7, b⟩
  replace HB := Lib.hid (below_then HB.out b)
  replace HF := Lib.hid (HF.out.later b)
  replace HFz := Lib.hid (HFz.out.later b)
  replace R6 := Lib.hid (R6.out.later b)
  clear b
  have R7 := Lib.hid h7
  clear h7
  go_wp2_with fail
  refine (HGA _ a6 c6 a7 c7 R6.out R7.out).mono ?_
  rintro e wv8 ⟨a8, n8, c8, rfl, h8, b⟩
  replace HB := Lib.hid (below_then HB.out b)
  replace HF := Lib.hid (HF.out.later b)
  replace HFz := Lib.hid (HFz.out.later b)
  replace R6 := Lib.hid (R6.out.later b)
  replace R7 := Lib.hid (R7.out.later b)
  clear b
  obtain rfl : n8 = 0 := h8.len.symm
  clear h8
  clear R6 R7
  go_wp2_with fail
  refine (HRI _ HF.out).mono ?_
  rintro e wv9 ⟨rfl, b⟩
  replace HB := Lib.hid (below_then HB.out b)
  replace HF := Lib.hid (HF.out.later b)
  replace HFz := Lib.hid (HFz.out.later b)
  clear b
  go_wp2_with fail
  refine (HRI _ HF.out).mono ?_
  rintro e wv10 ⟨rfl, b⟩
  replace HB := Lib.hid (below_then HB.out b)
  replace HF := Lib.hid (HF.out.later b)
  replace HFz := Lib.hid (HFz.out.later b)
  clear b
  go_wp2_with fail
  refine (HRW _ HF.out).mono ?_
  rintro e wv11 ⟨rfl, b⟩
  replace HB := Lib.hid (below_then HB.out b)
  replace HF := Lib.hid (HF.out.later b)
  replace HFz := Lib.hid (HFz.out.later b)
  clear b
  go_wp2_with fail
  refine (HNO _ HF.out).mono ?_
  rintro e wv12 ⟨a12, n12, c12, rfl, h12, b⟩
  replace HB := Lib.hid (below_then HB.out b)
  replace HF := Lib.hid (HF.out.later b)
  replace HFz := Lib.hid (HFz.out.later b)
  clear b
  have R12 := Lib.hid h12
  clear h12
  go_wp2_with fail
  refine (HNOz _ HFz.out).mono ?_
  rintro e wv13 ⟨a13, n13, c13, rfl, h13, b⟩
  replace HB := Lib.hid (below_then HB.out b)
  replace HF := Lib.hid (HF.out.later b)
  replace HFz := Lib.hid (HFz.out.later b)
  replace R12 := Lib.hid (R12.out.later b)
  clear b
  have R13 := Lib.hid h13
  clear h13
  go_wp2_with fail
  refine (law12_works S RS FS _ (Lib.hid (hT.out.later HB.out))).mono ?_
  rintro e wv14 ⟨rfl, b⟩
  replace HB := Lib.hid (below_then HB.out b)
  replace HF := Lib.hid (HF.out.later b)
  replace HFz := Lib.hid (HFz.out.later b)
  replace R12 := Lib.hid (R12.out.later b)
  replace R13 := Lib.hid (R13.out.later b)
  clear b
  go_wp2
  go_ret
  exact ⟨rfl, HB.out⟩
set_option maxRecDepth 4096 in
set_option maxHeartbeats 16000000 in
theorem law12_rows_nxx (S : GridSaid) (RS : RowSaid) (FS : FracSaid) (a : Option Addr) (n c : Nat) (LL : List (List Fx)) (az : Option Addr) (nz cz : Nat) (Lz : List Fx) (w : World) (h : Fxss w a n c LL) (hz : Fxs w az nz cz Lz) (hT : Hid (Dec10 w)) (hb : ((n : Int) ≤ 8 ∧ ∀ M ∈ LL, (M.length : Int) ≤ 8 ∧ thinI 3 M)) (hbz : ((nz : Int) ≤ 8 ∧ thinI 3 Lz)) (hrc : ¬ rect LL) : Calls Tryz.prog 4 #[.slice a n c, .slice az nz cz] w (Gives (.bool true) w) := by
  have HB : Hid (Below w.heap.size w w) := Lib.hid (Below.refl _ _)
  have HNB := Lib.hid hb
  have hn : n ≤ 8 := by have := hb.1; omega
  have hsm : small 8 3 LL := fun M hM => ⟨by have := (hb.2 M hM).1; omega, thinI.out (N := 3) (hb.2 M hM).2⟩
  have hpq : ∀ r ∈ LL.map fqs, r.length ≤ 8 ∧ ∀ q ∈ r, qlen q ≤ 4 := fun r hr => by
    obtain ⟨M, hM, rfl⟩ := List.mem_map.1 hr
    refine ⟨by rw [fqs_length]; exact (hsm M hM).1, fun q hq => ?_⟩
    obtain ⟨x, hx, rfl⟩ := List.mem_map.1 hq
    obtain ⟨i, hi, rfl⟩ := List.getElem_of_mem hM
    obtain ⟨_, _, _, a5, n5, c5, _, h5⟩ := h.at (j := i) (by rw [← h.len]; exact hi)
    rw [List.getD_eq_getElem?_getD, List.getElem?_eq_getElem hi] at h5
    have ht := (hsm _ hM).2 x hx
    exact ((h5.ok hx).fr ht.1 ht.2).len
  have hlm : (LL.map fqs).length = n := by rw [List.length_map]; exact h.len
  have HSM := Lib.hid hsm
  have HPQ := Lib.hid hpq
  have HLM := Lib.hid hlm
  have HF := Lib.hid h
  have HNBz := Lib.hid hbz
  have hnz : nz ≤ 8 := by have := hbz.1; omega
  have hthz : thin 3 Lz := thinI.out (N := 3) hbz.2
  have hqz : ∀ q ∈ fqs Lz, qlen q ≤ 4 := fun q hq => by
    obtain ⟨x, hx, rfl⟩ := List.mem_map.1 hq
    exact ((hz.ok hx).fr (hthz x hx).1 (hthz x hx).2).len
  have hlqz : (fqs Lz).length = nz := (fqs_length Lz).trans hz.len
  have HTHz := Lib.hid hthz
  have HFz := Lib.hid hz
  have HRC := Lib.hid hrc
  obtain ⟨P, hP⟩ : ∃ P, LL.map fqs = P := ⟨_, rfl⟩
  obtain ⟨qs, hqs⟩ : ∃ qs, fqs Lz = qs := ⟨_, rfl⟩
  obtain ⟨wd, hwd⟩ : ∃ wd, gwidth LL = wd := ⟨_, rfl⟩
  rw [hP] at hpq hlm
  rw [hqs] at hqz hlqz
  have HPP := Lib.hid hpq
  have HQZ := Lib.hid hqz
  have hwP : gwidth P = wd := by rw [← hP, gwidth_fqs]; exact hwd
  have hwd8 : wd ≤ 8 := by
    rw [← hwP]
    unfold gwidth
    cases P with
    | nil => exact Nat.zero_le _
    | cons x r => exact (HPP.out x (List.mem_cons_self ..)).1
  have HNO : ∀ (w' : World) , Fxss w' a n c LL → Calls Tryz.prog 9 #[.slice a n c] w' (LstRws P w') := fun w' h1 => hP ▸ ref12_norms a n c LL w' h1 (by omega) (fun M hM => ⟨by have := (HSM.out M hM).1; omega, (HSM.out M hM).2.mono (by decide)⟩)
  have HNOz : ∀ (w' : World) , Fxs w' az nz cz Lz → Calls Tryz.prog 26 #[.slice az nz cz] w' (LstRw qs w') := fun w' h1 => hqs ▸ ref11_norms az nz cz Lz w' h1 (by omega) (HTHz.out.mono (by decide))
  have HTO : ∀ (w' : World) , Fxss w' a n c LL → Calls Tryz.prog 11 #[.slice a n c] w' (fun e w'' => ∃ (a' : Option Addr) (c' : Nat), e = .returned (.slice a' n c') ∧ Fxss w'' a' n c' LL ∧ Below w'.heap.size w' w'') := fun w' h1 => law12_to a n c LL w' h1 (by omega) (fun M hM => by have := (HSM.out M hM).1; omega)
  have HTOz : ∀ (w' : World) , Fxs w' az nz cz Lz → Calls Tryz.prog 24 #[.slice az nz cz] w' (fun e w'' => ∃ (a' : Option Addr) (c' : Nat), e = .returned (.slice a' nz c') ∧ Fxs w'' a' nz c' Lz ∧ Below w'.heap.size w' w'') := fun w' h1 => law11_to az nz cz Lz w' h1 (by omega)
  have HRI : ∀ (w' : World) , Fxss w' a n c LL → Calls Tryz.prog 12 #[.slice a n c] w' (Gives (.bool false) w') := fun w' h1 => ref12_right a n c LL false w' h1 (Lib.hid ⟨fun h => absurd h (by decide), fun h => absurd h HRC.out⟩)
  have HRW : ∀ (w' : World) , Fxss w' a n c LL → Calls Tryz.prog 17 #[.slice a n c] w' (Gives (.int .i64 (wd : Int)) w') := fun w' h1 => hwd ▸ ref12_width a n c LL w' h1
  have HGL : ∀ (w' : World) (a1 : Option Addr) (c1 : Nat) (a2 : Option Addr) (c2 : Nat), Fxs w' a1 nz c1 Lz → Fxss w' a2 n c2 LL → Calls Tryz.prog 23 #[.slice a1 nz c1, .slice a2 n c2] w' (LstRwV [] (.bool false) w') := fun w' a1 c1 a2 c2 h1 h2 => S.left_no a1 nz c1 Lz a2 n c2 LL w' h1 h2 (by omega) (by omega) (HTHz.out.mono (by decide)) (fun M hM => ⟨Nat.le_trans (HSM.out M hM).1 (by decide), (HSM.out M hM).2.mono (by decide)⟩) (Lib.hid (fun h9 => HRC.out h9.1))
  have HGA : ∀ (w' : World) (a2 : Option Addr) (c2 : Nat) (a1 : Option Addr) (c1 : Nat), Fxss w' a2 n c2 LL → Fxs w' a1 nz c1 Lz → Calls Tryz.prog 25 #[.slice a2 n c2, .slice a1 nz c1] w' (LstRwV [] (.bool false) w') := fun w' a2 c2 a1 c1 h2 h1 => S.apply_no a2 n c2 LL a1 nz c1 Lz w' h2 h1 (by omega) (by omega) (fun M hM => ⟨Nat.le_trans (HSM.out M hM).1 (by decide), (HSM.out M hM).2.mono (by decide)⟩) (HTHz.out.mono (by decide)) (Lib.hid (fun h9 => HRC.out h9.1))
  clear hP hqs hwd hwP hwd8 h hz hb hbz hrc hsm hpq hlm hthz hqz hlqz
  go_enter Tryz.func4, Tryz.ntmps4
  go_wp2_with fail
  refine (ref12_long a n c LL 8 3 false _ HF.out (by decide) (Lib.hid ⟨fun h => absurd h (by decide), fun h => absurd HNB.out h⟩)).mono ?_
  rintro e wv1 ⟨rfl, b⟩
  replace HB := Lib.hid (below_then HB.out b)
  replace HF := Lib.hid (HF.out.later b)
  replace HFz := Lib.hid (HFz.out.later b)
  clear b
  go_wp2_with fail
  refine (ref11_long az nz cz Lz 8 3 false _ HFz.out (by decide) (Lib.hid ⟨fun h => absurd h (by decide), fun h => absurd HNBz.out h⟩)).mono ?_
  rintro e wv2 ⟨rfl, b⟩
  replace HB := Lib.hid (below_then HB.out b)
  replace HF := Lib.hid (HF.out.later b)
  replace HFz := Lib.hid (HFz.out.later b)
  clear b
  go_wp2_with fail
  refine (HTOz _ HFz.out).mono ?_
  rintro e wv3 ⟨a3, c3, rfl, h3, b⟩
  replace HB := Lib.hid (below_then HB.out b)
  replace HF := Lib.hid (HF.out.later b)
  replace HFz := Lib.hid (HFz.out.later b)
  clear b
  have R3 := Lib.hid h3
  clear h3
  go_wp2_with fail
  refine (HTO _ HF.out).mono ?_
  rintro e wv4 ⟨a4, c4, rfl, h4, b⟩
  replace HB := Lib.hid (below_then HB.out b)
  replace HF := Lib.hid (HF.out.later b)
  replace HFz := Lib.hid (HFz.out.later b)
  replace R3 := Lib.hid (R3.out.later b)
  clear b
  have R4 := Lib.hid h4
  clear h4
  go_wp2_with fail
  refine (HGL _ a3 c3 a4 c4 R3.out R4.out).mono ?_
  rintro e wv5 ⟨a5, n5, c5, rfl, h5, b⟩
  replace HB := Lib.hid (below_then HB.out b)
  replace HF := Lib.hid (HF.out.later b)
  replace HFz := Lib.hid (HFz.out.later b)
  replace R3 := Lib.hid (R3.out.later b)
  replace R4 := Lib.hid (R4.out.later b)
  clear b
  obtain rfl : n5 = 0 := h5.len.symm
  clear h5
  clear R3 R4
  go_wp2_with fail
  refine (HTO _ HF.out).mono ?_
  rintro e wv6 ⟨a6, c6, rfl, h6, b⟩
  replace HB := Lib.hid (below_then HB.out b)
  replace HF := Lib.hid (HF.out.later b)
  replace HFz := Lib.hid (HFz.out.later b)
  clear b
  have R6 := Lib.hid h6
  clear h6
  go_wp2_with fail
  refine (HTOz _ HFz.out).mono ?_
  rintro e wv7 ⟨a7, c7, rfl, h7, b⟩
  replace HB := Lib.hid (below_then HB.out b)
  replace HF := Lib.hid (HF.out.later b)
  replace HFz := Lib.hid (HFz.out.later b)
  replace R6 := Lib.hid (R6.out.later b)
  clear b
  have R7 := Lib.hid h7
  clear h7
  go_wp2_with fail
  refine (HGA _ a6 c6 a7 c7 R6.out R7.out).mono ?_
  rintro e wv8 ⟨a8, n8, c8, rfl, h8, b⟩
  replace HB := Lib.hid (below_then HB.out b)
  replace HF := Lib.hid (HF.out.later b)
  replace HFz := Lib.hid (HFz.out.later b)
  replace R6 := Lib.hid (R6.out.later b)
  replace R7 := Lib.hid (R7.out.later b)
  clear b
  obtain rfl : n8 = 0 := h8.len.symm
  clear h8
  clear R6 R7
  go_wp2_with fail
  refine (HRI _ HF.out).mono ?_
  rintro e wv9 ⟨rfl, b⟩
  replace HB := Lib.hid (below_then HB.out b)
  replace HF := Lib.hid (HF.out.later b)
  replace HFz := Lib.hid (HFz.out.later b)
  clear b
  go_wp2_with fail
  refine (HRI _ HF.out).mono ?_
  rintro e wv10 ⟨rfl, b⟩
  replace HB := Lib.hid (below_then HB.out b)
  replace HF := Lib.hid (HF.out.later b)
  replace HFz := Lib.hid (HFz.out.later b)
  clear b
  go_wp2_with fail
  refine (HNO _ HF.out).mono ?_
  rintro e wv11 ⟨a12, n12, c12, rfl, h12, b⟩
  replace HB := Lib.hid (below_then HB.out b)
  replace HF := Lib.hid (HF.out.later b)
  replace HFz := Lib.hid (HFz.out.later b)
  clear b
  have R12 := Lib.hid h12
  clear h12
  go_wp2_with fail
  refine (HNOz _ HFz.out).mono ?_
  rintro e wv12 ⟨a13, n13, c13, rfl, h13, b⟩
  replace HB := Lib.hid (below_then HB.out b)
  replace HF := Lib.hid (HF.out.later b)
  replace HFz := Lib.hid (HFz.out.later b)
  replace R12 := Lib.hid (R12.out.later b)
  clear b
  have R13 := Lib.hid h13
  clear h13
  go_wp2_with fail
  refine (law12_works S RS FS _ (Lib.hid (hT.out.later HB.out))).mono ?_
  rintro e wv13 ⟨rfl, b⟩
  replace HB := Lib.hid (below_then HB.out b)
  replace HF := Lib.hid (HF.out.later b)
  replace HFz := Lib.hid (HFz.out.later b)
  replace R12 := Lib.hid (R12.out.later b)
  replace R13 := Lib.hid (R13.out.later b)
  clear b
  go_wp2
  go_ret
  exact ⟨rfl, HB.out⟩
theorem law12_rows (S : GridSaid) (RS : RowSaid) (FS : FracSaid) (a : Option Addr) (n c : Nat) (LL : List (List Fx)) (az : Option Addr) (nz cz : Nat) (Lz : List Fx) (w : World) (h : Fxss w a n c LL) (hz : Fxs w az nz cz Lz) (hT : Hid (Dec10 w)) : Calls Tryz.prog 4 #[.slice a n c, .slice az nz cz] w (Gives (.bool true) w) := by
  by_cases hb : ((n : Int) ≤ 8 ∧ ∀ M ∈ LL, (M.length : Int) ≤ 8 ∧ thinI 3 M)
  · by_cases hbz : ((nz : Int) ≤ 8 ∧ thinI 3 Lz)
    · by_cases hrc : rect LL
      · by_cases hmy : nz = n
        · by_cases hcn : nz = gwidth LL
          · exact law12_rows_rmc S RS FS a n c LL az nz cz Lz w h hz hT hb hbz hrc hmy hcn
          · exact law12_rows_rmx S RS FS a n c LL az nz cz Lz w h hz hT hb hbz hrc hmy hcn
        · by_cases hcn : nz = gwidth LL
          · exact law12_rows_rxc S RS FS a n c LL az nz cz Lz w h hz hT hb hbz hrc hmy hcn
          · exact law12_rows_rxx S RS FS a n c LL az nz cz Lz w h hz hT hb hbz hrc hmy hcn
      · exact law12_rows_nxx S RS FS a n c LL az nz cz Lz w h hz hT hb hbz hrc
    · exact law12_rows_longb S RS FS a n c LL az nz cz Lz w h hz hT hb hbz
  · exact law12_rows_longa S RS FS a n c LL az nz cz Lz w h hz hT hb
end Go.Proofs.YtpjkhbfglgmnmaaGreatDoor
