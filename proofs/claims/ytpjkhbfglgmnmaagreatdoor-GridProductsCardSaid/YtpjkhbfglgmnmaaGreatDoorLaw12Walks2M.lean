/-
  The walks of the laws of layer 12: GridTells.
-/
import Derived.Test.YtpjkhbfglgmnmaaGreatDoorG18
import Derived.Test.YtpjkhbfglgmnmaaGreatDoorRef12bM
import Derived.Test.YtpjkhbfglgmnmaaGreatDoorRef12cM
import Derived.Test.YtpjkhbfglgmnmaaGreatDoorRef12eM
import Derived.Test.YtpjkhbfglgmnmaaGreatDoorRef12fM
import Derived.Test.YtpjkhbfglgmnmaaGreatDoorRef12lM
namespace Go.Proofs.YtpjkhbfglgmnmaaGreatDoor
open Go.RowKit

theorem gturn_rows {K B w n : Nat} {m : List (List Rat)} (hm : mat n w m) (hn : n ≤ K) (hq : ∀ r ∈ m, ∀ q ∈ r, qlen q ≤ B) : ∀ r ∈ gturn w m, r.length ≤ K ∧ ∀ q ∈ r, qlen q ≤ B := fun r hr => by
  refine ⟨by rw [(gturn_mat hm).2 r hr]; exact hn, fun q hq' => ?_⟩
  unfold gturn at hr
  obtain ⟨j, hj, rfl⟩ := List.mem_map.1 hr
  unfold gcol at hq'
  obtain ⟨x, hx, rfl⟩ := List.mem_map.1 hq'
  exact hq x hx _ (q_mem (by have := hm.2 x hx; have := List.mem_range.1 hj; omega))
theorem is_yes12 {a0 a1 : Option Addr} {n0 c0 n1 c1 : Nat} {V : List (List Rat)} {w : World} (h0 : Rwss w a0 n0 c0 V) (h1 : Rwss w a1 n1 c1 V) (hV : ∀ r ∈ V, r.length ≤ 1000 ∧ ∀ q ∈ r, qlen q ≤ 15000) : Calls Tryz.prog 13 #[.slice a0 n0 c0, .slice a1 n1 c1] w (Gives (.bool true) w) := by
  have h := law12_is a0 n0 c0 V a1 n1 c1 V w h0 h1 hV (fun r hr => (hV r hr).2)
  rw [decide_eq_true rfl] at h
  exact h
theorem beq_self12 (r : Bool) : (r == r) = true := by cases r <;> rfl
set_option maxRecDepth 4096 in
set_option maxHeartbeats 16000000 in
theorem law12_tells_longa (S : GridSaid) (RS : RowSaid) (FS : FracSaid) (a : Option Addr) (n c : Nat) (LL : List (List Fx)) (az : Option Addr) (nz cz : Nat) (LLz : List (List Fx)) (k : Int) (w : World) (h : Fxss w a n c LL) (hz : Fxss w az nz cz LLz) (_hk : isInt k) (hT : Hid (Dec10 w)) (hb : ¬ ((n : Int) ≤ 8 ∧ ∀ M ∈ LL, (M.length : Int) ≤ 8 ∧ thinI 4 M)) : Calls Tryz.prog 3 #[.slice a n c, .slice az nz cz, .int .i64 k] w (Gives (.bool true) w) := by
  have HB : Hid (Below w.heap.size w w) := Lib.hid (Below.refl _ _)
  have HNB := Lib.hid hb
  have HF := Lib.hid h
  have HFz := Lib.hid hz
  clear h hz hb
  go_enter Tryz.func3, Tryz.ntmps3
  go_wp2_with fail
  refine (ref12_long a n c LL 8 4 true _ HF.out (by decide) (Lib.hid ⟨fun _ => HNB.out, fun _ => rfl⟩)).mono ?_
  rintro e wv1 ⟨rfl, b⟩
  replace HB := Lib.hid (below_then HB.out b)
  replace HF := Lib.hid (HF.out.later b)
  replace HFz := Lib.hid (HFz.out.later b)
  clear b
  go_wp2_with fail
  refine (law12_works S RS FS _ (Lib.hid (hT.out.later HB.out))).mono ?_
  rintro e wv2 ⟨rfl, b⟩
  replace HB := Lib.hid (below_then HB.out b)
  replace HF := Lib.hid (HF.out.later b)
  replace HFz := Lib.hid (HFz.out.later b)
  clear b
  go_wp2
  go_ret
  exact ⟨rfl, HB.out⟩
set_option maxRecDepth 4096 in
set_option maxHeartbeats 16000000 in
theorem law12_tells_longb (S : GridSaid) (RS : RowSaid) (FS : FracSaid) (a : Option Addr) (n c : Nat) (LL : List (List Fx)) (az : Option Addr) (nz cz : Nat) (LLz : List (List Fx)) (k : Int) (w : World) (h : Fxss w a n c LL) (hz : Fxss w az nz cz LLz) (_hk : isInt k) (hT : Hid (Dec10 w)) (hb : ((n : Int) ≤ 8 ∧ ∀ M ∈ LL, (M.length : Int) ≤ 8 ∧ thinI 4 M)) (hbz : ¬ ((nz : Int) ≤ 8 ∧ ∀ M ∈ LLz, (M.length : Int) ≤ 8 ∧ thinI 4 M)) : Calls Tryz.prog 3 #[.slice a n c, .slice az nz cz, .int .i64 k] w (Gives (.bool true) w) := by
  have HB : Hid (Below w.heap.size w w) := Lib.hid (Below.refl _ _)
  have HNB := Lib.hid hb
  have HF := Lib.hid h
  have HFz := Lib.hid hz
  have HNBz := Lib.hid hbz
  clear h hz hb hbz
  go_enter Tryz.func3, Tryz.ntmps3
  go_wp2_with fail
  refine (ref12_long a n c LL 8 4 false _ HF.out (by decide) (Lib.hid ⟨fun h => absurd h (by decide), fun h => absurd HNB.out h⟩)).mono ?_
  rintro e wv1 ⟨rfl, b⟩
  replace HB := Lib.hid (below_then HB.out b)
  replace HF := Lib.hid (HF.out.later b)
  replace HFz := Lib.hid (HFz.out.later b)
  clear b
  go_wp2_with fail
  refine (ref12_long az nz cz LLz 8 4 true _ HFz.out (by decide) (Lib.hid ⟨fun _ => HNBz.out, fun _ => rfl⟩)).mono ?_
  rintro e wv2 ⟨rfl, b⟩
  replace HB := Lib.hid (below_then HB.out b)
  replace HF := Lib.hid (HF.out.later b)
  replace HFz := Lib.hid (HFz.out.later b)
  clear b
  go_wp2_with fail
  refine (law12_works S RS FS _ (Lib.hid (hT.out.later HB.out))).mono ?_
  rintro e wv3 ⟨rfl, b⟩
  replace HB := Lib.hid (below_then HB.out b)
  replace HF := Lib.hid (HF.out.later b)
  replace HFz := Lib.hid (HFz.out.later b)
  clear b
  go_wp2
  go_ret
  exact ⟨rfl, HB.out⟩
set_option maxRecDepth 4096 in
set_option maxHeartbeats 16000000 in
theorem law12_tells_rect (S : GridSaid) (RS : RowSaid) (FS : FracSaid) (a : Option Addr) (n c : Nat) (LL : List (List Fx)) (az : Option Addr) (nz cz : Nat) (LLz : List (List Fx)) (k : Int) (w : World) (h : Fxss w a n c LL) (hz : Fxss w az nz cz LLz) (hk : isInt k) (hT : Hid (Dec10 w)) (hb : ((n : Int) ≤ 8 ∧ ∀ M ∈ LL, (M.length : Int) ≤ 8 ∧ thinI 4 M)) (hbz : ((nz : Int) ≤ 8 ∧ ∀ M ∈ LLz, (M.length : Int) ≤ 8 ∧ thinI 4 M)) (hrc : rect LL) : Calls Tryz.prog 3 #[.slice a n c, .slice az nz cz, .int .i64 k] w (Gives (.bool true) w) := by
  have HB : Hid (Below w.heap.size w w) := Lib.hid (Below.refl _ _)
  have HNB := Lib.hid hb
  have hn : n ≤ 8 := by have := hb.1; omega
  have hsm : small 8 4 LL := fun M hM => ⟨by have := (hb.2 M hM).1; omega, thinI.out (N := 4) (hb.2 M hM).2⟩
  have hpq : ∀ r ∈ LL.map fqs, r.length ≤ 8 ∧ ∀ q ∈ r, qlen q ≤ 5 := fun r hr => by
    obtain ⟨M, hM, rfl⟩ := List.mem_map.1 hr
    refine ⟨by rw [fqs_length]; exact (hsm M hM).1, fun q hq => ?_⟩
    obtain ⟨x, hx, rfl⟩ := List.mem_map.1 hq
    obtain ⟨i, hi, rfl⟩ := List.getElem_of_mem hM
    obtain ⟨_, _, _, a5, n5, c5, _, h5⟩ := h.at (j := i) (by rw [← h.len]; exact hi)
    rw [List.getD_eq_getElem?_getD, List.getElem?_eq_getElem hi] at h5
    have ht := (hsm _ hM).2 x hx
    exact ((h5.ok hx).fr ht.1 ht.2).len
  have hlm : (LL.map fqs).length = n := by rw [List.length_map]; exact h.len
  have HSM := Lib.hid hsm
  have HPQ := Lib.hid hpq
  have HLM := Lib.hid hlm
  have HF := Lib.hid h
  have HNBz := Lib.hid hbz
  have hnz : nz ≤ 8 := by have := hbz.1; omega
  have hsmz : small 8 4 LLz := fun M hM => ⟨by have := (hbz.2 M hM).1; omega, thinI.out (N := 4) (hbz.2 M hM).2⟩
  have hpqz : ∀ r ∈ LLz.map fqs, r.length ≤ 8 ∧ ∀ q ∈ r, qlen q ≤ 5 := fun r hr => by
    obtain ⟨M, hM, rfl⟩ := List.mem_map.1 hr
    refine ⟨by rw [fqs_length]; exact (hsmz M hM).1, fun q hq => ?_⟩
    obtain ⟨x, hx, rfl⟩ := List.mem_map.1 hq
    obtain ⟨i, hi, rfl⟩ := List.getElem_of_mem hM
    obtain ⟨_, _, _, a5, n5, c5, _, h5⟩ := hz.at (j := i) (by rw [← hz.len]; exact hi)
    rw [List.getD_eq_getElem?_getD, List.getElem?_eq_getElem hi] at h5
    have ht := (hsmz _ hM).2 x hx
    exact ((h5.ok hx).fr ht.1 ht.2).len
  have hlmz : (LLz.map fqs).length = nz := by rw [List.length_map]; exact hz.len
  have HSMz := Lib.hid hsmz
  have HPQz := Lib.hid hpqz
  have HLMz := Lib.hid hlmz
  have HFz := Lib.hid hz
  have HKI := Lib.hid hk
  have HRC := Lib.hid hrc
  obtain ⟨P, hP⟩ : ∃ P, LL.map fqs = P := ⟨_, rfl⟩
  obtain ⟨Z, hZ⟩ : ∃ Z, LLz.map fqs = Z := ⟨_, rfl⟩
  obtain ⟨wd, hwd⟩ : ∃ wd, gwidth LL = wd := ⟨_, rfl⟩
  obtain ⟨I, hI⟩ : ∃ I, gident (gcut k) = I := ⟨_, rfl⟩
  obtain ⟨sm, hsm9⟩ : ∃ r, decide (P = Z) = r := ⟨_, rfl⟩
  have hII : ∀ r ∈ I, r.length ≤ 1000 ∧ ∀ q ∈ r, qlen q ≤ 15000 := fun r hr => by
    rw [← hI] at hr
    unfold gident at hr
    obtain ⟨i, _, rfl⟩ := List.mem_map.1 hr
    exact ⟨by rw [runit_length]; unfold gcut; omega, fun q hq => Nat.le_trans (qlen_runit _ _ q hq) (by decide)⟩
  have HII := Lib.hid hII
  rw [hP] at hpq hlm
  rw [hZ] at hpqz hlmz
  have HNO : ∀ (w' : World) , Fxss w' a n c LL → Calls Tryz.prog 9 #[.slice a n c] w' (LstRws P w') := fun w' h1 => hP ▸ ref12_norms a n c LL w' h1 (by omega) (fun M hM => ⟨by have := (HSM.out M hM).1; omega, (HSM.out M hM).2.mono (by decide)⟩)
  have HNOz : ∀ (w' : World) , Fxss w' az nz cz LLz → Calls Tryz.prog 9 #[.slice az nz cz] w' (LstRws Z w') := fun w' h1 => hZ ▸ ref12_norms az nz cz LLz w' h1 (by omega) (fun M hM => ⟨by have := (HSMz.out M hM).1; omega, (HSMz.out M hM).2.mono (by decide)⟩)
  have HTO : ∀ (w' : World) , Fxss w' a n c LL → Calls Tryz.prog 11 #[.slice a n c] w' (fun e w'' => ∃ (a' : Option Addr) (c' : Nat), e = .returned (.slice a' n c') ∧ Fxss w'' a' n c' LL ∧ Below w'.heap.size w' w'') := fun w' h1 => law12_to a n c LL w' h1 (by omega) (fun M hM => by have := (HSM.out M hM).1; omega)
  have HTOz : ∀ (w' : World) , Fxss w' az nz cz LLz → Calls Tryz.prog 11 #[.slice az nz cz] w' (fun e w'' => ∃ (a' : Option Addr) (c' : Nat), e = .returned (.slice a' nz c') ∧ Fxss w'' a' nz c' LLz ∧ Below w'.heap.size w' w'') := fun w' h1 => law12_to az nz cz LLz w' h1 (by omega) (fun M hM => by have := (HSMz.out M hM).1; omega)
  have HRI : ∀ (w' : World) , Fxss w' a n c LL → Calls Tryz.prog 12 #[.slice a n c] w' (Gives (.bool true) w') := fun w' h1 => ref12_right a n c LL true w' h1 (Lib.hid ⟨fun _ => HRC.out, fun _ => rfl⟩)
  have HGR : ∀ (w' : World) (a1 : Option Addr) (c1 : Nat), Fxss w' a1 n c1 LL → Calls Tryz.prog 15 #[.slice a1 n c1] w' (Gives (.bool true) w') := fun w' a1 c1 h1 => by
    have h9 := S.right a1 n c1 LL w' h1
    rw [decide_eq_true HRC.out] at h9
    exact h9
  have HGW : ∀ (w' : World) (a1 : Option Addr) (c1 : Nat), Fxss w' a1 n c1 LL → Calls Tryz.prog 16 #[.slice a1 n c1] w' (Gives (.int .i64 (wd : Int)) w') := fun w' a1 c1 h1 => hwd ▸ S.width a1 n c1 LL w' h1
  have HRW : ∀ (w' : World) , Fxss w' a n c LL → Calls Tryz.prog 17 #[.slice a n c] w' (Gives (.int .i64 (wd : Int)) w') := fun w' h1 => hwd ▸ ref12_width a n c LL w' h1
  have HGS : ∀ (w' : World) (a1 : Option Addr) (c1 : Nat) (a2 : Option Addr) (c2 : Nat), Fxss w' a1 n c1 LL → Fxss w' a2 nz c2 LLz → Calls Tryz.prog 18 #[.slice a1 n c1, .slice a2 nz c2] w' (Gives (.bool sm) w') := fun w' a1 c1 a2 c2 h1 h2 => by
    have h9 := S.same a1 n c1 LL a2 nz c2 LLz w' h1 h2 (by omega) (by omega) (fun M hM => ⟨Nat.le_trans (HSM.out M hM).1 (by decide), (HSM.out M hM).2.mono (by decide)⟩) (fun M hM => ⟨Nat.le_trans (HSMz.out M hM).1 (by decide), (HSMz.out M hM).2.mono (by decide)⟩)
    rw [hP, hZ, hsm9] at h9
    exact h9
  have HPP := Lib.hid hpq
  have HPZ := Lib.hid hpqz
  have HRS : ∀ (w' : World) (a1 : Option Addr) (n1 c1 : Nat) (a2 : Option Addr) (n2 c2 : Nat), Rwss w' a1 n1 c1 P → Rwss w' a2 n2 c2 Z → Calls Tryz.prog 19 #[.slice a1 n1 c1, .slice a2 n2 c2] w' (Gives (.bool sm) w') := fun w' a1 n1 c1 a2 n2 c2 h1 h2 => by
    have h9 := ref12_same a1 n1 c1 P a2 n2 c2 Z w' h1 h2 (fun r hr => ⟨Nat.le_trans (HPP.out r hr).1 (by decide), fun q hq => Nat.le_trans ((HPP.out r hr).2 q hq) (by decide)⟩) (fun r hr q hq => Nat.le_trans ((HPZ.out r hr).2 q hq) (by decide))
    rw [hsm9] at h9
    exact h9
  have HGI : ∀ (w' : World), Calls Tryz.prog 20 #[.int .i64 k] w' (LstRws I w') := fun w' => hI ▸ S.ident k w' HKI.out
  have HRID : ∀ (w' : World), Calls Tryz.prog 21 #[.int .i64 k] w' (LstRws I w') := fun w' => hI ▸ ref12_ident k w'
  obtain ⟨TT, hTT⟩ : ∃ TT, gturn wd P = TT := ⟨_, rfl⟩
  have hrP : rect P := by rw [← hP]; exact (rect_fqs LL).2 hrc
  have hwP : gwidth P = wd := by rw [← hP, gwidth_fqs]; exact hwd
  have hmat : mat n wd P := by have := hrP.mat; rw [hlm, hwP] at this; exact this
  have HTQ : Hid (∀ r ∈ TT, r.length ≤ 1000 ∧ ∀ q ∈ r, qlen q ≤ 15000) := Lib.hid (by
    rw [← hTT]
    exact fun r hr => ⟨Nat.le_trans (gturn_rows hmat hn (fun r hr => (HPP.out r hr).2) r hr).1 (by decide), fun q hq => Nat.le_trans ((gturn_rows hmat hn (fun r hr => (HPP.out r hr).2) r hr).2 q hq) (by decide)⟩)
  have hwd8 : wd ≤ 8 := by
    rw [← hwP]
    unfold gwidth
    cases P with
    | nil => exact Nat.zero_le _
    | cons x r => exact (HPP.out x (List.mem_cons_self ..)).1
  have HGT : ∀ (w' : World) (a1 : Option Addr) (c1 : Nat), Fxss w' a1 n c1 LL → Calls Tryz.prog 10 #[.slice a1 n c1] w' (LstRws TT w') := fun w' a1 c1 h1 => by
    have h9 := S.turn_yes a1 n c1 LL w' h1 (by omega) (fun M hM => ⟨Nat.le_trans (HSM.out M hM).1 (by decide), (HSM.out M hM).2.mono (by decide)⟩) HRC
    rw [hwd, hP, hTT] at h9
    exact h9
  have HRT : ∀ (w' : World) (a1 : Option Addr) (n1 c1 : Nat), Rwss w' a1 n1 c1 P → Calls Tryz.prog 14 #[.slice a1 n1 c1] w' (LstRws TT w') := fun w' a1 n1 c1 h1 => by
    have h9 := ref12_turn a1 n1 c1 P w' h1 (by have := h1.len; omega) hrP (by rw [hwP]; omega)
    rw [hwP, hTT] at h9
    exact h9
  have b1 := beq_self12 sm
  have b2 : ((wd : Int) == (wd : Int)) = true := by simp
  clear hP hZ hwd hI hsm9 hII h hz hk hb hbz hrc hsm hsmz hpq hpqz hlm hlmz hTT hrP hwP hmat hwd8
  go_enter Tryz.func3, Tryz.ntmps3
  go_wp2_with fail
  refine (ref12_long a n c LL 8 4 false _ HF.out (by decide) (Lib.hid ⟨fun h => absurd h (by decide), fun h => absurd HNB.out h⟩)).mono ?_
  rintro e wv1 ⟨rfl, b⟩
  replace HB := Lib.hid (below_then HB.out b)
  replace HF := Lib.hid (HF.out.later b)
  replace HFz := Lib.hid (HFz.out.later b)
  clear b
  go_wp2_with fail
  refine (ref12_long az nz cz LLz 8 4 false _ HFz.out (by decide) (Lib.hid ⟨fun h => absurd h (by decide), fun h => absurd HNBz.out h⟩)).mono ?_
  rintro e wv2 ⟨rfl, b⟩
  replace HB := Lib.hid (below_then HB.out b)
  replace HF := Lib.hid (HF.out.later b)
  replace HFz := Lib.hid (HFz.out.later b)
  clear b
  go_wp2_with fail
  refine (HNO _ HF.out).mono ?_
  rintro e wv3 ⟨a3, n3, c3, rfl, h3, b⟩
  replace HB := Lib.hid (below_then HB.out b)
  replace HF := Lib.hid (HF.out.later b)
  replace HFz := Lib.hid (HFz.out.later b)
  clear b
  have R3 := Lib.hid h3
  clear h3
  go_wp2_with fail
  refine (HTO _ HF.out).mono ?_
  rintro e wv4 ⟨a4, c4, rfl, h4, b⟩
  replace HB := Lib.hid (below_then HB.out b)
  replace HF := Lib.hid (HF.out.later b)
  replace HFz := Lib.hid (HFz.out.later b)
  replace R3 := Lib.hid (R3.out.later b)
  clear b
  have R4 := Lib.hid h4
  clear h4
  go_wp2_with fail
  refine (HGT _ a4 c4 R4.out).mono ?_
  rintro e wv5 ⟨a5, n5, c5, rfl, h5, b⟩
  replace HB := Lib.hid (below_then HB.out b)
  replace HF := Lib.hid (HF.out.later b)
  replace HFz := Lib.hid (HFz.out.later b)
  replace R3 := Lib.hid (R3.out.later b)
  replace R4 := Lib.hid (R4.out.later b)
  clear b
  have R5 := Lib.hid h5
  clear h5
  clear R4
  go_wp2_with fail
  refine (HRI _ HF.out).mono ?_
  rintro e wv6 ⟨rfl, b⟩
  replace HB := Lib.hid (below_then HB.out b)
  replace HF := Lib.hid (HF.out.later b)
  replace HFz := Lib.hid (HFz.out.later b)
  replace R3 := Lib.hid (R3.out.later b)
  replace R5 := Lib.hid (R5.out.later b)
  clear b
  go_wp2_with fail
  refine (HRI _ HF.out).mono ?_
  rintro e wv7 ⟨rfl, b⟩
  replace HB := Lib.hid (below_then HB.out b)
  replace HF := Lib.hid (HF.out.later b)
  replace HFz := Lib.hid (HFz.out.later b)
  replace R3 := Lib.hid (R3.out.later b)
  replace R5 := Lib.hid (R5.out.later b)
  clear b
  go_wp2_with fail
  refine (HRT _ a3 n3 c3 R3.out).mono ?_
  rintro e wv8 ⟨a8, n8, c8, rfl, h8, b⟩
  replace HB := Lib.hid (below_then HB.out b)
  replace HF := Lib.hid (HF.out.later b)
  replace HFz := Lib.hid (HFz.out.later b)
  replace R3 := Lib.hid (R3.out.later b)
  replace R5 := Lib.hid (R5.out.later b)
  clear b
  have R8 := Lib.hid h8
  clear h8
  go_wp2_with fail
  refine (is_yes12 R5.out R8.out HTQ.out).mono ?_
  rintro e wv9 ⟨rfl, b⟩
  replace HB := Lib.hid (below_then HB.out b)
  replace HF := Lib.hid (HF.out.later b)
  replace HFz := Lib.hid (HFz.out.later b)
  replace R3 := Lib.hid (R3.out.later b)
  replace R5 := Lib.hid (R5.out.later b)
  replace R8 := Lib.hid (R8.out.later b)
  clear b
  clear R5 R8
  go_wp2_with fail
  refine (HTO _ HF.out).mono ?_
  rintro e wv10 ⟨a10, c10, rfl, h10, b⟩
  replace HB := Lib.hid (below_then HB.out b)
  replace HF := Lib.hid (HF.out.later b)
  replace HFz := Lib.hid (HFz.out.later b)
  replace R3 := Lib.hid (R3.out.later b)
  clear b
  have R10 := Lib.hid h10
  clear h10
  go_wp2_with fail
  refine (HGR _ a10 c10 R10.out).mono ?_
  rintro e wv11 ⟨rfl, b⟩
  replace HB := Lib.hid (below_then HB.out b)
  replace HF := Lib.hid (HF.out.later b)
  replace HFz := Lib.hid (HFz.out.later b)
  replace R3 := Lib.hid (R3.out.later b)
  replace R10 := Lib.hid (R10.out.later b)
  clear b
  clear R10
  go_wp2_with fail
  refine (HRI _ HF.out).mono ?_
  rintro e wv12 ⟨rfl, b⟩
  replace HB := Lib.hid (below_then HB.out b)
  replace HF := Lib.hid (HF.out.later b)
  replace HFz := Lib.hid (HFz.out.later b)
  replace R3 := Lib.hid (R3.out.later b)
  clear b
  go_wp2_with fail
  refine (HTO _ HF.out).mono ?_
  rintro e wv13 ⟨a13, c13, rfl, h13, b⟩
  replace HB := Lib.hid (below_then HB.out b)
  replace HF := Lib.hid (HF.out.later b)
  replace HFz := Lib.hid (HFz.out.later b)
  replace R3 := Lib.hid (R3.out.later b)
  clear b
  have R13 := Lib.hid h13
  clear h13
  go_wp2_with fail
  refine (HGW _ a13 c13 R13.out).mono ?_
  rintro e wv14 ⟨rfl, b⟩
  replace HB := Lib.hid (below_then HB.out b)
  replace HF := Lib.hid (HF.out.later b)
  replace HFz := Lib.hid (HFz.out.later b)
  replace R3 := Lib.hid (R3.out.later b)
  replace R13 := Lib.hid (R13.out.later b)
  clear b
  clear R13
  go_wp2_with fail
  refine (HRW _ HF.out).mono ?_
  rintro e wv15 ⟨rfl, b⟩
  replace HB := Lib.hid (below_then HB.out b)
  replace HF := Lib.hid (HF.out.later b)
  replace HFz := Lib.hid (HFz.out.later b)
  replace R3 := Lib.hid (R3.out.later b)
  clear b
  go_wp2_with fail
  refine (HTO _ HF.out).mono ?_
  rintro e wv16 ⟨a16, c16, rfl, h16, b⟩
  replace HB := Lib.hid (below_then HB.out b)
  replace HF := Lib.hid (HF.out.later b)
  replace HFz := Lib.hid (HFz.out.later b)
  replace R3 := Lib.hid (R3.out.later b)
  clear b
  have R16 := Lib.hid h16
  clear h16
  go_wp2_with fail
  refine (HTOz _ HFz.out).mono ?_
  rintro e wv17 ⟨a17, c17, rfl, h17, b⟩
  replace HB := Lib.hid (below_then HB.out b)
  replace HF := Lib.hid (HF.out.later b)
  replace HFz := Lib.hid (HFz.out.later b)
  replace R3 := Lib.hid (R3.out.later b)
  replace R16 := Lib.hid (R16.out.later b)
  clear b
  have R17 := Lib.hid h17
  clear h17
  go_wp2_with fail
  refine (HGS _ a16 c16 a17 c17 R16.out R17.out).mono ?_
  rintro e wv18 ⟨rfl, b⟩
  replace HB := Lib.hid (below_then HB.out b)
  replace HF := Lib.hid (HF.out.later b)
  replace HFz := Lib.hid (HFz.out.later b)
  replace R3 := Lib.hid (R3.out.later b)
  replace R16 := Lib.hid (R16.out.later b)
  replace R17 := Lib.hid (R17.out.later b)
  clear b
  clear R16 R17
  go_wp2_with fail
  refine (HNOz _ HFz.out).mono ?_
  rintro e wv19 ⟨a19, n19, c19, rfl, h19, b⟩
  replace HB := Lib.hid (below_then HB.out b)
  replace HF := Lib.hid (HF.out.later b)
  replace HFz := Lib.hid (HFz.out.later b)
  replace R3 := Lib.hid (R3.out.later b)
  clear b
  have R19 := Lib.hid h19
  clear h19
  go_wp2_with fail
  refine (HRS _ a3 n3 c3 a19 n19 c19 R3.out R19.out).mono ?_
  rintro e wv20 ⟨rfl, b⟩
  replace HB := Lib.hid (below_then HB.out b)
  replace HF := Lib.hid (HF.out.later b)
  replace HFz := Lib.hid (HFz.out.later b)
  replace R3 := Lib.hid (R3.out.later b)
  replace R19 := Lib.hid (R19.out.later b)
  clear b
  clear R3 R19
  go_wp2_with fail
  refine (HGI _).mono ?_
  rintro e wv21 ⟨a21, n21, c21, rfl, h21, b⟩
  replace HB := Lib.hid (below_then HB.out b)
  replace HF := Lib.hid (HF.out.later b)
  replace HFz := Lib.hid (HFz.out.later b)
  clear b
  have R21 := Lib.hid h21
  clear h21
  go_wp2_with fail
  refine (HRID _).mono ?_
  rintro e wv22 ⟨a22, n22, c22, rfl, h22, b⟩
  replace HB := Lib.hid (below_then HB.out b)
  replace HF := Lib.hid (HF.out.later b)
  replace HFz := Lib.hid (HFz.out.later b)
  replace R21 := Lib.hid (R21.out.later b)
  clear b
  have R22 := Lib.hid h22
  clear h22
  go_wp2_with fail
  refine (is_yes12 R21.out R22.out HII.out).mono ?_
  rintro e wv23 ⟨rfl, b⟩
  replace HB := Lib.hid (below_then HB.out b)
  replace HF := Lib.hid (HF.out.later b)
  replace HFz := Lib.hid (HFz.out.later b)
  replace R21 := Lib.hid (R21.out.later b)
  replace R22 := Lib.hid (R22.out.later b)
  clear b
  go_wp2_with fail
  refine (law12_works S RS FS _ (Lib.hid (hT.out.later HB.out))).mono ?_
  rintro e wv24 ⟨rfl, b⟩
  replace HB := Lib.hid (below_then HB.out b)
  replace HF := Lib.hid (HF.out.later b)
  replace HFz := Lib.hid (HFz.out.later b)
  replace R21 := Lib.hid (R21.out.later b)
  replace R22 := Lib.hid (R22.out.later b)
  clear b
  go_wp2
  go_ret
  exact ⟨rfl, HB.out⟩
set_option maxRecDepth 4096 in
set_option maxHeartbeats 16000000 in
theorem law12_tells_askew (S : GridSaid) (RS : RowSaid) (FS : FracSaid) (a : Option Addr) (n c : Nat) (LL : List (List Fx)) (az : Option Addr) (nz cz : Nat) (LLz : List (List Fx)) (k : Int) (w : World) (h : Fxss w a n c LL) (hz : Fxss w az nz cz LLz) (hk : isInt k) (hT : Hid (Dec10 w)) (hb : ((n : Int) ≤ 8 ∧ ∀ M ∈ LL, (M.length : Int) ≤ 8 ∧ thinI 4 M)) (hbz : ((nz : Int) ≤ 8 ∧ ∀ M ∈ LLz, (M.length : Int) ≤ 8 ∧ thinI 4 M)) (hrc : ¬ rect LL) : Calls Tryz.prog 3 #[.slice a n c, .slice az nz cz, .int .i64 k] w (Gives (.bool true) w) := by
  have HB : Hid (Below w.heap.size w w) := Lib.hid (Below.refl _ _)
  have HNB := Lib.hid hb
  have hn : n ≤ 8 := by have := hb.1; omega
  have hsm : small 8 4 LL := fun M hM => ⟨by have := (hb.2 M hM).1; omega, thinI.out (N := 4) (hb.2 M hM).2⟩
  have hpq : ∀ r ∈ LL.map fqs, r.length ≤ 8 ∧ ∀ q ∈ r, qlen q ≤ 5 := fun r hr => by
    obtain ⟨M, hM, rfl⟩ := List.mem_map.1 hr
    refine ⟨by rw [fqs_length]; exact (hsm M hM).1, fun q hq => ?_⟩
    obtain ⟨x, hx, rfl⟩ := List.mem_map.1 hq
    obtain ⟨i, hi, rfl⟩ := List.getElem_of_mem hM
    obtain ⟨_, _, _, a5, n5, c5, _, h5⟩ := h.at (j := i) (by rw [← h.len]; exact hi)
    rw [List.getD_eq_getElem?_getD, List.getElem?_eq_getElem hi] at h5
    have ht := (hsm _ hM).2 x hx
    exact ((h5.ok hx).fr ht.1 ht.2).len
  have hlm : (LL.map fqs).length = n := by rw [List.length_map]; exact h.len
  have HSM := Lib.hid hsm
  have HPQ := Lib.hid hpq
  have HLM := Lib.hid hlm
  have HF := Lib.hid h
  have HNBz := Lib.hid hbz
  have hnz : nz ≤ 8 := by have := hbz.1; omega
  have hsmz : small 8 4 LLz := fun M hM => ⟨by have := (hbz.2 M hM).1; omega, thinI.out (N := 4) (hbz.2 M hM).2⟩
  have hpqz : ∀ r ∈ LLz.map fqs, r.length ≤ 8 ∧ ∀ q ∈ r, qlen q ≤ 5 := fun r hr => by
    obtain ⟨M, hM, rfl⟩ := List.mem_map.1 hr
    refine ⟨by rw [fqs_length]; exact (hsmz M hM).1, fun q hq => ?_⟩
    obtain ⟨x, hx, rfl⟩ := List.mem_map.1 hq
    obtain ⟨i, hi, rfl⟩ := List.getElem_of_mem hM
    obtain ⟨_, _, _, a5, n5, c5, _, h5⟩ := hz.at (j := i) (by rw [← hz.len]; exact hi)
    rw [List.getD_eq_getElem?_getD, List.getElem?_eq_getElem hi] at h5
    have ht := (hsmz _ hM).2 x hx
    exact ((h5.ok hx).fr ht.1 ht.2).len
  have hlmz : (LLz.map fqs).length = nz := by rw [List.length_map]; exact hz.len
  have HSMz := Lib.hid hsmz
  have HPQz := Lib.hid hpqz
  have HLMz := Lib.hid hlmz
  have HFz := Lib.hid hz
  have HKI := Lib.hid hk
  have HRC := Lib.hid hrc
  obtain ⟨P, hP⟩ : ∃ P, LL.map fqs = P := ⟨_, rfl⟩
  obtain ⟨Z, hZ⟩ : ∃ Z, LLz.map fqs = Z := ⟨_, rfl⟩
  obtain ⟨wd, hwd⟩ : ∃ wd, gwidth LL = wd := ⟨_, rfl⟩
  obtain ⟨I, hI⟩ : ∃ I, gident (gcut k) = I := ⟨_, rfl⟩
  obtain ⟨sm, hsm9⟩ : ∃ r, decide (P = Z) = r := ⟨_, rfl⟩
  have hII : ∀ r ∈ I, r.length ≤ 1000 ∧ ∀ q ∈ r, qlen q ≤ 15000 := fun r hr => by
    rw [← hI] at hr
    unfold gident at hr
    obtain ⟨i, _, rfl⟩ := List.mem_map.1 hr
    exact ⟨by rw [runit_length]; unfold gcut; omega, fun q hq => Nat.le_trans (qlen_runit _ _ q hq) (by decide)⟩
  have HII := Lib.hid hII
  rw [hP] at hpq hlm
  rw [hZ] at hpqz hlmz
  have HNO : ∀ (w' : World) , Fxss w' a n c LL → Calls Tryz.prog 9 #[.slice a n c] w' (LstRws P w') := fun w' h1 => hP ▸ ref12_norms a n c LL w' h1 (by omega) (fun M hM => ⟨by have := (HSM.out M hM).1; omega, (HSM.out M hM).2.mono (by decide)⟩)
  have HNOz : ∀ (w' : World) , Fxss w' az nz cz LLz → Calls Tryz.prog 9 #[.slice az nz cz] w' (LstRws Z w') := fun w' h1 => hZ ▸ ref12_norms az nz cz LLz w' h1 (by omega) (fun M hM => ⟨by have := (HSMz.out M hM).1; omega, (HSMz.out M hM).2.mono (by decide)⟩)
  have HTO : ∀ (w' : World) , Fxss w' a n c LL → Calls Tryz.prog 11 #[.slice a n c] w' (fun e w'' => ∃ (a' : Option Addr) (c' : Nat), e = .returned (.slice a' n c') ∧ Fxss w'' a' n c' LL ∧ Below w'.heap.size w' w'') := fun w' h1 => law12_to a n c LL w' h1 (by omega) (fun M hM => by have := (HSM.out M hM).1; omega)
  have HTOz : ∀ (w' : World) , Fxss w' az nz cz LLz → Calls Tryz.prog 11 #[.slice az nz cz] w' (fun e w'' => ∃ (a' : Option Addr) (c' : Nat), e = .returned (.slice a' nz c') ∧ Fxss w'' a' nz c' LLz ∧ Below w'.heap.size w' w'') := fun w' h1 => law12_to az nz cz LLz w' h1 (by omega) (fun M hM => by have := (HSMz.out M hM).1; omega)
  have HRI : ∀ (w' : World) , Fxss w' a n c LL → Calls Tryz.prog 12 #[.slice a n c] w' (Gives (.bool false) w') := fun w' h1 => ref12_right a n c LL false w' h1 (Lib.hid ⟨fun h => absurd h (by decide), fun h => absurd h HRC.out⟩)
  have HGR : ∀ (w' : World) (a1 : Option Addr) (c1 : Nat), Fxss w' a1 n c1 LL → Calls Tryz.prog 15 #[.slice a1 n c1] w' (Gives (.bool false) w') := fun w' a1 c1 h1 => by
    have h9 := S.right a1 n c1 LL w' h1
    rw [decide_eq_false HRC.out] at h9
    exact h9
  have HGW : ∀ (w' : World) (a1 : Option Addr) (c1 : Nat), Fxss w' a1 n c1 LL → Calls Tryz.prog 16 #[.slice a1 n c1] w' (Gives (.int .i64 (wd : Int)) w') := fun w' a1 c1 h1 => hwd ▸ S.width a1 n c1 LL w' h1
  have HRW : ∀ (w' : World) , Fxss w' a n c LL → Calls Tryz.prog 17 #[.slice a n c] w' (Gives (.int .i64 (wd : Int)) w') := fun w' h1 => hwd ▸ ref12_width a n c LL w' h1
  have HGS : ∀ (w' : World) (a1 : Option Addr) (c1 : Nat) (a2 : Option Addr) (c2 : Nat), Fxss w' a1 n c1 LL → Fxss w' a2 nz c2 LLz → Calls Tryz.prog 18 #[.slice a1 n c1, .slice a2 nz c2] w' (Gives (.bool sm) w') := fun w' a1 c1 a2 c2 h1 h2 => by
    have h9 := S.same a1 n c1 LL a2 nz c2 LLz w' h1 h2 (by omega) (by omega) (fun M hM => ⟨Nat.le_trans (HSM.out M hM).1 (by decide), (HSM.out M hM).2.mono (by decide)⟩) (fun M hM => ⟨Nat.le_trans (HSMz.out M hM).1 (by decide), (HSMz.out M hM).2.mono (by decide)⟩)
    rw [hP, hZ, hsm9] at h9
    exact h9
  have HPP := Lib.hid hpq
  have HPZ := Lib.hid hpqz
  have HRS : ∀ (w' : World) (a1 : Option Addr) (n1 c1 : Nat) (a2 : Option Addr) (n2 c2 : Nat), Rwss w' a1 n1 c1 P → Rwss w' a2 n2 c2 Z → Calls Tryz.prog 19 #[.slice a1 n1 c1, .slice a2 n2 c2] w' (Gives (.bool sm) w') := fun w' a1 n1 c1 a2 n2 c2 h1 h2 => by
    have h9 := ref12_same a1 n1 c1 P a2 n2 c2 Z w' h1 h2 (fun r hr => ⟨Nat.le_trans (HPP.out r hr).1 (by decide), fun q hq => Nat.le_trans ((HPP.out r hr).2 q hq) (by decide)⟩) (fun r hr q hq => Nat.le_trans ((HPZ.out r hr).2 q hq) (by decide))
    rw [hsm9] at h9
    exact h9
  have HGI : ∀ (w' : World), Calls Tryz.prog 20 #[.int .i64 k] w' (LstRws I w') := fun w' => hI ▸ S.ident k w' HKI.out
  have HRID : ∀ (w' : World), Calls Tryz.prog 21 #[.int .i64 k] w' (LstRws I w') := fun w' => hI ▸ ref12_ident k w'
  have HGT : ∀ (w' : World) (a1 : Option Addr) (c1 : Nat), Fxss w' a1 n c1 LL → Calls Tryz.prog 10 #[.slice a1 n c1] w' (LstRws [] w') := fun w' a1 c1 h1 => S.turn_no a1 n c1 LL w' h1 (by omega) (fun M hM => ⟨Nat.le_trans (HSM.out M hM).1 (by decide), (HSM.out M hM).2.mono (by decide)⟩) HRC
  have b1 := beq_self12 sm
  have b2 : ((wd : Int) == (wd : Int)) = true := by simp
  clear hP hZ hwd hI hsm9 hII h hz hk hb hbz hrc hsm hsmz hpq hpqz hlm hlmz
  go_enter Tryz.func3, Tryz.ntmps3
  go_wp2_with fail
  refine (ref12_long a n c LL 8 4 false _ HF.out (by decide) (Lib.hid ⟨fun h => absurd h (by decide), fun h => absurd HNB.out h⟩)).mono ?_
  rintro e wv1 ⟨rfl, b⟩
  replace HB := Lib.hid (below_then HB.out b)
  replace HF := Lib.hid (HF.out.later b)
  replace HFz := Lib.hid (HFz.out.later b)
  clear b
  go_wp2_with fail
  refine (ref12_long az nz cz LLz 8 4 false _ HFz.out (by decide) (Lib.hid ⟨fun h => absurd h (by decide), fun h => absurd HNBz.out h⟩)).mono ?_
  rintro e wv2 ⟨rfl, b⟩
  replace HB := Lib.hid (below_then HB.out b)
  replace HF := Lib.hid (HF.out.later b)
  replace HFz := Lib.hid (HFz.out.later b)
  clear b
  go_wp2_with fail
  refine (HNO _ HF.out).mono ?_
  rintro e wv3 ⟨a3, n3, c3, rfl, h3, b⟩
  replace HB := Lib.hid (below_then HB.out b)
  replace HF := Lib.hid (HF.out.later b)
  replace HFz := Lib.hid (HFz.out.later b)
  clear b
  have R3 := Lib.hid h3
  clear h3
  go_wp2_with fail
  refine (HTO _ HF.out).mono ?_
  rintro e wv4 ⟨a4, c4, rfl, h4, b⟩
  replace HB := Lib.hid (below_then HB.out b)
  replace HF := Lib.hid (HF.out.later b)
  replace HFz := Lib.hid (HFz.out.later b)
  replace R3 := Lib.hid (R3.out.later b)
  clear b
  have R4 := Lib.hid h4
  clear h4
  go_wp2_with fail
  refine (HGT _ a4 c4 R4.out).mono ?_
  rintro e wv5 ⟨a5, n5, c5, rfl, h5, b⟩
  replace HB := Lib.hid (below_then HB.out b)
  replace HF := Lib.hid (HF.out.later b)
  replace HFz := Lib.hid (HFz.out.later b)
  replace R3 := Lib.hid (R3.out.later b)
  replace R4 := Lib.hid (R4.out.later b)
  clear b
  obtain rfl : n5 = 0 := h5.len.symm
  clear h5
  clear R4
  go_wp2_with fail
  refine (HRI _ HF.out).mono ?_
  rintro e wv6 ⟨rfl, b⟩
  replace HB := Lib.hid (below_then HB.out b)
  replace HF := Lib.hid (HF.out.later b)
  replace HFz := Lib.hid (HFz.out.later b)
  replace R3 := Lib.hid (R3.out.later b)
  clear b
  go_wp2_with fail
  refine (HRI _ HF.out).mono ?_
  rintro e wv7 ⟨rfl, b⟩
  replace HB := Lib.hid (below_then HB.out b)
  replace HF := Lib.hid (HF.out.later b)
  replace HFz := Lib.hid (HFz.out.later b)
  replace R3 := Lib.hid (R3.out.later b)
  clear b
  go_wp2_with fail
  refine (HTO _ HF.out).mono ?_
  rintro e wv8 ⟨a10, c10, rfl, h10, b⟩
  replace HB := Lib.hid (below_then HB.out b)
  replace HF := Lib.hid (HF.out.later b)
  replace HFz := Lib.hid (HFz.out.later b)
  replace R3 := Lib.hid (R3.out.later b)
  clear b
  have R10 := Lib.hid h10
  clear h10
  go_wp2_with fail
  refine (HGR _ a10 c10 R10.out).mono ?_
  rintro e wv9 ⟨rfl, b⟩
  replace HB := Lib.hid (below_then HB.out b)
  replace HF := Lib.hid (HF.out.later b)
  replace HFz := Lib.hid (HFz.out.later b)
  replace R3 := Lib.hid (R3.out.later b)
  replace R10 := Lib.hid (R10.out.later b)
  clear b
  clear R10
  go_wp2_with fail
  refine (HRI _ HF.out).mono ?_
  rintro e wv10 ⟨rfl, b⟩
  replace HB := Lib.hid (below_then HB.out b)
  replace HF := Lib.hid (HF.out.later b)
  replace HFz := Lib.hid (HFz.out.later b)
  replace R3 := Lib.hid (R3.out.later b)
  clear b
  go_wp2_with fail
  refine (HTO _ HF.out).mono ?_
  rintro e wv11 ⟨a13, c13, rfl, h13, b⟩
  replace HB := Lib.hid (below_then HB.out b)
  replace HF := Lib.hid (HF.out.later b)
  replace HFz := Lib.hid (HFz.out.later b)
  replace R3 := Lib.hid (R3.out.later b)
  clear b
  have R13 := Lib.hid h13
  clear h13
  go_wp2_with fail
  refine (HGW _ a13 c13 R13.out).mono ?_
  rintro e wv12 ⟨rfl, b⟩
  replace HB := Lib.hid (below_then HB.out b)
  replace HF := Lib.hid (HF.out.later b)
  replace HFz := Lib.hid (HFz.out.later b)
  replace R3 := Lib.hid (R3.out.later b)
  replace R13 := Lib.hid (R13.out.later b)
  clear b
  clear R13
  go_wp2_with fail
  refine (HRW _ HF.out).mono ?_
  rintro e wv13 ⟨rfl, b⟩
  replace HB := Lib.hid (below_then HB.out b)
  replace HF := Lib.hid (HF.out.later b)
  replace HFz := Lib.hid (HFz.out.later b)
  replace R3 := Lib.hid (R3.out.later b)
  clear b
  go_wp2_with fail
  refine (HTO _ HF.out).mono ?_
  rintro e wv14 ⟨a16, c16, rfl, h16, b⟩
  replace HB := Lib.hid (below_then HB.out b)
  replace HF := Lib.hid (HF.out.later b)
  replace HFz := Lib.hid (HFz.out.later b)
  replace R3 := Lib.hid (R3.out.later b)
  clear b
  have R16 := Lib.hid h16
  clear h16
  go_wp2_with fail
  refine (HTOz _ HFz.out).mono ?_
  rintro e wv15 ⟨a17, c17, rfl, h17, b⟩
  replace HB := Lib.hid (below_then HB.out b)
  replace HF := Lib.hid (HF.out.later b)
  replace HFz := Lib.hid (HFz.out.later b)
  replace R3 := Lib.hid (R3.out.later b)
  replace R16 := Lib.hid (R16.out.later b)
  clear b
  have R17 := Lib.hid h17
  clear h17
  go_wp2_with fail
  refine (HGS _ a16 c16 a17 c17 R16.out R17.out).mono ?_
  rintro e wv16 ⟨rfl, b⟩
  replace HB := Lib.hid (below_then HB.out b)
  replace HF := Lib.hid (HF.out.later b)
  replace HFz := Lib.hid (HFz.out.later b)
  replace R3 := Lib.hid (R3.out.later b)
  replace R16 := Lib.hid (R16.out.later b)
  replace R17 := Lib.hid (R17.out.later b)
  clear b
  clear R16 R17
  go_wp2_with fail
  refine (HNOz _ HFz.out).mono ?_
  rintro e wv17 ⟨a19, n19, c19, rfl, h19, b⟩
  replace HB := Lib.hid (below_then HB.out b)
  replace HF := Lib.hid (HF.out.later b)
  replace HFz := Lib.hid (HFz.out.later b)
  replace R3 := Lib.hid (R3.out.later b)
  clear b
  have R19 := Lib.hid h19
  clear h19
  go_wp2_with fail
  refine (HRS _ a3 n3 c3 a19 n19 c19 R3.out R19.out).mono ?_
  rintro e wv18 ⟨rfl, b⟩
  replace HB := Lib.hid (below_then HB.out b)
  replace HF := Lib.hid (HF.out.later b)
  replace HFz := Lib.hid (HFz.out.later b)
  replace R3 := Lib.hid (R3.out.later b)
  replace R19 := Lib.hid (R19.out.later b)
  clear b
  clear R3 R19
  go_wp2_with fail
  refine (HGI _).mono ?_
  rintro e wv19 ⟨a21, n21, c21, rfl, h21, b⟩
  replace HB := Lib.hid (below_then HB.out b)
  replace HF := Lib.hid (HF.out.later b)
  replace HFz := Lib.hid (HFz.out.later b)
  clear b
  have R21 := Lib.hid h21
  clear h21
  go_wp2_with fail
  refine (HRID _).mono ?_
  rintro e wv20 ⟨a22, n22, c22, rfl, h22, b⟩
  replace HB := Lib.hid (below_then HB.out b)
  replace HF := Lib.hid (HF.out.later b)
  replace HFz := Lib.hid (HFz.out.later b)
  replace R21 := Lib.hid (R21.out.later b)
  clear b
  have R22 := Lib.hid h22
  clear h22
  go_wp2_with fail
  refine (is_yes12 R21.out R22.out HII.out).mono ?_
  rintro e wv21 ⟨rfl, b⟩
  replace HB := Lib.hid (below_then HB.out b)
  replace HF := Lib.hid (HF.out.later b)
  replace HFz := Lib.hid (HFz.out.later b)
  replace R21 := Lib.hid (R21.out.later b)
  replace R22 := Lib.hid (R22.out.later b)
  clear b
  go_wp2_with fail
  refine (law12_works S RS FS _ (Lib.hid (hT.out.later HB.out))).mono ?_
  rintro e wv22 ⟨rfl, b⟩
  replace HB := Lib.hid (below_then HB.out b)
  replace HF := Lib.hid (HF.out.later b)
  replace HFz := Lib.hid (HFz.out.later b)
  replace R21 := Lib.hid (R21.out.later b)
  replace R22 := Lib.hid (R22.out.later b)
  clear b
  go_wp2
  go_ret
  exact ⟨rfl, HB.out⟩
theorem law12_tells (S : GridSaid) (RS : RowSaid) (FS : FracSaid) (a : Option Addr) (n c : Nat) (LL : List (List Fx)) (az : Option Addr) (nz cz : Nat) (LLz : List (List Fx)) (k : Int) (w : World) (h : Fxss w a n c LL) (hz : Fxss w az nz cz LLz) (hk : isInt k) (hT : Hid (Dec10 w)) : Calls Tryz.prog 3 #[.slice a n c, .slice az nz cz, .int .i64 k] w (Gives (.bool true) w) := by
  by_cases hb : ((n : Int) ≤ 8 ∧ ∀ M ∈ LL, (M.length : Int) ≤ 8 ∧ thinI 4 M)
  · by_cases hbz : ((nz : Int) ≤ 8 ∧ ∀ M ∈ LLz, (M.length : Int) ≤ 8 ∧ thinI 4 M)
    · by_cases hrc : rect LL
      · exact law12_tells_rect S RS FS a n c LL az nz cz LLz k w h hz hk hT hb hbz hrc
      · exact law12_tells_askew S RS FS a n c LL az nz cz LLz k w h hz hk hT hb hbz hrc
    · exact law12_tells_longb S RS FS a n c LL az nz cz LLz k w h hz hk hT hb hbz
  · exact law12_tells_longa S RS FS a n c LL az nz cz LLz k w h hz hk hT hb
end Go.Proofs.YtpjkhbfglgmnmaaGreatDoor
