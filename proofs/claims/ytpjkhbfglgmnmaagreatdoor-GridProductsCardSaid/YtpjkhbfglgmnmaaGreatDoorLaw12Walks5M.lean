/-
  The walks of the laws of layer 12: GridProducts.
-/
import Derived.Test.YtpjkhbfglgmnmaaGreatDoorLaw12Walks2M
import Derived.Test.YtpjkhbfglgmnmaaGreatDoorGridUse2M
import Derived.Test.YtpjkhbfglgmnmaaGreatDoorGridTwoM
import Derived.Test.YtpjkhbfglgmnmaaGreatDoorG14
import Derived.Test.YtpjkhbfglgmnmaaGreatDoorRef12fM
namespace Go.Proofs.YtpjkhbfglgmnmaaGreatDoor
open Go.RowKit

theorem gadd_mem {r : List Rat} : ∀ {l m : List (List Rat)}, r ∈ gadd l m → ∃ x ∈ l, ∃ y ∈ m, r = radd x y
  | x :: l, y :: m, h => by
    simp only [gadd, List.mem_cons] at h
    rcases h with rfl | h
    · exact ⟨x, List.mem_cons_self .., y, List.mem_cons_self .., rfl⟩
    · obtain ⟨x', hx, y', hy, e⟩ := gadd_mem h
      exact ⟨x', List.mem_cons_of_mem _ hx, y', List.mem_cons_of_mem _ hy, e⟩
  | [], [], h => by simp [gadd] at h
  | [], _ :: _, h => by simp [gadd] at h
  | _ :: _, [], h => by simp [gadd] at h
theorem gadd_long : ∀ (l m : List (List Rat)), l.length = m.length → (gadd l m).length = l.length
  | [], [], _ => rfl
  | x :: l, y :: m, h => by
    have := gadd_long l m (by simpa using h)
    simp only [gadd, List.length_cons, this]
  | [], y :: m, h => by simp at h
  | x :: l, [], h => by simp at h
theorem gadd_row : ∀ {l m : List (List Rat)} {k : Nat}, k < l.length → k < m.length → (gadd l m).getD k [] = radd (l.getD k []) (m.getD k [])
  | x :: l, y :: m, 0, _, _ => rfl
  | x :: l, y :: m, k + 1, h, h' => by
    have := gadd_row (l := l) (m := m) (k := k) (by simpa using h) (by simpa using h')
    simpa [gadd] using this
  | [], _, _, h, _ => by simp at h
  | _ :: _, [], _, _, h => by simp at h
theorem gmul_row {w k : Nat} {a b : List (List Rat)} (h : k < a.length) : (gmul w a b).getD k [] = gleft w (a.getD k []) b := by
  unfold gmul
  rw [List.getD_eq_getElem?_getD, List.getElem?_map, List.getD_eq_getElem?_getD, List.getElem?_eq_getElem h]; rfl
theorem row_next12 {Q : List (List Rat)} {k : Nat} (h : k < Q.length) : Q.take (k + 1) = Q.take k ++ [Q.getD k []] := by
  rw [List.take_succ_eq_append_getElem h, List.getD_eq_getElem?_getD, List.getElem?_eq_getElem h]; rfl
set_option maxRecDepth 4096 in
set_option maxHeartbeats 16000000 in
theorem law12_products_longa (S : GridSaid) (RS : RowSaid) (FS : FracSaid) (a : Option Addr) (n c : Nat) (LL : List (List Fx)) (az : Option Addr) (nz cz : Nat) (LLz : List (List Fx)) (w : World) (h : Fxss w a n c LL) (hz : Fxss w az nz cz LLz) (hT : Hid (Dec10 w)) (hb : ¬ ((n : Int) ≤ 6 ∧ ∀ M ∈ LL, (M.length : Int) ≤ 6 ∧ thinI 3 M)) : Calls Tryz.prog 5 #[.slice a n c, .slice az nz cz] w (Gives (.bool true) w) := by
  have HB : Hid (Below w.heap.size w w) := Lib.hid (Below.refl _ _)
  have HNB := Lib.hid hb
  have HF := Lib.hid h
  have HFz := Lib.hid hz
  clear h hz hb
  go_enter Tryz.func5, Tryz.ntmps5
  go_wp2_with fail
  refine (ref12_long a n c LL 6 3 true _ HF.out (by decide) (Lib.hid ⟨fun _ => HNB.out, fun _ => rfl⟩)).mono ?_
  rintro e wv1 ⟨rfl, b⟩
  replace HB := Lib.hid (below_then HB.out b)
  replace HF := Lib.hid (HF.out.later b)
  replace HFz := Lib.hid (HFz.out.later b)
  clear b
  go_wp2_with fail
  refine (law12_works S RS FS _ (Lib.hid (hT.out.later HB.out))).mono ?_
  rintro e wv2 ⟨rfl, b⟩
  replace HB := Lib.hid (below_then HB.out b)
  replace HF := Lib.hid (HF.out.later b)
  replace HFz := Lib.hid (HFz.out.later b)
  clear b
  go_wp2
  go_ret
  exact ⟨rfl, HB.out⟩
set_option maxRecDepth 4096 in
set_option maxHeartbeats 16000000 in
theorem law12_products_longb (S : GridSaid) (RS : RowSaid) (FS : FracSaid) (a : Option Addr) (n c : Nat) (LL : List (List Fx)) (az : Option Addr) (nz cz : Nat) (LLz : List (List Fx)) (w : World) (h : Fxss w a n c LL) (hz : Fxss w az nz cz LLz) (hT : Hid (Dec10 w)) (hb : ((n : Int) ≤ 6 ∧ ∀ M ∈ LL, (M.length : Int) ≤ 6 ∧ thinI 3 M)) (hbz : ¬ ((nz : Int) ≤ 6 ∧ ∀ M ∈ LLz, (M.length : Int) ≤ 6 ∧ thinI 3 M)) : Calls Tryz.prog 5 #[.slice a n c, .slice az nz cz] w (Gives (.bool true) w) := by
  have HB : Hid (Below w.heap.size w w) := Lib.hid (Below.refl _ _)
  have HNB := Lib.hid hb
  have HF := Lib.hid h
  have HFz := Lib.hid hz
  have HNBz := Lib.hid hbz
  clear h hz hb hbz
  go_enter Tryz.func5, Tryz.ntmps5
  go_wp2_with fail
  refine (ref12_long a n c LL 6 3 false _ HF.out (by decide) (Lib.hid ⟨fun h => absurd h (by decide), fun h => absurd HNB.out h⟩)).mono ?_
  rintro e wv1 ⟨rfl, b⟩
  replace HB := Lib.hid (below_then HB.out b)
  replace HF := Lib.hid (HF.out.later b)
  replace HFz := Lib.hid (HFz.out.later b)
  clear b
  go_wp2_with fail
  refine (ref12_long az nz cz LLz 6 3 true _ HFz.out (by decide) (Lib.hid ⟨fun _ => HNBz.out, fun _ => rfl⟩)).mono ?_
  rintro e wv2 ⟨rfl, b⟩
  replace HB := Lib.hid (below_then HB.out b)
  replace HF := Lib.hid (HF.out.later b)
  replace HFz := Lib.hid (HFz.out.later b)
  clear b
  go_wp2_with fail
  refine (law12_works S RS FS _ (Lib.hid (hT.out.later HB.out))).mono ?_
  rintro e wv3 ⟨rfl, b⟩
  replace HB := Lib.hid (below_then HB.out b)
  replace HF := Lib.hid (HF.out.later b)
  replace HFz := Lib.hid (HFz.out.later b)
  clear b
  go_wp2
  go_ret
  exact ⟨rfl, HB.out⟩
set_option maxRecDepth 4096 in
set_option maxHeartbeats 16000000 in
theorem law12_products_main (S : GridSaid) (RS : RowSaid) (FS : FracSaid) (a : Option Addr) (n c : Nat) (LL : List (List Fx)) (az : Option Addr) (nz cz : Nat) (LLz : List (List Fx)) (w : World) (h : Fxss w a n c LL) (hz : Fxss w az nz cz LLz) (hT : Hid (Dec10 w)) (hb : ((n : Int) ≤ 6 ∧ ∀ M ∈ LL, (M.length : Int) ≤ 6 ∧ thinI 3 M)) (hbz : ((nz : Int) ≤ 6 ∧ ∀ M ∈ LLz, (M.length : Int) ≤ 6 ∧ thinI 3 M)) : Calls Tryz.prog 5 #[.slice a n c, .slice az nz cz] w (Gives (.bool true) w) := by
  have HB : Hid (Below w.heap.size w w) := Lib.hid (Below.refl _ _)
  have HNB := Lib.hid hb
  have hn : n ≤ 6 := by have := hb.1; omega
  have hsm : small 6 3 LL := fun M hM => ⟨by have := (hb.2 M hM).1; omega, thinI.out (N := 3) (hb.2 M hM).2⟩
  have hpq : ∀ r ∈ LL.map fqs, r.length ≤ 6 ∧ ∀ q ∈ r, qlen q ≤ 4 := fun r hr => by
    obtain ⟨M, hM, rfl⟩ := List.mem_map.1 hr
    refine ⟨by rw [fqs_length]; exact (hsm M hM).1, fun q hq => ?_⟩
    obtain ⟨x, hx, rfl⟩ := List.mem_map.1 hq
    obtain ⟨i, hi, rfl⟩ := List.getElem_of_mem hM
    obtain ⟨_, _, _, a5, n5, c5, _, h5⟩ := h.at (j := i) (by rw [← h.len]; exact hi)
    rw [List.getD_eq_getElem?_getD, List.getElem?_eq_getElem hi] at h5
    have ht := (hsm _ hM).2 x hx
    exact ((h5.ok hx).fr ht.1 ht.2).len
  have hlm : (LL.map fqs).length = n := by rw [List.length_map]; exact h.len
  have HSM := Lib.hid hsm
  have HPQ := Lib.hid hpq
  have HLM := Lib.hid hlm
  have HF := Lib.hid h
  have HNBz := Lib.hid hbz
  have hnz : nz ≤ 6 := by have := hbz.1; omega
  have hsmz : small 6 3 LLz := fun M hM => ⟨by have := (hbz.2 M hM).1; omega, thinI.out (N := 3) (hbz.2 M hM).2⟩
  have hpqz : ∀ r ∈ LLz.map fqs, r.length ≤ 6 ∧ ∀ q ∈ r, qlen q ≤ 4 := fun r hr => by
    obtain ⟨M, hM, rfl⟩ := List.mem_map.1 hr
    refine ⟨by rw [fqs_length]; exact (hsmz M hM).1, fun q hq => ?_⟩
    obtain ⟨x, hx, rfl⟩ := List.mem_map.1 hq
    obtain ⟨i, hi, rfl⟩ := List.getElem_of_mem hM
    obtain ⟨_, _, _, a5, n5, c5, _, h5⟩ := hz.at (j := i) (by rw [← hz.len]; exact hi)
    rw [List.getD_eq_getElem?_getD, List.getElem?_eq_getElem hi] at h5
    have ht := (hsmz _ hM).2 x hx
    exact ((h5.ok hx).fr ht.1 ht.2).len
  have hlmz : (LLz.map fqs).length = nz := by rw [List.length_map]; exact hz.len
  have HSMz := Lib.hid hsmz
  have HPQz := Lib.hid hpqz
  have HLMz := Lib.hid hlmz
  have HFz := Lib.hid hz
  obtain ⟨P, hP⟩ : ∃ P, LL.map fqs = P := ⟨_, rfl⟩
  obtain ⟨Z, hZ⟩ : ∃ Z, LLz.map fqs = Z := ⟨_, rfl⟩
  obtain ⟨wd, hwd⟩ : ∃ wd, gwidth LL = wd := ⟨_, rfl⟩
  obtain ⟨wz, hwz⟩ : ∃ wd, gwidth LLz = wd := ⟨_, rfl⟩
  obtain ⟨my, hmy⟩ : ∃ b : Bool, decide (rect LL ∧ rect LLz ∧ wd = nz) = b := ⟨_, rfl⟩
  obtain ⟨cn, hcn⟩ : ∃ b : Bool, decide (rect LL ∧ rect LLz ∧ n = nz ∧ wd = wz) = b := ⟨_, rfl⟩
  obtain ⟨PV, hPV⟩ : ∃ V, (if my = true then gmul wz P Z else []) = V := ⟨_, rfl⟩
  obtain ⟨SV, hSV⟩ : ∃ V, (if cn = true then gadd P Z else []) = V := ⟨_, rfl⟩
  rw [hP] at hpq hlm
  rw [hZ] at hpqz hlmz
  have HPP := Lib.hid hpq
  have HPZ := Lib.hid hpqz
  replace HLM := Lib.hid hlm
  replace HLMz := Lib.hid hlmz
  have hwP : gwidth P = wd := by rw [← hP, gwidth_fqs]; exact hwd
  have hwZ : gwidth Z = wz := by rw [← hZ, gwidth_fqs]; exact hwz
  have hwz6 : wz ≤ 6 := by
    rw [← hwZ]
    unfold gwidth
    cases Z with
    | nil => exact Nat.zero_le _
    | cons x r => exact (HPZ.out x (List.mem_cons_self ..)).1
  have hmP : rect LL → mat n wd P := fun hr => by
    have h9 := ((rect_fqs LL).2 hr).mat
    rwa [hP, hlm, hwP] at h9
  have hmZ : rect LLz → mat nz wz Z := fun hr => by
    have h9 := ((rect_fqs LLz).2 hr).mat
    rwa [hZ, hlmz, hwZ] at h9
  have HNO : ∀ (w' : World) , Fxss w' a n c LL → Calls Tryz.prog 9 #[.slice a n c] w' (LstRws P w') := fun w' h1 => hP ▸ ref12_norms a n c LL w' h1 (by omega) (fun M hM => ⟨by have := (HSM.out M hM).1; omega, (HSM.out M hM).2.mono (by decide)⟩)
  have HNOz : ∀ (w' : World) , Fxss w' az nz cz LLz → Calls Tryz.prog 9 #[.slice az nz cz] w' (LstRws Z w') := fun w' h1 => hZ ▸ ref12_norms az nz cz LLz w' h1 (by omega) (fun M hM => ⟨by have := (HSMz.out M hM).1; omega, (HSMz.out M hM).2.mono (by decide)⟩)
  have HTO : ∀ (w' : World) , Fxss w' a n c LL → Calls Tryz.prog 11 #[.slice a n c] w' (fun e w'' => ∃ (a' : Option Addr) (c' : Nat), e = .returned (.slice a' n c') ∧ Fxss w'' a' n c' LL ∧ Below w'.heap.size w' w'') := fun w' h1 => law12_to a n c LL w' h1 (by omega) (fun M hM => by have := (HSM.out M hM).1; omega)
  have HTOz : ∀ (w' : World) , Fxss w' az nz cz LLz → Calls Tryz.prog 11 #[.slice az nz cz] w' (fun e w'' => ∃ (a' : Option Addr) (c' : Nat), e = .returned (.slice a' nz c') ∧ Fxss w'' a' nz c' LLz ∧ Below w'.heap.size w' w'') := fun w' h1 => law12_to az nz cz LLz w' h1 (by omega) (fun M hM => by have := (HSMz.out M hM).1; omega)
  have HRW : ∀ (w' : World) , Fxss w' a n c LL → Calls Tryz.prog 17 #[.slice a n c] w' (Gives (.int .i64 (wd : Int)) w') := fun w' h1 => hwd ▸ ref12_width a n c LL w' h1
  have HRWz : ∀ (w' : World) , Fxss w' az nz cz LLz → Calls Tryz.prog 17 #[.slice az nz cz] w' (Gives (.int .i64 (wz : Int)) w') := fun w' h1 => hwz ▸ ref12_width az nz cz LLz w' h1
  have smL : ∀ {K N : Nat}, 6 ≤ K → 3 ≤ N → small K N LL := fun hK hN M hM => ⟨Nat.le_trans (HSM.out M hM).1 hK, (HSM.out M hM).2.mono hN⟩
  have smZ : ∀ {K N : Nat}, 6 ≤ K → 3 ≤ N → small K N LLz := fun hK hN M hM => ⟨Nat.le_trans (HSMz.out M hM).1 hK, (HSMz.out M hM).2.mono hN⟩
  have HMU : ∀ (w' : World) (a1 : Option Addr) (c1 : Nat) (a2 : Option Addr) (c2 : Nat), Fxss w' a1 n c1 LL → Fxss w' a2 nz c2 LLz → Calls Tryz.prog 30 #[.slice a1 n c1, .slice a2 nz c2] w' (LstRwsV PV (.bool my) w') := fun w' a1 c1 a2 c2 h1 h2 => by
    rw [← hPV]
    cases hm : my with
    | true =>
      obtain ⟨h3, h4, h5⟩ := of_decide_eq_true (hmy.trans hm)
      have h9 := S.mul_yes a1 n c1 LL a2 nz c2 LLz 3 w' h1 h2 (smL (by decide) (by decide)) (smZ (by decide) (by decide)) (by omega) (by omega) (by omega) (by decide) (Lib.hid ⟨h3, h4, hwd.trans h5⟩)
      rw [hwz, hP, hZ] at h9
      rw [if_pos rfl]; exact h9
    | false =>
      have h3 := of_decide_eq_false (hmy.trans hm)
      rw [if_neg (by decide)]
      exact S.mul_no a1 n c1 LL a2 nz c2 LLz w' h1 h2 (by omega) (by omega) (smL (by decide) (by decide)) (smZ (by decide) (by decide)) (Lib.hid (fun h9 => h3 ⟨h9.1, h9.2.1, hwd.symm.trans h9.2.2⟩))
  have HAD : ∀ (w' : World) (a1 : Option Addr) (c1 : Nat) (a2 : Option Addr) (c2 : Nat), Fxss w' a1 n c1 LL → Fxss w' a2 nz c2 LLz → Calls Tryz.prog 31 #[.slice a1 n c1, .slice a2 nz c2] w' (LstRwsV SV (.bool cn) w') := fun w' a1 c1 a2 c2 h1 h2 => by
    rw [← hSV]
    cases hm : cn with
    | true =>
      obtain ⟨h3, h4, h5, h6⟩ := of_decide_eq_true (hcn.trans hm)
      have h9 := S.add_yes a1 n c1 LL a2 nz c2 LLz w' h1 h2 (by omega) (by omega) (smL (by decide) (by decide)) (smZ (by decide) (by decide)) (Lib.hid ⟨h3, h4, h5, hwd.trans (h6.trans hwz.symm)⟩)
      rw [hP, hZ] at h9
      rw [if_pos rfl]; exact h9
    | false =>
      have h3 := of_decide_eq_false (hcn.trans hm)
      rw [if_neg (by decide)]
      exact S.add_no a1 n c1 LL a2 nz c2 LLz w' h1 h2 (by omega) (by omega) (smL (by decide) (by decide)) (smZ (by decide) (by decide)) (Lib.hid (fun h9 => h3 ⟨h9.1, h9.2.1, h9.2.2.1, hwd.symm.trans (h9.2.2.2.trans hwz)⟩))
  obtain ⟨rg, hrg⟩ : ∃ b : Bool, decide (rect LL ∧ rect LLz) = b := ⟨_, rfl⟩
  have HRG := Lib.hid hrg
  have HQ0 : Hid (rg = false → my = false) := Lib.hid (fun h => by
    have h9 := of_decide_eq_false (hrg.trans h)
    rw [← hmy]; exact decide_eq_false (fun k => h9 ⟨k.1, k.2.1⟩))
  have HQ5 : Hid (rg = false → cn = false) := Lib.hid (fun h => by
    have h9 := of_decide_eq_false (hrg.trans h)
    rw [← hcn]; exact decide_eq_false (fun k => h9 ⟨k.1, k.2.1⟩))
  have HQ4 : Hid (¬ n = nz → cn = false) := Lib.hid (fun h => by rw [← hcn]; exact decide_eq_false (fun k => h k.2.2.1))
  have HQ1 : Hid (rg = true → ((wd : Int) == (nz : Int)) = my) := Lib.hid (fun h => by
    obtain ⟨h1, h2⟩ := of_decide_eq_true (hrg.trans h)
    rw [← hmy]; by_cases e : wd = nz <;> simp [e, h1, h2] <;> omega)
  have HQ3 : Hid (rg = true → n = nz → ((wd : Int) == (wz : Int)) = cn) := Lib.hid (fun h hn9 => by
    obtain ⟨h1, h2⟩ := of_decide_eq_true (hrg.trans h)
    rw [← hcn]; by_cases e : wd = wz <;> simp [e, h1, h2, hn9] <;> omega)
  have HPN : Hid (my = false → PV = []) := Lib.hid (fun h => by rw [← hPV, h]; rfl)
  have HSN : Hid (cn = false → SV = []) := Lib.hid (fun h => by rw [← hSV, h]; rfl)
  have HPL : Hid (my = true → PV.length = n) := Lib.hid (fun h => by rw [← hPV, if_pos h]; unfold gmul; rw [List.length_map]; exact hlm)
  have HSL : Hid (cn = true → SV.length = n) := Lib.hid (fun h => by
    obtain ⟨_, _, h5, _⟩ := of_decide_eq_true (hcn.trans h)
    rw [← hSV, if_pos h, gadd_long _ _ (by omega)]; exact hlm)
  have HPQ9 : Hid (∀ r ∈ PV, r.length ≤ 1000 ∧ ∀ q ∈ r, qlen q ≤ 15000) := Lib.hid (fun r hr => by
    rw [← hPV] at hr
    cases hm : my with
    | true =>
      obtain ⟨h3, h4, h5⟩ := of_decide_eq_true (hmy.trans hm)
      rw [if_pos hm] at hr
      have hzz := hmZ h4
      rw [← h5] at hzz
      exact ⟨by rw [(gmul_mat (hmP h3) hzz).2 r hr]; omega, fun q hq => Nat.le_trans (gmul_qlen (K := 6) (hmP h3) hzz (by omega) (fun r hr => (HPP.out r hr).2) (fun r hr => (HPZ.out r hr).2) r hr q hq) (by decide)⟩
    | false => rw [hm] at hr; simp at hr)
  have HSQ9 : Hid (∀ r ∈ SV, r.length ≤ 1000 ∧ ∀ q ∈ r, qlen q ≤ 15000) := Lib.hid (fun r hr => by
    rw [← hSV] at hr
    cases hm : cn with
    | true =>
      obtain ⟨h3, h4, h5, h6⟩ := of_decide_eq_true (hcn.trans hm)
      rw [if_pos hm] at hr
      obtain ⟨x, hx, y, hy, rfl⟩ := gadd_mem hr
      exact ⟨by rw [radd_length _ _ (by rw [(hmP h3).2 x hx, (hmZ h4).2 y hy, h6]), (hmP h3).2 x hx]; omega, fun q hq => Nat.le_trans (qlen_radd (HPP.out x hx).2 (HPZ.out y hy).2 q hq) (by decide)⟩
    | false => rw [hm] at hr; simp at hr)
  have HRL : ∀ (k : Nat) (w' : World) (a1 : Option Addr) (n1 c1 : Nat) (a2 : Option Addr) (c2 : Nat), my = true → k < n → Rw w' a1 n1 c1 (P.getD k []) → Rwss w' a2 nz c2 Z → Calls Tryz.prog 28 #[.slice a1 n1 c1, .slice a2 nz c2] w' (LstRw (PV.getD k []) w') := fun k w' a1 n1 c1 a2 c2 hm hk h1 h2 => by
    obtain ⟨h3, h4, h5⟩ := of_decide_eq_true (hmy.trans hm)
    have hmem := ll_getD_mem (show k < P.length by omega)
    have hl1 := h1.len
    rw [(hmP h3).2 _ hmem] at hl1
    have h9 := ref12_left a1 n1 c1 _ a2 nz c2 Z w' h1 h2 (by omega) (by omega) (by rw [← hZ]; exact (rect_fqs LLz).2 h4) (by omega) (fun q hq => Nat.le_trans ((HPP.out _ hmem).2 q hq) (by decide)) (fun r hr q hq => Nat.le_trans ((HPZ.out r hr).2 q hq) (by decide))
    rw [hwZ, ← gmul_row (show k < P.length by omega)] at h9
    rw [← hPV, if_pos hm]; exact h9
  have HRA : ∀ (k : Nat) (w' : World) (a1 : Option Addr) (n1 c1 : Nat) (a2 : Option Addr) (n2 c2 : Nat), cn = true → k < n → Rw w' a1 n1 c1 (P.getD k []) → Rw w' a2 n2 c2 (Z.getD k []) → Calls Tryz.prog 32 #[.slice a1 n1 c1, .slice a2 n2 c2] w' (LstRw (SV.getD k []) w') := fun k w' a1 n1 c1 a2 n2 c2 hm hk h1 h2 => by
    obtain ⟨h3, h4, h5, h6⟩ := of_decide_eq_true (hcn.trans hm)
    have hmem := ll_getD_mem (show k < P.length by omega)
    have hmemz := ll_getD_mem (show k < Z.length by omega)
    have hl1 := h1.len
    have hl2 := h2.len
    rw [(hmP h3).2 _ hmem] at hl1
    rw [(hmZ h4).2 _ hmemz] at hl2
    rw [← hSV, if_pos hm, gadd_row (by omega) (by omega)]
    exact ref11_add a1 n1 c1 _ a2 n2 c2 _ w' h1 h2 (Lib.hid (by omega)) (by omega) (fun q hq => Nat.le_trans ((HPP.out _ hmem).2 q hq) (by decide)) (fun q hq => Nat.le_trans ((HPZ.out _ hmemz).2 q hq) (by decide))
  have HCNN : Hid (cn = true → n = nz) := Lib.hid (fun hm => (of_decide_eq_true (hcn.trans hm)).2.2.1)
  clear hP hZ hwd hwz hmy hcn hrg hPV hSV h hz hb hbz hsm hsmz hpq hpqz hwP hwZ hwz6 hmP hmZ hlm hlmz HPQ HPQz
  obtain ⟨i1, hi1, hj0, hj1, hj2⟩ := info_one infoD
  go_enter Tryz.func5, Tryz.ntmps5
  go_wp2_with fail
  refine (ref12_long a n c LL 6 3 false _ HF.out (by decide) (Lib.hid ⟨fun h => absurd h (by decide), fun h => absurd HNB.out h⟩)).mono ?_
  rintro e wv1 ⟨rfl, b⟩
  replace HB := Lib.hid (below_then HB.out b)
  replace HF := Lib.hid (HF.out.later b)
  replace HFz := Lib.hid (HFz.out.later b)
  clear b
  go_wp2_with fail
  refine (ref12_long az nz cz LLz 6 3 false _ HFz.out (by decide) (Lib.hid ⟨fun h => absurd h (by decide), fun h => absurd HNBz.out h⟩)).mono ?_
  rintro e wv2 ⟨rfl, b⟩
  replace HB := Lib.hid (below_then HB.out b)
  replace HF := Lib.hid (HF.out.later b)
  replace HFz := Lib.hid (HFz.out.later b)
  clear b
  go_wp2_with fail
  refine (HTO _ HF.out).mono ?_
  rintro e wv3 ⟨a3, c3, rfl, h3, b⟩
  replace HB := Lib.hid (below_then HB.out b)
  replace HF := Lib.hid (HF.out.later b)
  replace HFz := Lib.hid (HFz.out.later b)
  clear b
  have R3 := Lib.hid h3
  clear h3
  go_wp2_with fail
  refine (HTOz _ HFz.out).mono ?_
  rintro e wv4 ⟨a4, c4, rfl, h4, b⟩
  replace HB := Lib.hid (below_then HB.out b)
  replace HF := Lib.hid (HF.out.later b)
  replace HFz := Lib.hid (HFz.out.later b)
  replace R3 := Lib.hid (R3.out.later b)
  clear b
  have R4 := Lib.hid h4
  clear h4
  go_wp2_with fail
  refine (HMU _ a3 c3 a4 c4 R3.out R4.out).mono ?_
  rintro e wv5 ⟨a5, n5, c5, rfl, h5, b⟩
  replace HB := Lib.hid (below_then HB.out b)
  replace HF := Lib.hid (HF.out.later b)
  replace HFz := Lib.hid (HFz.out.later b)
  replace R3 := Lib.hid (R3.out.later b)
  replace R4 := Lib.hid (R4.out.later b)
  clear b
  have R5 := Lib.hid h5
  clear h5
  clear R3 R4
  go_wp2_with fail
  refine (HTO _ HF.out).mono ?_
  rintro e wv6 ⟨a6, c6, rfl, h6, b⟩
  replace HB := Lib.hid (below_then HB.out b)
  replace HF := Lib.hid (HF.out.later b)
  replace HFz := Lib.hid (HFz.out.later b)
  replace R5 := Lib.hid (R5.out.later b)
  clear b
  have R6 := Lib.hid h6
  clear h6
  go_wp2_with fail
  refine (HTOz _ HFz.out).mono ?_
  rintro e wv7 ⟨a7, c7, rfl, h7, b⟩
  replace HB := Lib.hid (below_then HB.out b)
  replace HF := Lib.hid (HF.out.later b)
  replace HFz := Lib.hid (HFz.out.later b)
  replace R5 := Lib.hid (R5.out.later b)
  replace R6 := Lib.hid (R6.out.later b)
  clear b
  have R7 := Lib.hid h7
  clear h7
  go_wp2_with fail
  refine (HAD _ a6 c6 a7 c7 R6.out R7.out).mono ?_
  rintro e wv8 ⟨a8, n8, c8, rfl, h8, b⟩
  replace HB := Lib.hid (below_then HB.out b)
  replace HF := Lib.hid (HF.out.later b)
  replace HFz := Lib.hid (HFz.out.later b)
  replace R5 := Lib.hid (R5.out.later b)
  replace R6 := Lib.hid (R6.out.later b)
  replace R7 := Lib.hid (R7.out.later b)
  clear b
  have R8 := Lib.hid h8
  clear h8
  clear R6 R7
  go_upto_region 5 with fail
  go_cut [9] from 40 to 45 (fun v wx => v = .bool rg ∧ Hid (Below wv8.heap.size wv8 wx))
  case first =>
    replace HB : Hid (Below wv8.heap.size wv8 wv8) := Lib.hid (Below.refl _ _)
    by_cases hra : rect LL
    · have HA := Lib.hid hra
      by_cases hrz : rect LLz
      · have HZ := Lib.hid hrz
        have hm : rg = true := by rw [← HRG.out]; exact decide_eq_true ⟨hra, hrz⟩
        subst hm
        clear hra hrz
        go_wp2_with fail
        refine (ref12_right a n c LL true _ HF.out (Lib.hid ⟨fun _ => HA.out, fun _ => rfl⟩)).mono ?_
        rintro e wx1 ⟨rfl, b⟩
        replace HB := Lib.hid (below_then HB.out b)
        replace HF := Lib.hid (HF.out.later b)
        replace HFz := Lib.hid (HFz.out.later b)
        clear b
        go_wp2_with fail
        refine (ref12_right az nz cz LLz true _ HFz.out (Lib.hid ⟨fun _ => HZ.out, fun _ => rfl⟩)).mono ?_
        rintro e wx2 ⟨rfl, b⟩
        replace HB := Lib.hid (below_then HB.out b)
        replace HF := Lib.hid (HF.out.later b)
        replace HFz := Lib.hid (HFz.out.later b)
        clear b
        go_wp2
        go_meet
        exact ⟨rfl, HB⟩
      · have HZ := Lib.hid hrz
        have hm : rg = false := by rw [← HRG.out]; exact decide_eq_false (fun h => hrz h.2)
        subst hm
        clear hra hrz
        go_wp2_with fail
        refine (ref12_right a n c LL true _ HF.out (Lib.hid ⟨fun _ => HA.out, fun _ => rfl⟩)).mono ?_
        rintro e wx1 ⟨rfl, b⟩
        replace HB := Lib.hid (below_then HB.out b)
        replace HF := Lib.hid (HF.out.later b)
        replace HFz := Lib.hid (HFz.out.later b)
        clear b
        go_wp2_with fail
        refine (ref12_right az nz cz LLz false _ HFz.out (Lib.hid ⟨fun h => absurd h (by decide), fun h => absurd h HZ.out⟩)).mono ?_
        rintro e wx2 ⟨rfl, b⟩
        replace HB := Lib.hid (below_then HB.out b)
        replace HF := Lib.hid (HF.out.later b)
        replace HFz := Lib.hid (HFz.out.later b)
        clear b
        go_wp2
        go_meet
        exact ⟨rfl, HB⟩
    · have HA := Lib.hid hra
      have hm : rg = false := by rw [← HRG.out]; exact decide_eq_false (fun h => hra h.1)
      subst hm
      clear hra
      go_wp2_with fail
      refine (ref12_right a n c LL false _ HF.out (Lib.hid ⟨fun h => absurd h (by decide), fun h => absurd h HA.out⟩)).mono ?_
      rintro e wx1 ⟨rfl, b⟩
      replace HB := Lib.hid (below_then HB.out b)
      replace HF := Lib.hid (HF.out.later b)
      replace HFz := Lib.hid (HFz.out.later b)
      clear b
      go_wp2
      go_meet
      exact ⟨rfl, HB⟩
  case rest =>
    obtain ⟨rfl, HBc⟩ := hcut
    replace HB := Lib.hid (below_then HB.out HBc.out)
    replace HF := Lib.hid (HF.out.later HBc.out)
    replace HFz := Lib.hid (HFz.out.later HBc.out)
    replace R5 := Lib.hid (R5.out.later HBc.out)
    replace R8 := Lib.hid (R8.out.later HBc.out)
    clear HBc
    generalize wc = w50 at *
    go_upto_region 6 with fail
    go_cut [10] from 46 to 53 (fun v wx => v = .bool my ∧ Hid (Below w50.heap.size w50 wx))
    case first =>
      replace HB : Hid (Below w50.heap.size w50 w50) := Lib.hid (Below.refl _ _)
      cases rg with
      | true =>
        have q1 := HQ1.out rfl
        go_wp2_with fail
        refine (HRW _ HF.out).mono ?_
        rintro e wx1 ⟨rfl, b⟩
        replace HB := Lib.hid (below_then HB.out b)
        replace HF := Lib.hid (HF.out.later b)
        replace HFz := Lib.hid (HFz.out.later b)
        clear b
        go_wp2
        go_meet
        exact ⟨rfl, HB⟩
      | false =>
        obtain rfl := HQ0.out rfl

        go_wp2
        go_meet
        exact ⟨rfl, HB⟩
    case rest =>
      obtain ⟨rfl, HBc⟩ := hcut
      replace HB := Lib.hid (below_then HB.out HBc.out)
      replace HF := Lib.hid (HF.out.later HBc.out)
      replace HFz := Lib.hid (HFz.out.later HBc.out)
      replace R5 := Lib.hid (R5.out.later HBc.out)
      replace R8 := Lib.hid (R8.out.later HBc.out)
      clear HBc
      generalize wc = w60 at *
      go_upto_region 7 with fail
      go_cut [11] from 54 to 68 (fun v wx => v = .bool cn ∧ Hid (Below w60.heap.size w60 wx))
      case first =>
        replace HB : Hid (Below w60.heap.size w60 w60) := Lib.hid (Below.refl _ _)
        cases rg with
        | true =>
          by_cases hnn : n = nz
          · have q3 := HQ3.out rfl hnn
            have q2 : ((n : Int) == (nz : Int)) = true := by simp; omega
            clear hnn
            go_wp2_with fail
            refine (HRW _ HF.out).mono ?_
            rintro e wx1 ⟨rfl, b⟩
            replace HB := Lib.hid (below_then HB.out b)
            replace HF := Lib.hid (HF.out.later b)
            replace HFz := Lib.hid (HFz.out.later b)
            clear b
            go_wp2_with fail
            refine (HRWz _ HFz.out).mono ?_
            rintro e wx2 ⟨rfl, b⟩
            replace HB := Lib.hid (below_then HB.out b)
            replace HF := Lib.hid (HF.out.later b)
            replace HFz := Lib.hid (HFz.out.later b)
            clear b
            go_wp2
            go_meet
            exact ⟨rfl, HB⟩
          · have q2 : ((n : Int) == (nz : Int)) = false := by simp; omega
            have q2b : ¬ (n : Int) = (nz : Int) := by omega
            obtain rfl := HQ4.out hnn
            clear hnn

            go_wp2
            go_meet
            exact ⟨rfl, HB⟩
        | false =>
          obtain rfl := HQ5.out rfl

          go_wp2
          go_meet
          exact ⟨rfl, HB⟩
      case rest =>
        obtain ⟨rfl, HBc⟩ := hcut
        replace HB := Lib.hid (below_then HB.out HBc.out)
        replace HF := Lib.hid (HF.out.later HBc.out)
        replace HFz := Lib.hid (HFz.out.later HBc.out)
        replace R5 := Lib.hid (R5.out.later HBc.out)
        replace R8 := Lib.hid (R8.out.later HBc.out)
        clear HBc
        generalize wc = w70 at *
        have HN5 : Hid (my = false → n5 = 0) := Lib.hid (fun h => by have h9 := R5.out.len; rw [HPN.out h] at h9; exact h9.symm)
        have HN8 : Hid (cn = false → n8 = 0) := Lib.hid (fun h => by have h9 := R8.out.len; rw [HSN.out h] at h9; exact h9.symm)
        go_upto_region 8 with fail
        go_cut [94] from 69 to 94 (fun v wx => v = .bool false ∧ wx = w70)
        case first =>
          cases my with
          | true =>
            cases cn with
            | true =>
              go_wp2
              go_meet
              exact ⟨rfl, rfl⟩
            | false =>
              obtain rfl := HN8.out rfl
              go_wp2
              go_meet
              exact ⟨rfl, rfl⟩
          | false =>
            obtain rfl := HN5.out rfl
            cases cn with
            | true =>
              go_wp2
              go_meet
              exact ⟨rfl, rfl⟩
            | false =>
              obtain rfl := HN8.out rfl
              go_wp2
              go_meet
              exact ⟨rfl, rfl⟩
        case rest =>
          obtain ⟨rfl, rfl⟩ := hcut
          clear HN5 HN8
          go_wp2_with fail
          refine (HNO _ HF.out).mono ?_
          rintro e wy1 ⟨a12, n12, c12, rfl, h12, b⟩
          replace HB := Lib.hid (below_then HB.out b)
          replace HF := Lib.hid (HF.out.later b)
          replace HFz := Lib.hid (HFz.out.later b)
          replace R5 := Lib.hid (R5.out.later b)
          replace R8 := Lib.hid (R8.out.later b)
          clear b
          have R12 := Lib.hid h12
          clear h12
          go_wp2_with fail
          refine (HNOz _ HFz.out).mono ?_
          rintro e wy2 ⟨a13, n13, c13, rfl, h13, b⟩
          replace HB := Lib.hid (below_then HB.out b)
          replace HF := Lib.hid (HF.out.later b)
          replace HFz := Lib.hid (HFz.out.later b)
          replace R5 := Lib.hid (R5.out.later b)
          replace R8 := Lib.hid (R8.out.later b)
          replace R12 := Lib.hid (R12.out.later b)
          clear b
          have R13 := Lib.hid h13
          clear h13
          obtain rfl : n12 = n := R12.out.len.symm.trans HLM.out
          obtain rfl : n13 = nz := R13.out.len.symm.trans HLMz.out
          have hbd12 := R12.out.bound
          have hbd13 := R13.out.bound
          go_wp2
          go_loopw [12, 13, 16] (fun pv sv iv wr => ∃ k : Nat, k ≤ n12 ∧ iv = .int .i64 (k : Int) ∧ Hid (Twin wr wy2.heap.size 39 pv (PV.take k) sv (SV.take k)) ∧ Hid (Below wy2.heap.size wy2 wr) ∧ wy2.heap.size ≤ wr.heap.size) (fun _ _ iv _ => n12 - (intOf iv).toNat)
          case atStart => exact ⟨0, by omega, rfl, Lib.hid (Twin.nil _ _ _), Lib.hid (Below.refl _ _), by omega⟩
          case round =>
            obtain ⟨k, hk, rfl, HO, HD, hsz⟩ := hrel
            by_cases hlt : k < n12
            · have hki : (k : Int) < (n12 : Int) := by omega
              have HPT : Hid (my = true → PV.take (k + 1) = PV.take k ++ [PV.getD k []]) := Lib.hid (fun h => row_next12 (by rw [HPL.out h]; exact hlt))
              have HST : Hid (cn = true → SV.take (k + 1) = SV.take k ++ [SV.getD k []]) := Lib.hid (fun h => row_next12 (by rw [HSL.out h]; exact hlt))
              have HPT0 : Hid (my = false → PV.take (k + 1) = PV.take k) := Lib.hid (fun h => by rw [HPN.out h]; simp)
              have HST0 : Hid (cn = false → SV.take (k + 1) = SV.take k) := Lib.hid (fun h => by rw [HSN.out h]; simp)
              obtain ⟨bp, op9, hbp, _⟩ := R12.out.at hlt
              subst hbp
              have HRLk := HRL k
              have HRAk := HRA k
              generalize PV.getD k [] = pk at *
              generalize SV.getD k [] = sk at *
              have hlP : (PV.take k).length ≤ 1000000 := by rw [List.length_take]; omega
              have hlS : (SV.take k).length ≤ 1000000 := by rw [List.length_take]; omega
              cases my with
              | true =>
                obtain ⟨bb, off, hbe, a', n', c', e0, h1⟩ := (R12.out.later HD.out).at hlt
                have HR := Lib.hid h1
                have HZ9 := Lib.hid (R13.out.later HD.out)
                simp only [Option.some.injEq, Addr.mk.injEq, and_true] at hbe
                obtain ⟨rfl, rfl⟩ := hbe
                clear h1
                go_wp2_with fail
                refine (HRLk _ a' n' c' a13 c13 (by trivial) hlt HR.out HZ9.out).mono ?_
                rintro e w2 ⟨a2, n2, c2, rfl, h2, b2⟩
                clear e0 HR HZ9
                have ba := below_alloc w2 (.cells #[.slice a2 n2 c2] 39)
                have HO2 := Lib.hid ((HO.out.later b2).later ba)
                have HD2 := Lib.hid (below_then (below_then HD.out b2) ba)
                have HY2 := Lib.hid (h2.later ba)
                have HNEW := Lib.hid (blk_cell (blk_new w2 #[.slice a2 n2 c2] 39) 0)
                have hsz2 : wy2.heap.size ≤ w2.heap.size := Nat.le_trans hsz b2.size
                clear ba b2 h2 HO HD hsz
                go_wp2_with (at_builtin; refine wpList_append_rowR _ rfl _ _ 22 rfl wy2.heap.size 39 i1 Tryz.underlying22 hi1 hj0 hj1 hj2 _ (PV.take k) rfl HO2.out.1 ⟨w2.heap.size, 0, none⟩ a2 n2 c2 _ rfl HNEW.out rfl HY2.out hlP (by rw [blk_size]; omega) ?_)
                intro pv5 w5 hrow hgrow hbase hcl
                rw [← HPT.out (by trivial)] at hrow
                have HO := Lib.hid (HO2.out.first hrow hgrow hcl)
                have HD := Lib.hid (HD2.out.grown hgrow (by rw [blk_size]; omega) hbase)
                have hsz : wy2.heap.size ≤ w5.heap.size := Nat.le_trans (by rw [blk_size]; omega) hgrow.size
                clear hrow hgrow hbase hcl HO2 HD2 HY2 HNEW hsz2 HPT HPT0
                cases cn with
                | true =>
                  obtain rfl : n12 = n13 := HCNN.out (by trivial)
                  have b0 : Below w5.heap.size w5 w5.drew := (Below.refl _ _).drew
                  have HO3 := Lib.hid (HO.out.later b0)
                  have HD3 := Lib.hid (below_then HD.out b0)
                  have hsz3 : wy2.heap.size ≤ w5.drew.heap.size := Nat.le_trans hsz b0.size
                  obtain ⟨bb, off, hbe, a', n', c', e0, h1⟩ := (R12.out.later HD3.out).at hlt
                  obtain ⟨bc, ofc, hbf, a8', n8', c8', e1, h2⟩ := (R13.out.later HD3.out).at hlt
                  have HC := Lib.hid (HRAk _ a' n' c' a8' n8' c8' (by trivial) hlt h1 h2)
                  simp only [Option.some.injEq, Addr.mk.injEq, and_true] at hbe
                  obtain ⟨rfl, rfl⟩ := hbe
                  subst hbf
                  clear h1 h2 b0 HO HD hsz
                  go_wp2
                  go_region_law (first
                    | (refine step_append_rowR rfl _ _ 22 rfl wy2.heap.size 39 i1 Tryz.underlying22 hi1 hj0 hj1 hj2 _ (SV.take k) rfl HO4.out.2.1 _ a4 n4 c4 _ rfl HNEW.out rfl HY4.out hlS (by rw [blk_size]; omega) ?_; intro sv5 w6 hrow hgrow hbase hcl)
                    | (go_simp; go_at_call 32; refine (HC.out).mono ?_; rintro e w4 ⟨a4, n4, c4, rfl, h4, b4⟩; clear e0 e1 HC; have ba := below_alloc w4 (.cells #[.slice a4 n4 c4] 39); have HO4 := Lib.hid ((HO3.out.later b4).later ba); have HD4 := Lib.hid (below_then (below_then HD3.out b4) ba); have HY4 := Lib.hid (h4.later ba); have HNEW := Lib.hid (blk_cell (blk_new w4 #[.slice a4 n4 c4] 39) 0); have hsz4 : wy2.heap.size ≤ w4.heap.size := Nat.le_trans hsz3 b4.size; clear ba b4 h4 HO3 HD3 hsz3))
                  all_goals (
                    rw [← HST.out (by trivial)] at hrow
                    have HO5 := Lib.hid (HO4.out.second hrow hgrow hcl)
                    have HD5 := Lib.hid (HD4.out.grown hgrow (by rw [blk_size]; omega) hbase)
                    have hsz5 : wy2.heap.size ≤ w6.heap.size := Nat.le_trans (by rw [blk_size]; omega) hgrow.size
                    clear hrow hgrow hbase hcl HO4 HD4 HY4 HNEW hsz4 HST HST0
                    go_wp2
                    go_roundw
                    case rel => exact ⟨k + 1, by omega, by go_num, HO5, HD5, hsz5⟩
                    case measure => simp [intOf]; omega)
                | false =>
                  rw [← HST0.out (by trivial)] at HO
                  clear HST HST0
                  go_wp2
                  go_roundw
                  case rel => exact ⟨k + 1, by omega, by go_num, HO, HD, hsz⟩
                  case measure => simp [intOf]; omega
              | false =>
                rw [← HPT0.out (by trivial)] at HO
                clear HPT HPT0
                cases cn with
                | true =>
                  obtain rfl : n12 = n13 := HCNN.out (by trivial)
                  have b0 : Below wr.heap.size wr wr.drew := (Below.refl _ _).drew
                  have HO3 := Lib.hid (HO.out.later b0)
                  have HD3 := Lib.hid (below_then HD.out b0)
                  have hsz3 : wy2.heap.size ≤ wr.drew.heap.size := Nat.le_trans hsz b0.size
                  obtain ⟨bb, off, hbe, a', n', c', e0, h1⟩ := (R12.out.later HD3.out).at hlt
                  obtain ⟨bc, ofc, hbf, a8', n8', c8', e1, h2⟩ := (R13.out.later HD3.out).at hlt
                  have HC := Lib.hid (HRAk _ a' n' c' a8' n8' c8' (by trivial) hlt h1 h2)
                  simp only [Option.some.injEq, Addr.mk.injEq, and_true] at hbe
                  obtain ⟨rfl, rfl⟩ := hbe
                  subst hbf
                  clear h1 h2 b0 HO HD hsz
                  go_wp2
                  go_region_law (first
                    | (refine step_append_rowR rfl _ _ 22 rfl wy2.heap.size 39 i1 Tryz.underlying22 hi1 hj0 hj1 hj2 _ (SV.take k) rfl HO4.out.2.1 _ a4 n4 c4 _ rfl HNEW.out rfl HY4.out hlS (by rw [blk_size]; omega) ?_; intro sv5 w6 hrow hgrow hbase hcl)
                    | (go_simp; go_at_call 32; refine (HC.out).mono ?_; rintro e w4 ⟨a4, n4, c4, rfl, h4, b4⟩; clear e0 e1 HC; have ba := below_alloc w4 (.cells #[.slice a4 n4 c4] 39); have HO4 := Lib.hid ((HO3.out.later b4).later ba); have HD4 := Lib.hid (below_then (below_then HD3.out b4) ba); have HY4 := Lib.hid (h4.later ba); have HNEW := Lib.hid (blk_cell (blk_new w4 #[.slice a4 n4 c4] 39) 0); have hsz4 : wy2.heap.size ≤ w4.heap.size := Nat.le_trans hsz3 b4.size; clear ba b4 h4 HO3 HD3 hsz3))
                  all_goals (
                    rw [← HST.out (by trivial)] at hrow
                    have HO5 := Lib.hid (HO4.out.second hrow hgrow hcl)
                    have HD5 := Lib.hid (HD4.out.grown hgrow (by rw [blk_size]; omega) hbase)
                    have hsz5 : wy2.heap.size ≤ w6.heap.size := Nat.le_trans (by rw [blk_size]; omega) hgrow.size
                    clear hrow hgrow hbase hcl HO4 HD4 HY4 HNEW hsz4 HST HST0
                    go_wp2
                    go_roundw
                    case rel => exact ⟨k + 1, by omega, by go_num, HO5, HD5, hsz5⟩
                    case measure => simp [intOf]; omega)
                | false =>
                  rw [← HST0.out (by trivial)] at HO
                  clear HST HST0
                  go_wp2
                  go_roundw
                  case rel => exact ⟨k + 1, by omega, by go_num, HO, HD, hsz⟩
                  case measure => simp [intOf]; omega
            · obtain rfl : k = n12 := by omega
              have htP : PV.take k = PV := List.take_of_length_le (by
                cases hm : my with
                | true => rw [HPL.out hm]; exact Nat.le_refl _
                | false => rw [HPN.out hm]; exact Nat.zero_le _)
              have htS : SV.take k = SV := List.take_of_length_le (by
                cases hm : cn with
                | true => rw [HSL.out hm]; exact Nat.le_refl _
                | false => rw [HSN.out hm]; exact Nat.zero_le _)
              obtain ⟨hO1, hO2, _⟩ := HO.out
              rw [htP] at hO1
              rw [htS] at hO2
              obtain ⟨a20, c20, rfl, h20⟩ := hO1.out
              obtain ⟨a21, c21, rfl, h21⟩ := hO2.out
              have R20 := Lib.hid h20
              have R21 := Lib.hid h21
              replace R5 := Lib.hid (R5.out.later HD.out)
              replace R8 := Lib.hid (R8.out.later HD.out)
              replace HB := Lib.hid (below_then HB.out HD.out)
              clear htP htS hO1 hO2 h20 h21 HO HD HF HFz R12 R13
              go_wp2_with fail
              refine (is_yes12 R5.out R20.out HPQ9.out).mono ?_
              rintro e wz1 ⟨rfl, b⟩
              replace HB := Lib.hid (below_then HB.out b)
              replace R5 := Lib.hid (R5.out.later b)
              replace R8 := Lib.hid (R8.out.later b)
              replace R20 := Lib.hid (R20.out.later b)
              replace R21 := Lib.hid (R21.out.later b)
              clear b
              go_wp2_with fail
              refine (is_yes12 R8.out R21.out HSQ9.out).mono ?_
              rintro e wz2 ⟨rfl, b⟩
              replace HB := Lib.hid (below_then HB.out b)
              replace R5 := Lib.hid (R5.out.later b)
              replace R8 := Lib.hid (R8.out.later b)
              replace R20 := Lib.hid (R20.out.later b)
              replace R21 := Lib.hid (R21.out.later b)
              clear b
              go_wp2_with fail
              refine (law12_works S RS FS _ (Lib.hid (hT.out.later HB.out))).mono ?_
              rintro e wz3 ⟨rfl, b⟩
              replace HB := Lib.hid (below_then HB.out b)
              replace R5 := Lib.hid (R5.out.later b)
              replace R8 := Lib.hid (R8.out.later b)
              replace R20 := Lib.hid (R20.out.later b)
              replace R21 := Lib.hid (R21.out.later b)
              clear b
              go_wp2
              go_ret
              exact ⟨rfl, HB.out⟩
theorem law12_products (S : GridSaid) (RS : RowSaid) (FS : FracSaid) (a : Option Addr) (n c : Nat) (LL : List (List Fx)) (az : Option Addr) (nz cz : Nat) (LLz : List (List Fx)) (w : World) (h : Fxss w a n c LL) (hz : Fxss w az nz cz LLz) (hT : Hid (Dec10 w)) : Calls Tryz.prog 5 #[.slice a n c, .slice az nz cz] w (Gives (.bool true) w) := by
  by_cases hb : ((n : Int) ≤ 6 ∧ ∀ M ∈ LL, (M.length : Int) ≤ 6 ∧ thinI 3 M)
  · by_cases hbz : ((nz : Int) ≤ 6 ∧ ∀ M ∈ LLz, (M.length : Int) ≤ 6 ∧ thinI 3 M)
    · exact law12_products_main S RS FS a n c LL az nz cz LLz w h hz hT hb hbz
    · exact law12_products_longb S RS FS a n c LL az nz cz LLz w h hz hT hb hbz
  · exact law12_products_longa S RS FS a n c LL az nz cz LLz w h hz hT hb
end Go.Proofs.YtpjkhbfglgmnmaaGreatDoor
