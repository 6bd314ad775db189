/-
  The contracts of package common (layer 6) at this seat: All, Lcm, Prime, Cancel; and all of them as one.
-/
import Derived.Test.YtkpnhohaolfmgaaCommonSaid
import Derived.Test.YtkpnhohaolfmgaaCommon5
namespace Go.Proofs.Ytkpnhohaolfmgaa
open Go.RowKit

theorem dg_gcd_length (x y : Nat) : (dg (Nat.gcd x y)).length ≤ (dg x).length + (dg y).length := by
  by_cases h : x = 0
  · rw [h, Nat.gcd_zero_left]; omega
  · have := dg_length_mono (Nat.le_of_dvd (Nat.pos_of_ne_zero h) (Nat.gcd_dvd_left x y)); omega
theorem dg_gcds_length : ∀ {ls : List (List Nat)}, (∀ l ∈ ls, okw l) → (dg (gcds ls)).length ≤ words ls
  | [], _ => by simp [gcds, dg_zero, words]
  | l :: r, h => by
    have h1 := dg_gcd_length (val l) (gcds r)
    have h2 := dg_length_val_le (h l (List.mem_cons_self ..))
    have h3 := dg_gcds_length (ls := r) (fun x hx => h x (List.mem_cons_of_mem _ hx))
    have h4 : words (l :: r) = l.length + words r := by simp [words]
    show (dg (Nat.gcd (val l) (gcds r))).length ≤ _
    omega
set_option maxHeartbeats 2000000 in
theorem common_all (a : Option Addr) (n cap : Nat) (ls : List (List Nat)) (w : World) (h : Wds w a n cap ls) (hn : n ≤ 1000) (hw : words ls ≤ 1000) :
    Calls Try.prog 18 #[.slice a n cap] w (Lst (dg (gcds ls)) w) := by
  obtain ⟨hb1, hb2⟩ := h.bound
  have HGl : ∀ k, Hid ((dg (gcds (ls.take k))).length ≤ 1000) := fun k => Lib.hid (Nat.le_trans (dg_gcds_length (fun l hl => h.oks l (List.mem_of_mem_take hl))) (Nat.le_trans (words_le_take ls k) hw))
  have H := Lib.hid h
  have Hl := Lib.hid h.len
  clear h
  go_enter Try.func18, Try.ntmps18
  go_wp2
  go_loopw [3, 8] (fun gv iv wr => ∃ (k : Nat) (g : Option Addr) (gn gc : Nat), k ≤ n ∧ iv = .int .i64 (k : Int) ∧ gv = .slice g gn gc ∧ gn ≤ 1000 ∧ Hid (Wd wr g gn gc (dg (gcds (ls.take k)))) ∧ Hid (Below w.heap.size w wr)) (fun _ iv _ => n - (intOf iv).toNat)
  case atStart => exact ⟨0, none, 0, 0, by omega, rfl, rfl, by omega, Lib.hid (by simp [gcds, dg_zero]; exact Wd.ofNil _), Lib.hid (Below.refl _ _)⟩
  case round =>
    obtain ⟨k, g, gn, gc, hk, rfl, rfl, hgn, HG, HB⟩ := hrel
    by_cases hlt : k < n
    · obtain ⟨b, off, rfl, a', n', c', hc, hwd⟩ := (H.out.later HB.out).at hlt
      have hn' : n' ≤ 1000 := by rw [← hwd.len]; exact Nat.le_trans (words_mem _ _ (by rw [Hl.out]; exact hlt)) hw
      have HW := Lib.hid hwd
      have HT := Lib.hid (gcds_take ls k (by rw [Hl.out]; exact hlt))
      have HGk := HGl (k + 1)
      obtain ⟨G, hG⟩ : ∃ G, G = gcds (ls.take k) := ⟨_, rfl⟩
      rw [← hG] at HG HT
      have HvG : Hid (val (dg G) = G) := Lib.hid (val_dg G)
      have hk1 : (k : Int) < (n : Int) := by omega
      clear hwd hG
      go_wp2_with fail
      refine (natSaid.zero _ _ _ _ _ HW.out (by omega)).mono ?_
      rintro e w1 ⟨rfl, hB1⟩
      have HW1 := Lib.hid (HW.out.later hB1)
      have HG1 := Lib.hid (HG.out.later hB1)
      have hB01 := below_then HB.out hB1
      clear HW HG hB1 HB hc
      by_cases hz : val (ls.getD k []) = 0
      · have HT2 : Hid (gcds (ls.take (k + 1)) = G) := Lib.hid (by rw [HT.out, hz, Nat.gcd_zero_right])
        rw [decide_eq_true hz]
        clear hz
        have HBs := Lib.hid hB01
        go_wp2
        go_roundw
        case rel => exact ⟨k + 1, g, gn, gc, by omega, by go_num, rfl, hgn, by rw [HT2.out]; exact HG1, HBs⟩
        case measure => simp [intOf]; omega
      · rw [decide_eq_false hz]
        clear hz
        go_wp2_with fail
        refine (common_gcd _ _ _ _ _ _ _ _ _ HG1.out HW1.out (by omega) (by omega)).mono ?_
        rintro e w2 ⟨g2, n2, c2, rfl, h2, hB2⟩
        rw [HvG.out, ← HT.out] at h2
        have hn2 : n2 ≤ 1000 := by rw [← h2.len]; exact HGk.out
        have H2 := Lib.hid h2
        have HBs := Lib.hid (below_then hB01 hB2)
        clear h2 hB01 hB2
        go_wp2
        go_roundw
        case rel => exact ⟨k + 1, g2, n2, c2, by omega, by go_num, rfl, hn2, H2, HBs⟩
        case measure => simp [intOf]; omega
    · obtain rfl : k = n := by omega
      have HT2 : Hid (ls.take k = ls) := Lib.hid (List.take_of_length_le (by rw [Hl.out]; exact Nat.le_refl _))
      go_wp2
      go_ret
      exact ⟨g, gn, gc, rfl, by rw [HT2.out] at HG; exact HG.out, HB.out⟩
theorem exact_gcd_left {A B : Nat} : A % Nat.gcd A B = 0 := Nat.mod_eq_zero_of_dvd (Nat.gcd_dvd_left A B)
theorem exact_gcd_right {A B : Nat} : B % Nat.gcd A B = 0 := Nat.mod_eq_zero_of_dvd (Nat.gcd_dvd_right A B)
theorem exactL_dvd {v x : Nat} (h : v % x = 0) : exactL v x = dg (v / x) := if_pos h
theorem lcm_quot {A B : Nat} : A / Nat.gcd A B * B = Nat.lcm A B := Nat.div_mul_right_comm (Nat.gcd_dvd_left A B) B
set_option maxHeartbeats 1000000 in
theorem common_lcm (a : Option Addr) (n cap : Nat) (la : List Nat) (b : Option Addr) (m cap' : Nat) (lb : List Nat) (w : World) (ha : Wd w a n cap la) (hb : Wd w b m cap' lb) (hn : n ≤ 1000) (hm : m ≤ 1000) :
    Calls Try.prog 14 #[.slice a n cap, .slice b m cap'] w (Lst (dg (Nat.lcm (val la) (val lb))) w) := by
  have hgl := dg_gcd_length (val la) (val lb)
  have hla : (dg (val la)).length ≤ n := ha.trim_le
  have hlb : (dg (val lb)).length ≤ m := hb.trim_le
  have Ha := Lib.hid ha
  have Hb := Lib.hid hb
  clear ha hb
  go_enter Try.func14, Try.ntmps14
  go_wp2_with fail
  refine (common_gcd _ _ _ _ _ _ _ _ _ Ha.out Hb.out (by omega) (by omega)).mono ?_
  rintro e w1 ⟨a1, n1, c1, rfl, h1, hB1⟩
  have H1 := Lib.hid h1
  have hn1 : n1 ≤ 2000 := by have := h1.len; omega
  have Ha1 := Lib.hid (Ha.out.later hB1)
  have Hb1 := Lib.hid (Hb.out.later hB1)
  clear h1 Ha Hb
  by_cases h0 : Nat.gcd (val la) (val lb) = 0
  · have HL : Hid (Nat.lcm (val la) (val lb) = 0) := Lib.hid (by rw [Nat.eq_zero_of_gcd_eq_zero_left h0, Nat.lcm_zero_left])
    go_wp2_with fail
    refine (quot_exact_none _ _ _ _ _ _ _ _ H1.out (by omega) (Lib.hid (by rw [val_dg]; exact h0))).mono ?_
    rintro e w2 ⟨a2, n2, c2, rfl, h2, hB2⟩
    have H2 := Lib.hid h2
    have hn2 : n2 ≤ 2000 := by have := h2.len; simp at this; omega
    have Hb2 := Lib.hid (Hb1.out.later hB2)
    clear h2
    go_wp2_with fail
    refine (prod_mul _ _ _ _ _ _ _ _ _ H2.out Hb2.out (by omega) (by omega)).mono ?_
    rintro e w3 ⟨a3, n3, c3, rfl, h3, hB3⟩
    have H3 : Hid (Wd w3 a3 n3 c3 (dg 0)) := Lib.hid (by have h4 : val [] * val lb = 0 := Nat.zero_mul _; rw [h4] at h3; exact h3)
    clear h3
    go_wp2
    go_ret
    exact ⟨a3, n3, c3, rfl, by rw [HL.out]; exact H3.out, below_then hB1 (below_then hB2 hB3)⟩
  · have HL : Hid (exactL (val la) (val (dg (Nat.gcd (val la) (val lb)))) = dg (val la / Nat.gcd (val la) (val lb))) := Lib.hid (by rw [val_dg]; exact exactL_dvd exact_gcd_left)
    have HM : Hid (val (dg (val la / Nat.gcd (val la) (val lb))) * val lb = Nat.lcm (val la) (val lb)) := Lib.hid (by rw [val_dg]; exact lcm_quot)
    have hql : (dg (val la / Nat.gcd (val la) (val lb))).length ≤ n := Nat.le_trans (dg_length_mono (Nat.div_le_self _ _)) hla
    go_wp2_with fail
    refine (quot_exact _ _ _ _ _ _ _ _ _ Ha1.out H1.out (by omega) (by omega) (Lib.hid (by rw [val_dg]; exact h0))).mono ?_
    rintro e w2 ⟨a2, n2, c2, rfl, h2, hB2⟩
    rw [HL.out] at h2
    have H2 := Lib.hid h2
    have hn2 : n2 ≤ 2000 := by have := h2.len; omega
    have Hb2 := Lib.hid (Hb1.out.later hB2)
    clear h2
    go_wp2_with fail
    refine (prod_mul _ _ _ _ _ _ _ _ _ H2.out Hb2.out (by omega) (by omega)).mono ?_
    rintro e w3 ⟨a3, n3, c3, rfl, h3, hB3⟩
    rw [HM.out] at h3
    have H3 := Lib.hid h3
    clear h3
    go_wp2
    go_ret
    exact ⟨a3, n3, c3, rfl, H3.out, below_then hB1 (below_then hB2 hB3)⟩
theorem common_prime (a : Option Addr) (n cap : Nat) (la : List Nat) (b : Option Addr) (m cap' : Nat) (lb : List Nat) (w : World) (ha : Wd w a n cap la) (hb : Wd w b m cap' lb) (hn : n ≤ 1000) (hm : m ≤ 1000) :
    Calls Try.prog 12 #[.slice a n cap, .slice b m cap'] w (Gives (.bool (decide (Nat.gcd (val la) (val lb) = 1))) w) := by
  have hgl := dg_gcd_length (val la) (val lb)
  have hla : (dg (val la)).length ≤ n := ha.trim_le
  have hlb : (dg (val lb)).length ≤ m := hb.trim_le
  have Ha := Lib.hid ha
  have Hb := Lib.hid hb
  clear ha hb
  go_enter Try.func12, Try.ntmps12
  go_wp2_with fail
  refine (common_gcd _ _ _ _ _ _ _ _ _ Ha.out Hb.out (by omega) (by omega)).mono ?_
  rintro e w1 ⟨a1, n1, c1, rfl, h1, hB1⟩
  have H1 := Lib.hid h1
  have hn1 : n1 ≤ 2000 := by have := h1.len; omega
  clear h1 Ha Hb hgl
  obtain ⟨G, hG⟩ : ∃ G, G = Nat.gcd (val la) (val lb) := ⟨_, rfl⟩
  rw [← hG] at H1
  have HGe := Lib.hid hG
  clear hG
  have Hv : Hid (val (dg G) = G) := Lib.hid (val_dg G)
  go_wp2_with fail
  refine (natSaid.small _ _ _ _ _ H1.out (by omega)).mono ?_
  rintro e w2 ⟨rfl, hB2⟩
  rw [Hv.out]
  by_cases hs : G < 18446744073709551616
  · rw [(smallV_of hs).1, (smallV_of hs).2]
    by_cases h1 : G = 1
    · have hg : ((G : Int) == 1) = true := by rw [h1]; rfl
      have hd : Hid (decide (Nat.gcd (val la) (val lb) = 1) = true) := Lib.hid (decide_eq_true (HGe.out ▸ h1))
      clear h1
      go_wp2
      go_ret
      exact ⟨by rw [hd.out]; rfl, below_then hB1 hB2⟩
    · have hg : ((G : Int) == 1) = false := by simp; omega
      have hd : Hid (decide (Nat.gcd (val la) (val lb) = 1) = false) := Lib.hid (decide_eq_false (HGe.out ▸ h1))
      clear h1
      go_wp2
      go_ret
      exact ⟨by rw [hd.out]; rfl, below_then hB1 hB2⟩
  · have hd : Hid (decide (Nat.gcd (val la) (val lb) = 1) = false) := Lib.hid (decide_eq_false (by rw [← HGe.out]; omega))
    rw [show smallB G = false from decide_eq_false hs]
    generalize smallV G = z
    clear hs
    go_wp2
    go_ret
    exact ⟨by rw [hd.out]; rfl, below_then hB1 hB2⟩
set_option maxHeartbeats 1000000 in
theorem common_cancel (a : Option Addr) (n cap : Nat) (la : List Nat) (b : Option Addr) (m cap' : Nat) (lb : List Nat) (w : World) (ha : Wd w a n cap la) (hb : Wd w b m cap' lb) (hn : n ≤ 1000) (hm : m ≤ 1000) :
    Calls Try.prog 9 #[.slice a n cap, .slice b m cap'] w (Pair2 (dg (val la / Nat.gcd (val la) (val lb))) (dg (val lb / Nat.gcd (val la) (val lb))) w) := by
  have hgl := dg_gcd_length (val la) (val lb)
  have hla : (dg (val la)).length ≤ n := ha.trim_le
  have hlb : (dg (val lb)).length ≤ m := hb.trim_le
  have Ha := Lib.hid ha
  have Hb := Lib.hid hb
  clear ha hb
  go_enter Try.func9, Try.ntmps9
  go_wp2_with fail
  refine (common_gcd _ _ _ _ _ _ _ _ _ Ha.out Hb.out (by omega) (by omega)).mono ?_
  rintro e w1 ⟨a1, n1, c1, rfl, h1, hB1⟩
  have H1 := Lib.hid h1
  have hn1 : n1 ≤ 2000 := by have := h1.len; omega
  have Ha1 := Lib.hid (Ha.out.later hB1)
  have Hb1 := Lib.hid (Hb.out.later hB1)
  clear h1 Ha Hb
  by_cases h0 : Nat.gcd (val la) (val lb) = 0
  · have HL : Hid (dg (val la / Nat.gcd (val la) (val lb)) = [] ∧ dg (val lb / Nat.gcd (val la) (val lb)) = []) := Lib.hid (by rw [h0, Nat.div_zero, Nat.div_zero, dg_zero]; exact ⟨rfl, rfl⟩)
    go_wp2_with fail
    refine (quot_exact_none _ _ _ _ _ _ _ _ H1.out (by omega) (Lib.hid (by rw [val_dg]; exact h0))).mono ?_
    rintro e w2 ⟨a2, n2, c2, rfl, h2, hB2⟩
    have H2 := Lib.hid h2
    have H12 := Lib.hid (H1.out.later hB2)
    clear h2
    go_wp2_with fail
    refine (quot_exact_none _ _ _ _ _ _ _ _ H12.out (by omega) (Lib.hid (by rw [val_dg]; exact h0))).mono ?_
    rintro e w3 ⟨a3, n3, c3, rfl, h3, hB3⟩
    have H3 := Lib.hid h3
    have H23 := Lib.hid (H2.out.later hB3)
    clear h3
    go_wp2
    go_ret2
    exact ⟨a2, n2, c2, a3, n3, c3, rfl, by rw [HL.out.1]; exact H23.out, by rw [HL.out.2]; exact H3.out, below_then hB1 (below_then hB2 hB3)⟩
  · have HL : Hid (exactL (val la) (val (dg (Nat.gcd (val la) (val lb)))) = dg (val la / Nat.gcd (val la) (val lb))) := Lib.hid (by rw [val_dg]; exact exactL_dvd exact_gcd_left)
    have HR : Hid (exactL (val lb) (val (dg (Nat.gcd (val la) (val lb)))) = dg (val lb / Nat.gcd (val la) (val lb))) := Lib.hid (by rw [val_dg]; exact exactL_dvd exact_gcd_right)
    go_wp2_with fail
    refine (quot_exact _ _ _ _ _ _ _ _ _ Ha1.out H1.out (by omega) (by omega) (Lib.hid (by rw [val_dg]; exact h0))).mono ?_
    rintro e w2 ⟨a2, n2, c2, rfl, h2, hB2⟩
    rw [HL.out] at h2
    have H2 := Lib.hid h2
    have H12 := Lib.hid (H1.out.later hB2)
    have Hb2 := Lib.hid (Hb1.out.later hB2)
    clear h2
    go_wp2_with fail
    refine (quot_exact _ _ _ _ _ _ _ _ _ Hb2.out H12.out (by omega) (by omega) (Lib.hid (by rw [val_dg]; exact h0))).mono ?_
    rintro e w3 ⟨a3, n3, c3, rfl, h3, hB3⟩
    rw [HR.out] at h3
    have H3 := Lib.hid h3
    have H23 := Lib.hid (H2.out.later hB3)
    clear h3
    go_wp2
    go_ret2
    exact ⟨a2, n2, c2, a3, n3, c3, rfl, H23.out, H3.out, below_then hB1 (below_then hB2 hB3)⟩
theorem commonSaid : CommonSaid := {
  gcd := fun a n cap la b m cap' lb w ha hb hn hm => common_gcd a n cap la b m cap' lb w ha hb (by omega) (by omega)
  all := common_all
  lcm := common_lcm
  prime := common_prime
  cancel := common_cancel
}
end Go.Proofs.Ytkpnhohaolfmgaa
