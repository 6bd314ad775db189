/-
  The contracts of package quot (layer 5) at this seat: the guess at a word, and the word that is taken away.
-/
import Derived.Test.YtkpnhohaolfmgaaQuot
import Derived.BigQuiet
import Derived.Deep.QuietTactic
namespace Go.Proofs.Ytkpnhohaolfmgaa
open Go.RowKit

theorem Own.window {w : World} {base g N cap : Nat} {P : List Nat} (h : Own w base g N cap P) {i k c : Nat} (hi : i + k ≤ N) (hk : 0 < k) (hc : k ≤ c) (hc2 : c ≤ 9223372036854775807) : Wd w (some ⟨g, i, none⟩) k c ((P.drop i).take k) := by
  have hl := h.len
  exact ⟨by rw [List.length_take, List.length_drop]; omega, hc, hc2, okw_take (okw_drop h.2 i) k, fun e => (by cases e), .inr ⟨g, i, rfl, fun j hj => by rw [h.cell (by omega), atw_take hj, atw_drop]⟩⟩

theorem limb_div_nat (u1 u0 v q r : Nat) (w : World) (h0 : u0 < 4294967296) (hv : v < 4294967296) (hlt : u1 < v) (hq : Hid (q = (u1 * 4294967296 + u0) / v)) (hr : Hid (r = (u1 * 4294967296 + u0) % v)) : Calls Try.prog 53 #[.int .u32 (u1 : Int), .int .u32 (u0 : Int), .int .u32 (v : Int)] w fun e w' =>
    e = .returned (.tuple #[.int .u32 (q : Int), .int .u32 (r : Int), .bool true]) ∧ ∃ n, w' = w.drewN n :=
  (limb_div_yes (u1 : Int) (u0 : Int) (v : Int) w (by omega) (by omega) (by omega) (by omega) (by omega) (by omega)).mono fun e w' ⟨he, hw⟩ => ⟨by
    have e1 : ((u1 : Int) * 4294967296 + (u0 : Int)) / (v : Int) = (q : Int) := by rw [hq.out, Int.natCast_ediv, Int.natCast_add, Int.natCast_mul]; rfl
    have e2 : ((u1 : Int) * 4294967296 + (u0 : Int)) % (v : Int) = (r : Int) := by rw [hr.out, Int.natCast_emod, Int.natCast_add, Int.natCast_mul]; rfl
    rw [he, e1, e2], hw⟩
theorem limb_div_none (u1 u0 v : Nat) (w : World) (hge : v ≤ u1) : Calls Try.prog 53 #[.int .u32 (u1 : Int), .int .u32 (u0 : Int), .int .u32 (v : Int)] w fun e w' => e = .returned (.tuple #[.int .u32 0, .int .u32 0, .bool false]) ∧ w = w' :=
  limb_div_no _ _ _ w (by omega)
set_option maxHeartbeats 2000000 in
theorem quot_guess (w : World) (a : Option Addr) (n cap : Nat) (R : List Nat) (d : Option Addr) (M K L dcap : Nat) (D : List Nat) (hR : Wd w a n cap R) (hd : Wd w d M dcap D) (hM : M < n) (hK : (M : Int) - 1 = (K : Int)) (hL : (M : Int) - 2 = (L : Int)) :
    Calls Try.prog 61 #[.slice a n cap, .slice d M dcap] w fun e w' => e = .returned (.int .u32 ((guessOf (atw R M) (atw R K) (atw D K) (atw D L) : Nat) : Int)) ∧ ∃ q, w' = w.drewN q := by
  obtain ⟨hb1, hb2⟩ := hR.bound
  obtain ⟨hb3, hb4⟩ := hd.bound
  have hokR := hR.ok
  have hokD := hd.ok
  obtain ⟨ba, oa, rfl, hca⟩ := hR.at (by omega)
  obtain ⟨bd, od, rfl, hcd⟩ := hd.at (by omega)
  have hc1 := hca M (by omega)
  have hc2 := hca K (by omega)
  have hc3 := hcd K (by omega)
  have hc4 := hcd L (by omega)
  have hw1 := atw_lt hokR M
  have hw0 := atw_lt hokR K
  have hv1 := atw_lt hokD K
  have hv0 := atw_lt hokD L
  clear hca hcd hR hd hokR hokD
  generalize atw R M = u1 at *
  generalize atw R K = u0 at *
  generalize atw D K = v1 at *
  generalize atw D L = v0 at *
  have hMi : (M : Int) < (n : Int) := by omega
  have hKi : (K : Int) < (n : Int) := by omega
  have hKj : (K : Int) < (M : Int) := by omega
  have hLj : (L : Int) < (M : Int) := by omega
  by_cases hle : v1 ≤ u1
  · have HG : Hid (guessOf u1 u0 v1 v0 = 4294967295) := Lib.hid (by unfold guessOf; rw [if_pos hle])
    have HLE := Lib.hid hle
    clear hle
    go_enter Try.func61, Try.ntmps61
    go_wp2
    go_quiet ((go_at_call 53; exact quiet_here (limb_div_none u1 u0 v1 _ HLE.out) ⟨_, rfl⟩))
    go_wp2
    go_ret
    exact ⟨by rw [HG.out]; rfl, _, rfl⟩
  · obtain ⟨q, hq⟩ : ∃ q, q = (u1 * 4294967296 + u0) / v1 := ⟨_, rfl⟩
    obtain ⟨r, hr⟩ : ∃ r, r = (u1 * 4294967296 + u0) % v1 := ⟨_, rfl⟩
    have hqw : q < 4294967296 := by rw [hq]; exact Nat.div_lt_of_lt_mul (by omega)
    have hrw : r < 4294967296 := by
      have : r < v1 := by rw [hr]; exact Nat.mod_lt _ (by omega)
      omega
    have HQ := Lib.hid hq
    have HR := Lib.hid hr
    have HLT : Hid (u1 < v1) := Lib.hid (by omega)
    clear hq hr hle
    go_enter Try.func61, Try.ntmps61
    go_wp2
    go_quiet ((go_at_call 53; exact quiet_there (limb_div_nat u1 u0 v1 q r _ hw0 hv1 HLT.out HQ HR) (fun p => ⟨_, World.drewN_drewN ..⟩)))
    go_wp2_with fail
    refine (limb_mul_nat q v0 0 _ hqw hv0 (by omega)).mono ?_
    rintro e w' ⟨z, y, rfl, hz, hy, Hs, rfl⟩
    have HZ : Hid (z = q * v0 / 4294967296) := Lib.hid (by have := Hs.out; omega)
    by_cases hgt : r < z
    · have HG : Hid (guessOf u1 u0 v1 v0 = q - 1) := Lib.hid (by
        unfold guessOf
        rw [if_neg (by have := HLT.out; omega), ← HQ.out, ← HR.out, ← HZ.out, if_pos hgt])
      have hq1 : 1 ≤ q := by
        rcases Nat.eq_zero_or_pos q with h0 | h0
        · have := HZ.out; rw [h0] at this; simp at this; omega
        · exact h0
      obtain ⟨q1, hq⟩ : ∃ q1 : Nat, (q : Int) - 1 = (q1 : Int) := ⟨q - 1, by omega⟩
      have Hq : Hid (q - 1 = q1) := Lib.hid (by omega)
      go_wp2
      go_ret
      exact ⟨by rw [HG.out, Hq.out]; rfl, _, rfl⟩
    · have HG : Hid (guessOf u1 u0 v1 v0 = q) := Lib.hid (by
        unfold guessOf
        rw [if_neg (by have := HLT.out; omega), ← HQ.out, ← HR.out, ← HZ.out, if_neg hgt])
      go_wp2
      go_ret
      exact ⟨by rw [HG.out]; rfl, _, rfl⟩
def AwayPost (base g N cap i : Nat) (D P : List Nat) (w : World) (e : Ending) (w' : World) : Prop :=
  ∃ (P' : List Nat) (q : Nat), e = .returned (.int .u32 (q : Int)) ∧ q < 4294967296 ∧ Hid (Own w' base g N cap P') ∧ w.grownBy w' (some g) ∧ Hid (Taken P D P' i q)
set_option maxHeartbeats 2000000 in
theorem quot_takeAway (w0 w : World) (g i N cap c m dcap : Nat) (P D : List Nat) (d : Option Addr) (hO : Own w w0.heap.size g N cap P) (hB : Below w0.heap.size w0 w) (hd : Wd w0 d (m + 2) dcap D) (hi : i + m + 2 < N) (hc : m + 3 ≤ c) (hc2 : c ≤ 9223372036854775807) (hN : N ≤ 2000000) (hv : Hid (2147483648 ≤ atw D (m + 1))) (hlt : Hid (val P < 4294967296 ^ (i + 1) * val D)) :
    Calls Try.prog 56 #[.slice (some ⟨g, i, none⟩) (m + 3) c, .slice d (m + 2) dcap] w (AwayPost w0.heap.size g N cap i D P w) := by
  have HF : Hid (Flat P (i + (m + 2) + 1)) := Lib.hid (flat_of_lt (by
    have h1 := hlt.out
    have h2 := val_lt hd.ok
    rw [hd.len] at h2
    have h3 : 4294967296 ^ (i + 1) * val D ≤ 4294967296 ^ (i + 1) * 4294967296 ^ (m + 2) := Nat.mul_le_mul_left _ (by omega)
    rw [← Nat.pow_add, show i + 1 + (m + 2) = i + (m + 2) + 1 by omega] at h3
    generalize 4294967296 ^ (i + (m + 2) + 1) = y1 at *
    generalize 4294967296 ^ (i + 1) * val D = y2 at *
    omega))
  have HG := Lib.hid (guess_list hO.2 hd.ok hd.len (by have := HF.out; rwa [show i + (m + 2) + 1 = i + m + 3 by omega] at this) hv.out hlt.out)
  have Hwin := Lib.hid (hO.window (i := i) (k := m + 3) (c := c) (by omega) (by omega) hc hc2)
  have e1 : atw ((P.drop i).take (m + 3)) (m + 2) = atw P (i + m + 2) := by rw [atw_take (by omega), atw_drop, Nat.add_assoc]
  have e0 : atw ((P.drop i).take (m + 3)) (m + 1) = atw P (i + m + 1) := by rw [atw_take (by omega), atw_drop, Nat.add_assoc]
  have He : Hid (guessOf (atw ((P.drop i).take (m + 3)) (m + 2)) (atw ((P.drop i).take (m + 3)) (m + 1)) (atw D (m + 1)) (atw D m) = guessOf (atw P (i + m + 2)) (atw P (i + m + 1)) (atw D (m + 1)) (atw D m)) := Lib.hid (by rw [e1, e0])
  have HO := Lib.hid hO
  have Hd := Lib.hid hd
  clear e1 e0 hO hd
  have hbase := HO.out.base
  go_enter Try.func56, Try.ntmps56
  go_wp2_with fail
  refine (quot_guess _ _ _ _ _ _ (m + 2) (m + 1) m _ _ Hwin.out (Hd.out.later hB) (by omega) (by omega) (by omega)).mono ?_
  rintro e w' ⟨rfl, p, rfl⟩
  rw [He.out]
  have hgw := HG.out.2.2
  have HG2 : Hid (top P i < (guessOf (atw P (i + m + 2)) (atw P (i + m + 1)) (atw D (m + 1)) (atw D m) + 1) * val D ∧ guessOf (atw P (i + m + 2)) (atw P (i + m + 1)) (atw D (m + 1)) (atw D m) * val D ≤ top P i + val D) := Lib.hid ⟨HG.out.1, HG.out.2.1⟩
  clear HG He
  generalize guessOf (atw P (i + m + 2)) (atw P (i + m + 1)) (atw D (m + 1)) (atw D m) = q at *
  have hBd := below_drewN hB p
  have HOd := Lib.hid (show Own (w.drewN p) w0.heap.size g N cap P from HO.out)
  go_wp2_with fail
  refine (quot_lessen w0 (w.drewN p) g i N cap c (m + 2) dcap q P D d HOd.out hBd Hd.out (by omega) hgw hN HF.out).mono ?_
  rintro e w1 ⟨P1, b, rfl, hb, HO1, hG1, HV1, HF1⟩
  have hG01 := grown_then (grown_drewN (grown_refl w (some g)) p) hG1
  have hB1 := grown_below hBd hG1 hbase.1
  by_cases hb0 : b = 0
  · subst hb0
    have HT : Hid (Taken P D P1 i q) := Lib.hid (taken_yes HO.out.2 HG2.out.1 HV1.out)
    go_wp2
    go_ret
    exact ⟨P1, q, rfl, hgw, HO1, hG01, HT⟩
  · have hb1 : b = 1 := by omega
    have hbi : (0 : Int) < (b : Int) := by omega
    have HV1' := Lib.hid (hb1 ▸ HV1.out)
    clear hb0 hb1 HV1
    go_wp2_with fail
    refine (quot_giveBack w0 _ g i N cap c (m + 2) dcap P1 D d HO1.out hB1 Hd.out (by omega) hN HF1.out).mono ?_
    rintro e w2 ⟨P2, z, rfl, hz, HO2, hG2, HV2, HF2⟩
    have HT := Lib.hid (taken_back HO.out.2 (flat_lt HO1.out.2 HF1.out) (flat_lt HO2.out.2 HF2.out) HG2.out.2 hz HV1'.out HV2.out)
    have hq1 : 1 ≤ q := HT.out.1
    have hG02 := grown_then hG01 hG2
    obtain ⟨q1, hq⟩ : ∃ q1 : Nat, (q : Int) - 1 = (q1 : Int) := ⟨q - 1, by omega⟩
    have Hq : Hid (q - 1 = q1) := Lib.hid (by omega)
    go_wp2
    go_ret
    exact ⟨P2, q1, rfl, by omega, HO2, hG02, Lib.hid (by rw [← Hq.out]; exact HT.out.2)⟩
end Go.Proofs.Ytkpnhohaolfmgaa
