/-
  Several texts of this claim as one, group 7.
-/
import Derived.Test.YtjeigdlhjghinaaGreatDoorG6
import Derived.BigQuiet
import Derived.Deep.QuietTactic
import Derived.Test.YtjeigdlhjghinaaGreatDoorG4
import Derived.Test.YtjeigdlhjghinaaGreatDoorG1
import Derived.BigRegion
import Derived.StillTailTactics
/-
  The contracts of package quot (layer 5) at this seat: the guess at a word, and the word that is taken away.
-/
namespace Go.Proofs.YtjeigdlhjghinaaGreatDoor
open Go.RowKit

theorem Own.window {w : World} {base g N cap : Nat} {P : List Nat} (h : Own w base g N cap P) {i k c : Nat} (hi : i + k ≤ N) (hk : 0 < k) (hc : k ≤ c) (hc2 : c ≤ 9223372036854775807) : Wd w (some ⟨g, i, none⟩) k c ((P.drop i).take k) := by
  have hl := h.len
  exact ⟨by rw [List.length_take, List.length_drop]; omega, hc, hc2, okw_take (okw_drop h.2 i) k, fun e => (by cases e), .inr ⟨g, i, rfl, fun j hj => by rw [h.cell (by omega), atw_take hj, atw_drop]⟩⟩

theorem limb_div_nat (u1 u0 v q r : Nat) (w : World) (h0 : u0 < 4294967296) (hv : v < 4294967296) (hlt : u1 < v) (hq : Hid (q = (u1 * 4294967296 + u0) / v)) (hr : Hid (r = (u1 * 4294967296 + u0) % v)) : Calls Tryz.prog 191 #[.int .u32 (u1 : Int), .int .u32 (u0 : Int), .int .u32 (v : Int)] w fun e w' =>
    e = .returned (.tuple #[.int .u32 (q : Int), .int .u32 (r : Int), .bool true]) ∧ ∃ n, w' = w.drewN n :=
  (limb_div_yes (u1 : Int) (u0 : Int) (v : Int) w (by omega) (by omega) (by omega) (by omega) (by omega) (by omega)).mono fun e w' ⟨he, hw⟩ => ⟨by
    have e1 : ((u1 : Int) * 4294967296 + (u0 : Int)) / (v : Int) = (q : Int) := by rw [hq.out, Int.natCast_ediv, Int.natCast_add, Int.natCast_mul]; rfl
    have e2 : ((u1 : Int) * 4294967296 + (u0 : Int)) % (v : Int) = (r : Int) := by rw [hr.out, Int.natCast_emod, Int.natCast_add, Int.natCast_mul]; rfl
    rw [he, e1, e2], hw⟩
theorem limb_div_none (u1 u0 v : Nat) (w : World) (hge : v ≤ u1) : Calls Tryz.prog 191 #[.int .u32 (u1 : Int), .int .u32 (u0 : Int), .int .u32 (v : Int)] w fun e w' => e = .returned (.tuple #[.int .u32 0, .int .u32 0, .bool false]) ∧ w = w' :=
  limb_div_no _ _ _ w (by omega)
set_option maxRecDepth 4096 in
set_option maxHeartbeats 2000000 in
theorem quot_guess (w : World) (a : Option Addr) (n cap : Nat) (R : List Nat) (d : Option Addr) (M K L dcap : Nat) (D : List Nat) (hR : Wd w a n cap R) (hd : Wd w d M dcap D) (hM : M < n) (hK : (M : Int) - 1 = (K : Int)) (hL : (M : Int) - 2 = (L : Int)) :
    Calls Tryz.prog 209 #[.slice a n cap, .slice d M dcap] w fun e w' => e = .returned (.int .u32 ((guessOf (atw R M) (atw R K) (atw D K) (atw D L) : Nat) : Int)) ∧ ∃ q, w' = w.drewN q := by
  obtain ⟨hb1, hb2⟩ := hR.bound
  obtain ⟨hb3, hb4⟩ := hd.bound
  have hokR := hR.ok
  have hokD := hd.ok
  obtain ⟨ba, oa, rfl, hca⟩ := hR.at (by omega)
  obtain ⟨bd, od, rfl, hcd⟩ := hd.at (by omega)
  have hc1 := hca M (by omega)
  have hc2 := hca K (by omega)
  have hc3 := hcd K (by omega)
  have hc4 := hcd L (by omega)
  have hw1 := atw_lt hokR M
  have hw0 := atw_lt hokR K
  have hv1 := atw_lt hokD K
  have hv0 := atw_lt hokD L
  clear hca hcd hR hd hokR hokD
  generalize atw R M = u1 at *
  generalize atw R K = u0 at *
  generalize atw D K = v1 at *
  generalize atw D L = v0 at *
  have hMi : (M : Int) < (n : Int) := by omega
  have hKi : (K : Int) < (n : Int) := by omega
  have hKj : (K : Int) < (M : Int) := by omega
  have hLj : (L : Int) < (M : Int) := by omega
  by_cases hle : v1 ≤ u1
  · have HG : Hid (guessOf u1 u0 v1 v0 = 4294967295) := Lib.hid (by unfold guessOf; rw [if_pos hle])
    have HLE := Lib.hid hle
    clear hle
    go_enter Tryz.func209, Tryz.ntmps209
    go_wp2
    go_quiet ((go_at_call 191; exact quiet_here (limb_div_none u1 u0 v1 _ HLE.out) ⟨_, rfl⟩))
    go_wp2
    go_ret
    exact ⟨by rw [HG.out]; rfl, _, rfl⟩
  · obtain ⟨q, hq⟩ : ∃ q, q = (u1 * 4294967296 + u0) / v1 := ⟨_, rfl⟩
    obtain ⟨r, hr⟩ : ∃ r, r = (u1 * 4294967296 + u0) % v1 := ⟨_, rfl⟩
    have hqw : q < 4294967296 := by rw [hq]; exact Nat.div_lt_of_lt_mul (by omega)
    have hrw : r < 4294967296 := by
      have : r < v1 := by rw [hr]; exact Nat.mod_lt _ (by omega)
      omega
    have HQ := Lib.hid hq
    have HR := Lib.hid hr
    have HLT : Hid (u1 < v1) := Lib.hid (by omega)
    clear hq hr hle
    go_enter Tryz.func209, Tryz.ntmps209
    go_wp2
    go_quiet ((go_at_call 191; exact quiet_there (limb_div_nat u1 u0 v1 q r _ hw0 hv1 HLT.out HQ HR) (fun p => ⟨_, World.drewN_drewN ..⟩)))
    go_wp2_with fail
    refine (limb_mul_nat q v0 0 _ hqw hv0 (by omega)).mono ?_
    rintro e w' ⟨z, y, rfl, hz, hy, Hs, rfl⟩
    have HZ : Hid (z = q * v0 / 4294967296) := Lib.hid (by have := Hs.out; omega)
    by_cases hgt : r < z
    · have HG : Hid (guessOf u1 u0 v1 v0 = q - 1) := Lib.hid (by
        unfold guessOf
        rw [if_neg (by have := HLT.out; omega), ← HQ.out, ← HR.out, ← HZ.out, if_pos hgt])
      have hq1 : 1 ≤ q := by
        rcases Nat.eq_zero_or_pos q with h0 | h0
        · have := HZ.out; rw [h0] at this; simp at this; omega
        · exact h0
      obtain ⟨q1, hq⟩ : ∃ q1 : Nat, (q : Int) - 1 = (q1 : Int) := ⟨q - 1, by omega⟩
      have Hq : Hid (q - 1 = q1) := Lib.hid (by omega)
      go_wp2
      go_ret
      exact ⟨by rw [HG.out, Hq.out]; rfl, _, rfl⟩
    · have HG : Hid (guessOf u1 u0 v1 v0 = q) := Lib.hid (by
        unfold guessOf
        rw [if_neg (by have := HLT.out; omega), ← HQ.out, ← HR.out, ← HZ.out, if_neg hgt])
      go_wp2
      go_ret
      exact ⟨by rw [HG.out]; rfl, _, rfl⟩
def AwayPost (base g N cap i : Nat) (D P : List Nat) (w : World) (e : Ending) (w' : World) : Prop :=
  ∃ (P' : List Nat) (q : Nat), e = .returned (.int .u32 (q : Int)) ∧ q < 4294967296 ∧ Hid (Own w' base g N cap P') ∧ w.grownBy w' (some g) ∧ Hid (Taken P D P' i q)
set_option maxRecDepth 4096 in
set_option maxHeartbeats 2000000 in
theorem quot_takeAway (w0 w : World) (g i N cap c m dcap : Nat) (P D : List Nat) (d : Option Addr) (hO : Own w w0.heap.size g N cap P) (hB : Below w0.heap.size w0 w) (hd : Wd w0 d (m + 2) dcap D) (hi : i + m + 2 < N) (hc : m + 3 ≤ c) (hc2 : c ≤ 9223372036854775807) (hN : N ≤ 2000000) (hv : Hid (2147483648 ≤ atw D (m + 1))) (hlt : Hid (val P < 4294967296 ^ (i + 1) * val D)) :
    Calls Tryz.prog 199 #[.slice (some ⟨g, i, none⟩) (m + 3) c, .slice d (m + 2) dcap] w (AwayPost w0.heap.size g N cap i D P w) := by
  have HF : Hid (Flat P (i + (m + 2) + 1)) := Lib.hid (flat_of_lt (by
    have h1 := hlt.out
    have h2 := val_lt hd.ok
    rw [hd.len] at h2
    have h3 : 4294967296 ^ (i + 1) * val D ≤ 4294967296 ^ (i + 1) * 4294967296 ^ (m + 2) := Nat.mul_le_mul_left _ (by omega)
    rw [← Nat.pow_add, show i + 1 + (m + 2) = i + (m + 2) + 1 by omega] at h3
    generalize 4294967296 ^ (i + (m + 2) + 1) = y1 at *
    generalize 4294967296 ^ (i + 1) * val D = y2 at *
    omega))
  have HG := Lib.hid (guess_list hO.2 hd.ok hd.len (by have := HF.out; rwa [show i + (m + 2) + 1 = i + m + 3 by omega] at this) hv.out hlt.out)
  have Hwin := Lib.hid (hO.window (i := i) (k := m + 3) (c := c) (by omega) (by omega) hc hc2)
  have e1 : atw ((P.drop i).take (m + 3)) (m + 2) = atw P (i + m + 2) := by rw [atw_take (by omega), atw_drop, Nat.add_assoc]
  have e0 : atw ((P.drop i).take (m + 3)) (m + 1) = atw P (i + m + 1) := by rw [atw_take (by omega), atw_drop, Nat.add_assoc]
  have He : Hid (guessOf (atw ((P.drop i).take (m + 3)) (m + 2)) (atw ((P.drop i).take (m + 3)) (m + 1)) (atw D (m + 1)) (atw D m) = guessOf (atw P (i + m + 2)) (atw P (i + m + 1)) (atw D (m + 1)) (atw D m)) := Lib.hid (by rw [e1, e0])
  have HO := Lib.hid hO
  have Hd := Lib.hid hd
  clear e1 e0 hO hd
  have hbase := HO.out.base
  go_enter Tryz.func199, Tryz.ntmps199
  go_wp2_with fail
  refine (quot_guess _ _ _ _ _ _ (m + 2) (m + 1) m _ _ Hwin.out (Hd.out.later hB) (by omega) (by omega) (by omega)).mono ?_
  rintro e w' ⟨rfl, p, rfl⟩
  rw [He.out]
  have hgw := HG.out.2.2
  have HG2 : Hid (top P i < (guessOf (atw P (i + m + 2)) (atw P (i + m + 1)) (atw D (m + 1)) (atw D m) + 1) * val D ∧ guessOf (atw P (i + m + 2)) (atw P (i + m + 1)) (atw D (m + 1)) (atw D m) * val D ≤ top P i + val D) := Lib.hid ⟨HG.out.1, HG.out.2.1⟩
  clear HG He
  generalize guessOf (atw P (i + m + 2)) (atw P (i + m + 1)) (atw D (m + 1)) (atw D m) = q at *
  have hBd := below_drewN hB p
  have HOd := Lib.hid (show Own (w.drewN p) w0.heap.size g N cap P from HO.out)
  go_wp2_with fail
  refine (quot_lessen w0 (w.drewN p) g i N cap c (m + 2) dcap q P D d HOd.out hBd Hd.out (by omega) hgw hN HF.out).mono ?_
  rintro e w1 ⟨P1, b, rfl, hb, HO1, hG1, HV1, HF1⟩
  have hG01 := grown_then (grown_drewN (grown_refl w (some g)) p) hG1
  have hB1 := grown_below hBd hG1 hbase.1
  by_cases hb0 : b = 0
  · subst hb0
    have HT : Hid (Taken P D P1 i q) := Lib.hid (taken_yes HO.out.2 HG2.out.1 HV1.out)
    go_wp2
    go_ret
    exact ⟨P1, q, rfl, hgw, HO1, hG01, HT⟩
  · have hb1 : b = 1 := by omega
    have hbi : (0 : Int) < (b : Int) := by omega
    have HV1' := Lib.hid (hb1 ▸ HV1.out)
    clear hb0 hb1 HV1
    go_wp2_with fail
    refine (quot_giveBack w0 _ g i N cap c (m + 2) dcap P1 D d HO1.out hB1 Hd.out (by omega) hN HF1.out).mono ?_
    rintro e w2 ⟨P2, z, rfl, hz, HO2, hG2, HV2, HF2⟩
    have HT := Lib.hid (taken_back HO.out.2 (flat_lt HO1.out.2 HF1.out) (flat_lt HO2.out.2 HF2.out) HG2.out.2 hz HV1'.out HV2.out)
    have hq1 : 1 ≤ q := HT.out.1
    have hG02 := grown_then hG01 hG2
    obtain ⟨q1, hq⟩ : ∃ q1 : Nat, (q : Int) - 1 = (q1 : Int) := ⟨q - 1, by omega⟩
    have Hq : Hid (q - 1 = q1) := Lib.hid (by omega)
    go_wp2
    go_ret
    exact ⟨P2, q1, rfl, by omega, HO2, hG02, Lib.hid (by rw [← Hq.out]; exact HT.out.2)⟩
end Go.Proofs.YtjeigdlhjghinaaGreatDoor

/-
  The contracts of package quot (layer 5) at this seat: Word, long.
-/
namespace Go.Proofs.YtjeigdlhjghinaaGreatDoor
open Go.RowKit

/-- Quotient and rest by a word. -/
def WordPost (v x : Nat) (w : World) (e : Ending) (w' : World) : Prop :=
  ∃ (a : Option Addr) (n cap : Nat), e = .returned (.tuple #[.slice a n cap, .int .u32 ((v % x : Nat) : Int), .bool true]) ∧ Wd w' a n cap (dg (v / x)) ∧ Below w.heap.size w w'
/-- The quotient stands in a row of the call's own. -/
def WordOwnPost (v x : Nat) (w : World) (e : Ending) (w' : World) : Prop :=
  ∃ (g n : Nat), e = .returned (.tuple #[.slice (some ⟨g, 0, none⟩) n n, .int .u32 ((v % x : Nat) : Int), .bool true]) ∧ Own w' w.heap.size g n n (dg (v / x)) ∧ Below w.heap.size w w'
set_option maxRecDepth 4096 in
set_option maxHeartbeats 2000000 in
theorem quot_word_own (a : Option Addr) (n cap : Nat) (l : List Nat) (x : Nat) (w : World) (h : Wd w a n cap l) (hn : n ≤ 1000000) (hx : x < 4294967296) (h0 : 0 < x) : Calls Tryz.prog 178 #[.slice a n cap, .int .u32 (x : Int)] w (WordOwnPost (val l) x w) := by
  have hmn : (dg (val l)).length ≤ n := h.trim_le
  have H := Lib.hid h
  have hxz : ((x : Int) == 0) = false := by simp; omega
  clear h
  go_enter Tryz.func178, Tryz.ntmps178
  go_wp2_with fail
  refine (nat_norm _ _ _ _ _ H.out (by omega)).mono ?_
  rintro e w1 ⟨g, m, rfl, Hm, Hown, hB1⟩
  have HO1 : Hid (Own w1 w.heap.size g m m (dg (val l))) := Lib.hid ⟨Hown.out, okw_dg _⟩
  have hm : m ≤ 1000000 := by rw [Hm.out]; omega
  have HL : Hid (okw (dg (val l)) ∧ (dg (val l)).length = m ∧ val (dg (val l)) = val l) := Lib.hid ⟨okw_dg _, Hm.out.symm, val_dg _⟩
  clear Hown Hm hmn H
  generalize dg (val l) = L at HO1 HL
  go_wp2
  go_loopw [5, 7] (fun rv iv wr => ∃ (k r : Nat) (Q : List Nat), k ≤ m ∧ iv = .int .i64 ((k : Int) - 1) ∧ rv = .int .u32 (r : Int) ∧ r < x ∧ Hid (WordAt x L Q k r) ∧ Hid (Own wr w.heap.size g m m Q) ∧ Below w.heap.size w wr) (fun _ iv _ => (intOf iv + 1).toNat)
  case atStart => exact ⟨m, 0, L, by omega, by go_num, rfl, h0, Lib.hid ⟨by rw [top_ge (by rw [HL.out.2.1]; omega)]; simp, h0, fun j _ => rfl, rfl⟩, HO1, hB1⟩
  case round =>
    clear HO1 hB1
    obtain ⟨k, r, Q, hk, rfl, rfl, hr, HW, HO, hB⟩ := hrel
    cases k with
    | zero =>
      have Hfin := Lib.hid (word_end HW.out HL.out.2.2)
      have hr2 : r = val l % x := Hfin.out.2
      have Hq : Hid (val Q = val l / x) := Lib.hid Hfin.out.1
      have Hr := Lib.hid hr2
      clear hr2 Hfin
      go_wp2_with fail
      refine (nat_norm _ _ _ _ _ HO.out.wd (by omega)).mono ?_
      rintro e w2 ⟨g2, n2, rfl, Hm2, h2, b2⟩
      rw [Hq.out] at h2
      have H2 : Hid (Own w2 w.heap.size g2 n2 n2 (dg (val l / x))) := Lib.hid (Own.lower ⟨h2.out, okw_dg _⟩ hB.size)
      clear h2
      go_wp2
      go_ret3
      exact ⟨g2, n2, by rw [← Hr.out]; rfl, H2.out, below_then hB b2⟩
    | succ k =>
      have e1 : ((k + 1 : Nat) : Int) - 1 = (k : Int) := by omega
      rw [e1]
      clear e1
      have hcell := HO.out.cell (k := k) (by omega)
      rw [HW.out.2.2.1 k (by omega)] at hcell
      have hfro := HO.out.1.frozenAt k
      have huw := atw_lt HL.out.1 k
      obtain ⟨u, huu⟩ : ∃ u, u = atw L k := ⟨_, rfl⟩
      rw [← huu] at huw hcell
      have Hu := Lib.hid huu
      have hb := HO.out.base
      obtain ⟨q, hq⟩ : ∃ q, q = (r * 4294967296 + u) / x := ⟨_, rfl⟩
      obtain ⟨s, hs⟩ : ∃ s, s = (r * 4294967296 + u) % x := ⟨_, rfl⟩
      have hqw : q < 4294967296 := by rw [hq]; exact Nat.div_lt_of_lt_mul (by omega)
      have hsx : s < x := by rw [hs]; exact Nat.mod_lt _ h0
      have HQ := Lib.hid hq
      have HS := Lib.hid hs
      have hki : (k : Int) < (m : Int) := by omega
      clear huu hq hs
      go_wp2_with fail
      refine (limb_div_nat r u x q s _ huw hx hr HQ HS).mono ?_
      rintro e w' ⟨rfl, p, rfl⟩
      have HOs := Lib.hid ((show Own (wr.drewN p) w.heap.size g m m Q from HO.out).set k q hqw)
      have HBs := Lib.hid ((below_drewN hB p).setCell (p := ⟨g, k, none⟩) hb.1 (.int .u32 (q : Int)))
      have HW2 : Hid (WordAt x L (Q.set k q) k s) := Lib.hid (by
        have h1 := word_down HW.out (by omega) (by rw [HO.out.len]; omega)
        rwa [← Hu.out, ← HQ.out, ← HS.out] at h1)
      go_wp2
      go_roundw
      case rel => exact ⟨k, s, Q.set k q, by omega, by go_num, rfl, hsx, HW2, HOs, HBs.out⟩
      case measure => simp [intOf]
theorem quot_word (a : Option Addr) (n cap : Nat) (l : List Nat) (x : Nat) (w : World) (h : Wd w a n cap l) (hn : n ≤ 1000000) (hx : x < 4294967296) (h0 : 0 < x) : Calls Tryz.prog 178 #[.slice a n cap, .int .u32 (x : Int)] w (WordPost (val l) x w) :=
  (quot_word_own a n cap l x w h hn hx h0).mono fun _ _ ⟨_, _, he, ho, hb⟩ => ⟨_, _, _, he, ho.wd, hb⟩
theorem quot_takeAway_at (w0 w : World) (g i N cap c M K W dcap : Nat) (P D : List Nat) (d : Option Addr) (hO : Own w w0.heap.size g N cap P) (hB : Below w0.heap.size w0 w) (hd : Wd w0 d M dcap D) (hM : 2 ≤ M) (hK : M = K + 1) (hW : W = M + 1) (hi : i + M < N) (hc : W ≤ c) (hc2 : c ≤ 9223372036854775807) (hN : N ≤ 2000000) (hv : Hid (2147483648 ≤ atw D K)) (hlt : Hid (val P < 4294967296 ^ (i + 1) * val D)) :
    Calls Tryz.prog 199 #[.slice (some ⟨g, i, none⟩) W c, .slice d M dcap] w (AwayPost w0.heap.size g N cap i D P w) := by
  obtain ⟨m, rfl⟩ : ∃ m, K = m + 1 := ⟨K - 1, by omega⟩
  subst hK
  subst hW
  exact quot_takeAway w0 w g i N cap c m dcap P D d hO hB hd hi hc hc2 hN hv hlt
def LongPost2 (p q : Nat) (w : World) (e : Ending) (w' : World) : Prop :=
  ∃ (a : Option Addr) (n cap : Nat) (b : Option Addr) (m cap' : Nat), e = .returned (.tuple #[.slice a n cap, .slice b m cap']) ∧ Wd w' a n cap (dg p) ∧ Wd w' b m cap' (dg q) ∧ Below w.heap.size w w'
set_option maxRecDepth 4096 in
set_option maxHeartbeats 4000000 in
theorem quot_long (a : Option Addr) (na cap : Nat) (la : List Nat) (b : Option Addr) (M cap' vb : Nat) (w : World) (ha : Wd w a na cap la) (hb : Wd w b M cap' (dg vb)) (hna : na ≤ 500000) (hM2 : 2 ≤ M) (hMn : M ≤ 1000000) (hle : Hid (vb ≤ val la)) :
    Calls Tryz.prog 187 #[.slice a na cap, .slice b M cap'] w (LongPost2 (val la / vb) (val la % vb) w) := by
  obtain ⟨i0, hi, hz0, hz1, hz2⟩ := info_parts infoU32
  obtain ⟨K, hK⟩ : ∃ K : Nat, (M : Int) - 1 = (K : Int) := ⟨M - 1, by omega⟩
  have HMl : Hid ((dg vb).length = M) := Lib.hid hb.len
  obtain ⟨bb, ob, rfl, hcb⟩ := hb.at (by omega)
  have hcK := hcb K (by omega)
  have hxw := atw_lt (okw_dg vb) K
  obtain ⟨x, hxx⟩ : ∃ x, x = atw (dg vb) K := ⟨_, rfl⟩
  rw [← hxx] at hxw hcK
  obtain ⟨s, hs⟩ : ∃ s, s = 32 - blen (atw (dg vb) K) := ⟨_, rfl⟩
  have hnt := norm_top (b := vb) (m := K) (by have := HMl.out; omega) hs
  have hs32 : s < 32 := hnt.1
  have HD : Hid ((dg (vb * 2 ^ s)).length = M ∧ 2147483648 ≤ atw (dg (vb * 2 ^ s)) K) := Lib.hid ⟨by have := hnt.2.1; omega, hnt.2.2⟩
  have hbl : blen x ≤ 32 := blen_le.2 hxw
  have hsi : (32 : Int) - ((blen x : Nat) : Int) = (s : Int) := by rw [hxx]; have := blen_le.2 (show atw (dg vb) K < 2 ^ 32 from atw_lt (okw_dg vb) K); omega
  have Ha := Lib.hid ha
  have Hb := Lib.hid hb
  have hKi : (K : Int) < (M : Int) := by omega
  have hv0 : Hid (0 < vb) := Lib.hid (by
    rcases Nat.eq_zero_or_pos vb with h | h
    · have := HMl.out; rw [h, dg_zero] at this; simp at this; omega
    · exact h)
  clear hxx hs hnt ha hb hcb
  generalize hbx : blen x = y at *
  have Hbx := Lib.hid hbx
  clear hbx
  go_enter Tryz.func187, Tryz.ntmps187
  go_wp2_with fail
  refine (limb_len_nat x _ hxw).mono ?_
  rintro e w' ⟨rfl, rfl⟩
  rw [Hbx.out]
  go_wp2_with fail
  refine (twos_up _ _ _ _ (s : Int) _ Hb.out (by omega)).mono ?_
  rintro e w1 ⟨d, dn, dcap, rfl, hd, hB1⟩
  rw [show min (s : Int).toNat 4096 = s by omega, val_dg] at hd
  have hdn : dn = M := by rw [← hd.len]; exact HD.out.1
  subst hdn
  have Hd := Lib.hid hd
  have HD2 : Hid (okw (dg (vb * 2 ^ s)) ∧ val (dg (vb * 2 ^ s)) = vb * 2 ^ s) := Lib.hid ⟨okw_dg _, val_dg _⟩
  clear hd
  have Ha1 := Lib.hid (Ha.out.later hB1)
  go_wp2_with fail
  refine (twos_up_own _ _ _ _ (s : Int) _ Ha1.out (by omega)).mono ?_
  rintro e w2 ⟨a2, n2, c2, rfl, h2, hB2, hown⟩
  rw [show min (s : Int).toNat 4096 = s by omega] at h2 hown
  obtain ⟨g, rfl, HO2⟩ := hown (Nat.ne_of_gt (Nat.mul_pos (by have h1 := hle.out; have h2 := hv0.out; omega) (Nat.two_pow_pos s)))
  obtain ⟨A, hA⟩ : ∃ A, A = val la * 2 ^ s := ⟨_, rfl⟩
  rw [← hA] at h2 HO2
  have HA := Lib.hid hA
  have hn2 : n2 ≤ 500001 ∧ dn ≤ n2 := by
    have h3 := h2.len
    have h4 := val_lt Ha.out.ok
    rw [Ha.out.len] at h4
    refine ⟨?_, ?_⟩
    · have h5 : 2 ^ s ≤ 4294967296 ^ 1 := Nat.le_trans (Nat.pow_le_pow_right (by decide) (show s ≤ 32 by omega)) (by decide)
      have h6 := Nat.mul_lt_mul_of_lt_of_le h4 h5 (pow_pos32 1)
      rw [← Nat.pow_add, ← hA] at h6
      have h7 := dg_length_le h6
      omega
    · rw [← h3, ← HD.out.1]
      apply dg_length_mono
      rw [hA]
      exact Nat.mul_le_mul_right _ hle.out
  obtain ⟨hn2, hMn2⟩ := hn2
  have HAl : Hid ((dg A).length = n2) := Lib.hid h2.len
  clear h2 hA
  go_wp2_with (at_builtin; refine wpList_append_own _ rfl _ _ 37 rfl w1.heap.size 91 i0 (.int .u32 0) 1 4 Tryz.underlying37 hi hz0 hz1 hz2 rfl (by decide) _ n2 _ rfl (HO2.out.1.alloc _) ⟨w2.heap.size, 0, none⟩ 1 1 (wcells [0]) rfl rfl (Wd.lit1 w2 91 (x := 0) (by omega)).cells (wcells_one _) (by unfold maxLen; omega) (by omega) (by simp; have := hB2.size; omega) ?_)
  intro v' w3 hown3 hgrow3 _
  obtain ⟨g3, cap3, rfl, HO3'⟩ := Own.push (r := 0) hown3 HO2.out.2 (by decide)
  have HO3 := Lib.hid HO3'
  have hbase2 := HO2.out.base
  have hB3 : Below w1.heap.size w1 w3 := (hB2.alloc hB2.size _).grown hgrow3 (by simp; have := hB2.size; omega) (by intro k hk; simp [Value.ownBlock] at hk; omega)
  obtain ⟨hc3a, hc3b⟩ := HO3.out.bound
  clear HO3' hown3 hgrow3 hbase2 HO2
  obtain ⟨N, hN⟩ : ∃ N : Nat, N = n2 + 1 := ⟨_, rfl⟩
  rw [← hN] at HO3 hc3a ⊢
  have HN := Lib.hid hN
  have hNd : dn < N := by omega
  have hNb : N ≤ 500002 := by omega
  clear hN
  obtain ⟨n, hnn⟩ : ∃ n : Nat, (N : Int) - (dn : Int) = (n : Int) := ⟨N - dn, by omega⟩
  have HNn : Hid (N = n + dn) := Lib.hid (by omega)
  have hnb : n ≤ 1000001 := by omega
  have hb3s := hB3.size
  go_wp2_with (at_make; refine wpList_make_words _ rfl _ _ 37 rfl w1.heap.size 91 i0 (.int .u32 0) Tryz.underlying37 hi hz0 hz1 rfl .i64 .i64 _ _ n n rfl rfl rfl rfl (by omega) (by rw [hz2]; omega) (by unfold maxLen; omega) hb3s ?_; intro w4 hown4 hgrow4)
  rw [zeros_cells] at hown4
  have HQ4 : Hid (Own w4 w1.heap.size w3.heap.size n n (List.replicate n 0)) := Lib.hid ⟨hown4, okw_zeros n⟩
  have HO4 := Lib.hid (HO3.out.stay hgrow4)
  have hB4 : Below w1.heap.size w1 w4 := hB3.grown hgrow4 hb3s (fun k hk => by cases hk)
  have hg3 : g3 ≠ w3.heap.size := by have := HO3.out.base; omega
  generalize w3.heap.size = gq at *
  have hgqb : w1.heap.size ≤ gq := hb3s
  have HL4 := Lib.hid (long_start (A := A) (n := n) (m := K) (D := dg (vb * 2 ^ s)) (by have h1 := HAl.out; have h2 := HN.out; have h3 := HNn.out; omega) (by have h1 := HD.out.1; omega) HD.out.2)
  clear hown4 hgrow4 HO3 hB3 hb3s
  go_loopw [9] (fun iv wr => ∃ (k : Nat) (Q P : List Nat), k ≤ n ∧ iv = .int .i64 ((k : Int) - 1) ∧ Hid (LongAt A (dg (vb * 2 ^ s)) Q P k) ∧ Hid (Own wr w1.heap.size gq n n Q) ∧ Hid (Own wr w1.heap.size g3 N cap3 P) ∧ Below w1.heap.size w1 wr) (fun iv _ => (intOf iv + 1).toNat)
  case atStart => exact ⟨n, List.replicate n 0, dg A ++ [0], by omega, by go_num, HL4, HQ4, HO4, hB4⟩
  case round =>
    clear HQ4 HO4 hB4 HL4
    obtain ⟨k, Q, P, hk, rfl, HL, HQ, HO, hB⟩ := hrel
    cases k with
    | zero =>
      have Hfin := Lib.hid (long_end HL.out)
      have Hq : Hid (val Q = val la / vb) := Lib.hid (by rw [Hfin.out.1, HD2.out.2, HA.out, (shifted_div _ _ _).1])
      have Hr : Hid (val P / 2 ^ s = val la % vb) := Lib.hid (by rw [Hfin.out.2, HD2.out.2, HA.out, (shifted_div _ _ _).2])
      have HP := Lib.hid HO.out.wd
      clear Hfin HL
      go_wp2_with fail
      refine (natSaid.norm _ _ _ _ _ HQ.out.wd (by omega)).mono ?_
      rintro e w5 ⟨a5, n5, c5, rfl, h5, b5⟩
      rw [Hq.out] at h5
      have H5 := Lib.hid h5
      clear h5
      go_wp2_with fail
      refine (twos_down _ _ _ _ (s : Int) _ (HP.out.later b5) (by omega) (by omega)).mono ?_
      rintro e w6 ⟨a6, n6, c6, rfl, h6, b6⟩
      rw [Int.toNat_natCast, Hr.out] at h6
      have H6 := Lib.hid h6
      have H5b := Lib.hid (H5.out.later b6)
      clear h6
      go_wp2
      go_ret2
      exact ⟨a5, n5, c5, a6, n6, c6, rfl, H5b.out, H6.out, below_then hB1 (below_then hB (below_then b5 b6))⟩
    | succ k =>
      have e1 : ((k + 1 : Nat) : Int) - 1 = (k : Int) := by omega
      rw [e1]
      clear e1
      obtain ⟨t, ht⟩ : ∃ t : Nat, (k : Int) + (dn : Int) = (t : Int) := ⟨k + dn, by omega⟩
      obtain ⟨t1, ht1⟩ : ∃ t1 : Nat, (t : Int) + 1 = (t1 : Int) := ⟨t + 1, by omega⟩
      have htc : t1 ≤ cap3 := by have := HNn.out; omega
      have hkt : k ≤ t1 := by omega
      have hbq := HQ.out.base
      have hbo := HO.out.base
      have HLT : Hid (val P < 4294967296 ^ (k + 1) * val (dg (vb * 2 ^ s))) := Lib.hid HL.out.2.1
      go_wp2_with fail
      refine (quot_takeAway_at w1 _ g3 k N cap3 _ dn K _ dcap P _ d HO.out hB Hd.out hM2 (by omega) (by omega) (by have := HNn.out; omega) (by omega) (by omega) (by omega) (Lib.hid HD.out.2) HLT).mono ?_
      rintro e w5 ⟨P5, q, rfl, hq, HO5, hG5, HT5⟩
      have HQ5 := Lib.hid (HQ.out.other hG5 (Ne.symm hg3))
      have hcell := HQ5.out.cell (k := k) (by omega)
      have hfro := HQ5.out.1.frozenAt k
      generalize atw Q k = old at hcell
      have hB5 := grown_below hB hG5 hbo.1
      have HQ6 := Lib.hid (HQ5.out.set k q hq)
      have HO6 := Lib.hid (HO5.out.other (grown_cell w5 gq k (.int .u32 (q : Int))) hg3)
      have hB6 := Lib.hid (hB5.setCell (p := ⟨gq, k, none⟩) hbq.1 (.int .u32 (q : Int)))
      have HL6 := Lib.hid (long_step HL.out (by rw [HQ.out.len]; omega) HT5.out)
      clear hB5 HO5 HQ5 HT5 HL HLT hG5
      go_wp2
      go_roundw
      case rel => exact ⟨k, Q.set k q, P5, by omega, by go_num, HL6, HQ6, HO6, hB6.out⟩
      case measure => simp [intOf]
end Go.Proofs.YtjeigdlhjghinaaGreatDoor

/-
  The contracts of package quot (layer 5) at this seat: Div, Exact.
-/
namespace Go.Proofs.YtjeigdlhjghinaaGreatDoor
open Go.RowKit

/-- Two lists of words, and whether there are any. -/
def Two (p q : List Nat) (ok : Bool) (w : World) (e : Ending) (w' : World) : Prop :=
  ∃ (a : Option Addr) (n cap : Nat) (b : Option Addr) (m cap' : Nat), e = .returned (.tuple #[.slice a n cap, .slice b m cap', .bool ok]) ∧ Wd w' a n cap p ∧ Wd w' b m cap' q ∧ Below w.heap.size w w'
theorem dg_one {v : Nat} (h : (dg v).length = 1) : atw (dg v) 0 = v := by
  have h1 := val_two (l := dg v) (by omega)
  rw [val_dg, atw_ge (l := dg v) (i := 1) (by omega)] at h1
  omega
theorem quot_div_none (a : Option Addr) (n cap : Nat) (b : Option Addr) (m cap' : Nat) (lb : List Nat) (w : World) (hb : Wd w b m cap' lb) (hm : m ≤ 500000) (h0 : Hid (val lb = 0)) :
    Calls Tryz.prog 165 #[.slice a n cap, .slice b m cap'] w (Two [] [] false w) := by
  go_enter Tryz.func165, Tryz.ntmps165
  go_wp2_with fail
  refine (natSaid.norm _ _ _ _ _ hb (by omega)).mono ?_
  rintro e w1 ⟨b1, M, c1, rfl, h1, hB1⟩
  rw [h0.out, dg_zero] at h1
  obtain rfl : M = 0 := h1.len.symm
  go_wp2
  go_ret3
  exact ⟨_, _, _, _, _, _, rfl, Wd.ofNil _, Wd.ofNil _, hB1⟩
set_option maxRecDepth 4096 in
set_option maxHeartbeats 2000000 in
theorem quot_div (a : Option Addr) (n cap : Nat) (la : List Nat) (b : Option Addr) (m cap' : Nat) (lb : List Nat) (w : World) (ha : Wd w a n cap la) (hb : Wd w b m cap' lb) (hn : n ≤ 500000) (hm : m ≤ 500000) (h0 : Hid (val lb ≠ 0)) :
    Calls Tryz.prog 165 #[.slice a n cap, .slice b m cap'] w (Two (dg (val la / val lb)) (dg (val la % val lb)) true w) := by
  have hM : (dg (val lb)).length ≤ m := hb.trim_le
  have Ha := Lib.hid ha
  clear ha
  go_enter Tryz.func165, Tryz.ntmps165
  go_wp2_with fail
  refine (natSaid.norm _ _ _ _ _ hb (by omega)).mono ?_
  rintro e w1 ⟨b1, M, c1, rfl, h1, hB1⟩
  have HM : Hid ((dg (val lb)).length = M) := Lib.hid h1.len
  have hMn : M ≤ 500000 := by have := HM.out; omega
  have hM0 : M ≠ 0 := fun h => h0.out (dg_nil_iff.1 (HM.out.trans h))
  have hMb : ((M : Int) == 0) = false := by simp [hM0]
  have H1 := Lib.hid h1
  have Ha1 := Lib.hid (Ha.out.later hB1)
  generalize hvb : val lb = vb at *
  clear h1 hb hM Ha hvb
  have Hv : Hid (val (dg vb) = vb) := Lib.hid (val_dg _)
  go_wp2_with fail
  refine (natSaid.cmp _ _ _ _ _ _ _ _ _ Ha1.out H1.out (by omega) (by omega)).mono ?_
  rintro e w2 ⟨rfl, hB2⟩
  rw [Hv.out]
  have Ha2 := Lib.hid (Ha1.out.later hB2)
  have H2 := Lib.hid (H1.out.later hB2)
  have hB12 := below_then hB1 hB2
  clear H1 Ha1 hB1 hB2
  by_cases hlt : val la < vb
  · have hc : cmpI (val la) vb < 0 := by rw [cmpI_lt hlt]; omega
    have Hq : Hid (val la / vb = 0 ∧ val la % vb = val la) := Lib.hid ⟨Nat.div_eq_of_lt hlt, Nat.mod_eq_of_lt hlt⟩
    clear hlt
    generalize cmpI (val la) vb = c at *
    go_wp2_with fail
    refine (natSaid.norm _ _ _ _ _ Ha2.out (by omega)).mono ?_
    rintro e w3 ⟨a3, n3, c3, rfl, h3, hB3⟩
    have H3 := Lib.hid h3
    clear h3
    go_wp2
    go_ret3
    exact ⟨_, _, _, _, _, _, rfl, by rw [Hq.out.1, dg_zero]; exact Wd.ofNil _, by rw [Hq.out.2]; exact H3.out, below_then hB12 hB3⟩
  · have hc : ¬ cmpI (val la) vb < 0 := by unfold cmpI; split <;> (try split) <;> omega
    have Hle : Hid (vb ≤ val la) := Lib.hid (by omega)
    clear hlt
    generalize cmpI (val la) vb = c at *
    by_cases hM1 : M = 1
    · subst hM1
      obtain ⟨bb, ob, rfl, hcb⟩ := H2.out.at (by omega)
      have hcb0 := hcb 0 (by omega)
      rw [dg_one HM.out, Nat.add_zero] at hcb0
      have hvw : vb < 4294967296 := by have := lt_dg_length vb; rw [HM.out] at this; simpa using this
      have hv0 : 0 < vb := Nat.pos_of_ne_zero h0.out
      clear hcb
      go_wp2_with fail
      refine (quot_word _ _ _ _ vb _ Ha2.out (by omega) hvw hv0).mono ?_
      rintro e w3 ⟨a3, n3, c3, rfl, h3, hB3⟩
      have hrw : val la % vb < 4294967296 := Nat.lt_trans (Nat.mod_lt _ hv0) hvw
      have H3 := Lib.hid h3
      obtain ⟨r, hr⟩ : ∃ r, r = val la % vb := ⟨_, rfl⟩
      rw [← hr] at hrw ⊢
      have Hr := Lib.hid hr
      clear h3 hr
      go_wp2_with fail
      refine (natSaid.of r _ (by omega)).mono ?_
      rintro e w4 ⟨a4, n4, c4, rfl, h4, hB4⟩
      have H4 := Lib.hid h4
      have H3b := Lib.hid (H3.out.later hB4)
      clear h4
      go_wp2
      go_ret3
      exact ⟨_, _, _, _, _, _, rfl, H3b.out, by rw [← Hr.out]; exact H4.out, below_then hB12 (below_then hB3 hB4)⟩
    · have hMc : ((M : Int) == 1) = false := by simp; omega
      go_wp2_with fail
      refine (quot_long _ _ _ _ _ _ _ vb _ Ha2.out H2.out (by omega) (by omega) (by omega) Hle).mono ?_
      rintro e w3 ⟨a3, n3, c3, b3, m3, d3, rfl, h3, k3, hB3⟩
      have H3 := Lib.hid h3
      have K3 := Lib.hid k3
      clear h3 k3
      go_wp2
      go_ret3
      exact ⟨_, _, _, _, _, _, rfl, H3.out, K3.out, below_then hB12 hB3⟩
theorem quot_exact_none (a : Option Addr) (n cap : Nat) (b : Option Addr) (m cap' : Nat) (lb : List Nat) (w : World) (hb : Wd w b m cap' lb) (hm : m ≤ 500000) (h0 : Hid (val lb = 0)) :
    Calls Tryz.prog 126 #[.slice a n cap, .slice b m cap'] w (Lst2 [] (.bool false) w) := by
  go_enter Tryz.func126, Tryz.ntmps126
  go_wp2_with fail
  refine (quot_div_none _ _ _ _ _ _ _ _ hb hm h0).mono ?_
  rintro e w1 ⟨a1, n1, c1, b1, m1, d1, rfl, h1, k1, hB1⟩
  go_wp2
  go_ret2
  exact ⟨_, _, _, rfl, Wd.ofNil _, hB1⟩
/-- Whether there is no rest; the quotient, if there is none. -/
def exactB (v x : Nat) : Bool := decide (v % x = 0)
def exactL (v x : Nat) : List Nat := if v % x = 0 then dg (v / x) else []
theorem quot_exact (a : Option Addr) (n cap : Nat) (la : List Nat) (b : Option Addr) (m cap' : Nat) (lb : List Nat) (w : World) (ha : Wd w a n cap la) (hb : Wd w b m cap' lb) (hn : n ≤ 500000) (hm : m ≤ 500000) (h0 : Hid (val lb ≠ 0)) :
    Calls Tryz.prog 126 #[.slice a n cap, .slice b m cap'] w (Lst2 (exactL (val la) (val lb)) (.bool (exactB (val la) (val lb))) w) := by
  have hlen : (dg (val la % val lb)).length ≤ m := by
    rw [← hb.len]
    exact Nat.le_trans (dg_length_mono (Nat.le_of_lt (Nat.mod_lt _ (Nat.pos_of_ne_zero h0.out)))) (dg_length_val_le hb.ok)
  go_enter Tryz.func126, Tryz.ntmps126
  go_wp2_with fail
  refine (quot_div _ _ _ _ _ _ _ _ _ ha hb hn hm h0).mono ?_
  rintro e w1 ⟨a1, n1, c1, b1, m1, d1, rfl, h1, k1, hB1⟩
  have hm1 : m1 ≤ 500000 := by rw [← k1.len]; omega
  have H1 := Lib.hid h1
  have K1 := Lib.hid k1
  clear h1 k1 ha hb hlen
  have Hv : Hid (val (dg (val la % val lb)) = val la % val lb) := Lib.hid (val_dg _)
  have HL : Hid (exactL (val la) (val lb) = if val la % val lb = 0 then dg (val la / val lb) else []) := Lib.hid rfl
  have HB : Hid (exactB (val la) (val lb) = decide (val la % val lb = 0)) := Lib.hid rfl
  go_wp2_with fail
  refine (natSaid.zero _ _ _ _ _ K1.out (by omega)).mono ?_
  rintro e w2 ⟨rfl, hB2⟩
  rw [Hv.out]
  have H2 := Lib.hid (H1.out.later hB2)
  by_cases hz : val la % val lb = 0
  · rw [hz] at HL HB ⊢
    have HL2 : Hid (exactL (val la) (val lb) = dg (val la / val lb)) := Lib.hid HL.out
    clear hz HL
    go_wp2
    go_ret2
    exact ⟨_, _, _, by rw [HB.out]; rfl, by rw [HL2.out]; exact H2.out, below_then hB1 hB2⟩
  · have HL2 : Hid (exactL (val la) (val lb) = []) := Lib.hid (by rw [HL.out, if_neg hz])
    have hd : decide (val la % val lb = 0) = false := decide_eq_false hz
    rw [hd]
    rw [hd] at HB
    clear hz hd HL
    go_wp2
    go_ret2
    exact ⟨_, _, _, by rw [HB.out]; rfl, by rw [HL2.out]; exact Wd.ofNil _, below_then hB1 hB2⟩
end Go.Proofs.YtjeigdlhjghinaaGreatDoor

/-
  The contracts of the document's answer for layer 5: Double, Less.
-/
namespace Go.Proofs.YtjeigdlhjghinaaGreatDoor
open Go.RowKit

/-- P doubled, with c0 more, k words of it done: c is carried; what stands from place k on is P's. -/
def DoubleAt (P R : List Nat) (k c c0 : Nat) : Prop := val R + 4294967296 ^ k * c = val P + low P k + c0 ∧ ∀ j, k ≤ j → atw R j = atw P j
theorem double_start (P : List Nat) (c0 : Nat) : DoubleAt P P 0 c0 c0 := ⟨by rw [low_zero]; simp, fun _ _ => rfl⟩
theorem double_step {P R : List Nat} {k c c0 r z : Nat} (h : DoubleAt P R k c c0) (hk : k < R.length) (hs : r + 4294967296 * z = 2 * atw P k + c) : DoubleAt P (R.set k r) (k + 1) z c0 := by
  refine ⟨?_, fun j hj => by rw [atw_set_ne (by omega)]; exact h.2 j (by omega)⟩
  have h1 := val_set R k r hk
  rw [h.2 k (Nat.le_refl _)] at h1
  have h2 := give_word (c := c) (u := atw P k) (d := atw P k) (z := z) h1 (by omega)
  have h3 := h.1
  rw [low_succ]
  generalize val (R.set k r) = a1 at *
  generalize 4294967296 ^ (k + 1) * z = a2 at *
  generalize 4294967296 ^ k * c = a3 at *
  generalize 4294967296 ^ k * atw P k = a4 at *
  omega
theorem double_end {P R : List Nat} {k c c0 : Nat} (h : DoubleAt P R k c c0) (hk : P.length = k) : val R + 4294967296 ^ k * c = 2 * val P + c0 := by
  have h1 := h.1
  rw [low_ge (by omega)] at h1
  omega
/-- P less D, k words of it done: s is owed. -/
def LessAt (P D R : List Nat) (k s : Nat) : Prop := val R + low D k = val P + 4294967296 ^ k * s ∧ ∀ j, k ≤ j → atw R j = atw P j
theorem less_start (P D : List Nat) : LessAt P D P 0 0 := ⟨by rw [low_zero], fun _ _ => rfl⟩
theorem less_step {P D R : List Nat} {k s r z : Nat} (h : LessAt P D R k s) (hk : k < R.length) (hs : atw P k + 4294967296 * z = atw D k + s + r) : LessAt P D (R.set k r) (k + 1) z := by
  refine ⟨?_, fun j hj => by rw [atw_set_ne (by omega)]; exact h.2 j (by omega)⟩
  have h1 := val_set R k r hk
  rw [h.2 k (Nat.le_refl _)] at h1
  have h2 := take_word h1 hs rfl
  have h3 := h.1
  rw [Nat.mul_add] at h2
  rw [low_succ]
  generalize val (R.set k r) = a1 at *
  generalize 4294967296 ^ (k + 1) * z = a2 at *
  generalize 4294967296 ^ k * atw D k = a3 at *
  generalize 4294967296 ^ k * s = a4 at *
  omega
theorem less_end {P D R : List Nat} {k s : Nat} (h : LessAt P D R k s) (hR : okw R) (hk : R.length = k) (hD : D.length ≤ k) (hle : val D ≤ val P) : val R = val P - val D := by
  have h1 := h.1
  have h2 := val_lt hR
  rw [hk] at h2
  rw [low_ge hD] at h1
  rcases Nat.eq_zero_or_pos s with h0 | h0
  · subst h0; omega
  · have h3 : 4294967296 ^ k * 1 ≤ 4294967296 ^ k * s := Nat.mul_le_mul_left _ h0
    generalize 4294967296 ^ k * s = a4 at *
    generalize 4294967296 ^ k = a5 at *
    omega

def DoublePost (base g N cap c0 : Nat) (P : List Nat) (w : World) (e : Ending) (w' : World) : Prop :=
  ∃ (P' : List Nat) (z : Nat), e = .returned (.tuple #[]) ∧ Hid (Own w' base g N cap P') ∧ w.grownBy w' (some g) ∧ Hid (val P' + 4294967296 ^ N * z = 2 * val P + c0)
set_option maxRecDepth 4096 in
set_option maxHeartbeats 2000000 in
theorem ref05_double (base g N cap c0 : Nat) (more : Bool) (P : List Nat) (w : World) (hO : Own w base g N cap P) (hN : N ≤ 2000000) (hm : c0 = if more = true then 1 else 0) :
    Calls Tryz.prog 138 #[.slice (some ⟨g, 0, none⟩) N cap, .bool more] w (DoublePost base g N cap c0 P w) := by
  have HO0 := Lib.hid hO
  have HPl := Lib.hid hO.len
  have HPo := Lib.hid hO.2
  have hc0 : c0 ≤ 1 := by rw [hm]; split <;> omega
  have HM := Lib.hid hm
  clear hO hm
  go_enter Tryz.func138, Tryz.ntmps138
  cases more
  all_goals (
    go_wp2
    go_loopw [4, 5] (fun cv kv wr => ∃ (k c : Nat) (R : List Nat), k ≤ N ∧ kv = .int .i64 (k : Int) ∧ cv = .int .u32 (c : Int) ∧ c ≤ 1 ∧ Hid (DoubleAt P R k c c0) ∧ Hid (Own wr base g N cap R) ∧ w.grownBy wr (some g)) (fun _ kv _ => N - (intOf kv).toNat)
    case atStart => exact ⟨0, c0, P, by omega, rfl, by rw [HM.out]; rfl, hc0, Lib.hid (double_start _ _), HO0, grown_refl _ _⟩
    case round =>
      obtain ⟨k, c, R, hk, rfl, rfl, hc, HD, HO, hG⟩ := hrel
      by_cases hlt : k < N
      · have hcell := HO.out.cell (k := k) hlt
        rw [HD.out.2 k (Nat.le_refl _)] at hcell
        have hfro := HO.out.1.frozenAt k
        have huw := atw_lt HPo.out k
        obtain ⟨u, huu⟩ : ∃ u, u = atw P k := ⟨_, rfl⟩
        rw [← huu] at huw hcell
        have Hu := Lib.hid huu
        have hki : (k : Int) < (N : Int) := by omega
        obtain ⟨z, hz⟩ : ∃ z : Nat, (u : Int) / 2147483648 = (z : Int) := ⟨u / 2147483648, by omega⟩
        obtain ⟨v, hv⟩ : ∃ v : Nat, (u : Int) * 2 % 4294967296 = (v : Int) := ⟨u * 2 % 4294967296, by omega⟩
        obtain ⟨r, hr⟩ : ∃ r : Nat, (v : Int) + (c : Int) = (r : Int) := ⟨v + c, by omega⟩
        have Hs : Hid (r + 4294967296 * z = 2 * u + c) := Lib.hid (by omega)
        have hz1 : z ≤ 1 := by omega
        have hrw : r < 4294967296 := by omega
        have HOs := Lib.hid (HO.out.set k r hrw)
        have hGs := Lib.hid (grown_then hG (grown_cell _ g k (.int .u32 (r : Int))))
        clear huu
        go_wp2
        go_roundw
        case rel => exact ⟨k + 1, z, R.set k r, by omega, by go_num, rfl, hz1, Lib.hid (double_step HD.out (by rw [HO.out.len]; omega) (by rw [← Hu.out]; exact Hs.out)), HOs, hGs.out⟩
        case measure => simp [intOf]; omega
      · obtain rfl : k = N := by omega
        have Hfin := Lib.hid (double_end HD.out HPl.out)
        go_wp2
        go_end0
        exact ⟨R, c, rfl, HO, hG, Hfin⟩)
def LessPost (base g N cap : Nat) (P D : List Nat) (w : World) (e : Ending) (w' : World) : Prop :=
  ∃ (P' : List Nat), e = .returned (.tuple #[]) ∧ Hid (Own w' base g N cap P') ∧ w.grownBy w' (some g) ∧ Hid (val P' = val P - val D)
set_option maxRecDepth 4096 in
set_option maxHeartbeats 2000000 in
theorem ref05_less (w0 w : World) (g N cap : Nat) (P : List Nat) (d : Option Addr) (m dcap : Nat) (D : List Nat) (hO : Own w w0.heap.size g N cap P) (hB : Below w0.heap.size w0 w) (hd : Wd w0 d m dcap D) (hN : N ≤ 2000000) (hm : m ≤ N) (hle : Hid (val D ≤ val P)) :
    Calls Tryz.prog 95 #[.slice (some ⟨g, 0, none⟩) N cap, .slice d m dcap] w (LessPost w0.heap.size g N cap P D w) := by
  have HO0 := Lib.hid hO
  have HPl := Lib.hid hO.len
  have HPo := Lib.hid hO.2
  have HD := Lib.hid hd
  clear hO hd
  go_enter Tryz.func95, Tryz.ntmps95
  go_wp2
  go_loopw [4, 5] (fun sv kv wr => ∃ (k s : Nat) (R : List Nat), k ≤ N ∧ kv = .int .i64 (k : Int) ∧ sv = .int .u64 (s : Int) ∧ s ≤ 1 ∧ Hid (LessAt P D R k s) ∧ Hid (Own wr w0.heap.size g N cap R) ∧ w.grownBy wr (some g)) (fun _ kv _ => N - (intOf kv).toNat)
  case atStart => exact ⟨0, 0, P, by omega, rfl, rfl, by omega, Lib.hid (less_start _ _), HO0, grown_refl _ _⟩
  case round =>
    obtain ⟨k, s, R, hk, rfl, rfl, hs, HL, HO, hG⟩ := hrel
    have hbase := HO.out.base
    by_cases hlt : k < N
    · have hcell := HO.out.cell (k := k) hlt
      rw [HL.out.2 k (Nat.le_refl _)] at hcell
      have hfro := HO.out.1.frozenAt k
      have huw := atw_lt HPo.out k
      obtain ⟨u, huu⟩ : ∃ u, u = atw P k := ⟨_, rfl⟩
      rw [← huu] at huw hcell
      have Hu := Lib.hid huu
      have hki : (k : Int) < (N : Int) := by omega
      clear huu
      go_wp2_with fail
      refine (ref02_at _ _ _ k _ _ (HD.out.later (grown_below hB hG hbase.1)) (by omega)).mono ?_
      rintro e w' ⟨rfl, rfl⟩
      have hdw := atw_lt HD.out.ok k
      obtain ⟨b, hbb⟩ : ∃ b, b = atw D k := ⟨_, rfl⟩
      rw [← hbb] at hdw ⊢
      have Hb := Lib.hid hbb
      clear hbb
      obtain ⟨y, hy⟩ : ∃ y : Nat, (b : Int) + (s : Int) = (y : Int) := ⟨b + s, by omega⟩
      have Hy : Hid (y = b + s) := Lib.hid (by omega)
      have hyb : y ≤ 4294967296 := by omega
      by_cases hxy : u < y
      · obtain ⟨x, hx⟩ : ∃ x : Nat, (u : Int) + 4294967296 = (x : Int) := ⟨u + 4294967296, by omega⟩
        obtain ⟨r, hr⟩ : ∃ r : Nat, (x : Int) - (y : Int) = (r : Int) := ⟨x - y, by omega⟩
        have hrw : r < 4294967296 := by omega
        have HS : Hid (u + 4294967296 * 1 = b + s + r) := Lib.hid (by have := Hy.out; omega)
        have HOs := Lib.hid (HO.out.set k r hrw)
        have hGs := Lib.hid (grown_then hG (grown_cell _ g k (.int .u32 (r : Int))))
        go_wp2
        go_roundw
        case rel => exact ⟨k + 1, 1, R.set k r, by omega, by go_num, rfl, by omega, Lib.hid (less_step HL.out (by rw [HO.out.len]; omega) (by rw [← Hu.out, ← Hb.out]; exact HS.out)), HOs, hGs.out⟩
        case measure => simp [intOf]; omega
      · obtain ⟨r, hr⟩ : ∃ r : Nat, (u : Int) - (y : Int) = (r : Int) := ⟨u - y, by omega⟩
        have hrw : r < 4294967296 := by omega
        have HS : Hid (u + 4294967296 * 0 = b + s + r) := Lib.hid (by have := Hy.out; omega)
        have HOs := Lib.hid (HO.out.set k r hrw)
        have hGs := Lib.hid (grown_then hG (grown_cell _ g k (.int .u32 (r : Int))))
        go_wp2
        go_roundw
        case rel => exact ⟨k + 1, 0, R.set k r, by omega, by go_num, rfl, by omega, Lib.hid (less_step HL.out (by rw [HO.out.len]; omega) (by rw [← Hu.out, ← Hb.out]; exact HS.out)), HOs, hGs.out⟩
        case measure => simp [intOf]; omega
    · obtain rfl : k = N := by omega
      have Hfin : Hid (val R = val P - val D) := Lib.hid (less_end HL.out HO.out.2 HO.out.len (by rw [HD.out.len]; exact hm) hle.out)
      go_wp2
      go_end0
      exact ⟨R, rfl, HO, hG, Hfin⟩
end Go.Proofs.YtjeigdlhjghinaaGreatDoor

/-
  The contracts of the document's answer for layer 3.
-/
namespace Go.Proofs.YtjeigdlhjghinaaGreatDoor
open Go.RowKit

theorem ref03_has_nat (a : Option Addr) (n cap : Nat) (l : List Nat) (i : Nat) (w : World) (h : Wd w a n cap l) (hi : i ≤ 9223372036854775807) :
    Calls Tryz.prog 135 #[.slice a n cap, .int .i64 (i : Int)] w fun e w' => e = .returned (.bool ((val l).testBit i)) ∧ w = w' := by
  obtain ⟨hb1, hb2⟩ := h.bound
  have H := Lib.hid h
  clear h
  by_cases hlt : i / 32 < n
  · obtain ⟨b, off, rfl, hc⟩ := H.out.at (by omega)
    have hck := hc (i / 32) hlt
    have hx := atw_lt H.out.ok (i / 32)
    clear hc
    have Hfin : Hid ((val l).testBit i = decide (atw l (i / 32) / 2 ^ (i % 32) % 2 = 1)) := Lib.hid (low_bit l H.out.ok i)
    obtain ⟨x, hxx⟩ : ∃ x, x = atw l (i / 32) := ⟨_, rfl⟩
    rw [← hxx] at hck hx Hfin
    clear hxx
    go_enter Tryz.func135, Tryz.ntmps135
    go_wp2
    go_loop [5, 6] (fun xv kv => ∃ k y : Nat, k ≤ i % 32 ∧ kv = .int .i64 (k : Int) ∧ xv = .int .u32 (y : Int) ∧ y < 4294967296 ∧ Hid (y = x / 2 ^ k)) (fun _ kv => 32 - (intOf kv).toNat)
    case atStart => exact ⟨0, x, by omega, rfl, rfl, hx, Lib.hid (by simp)⟩
    case round =>
      obtain ⟨k, y, hk, rfl, rfl, hy, Hy⟩ := hrel
      by_cases hkr : k < i % 32
      · have hki : (k : Int) < (i : Int) % 32 := by omega
        go_wp2
        go_round
        case rel => exact ⟨k + 1, y / 2, by omega, by go_num, by go_num, by omega, Lib.hid (by rw [Hy.out, Nat.pow_succ, Nat.div_div_eq_div_mul])⟩
        case measure => simp [intOf]; omega
      · have hki : (i : Int) % 32 ≤ (k : Int) := by omega
        have Hk : Hid (k = i % 32) := Lib.hid (by omega)
        clear hkr
        go_wp2
        go_ret
        exact ⟨ret_bool (by
          rw [Hfin.out, ← Hk.out, ← Hy.out, Bool.eq_iff_iff, beq_iff_eq, decide_eq_true_eq]; omega), rfl⟩
  · have Hv : Hid ((val l).testBit i = false) := Lib.hid (by rw [val_bit H.out.ok, atw_ge (by have := H.out.len; omega)]; simp)
    go_enter Tryz.func135, Tryz.ntmps135
    go_wp2
    go_ret
    exact ⟨ret_bool Hv.out.symm, rfl⟩
theorem ref03_len (a : Option Addr) (n cap : Nat) (l : List Nat) (w : World) (h : Wd w a n cap l) (hn : n ≤ 16777214) :
    Calls Tryz.prog 92 #[.slice a n cap] w fun e w' => e = .returned (.int .i64 ((blen (val l) : Nat) : Int)) ∧ w = w' := by
  obtain ⟨hb1, hb2⟩ := h.bound
  have H := Lib.hid h
  clear h
  go_enter Tryz.func92, Tryz.ntmps92
  go_wp2
  go_loop [3] (fun kv => ∃ k : Nat, k ≤ 32 * n ∧ kv = .int .i64 (k : Int) ∧ Hid (val l < 2 ^ k)) (fun kv => (intOf kv).toNat)
  case atStart => exact ⟨32 * n, by omega, by go_num, Lib.hid (by rw [← pow32, ← H.out.len]; exact val_lt H.out.ok)⟩
  case round =>
    obtain ⟨k, hk, rfl, Hv⟩ := hrel
    cases k with
    | zero =>
      have Hfin : Hid (blen (val l) = 0) := Lib.hid (by have := blen_le.2 Hv.out; omega)
      go_wp2
      go_ret
      exact ⟨ret_i64 (by rw [Hfin.out]; rfl), rfl⟩
    | succ p =>
      go_wp2_with fail
      refine (ref03_has_nat _ _ _ _ p _ H.out (by omega)).mono ?_
      rintro e w' ⟨rfl, rfl⟩
      cases hb : (val l).testBit p with
      | true =>
        have Hfin : Hid (blen (val l) = p + 1) := Lib.hid (blen_eq Hv.out (.inr (by rw [Nat.add_sub_cancel]; exact Nat.ge_two_pow_of_testBit hb)))
        clear hb
        go_wp2
        go_ret
        exact ⟨ret_i64 (by rw [Hfin.out]; omega), rfl⟩
      | false =>
        have Hlt : Hid (val l < 2 ^ p) := Lib.hid (lt_of_bit Hv.out hb)
        clear hb
        go_wp2
        go_round
        case rel => exact ⟨p, by omega, by go_num, Hlt⟩
        case measure => simp [intOf]
end Go.Proofs.YtjeigdlhjghinaaGreatDoor

/-
  The contracts of the document's answer for layer 5: Div.
-/
namespace Go.Proofs.YtjeigdlhjghinaaGreatDoor
open Go.RowKit

/-- A long division, bit by bit: what A is without its lowest k bits is what Q and R hold. -/
def BitsAt (A B : Nat) (Q R : List Nat) (k : Nat) : Prop := A / 2 ^ k = val Q * B + val R ∧ val R < B
theorem bits_start {A B n m : Nat} (hB : 0 < B) : BitsAt A B (List.replicate n 0) (List.replicate m 0) (blen A) := by
  refine ⟨?_, by rw [val_zeros]; exact hB⟩
  rw [val_zeros, val_zeros, Nat.div_eq_of_lt (lt_blen A)]
  simp
theorem bits_next (A k : Nat) : A / 2 ^ k = 2 * (A / 2 ^ (k + 1)) + (if A.testBit k = true then 1 else 0) := by
  have h1 : A / 2 ^ (k + 1) = A / 2 ^ k / 2 := by rw [Nat.pow_succ, Nat.div_div_eq_div_mul]
  have h2 : A.testBit k = decide (A / 2 ^ k % 2 = 1) := Nat.testBit_eq_decide_div_mod_eq
  rw [h1, h2]
  by_cases h : A / 2 ^ k % 2 = 1
  · rw [decide_eq_true h, if_pos rfl]; omega
  · rw [decide_eq_false h, if_neg (by simp)]; omega
/-- The rest doubled keeps its room. -/
theorem bits_rest {A B m : Nat} {Q R R2 : List Nat} {k z c0 : Nat} (h : BitsAt A B Q R (k + 1)) (hB : B < 4294967296 ^ m) (h2 : val R2 + 4294967296 ^ (m + 1) * z = 2 * val R + c0) (hc : c0 ≤ 1) : val R2 = 2 * val R + c0 := by
  have h3 := h.2
  rw [pow_succ32] at h2
  rcases Nat.eq_zero_or_pos z with h0 | h0
  · subst h0; omega
  · have h4 : 4294967296 * 4294967296 ^ m * 1 ≤ 4294967296 * 4294967296 ^ m * z := Nat.mul_le_mul_left _ h0
    generalize 4294967296 * 4294967296 ^ m * z = a1 at *
    generalize 4294967296 ^ m = a2 at *
    omega
/-- So does the quotient. -/
theorem bits_quot {A B n : Nat} {Q R Q2 : List Nat} {k z : Nat} (h : BitsAt A B Q R (k + 1)) (hA : A < 4294967296 ^ n) (h2 : val Q2 + 4294967296 ^ n * z = 2 * val Q + 0) : val Q2 = 2 * val Q := by
  have h3 := h.1
  have h4 := h.2
  have h5 : 2 * (A / 2 ^ (k + 1)) ≤ A := by
    have h6 := Nat.div_mul_le_self A (2 ^ (k + 1))
    rw [Nat.pow_succ] at *
    have h7 := Nat.two_pow_pos k
    have h8 : A / (2 ^ k * 2) * 2 ≤ A / (2 ^ k * 2) * (2 ^ k * 2) := Nat.mul_le_mul_left _ (by omega)
    omega
  have h9 : val Q * 1 ≤ val Q * B := Nat.mul_le_mul_left _ (by omega)
  rcases Nat.eq_zero_or_pos z with h0 | h0
  · subst h0; omega
  · have h10 : 4294967296 ^ n * 1 ≤ 4294967296 ^ n * z := Nat.mul_le_mul_left _ h0
    generalize 4294967296 ^ n * z = a1 at *
    generalize 4294967296 ^ n = a2 at *
    generalize val Q * B = a3 at *
    omega
theorem bits_no {A B : Nat} {Q R Q2 R2 : List Nat} {k c0 : Nat} (h : BitsAt A B Q R (k + 1)) (hc : c0 = if A.testBit k = true then 1 else 0) (hq : val Q2 = 2 * val Q) (hr : val R2 = 2 * val R + c0) (hlt : val R2 < B) : BitsAt A B Q2 R2 k := by
  refine ⟨?_, hlt⟩
  rw [bits_next, ← hc, h.1, hq, hr, Nat.mul_add, Nat.mul_assoc]
  omega
theorem bits_yes {A B : Nat} {Q R Q2 R2 R3 : List Nat} {k c0 : Nat} (h : BitsAt A B Q R (k + 1)) (hc : c0 = if A.testBit k = true then 1 else 0) (hc1 : c0 ≤ 1) (hq : val Q2 = 2 * val Q) (hr : val R2 = 2 * val R + c0) (hge : B ≤ val R2) (h3 : val R3 = val R2 - B) (hl : 0 < Q2.length) (ho : okw Q2) :
    BitsAt A B (Q2.set 0 (atw Q2 0 + 1)) R3 k ∧ atw Q2 0 + 1 < 4294967296 := by
  have e1 := val_set Q2 0 (atw Q2 0 + 1) hl
  rw [Nat.pow_zero, Nat.one_mul, Nat.one_mul] at e1
  have e2 : val (Q2.set 0 (atw Q2 0 + 1)) = 2 * val Q + 1 := by omega
  have h4 := h.2
  refine ⟨⟨?_, by omega⟩, ?_⟩
  · rw [bits_next, ← hc, h.1, e2, Nat.mul_add, Nat.add_mul, Nat.mul_assoc, h3, hr]
    omega
  · have h5 := top_succ Q2 0
    rw [top_zero, hq] at h5
    have h6 := atw_lt ho 0
    omega
theorem bits_end {A B : Nat} {Q R : List Nat} (h : BitsAt A B Q R 0) : val Q = A / B ∧ val R = A % B := by
  have h1 := h.1
  have h2 := h.2
  rw [Nat.pow_zero, Nat.div_one] at h1
  rw [h1, Nat.mul_comm, Nat.mul_add_div (by omega), Nat.mul_add_mod, Nat.div_eq_of_lt h2, Nat.mod_eq_of_lt h2]
  omega
def Div5Post (p q : Nat) (w : World) (e : Ending) (w' : World) : Prop :=
  ∃ (a : Option Addr) (n cap : Nat) (b : Option Addr) (m cap' : Nat), e = .returned (.tuple #[.slice a n cap, .slice b m cap']) ∧ Wd w' a n cap (dg p) ∧ Hid (w'.ownsRow w.heap.size 91 1 (.slice b m cap') m (wcells (dg q))) ∧ Below w.heap.size w w'
set_option maxRecDepth 4096 in
set_option maxHeartbeats 4000000 in
theorem ref05_div (a : Option Addr) (n cap : Nat) (la : List Nat) (b : Option Addr) (m cap' : Nat) (lb : List Nat) (w : World) (ha : Wd w a n cap la) (hb : Wd w b m cap' lb) (hn : n ≤ 500000) (hm : m ≤ 500000) (h0 : Hid (val lb ≠ 0)) :
    Calls Tryz.prog 97 #[.slice a n cap, .slice b m cap'] w (Div5Post (val la / val lb) (val la % val lb) w) := by
  obtain ⟨i0, hi, hz0, hz1, hz2⟩ := info_parts infoWord
  have Ha := Lib.hid ha
  have Hb := Lib.hid hb
  have hbl : blen (val la) ≤ 32 * n := blen_le.2 (by rw [← pow32, ← ha.len]; exact val_lt ha.ok)
  clear ha hb
  obtain ⟨M, hM⟩ : ∃ M : Nat, (m : Int) + 1 = (M : Int) := ⟨m + 1, by omega⟩
  have HM : Hid (M = m + 1) := Lib.hid (by omega)
  have hMb : M ≤ 500001 := by omega
  go_enter Tryz.func97, Tryz.ntmps97
  go_wp2_with (first
    | (at_make; refine wpList_make_words _ rfl _ _ 37 rfl w.heap.size 91 i0 (.int .u32 0) Tryz.underlying37 hi hz0 hz1 rfl .i64 .i64 _ _ n n rfl rfl rfl rfl (Nat.le_refl _) (by rw [hz2]; omega) (by unfold maxLen; omega) (Nat.le_refl _) ?_; intro w1 hown1 hgrow1; rw [zeros_cells] at hown1; have HQ1 : Hid (Own w1 w.heap.size w.heap.size n n (List.replicate n 0)) := Lib.hid ⟨hown1, okw_zeros n⟩; have hB1 : Below w.heap.size w w1 := (Below.refl _ _).grown hgrow1 (Nat.le_refl _) (fun k hk => by cases hk); clear hown1 hgrow1)
    | (at_make; refine wpList_make_words _ rfl _ _ 37 rfl w.heap.size 91 i0 (.int .u32 0) Tryz.underlying37 hi hz0 hz1 rfl .i64 .i64 _ _ M M rfl rfl rfl rfl (Nat.le_refl _) (by rw [hz2]; omega) (by unfold maxLen; omega) hB1.size ?_; intro w2 hown2 hgrow2; rw [zeros_cells] at hown2; have HR2 : Hid (Own w2 w.heap.size w1.heap.size M M (List.replicate M 0)) := Lib.hid ⟨hown2, okw_zeros M⟩; have hB2 : Below w.heap.size w w2 := hB1.grown hgrow2 hB1.size (fun k hk => by cases hk); have HQ2 : Hid (Own w2 w.heap.size w.heap.size n n (List.replicate n 0)) := Lib.hid (HQ1.out.stay hgrow2); clear hown2 hgrow2))
  have hne : w.heap.size ≠ w1.heap.size := by have := HQ1.out.base; omega
  generalize hgq : w.heap.size = base at *
  have hbq := HQ2.out.base
  have hbr := HR2.out.base
  have hBw := Lib.hid hB2
  generalize w1.heap.size = gr at *
  clear HQ1 hB1 hB2
  obtain ⟨B, HB⟩ : ∃ B, Hid (B = val lb) := ⟨_, rfl⟩
  obtain ⟨A, HA⟩ : ∃ A, Hid (A = val la) := ⟨_, rfl⟩
  rw [← HB.out] at h0 ⊢
  rw [← HA.out] at hbl ⊢
  have HAn : Hid (A < 4294967296 ^ n) := Lib.hid (by rw [HA.out, ← Ha.out.len]; exact val_lt Ha.out.ok)
  have HBm : Hid (B < 4294967296 ^ m) := Lib.hid (by rw [HB.out, ← Hb.out.len]; exact val_lt Hb.out.ok)
  have HAb : Hid (∀ k, A.testBit k = decide (atw la (k / 32) / 2 ^ (k % 32) % 2 = 1)) := Lib.hid (fun k => by rw [HA.out]; exact low_bit la Ha.out.ok k)
  have HS := Lib.hid (bits_start (A := A) (n := n) (m := M) (Nat.pos_of_ne_zero h0.out))
  rw [← hgq] at *
  refine (ref03_len _ _ _ _ _ (Ha.out.later hBw.out) (by omega)).mono ?_
  rintro e w' ⟨rfl, rfl⟩
  rw [← HA.out]
  generalize blen A = y at *
  go_wp2
  go_loopw [8] (fun iv wr => ∃ (k : Nat) (Q R : List Nat), k ≤ y ∧ iv = .int .i64 ((k : Int) - 1) ∧ Hid (BitsAt A B Q R k) ∧ Hid (Own wr w.heap.size w.heap.size n n Q) ∧ Hid (Own wr w.heap.size gr M M R) ∧ Below w.heap.size w wr) (fun iv _ => (intOf iv + 1).toNat)
  case atStart => exact ⟨y, List.replicate n 0, List.replicate M 0, by omega, by go_num, HS, HQ2, HR2, hBw.out⟩
  case round =>
    clear HQ2 HR2 hBw HS
    obtain ⟨k, Q, R, hk, rfl, HD, HQ, HR, hBr⟩ := hrel
    cases k with
    | zero =>
      have Hq : Hid (val Q = A / B) := Lib.hid (bits_end HD.out).1
      have Hr : Hid (val R = A % B) := Lib.hid (bits_end HD.out).2
      have HRw := Lib.hid HR.out.wd
      clear HD
      go_wp2_with fail
      refine (ref02_norm _ _ _ _ _ HQ.out.wd (by omega)).mono ?_
      rintro e w5 ⟨a5, n5, c5, rfl, h5, b5⟩
      rw [Hq.out] at h5
      have H5 := Lib.hid h5
      have HR5 := Lib.hid (HRw.out.later b5)
      have hb5 := below_then hBr b5
      clear h5 HRw
      go_wp2_with fail
      refine (ref02_norm_own _ _ _ _ _ HR5.out (by omega)).mono ?_
      rintro e w6 ⟨a6, n6, c6, rfl, h6, b6⟩
      rw [Hr.out] at h6
      have H6 := Lib.hid (ownsRow_lower h6 hb5.size)
      have H5b := Lib.hid (H5.out.later b6)
      clear h6
      go_wp2
      go_ret2
      exact ⟨a5, n5, c5, a6, n6, c6, rfl, by rw [← HA.out, ← HB.out]; exact H5b.out, by rw [← HA.out, ← HB.out]; exact H6, below_then hb5 b6⟩
    | succ k =>
      have e1 : ((k + 1 : Nat) : Int) - 1 = (k : Int) := by omega
      rw [e1]
      clear e1
      obtain ⟨q, hq⟩ : ∃ q : Nat, (k : Int) / 32 = (q : Int) := ⟨k / 32, by omega⟩
      obtain ⟨r, hr⟩ : ∃ r : Nat, (k : Int) % 32 = (r : Int) := ⟨k % 32, by omega⟩
      have Hqr : Hid (k / 32 = q ∧ k % 32 = r) := Lib.hid (by omega)
      have hr31 : r < 32 := by omega
      obtain ⟨ba, oa, rfl, hca⟩ := (Ha.out.later hBr).at (by omega)
      have hcq := hca q (by omega)
      have hxw := atw_lt Ha.out.ok q
      have hbit := HAb.out k
      rw [Hqr.out.1, Hqr.out.2] at hbit
      obtain ⟨x, hx⟩ : ∃ x, x = atw la q := ⟨_, rfl⟩
      rw [← hx] at hcq hxw hbit
      obtain ⟨P, HP, hP⟩ : ∃ P : Nat, Hid (P = 2 ^ r) ∧ (2 : Int) ^ r = (P : Int) := ⟨2 ^ r, rfl, by simp⟩
      have hPb : P < 4294967296 := by rw [HP.out]; exact Nat.lt_of_le_of_lt (Nat.pow_le_pow_right (by decide) (show r ≤ 31 by omega)) (by decide)
      have hP0 : 0 < P := by rw [HP.out]; exact Nat.two_pow_pos r
      rw [← HP.out] at hbit
      obtain ⟨z, hz⟩ : ∃ z : Nat, (x : Int) / (P : Int) = (z : Int) := ⟨x / P, by rw [Int.natCast_ediv]⟩
      have Hz : Hid (x / P = z) := Lib.hid (by rw [← Int.natCast_ediv] at hz; omega)
      rw [Hz.out] at hbit
      obtain ⟨tb, htb⟩ : ∃ tb, ((z : Int) % 2 == 1) = tb := ⟨_, rfl⟩
      have HT : Hid (A.testBit k = tb) := Lib.hid (by rw [hbit, ← htb, Bool.eq_iff_iff, beq_iff_eq, decide_eq_true_eq]; omega)
      have hqi : (q : Int) < (n : Int) := by omega
      have hzw : z < 4294967296 := by rw [← Hz.out]; exact Nat.lt_of_le_of_lt (Nat.div_le_self _ _) hxw
      obtain ⟨c0, hc0⟩ : ∃ c0 : Nat, c0 = if tb = true then 1 else 0 := ⟨_, rfl⟩
      have Hc0 := Lib.hid hc0
      have hc1 : c0 ≤ 1 := by rw [hc0]; split <;> omega
      have HQd : Hid (Own wr.drew w.heap.size w.heap.size n n Q) := Lib.hid HQ.out
      have HRd : Hid (Own wr.drew w.heap.size gr M M R) := Lib.hid HR.out
      have HBd : Hid (Below w.heap.size w wr.drew) := Lib.hid hBr.drew
      have hw1 : IntKind.i64.wrap (q : Int) = (q : Int) := by rw [IntKind.wrap_i64]; omega
      have hw2 : IntKind.i64.wrap (r : Int) = (r : Int) := by rw [IntKind.wrap_i64]; omega
      have hw3 : IntKind.u32.wrap (P : Int) = (P : Int) := by rw [IntKind.wrap_u32]; omega
      have hw4 : IntKind.u32.wrap (z : Int) = (z : Int) := by rw [IntKind.wrap_u32]; omega
      have hw5 : IntKind.u32.wrap ((z : Int) % 2) = (z : Int) % 2 := by rw [IntKind.wrap_u32]; omega
      have hP1 : ¬ P = 0 := by omega
      have hw6 : (k : Int).tmod 32 = (r : Int) := by rw [Int.tmod_eq_emod_of_nonneg (by omega)]; exact hr
      have hw7 : (x : Int).tdiv (P : Int) = (z : Int) := by rw [Int.tdiv_eq_ediv_of_nonneg (by omega)]; exact hz
      have hw8 : (z : Int).tmod 2 = (z : Int) % 2 := Int.tmod_eq_emod_of_nonneg (by omega)
      clear hca hbit hx hc0
      go_wp2_with fail
      refine wp_region_still_tail 12 (by kernel_rfl) (by kernel_rfl) ?_
      simp only [List.take_succ_cons, List.take_zero, List.drop_succ_cons, List.drop_zero]
      repeat still_step
      refine wpStill_nil ?_
      change wpList _ _ _ _ _ wr.drew
      generalize wr.drew = wd at *
      clear hBr HQ HR hw1 hw2 hw3 hw4 hw5 hw6 hw7 hw8
      go_wp2_with fail
      refine (ref05_double _ _ _ _ _ tb R _ HRd.out (by omega) Hc0.out).mono ?_
      rintro e w3 ⟨R2, z2, rfl, HR3, hG3, HV3⟩
      have hB3 := Lib.hid (grown_below HBd.out hG3 hbr.1)
      have HQ3 := Lib.hid (HQd.out.other hG3 hne)
      have HVr : Hid (val R2 = 2 * val R + c0) := Lib.hid (bits_rest HD.out HBm.out (by have := HV3.out; rwa [HM.out] at this) hc1)
      clear hG3 HRd HQd HBd HV3
      go_wp2_with fail
      refine (ref05_double _ _ _ _ 0 false Q _ HQ3.out (by omega) rfl).mono ?_
      rintro e w4 ⟨Q2, z3, rfl, HQ4, hG4, HV4⟩
      have hB4 := Lib.hid (grown_below hB3.out hG4 hbq.1)
      have HR4 := Lib.hid (HR3.out.other hG4 (Ne.symm hne))
      have HVq : Hid (val Q2 = 2 * val Q) := Lib.hid (bits_quot HD.out HAn.out HV4.out)
      clear hG4 HV4 HQ3 HR3 hB3
      go_wp2_with fail
      refine (ref02_cmp _ _ _ _ _ _ _ _ _ HR4.out.wd (Hb.out.later hB4.out) (by omega) (by omega)).mono ?_
      rintro e w5 ⟨rfl, rfl⟩
      rw [← HB.out]
      by_cases hlt : val R2 < B
      · have hc : cmpI (val R2) B < 0 := by rw [cmpI_lt hlt]; omega
        have HDn : Hid (BitsAt A B Q2 R2 k) := Lib.hid (bits_no HD.out (by rw [HT.out]; exact Hc0.out) HVq.out HVr.out hlt)
        clear hlt
        generalize cmpI (val R2) B = c at *
        go_wp2
        go_roundw
        case rel => exact ⟨k, Q2, R2, by omega, by go_num, HDn, HQ4, HR4, hB4.out⟩
        case measure => simp [intOf]
      · have hc : ¬ cmpI (val R2) B < 0 := by unfold cmpI; split <;> (try split) <;> omega
        have Hge : Hid (val lb ≤ val R2) := Lib.hid (by rw [← HB.out]; omega)
        have Hge2 : Hid (B ≤ val R2) := Lib.hid (by omega)
        clear hlt
        generalize cmpI (val R2) B = c at *
        go_wp2_with fail
        refine (ref05_less w _ _ _ _ R2 _ _ _ lb HR4.out hB4.out Hb.out (by omega) (by omega) Hge).mono ?_
        rintro e w6 ⟨R3, rfl, HR6, hG6, HV6⟩
        have HB6 := Lib.hid (grown_below hB4.out hG6 hbr.1)
        have HQ6 := Lib.hid (HQ4.out.other hG6 hne)
        have HDn := Lib.hid (bits_yes HD.out (by rw [HT.out]; exact Hc0.out) hc1 HVq.out HVr.out Hge2.out (by rw [HV6.out, ← HB.out]) (by rw [HQ4.out.len]; omega) HQ4.out.2)
        have hcell := HQ6.out.cell (k := 0) (by omega)
        have hfro := HQ6.out.1.frozenAt 0
        have huw := HDn.out.2
        obtain ⟨u, huu⟩ : ∃ u, u = atw Q2 0 := ⟨_, rfl⟩
        rw [← huu] at hcell huw
        have HDn2 : Hid (BitsAt A B (Q2.set 0 (u + 1)) R3 k) := Lib.hid (by rw [huu]; exact HDn.out.1)
        have HQ7 := Lib.hid (HQ6.out.set 0 (u + 1) huw)
        have HR7 := Lib.hid (HR6.out.other (grown_cell w6 w.heap.size 0 (.int .u32 ((u + 1 : Nat) : Int))) (Ne.symm hne))
        have HB7 := Lib.hid (HB6.out.setCell (p := ⟨w.heap.size, 0, none⟩) hbq.1 (.int .u32 ((u + 1 : Nat) : Int)))
        clear huu HDn hG6 HQ4 HR4 hB4 HB6 HR6 HQ6
        go_wp2
        go_roundw
        case rel => exact ⟨k, Q2.set 0 (u + 1), R3, by omega, by go_num, HDn2, HQ7, HR7, HB7.out⟩
        case measure => simp [intOf]
end Go.Proofs.YtjeigdlhjghinaaGreatDoor
