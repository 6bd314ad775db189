/-
  Several texts of this claim as one, group 5.
-/
import Derived.Test.YtipcgehcineblaaG3
import Derived.Test.YtipcgehcineblaaG4
import Derived.Test.YtipcgehcineblaaG2
import Derived.BigQuiet
import Derived.Deep.QuietTactic
import Derived.Test.YtipcgehcineblaaG1
import Derived.BigRegion
import Derived.StillTailTactics
import Derived.Deep.RegionHeld3
import Derived.Lib.AppendIntMem
import Derived.Lib.AppendStr
import Derived.Laws.IdiomStrings
import Derived.Laws.Slices
import Derived.OwnWalk
import Derived.BigCall
import Derived.BigGuard
import Derived.Deep.AppendSrc
import Derived.Deep.RegionWith
/-
  The contracts of package quot (layer 5) at this seat: what long division does word by word.
-/
namespace Go.Proofs.Ytipcgehcineblaa
open Go.RowKit

def LessenPost (base g N cap i m q : Nat) (D P : List Nat) (w : World) (e : Ending) (w' : World) : Prop :=
  ∃ (P' : List Nat) (b : Nat), e = .returned (.int .u32 (b : Int)) ∧ b ≤ 1 ∧ Hid (Own w' base g N cap P') ∧ w.grownBy w' (some g) ∧ Hid (val P' + 4294967296 ^ i * (q * val D) = val P + 4294967296 ^ (i + m + 1) * b) ∧ Hid (Flat P' (i + m + 1))
set_option maxRecDepth 4096 in
set_option maxHeartbeats 2000000 in
theorem quot_lessen (w0 w : World) (g i N cap c m dcap q : Nat) (P D : List Nat) (d : Option Addr) (hO : Own w w0.heap.size g N cap P) (hB : Below w0.heap.size w0 w) (hd : Wd w0 d m dcap D) (hi : i + m < N) (hq : q < 4294967296) (hN : N ≤ 2097152000000) (hF : Flat P (i + m + 1)) :
    Calls Try.prog 95 #[.slice (some ⟨g, i, none⟩) (m + 1) c, .slice d m dcap, .int .u32 (q : Int)] w (LessenPost w0.heap.size g N cap i m q D P w) := by
  have HO0 := Lib.hid hO
  have HD := Lib.hid hd
  have HF0 := Lib.hid hF
  have HDl := Lib.hid hd.len
  have HPl := Lib.hid hO.len
  clear hO hd hF
  go_enter Try.func95, Try.ntmps95
  go_wp2
  go_loopw [7, 9, 14] (fun cv bv jv wr => ∃ (j y b : Nat) (R : List Nat), j ≤ m ∧ jv = .int .i64 (j : Int) ∧ cv = .int .u32 (y : Int) ∧ bv = .int .u32 (b : Int) ∧ y < 4294967296 ∧ b ≤ 1 ∧ Hid (TakeAt P D R i q j y b) ∧ Hid (Flat R (i + m + 1)) ∧ Hid (Own wr w0.heap.size g N cap R) ∧ w.grownBy wr (some g)) (fun _ _ jv _ => m - (intOf jv).toNat)
  case atStart => exact ⟨0, 0, 0, P, by omega, rfl, rfl, rfl, by omega, by omega, Lib.hid (take_start _ _ _ _), HF0, HO0, grown_refl _ _⟩
  case round =>
    obtain ⟨j, y, b, R, hj, rfl, rfl, rfl, hy, hb, HT, HF, HO, hG⟩ := hrel
    have hbase := HO.out.base
    have hB2 := grown_below hB hG hbase.1
    by_cases hlt : j < m
    · obtain ⟨bd, od, rfl, hcd⟩ := (HD.out.later hB2).at (by omega)
      have hcdj := hcd j hlt
      have hji : (j : Int) < (m : Int) := by omega
      have hxw := atw_lt HD.out.ok j
      obtain ⟨x, hxx⟩ : ∃ x, x = atw D j := ⟨_, rfl⟩
      rw [← hxx] at hxw hcdj
      have Hx := Lib.hid hxx
      have hcell := HO.out.cell (k := i + j) (by omega)
      have hfro := HO.out.1.frozenAt (i + j)
      have huw := atw_lt HO.out.2 (i + j)
      obtain ⟨u, huu⟩ : ∃ u, u = atw R (i + j) := ⟨_, rfl⟩
      rw [← huu] at huw hcell
      have Hu := Lib.hid huu
      clear hcd hxx huu hB2
      go_wp2_with fail
      refine (limb_mul_nat x q y _ hxw hq hy).mono ?_
      rintro e w' ⟨hi2, lo, rfl, hh, hl, Hs, rfl⟩
      go_wp2_with fail
      refine (limb_sub_nat u lo b _ huw hl hb).mono ?_
      rintro e w' ⟨r, z, rfl, hz, hr, Hr, rfl⟩
      have HOs := Lib.hid (HO.out.set (i + j) r hr)
      have hGs := Lib.hid (grown_then hG (grown_cell _ g (i + j) (.int .u32 (r : Int))))
      go_wp2
      go_roundw
      case rel =>
        exact ⟨j + 1, hi2, z, R.set (i + j) r, by omega, by go_num, rfl, rfl, hh, hz, Lib.hid (by
          have h1 := HPl.out
          have h2 := HO.out.len
          exact take_step HT.out (by omega) (by rw [← Hx.out]; exact Hs.out) (by rw [← Hu.out]; exact Hr.out)), Lib.hid (flat_set HF.out (by omega)), HOs, hGs.out⟩
      case measure => simp [intOf]; omega
    · obtain rfl : j = m := by omega
      have hcell := HO.out.cell (k := i + j) (by omega)
      have hfro := HO.out.1.frozenAt (i + j)
      have huw := atw_lt HO.out.2 (i + j)
      obtain ⟨u, huu⟩ : ∃ u, u = atw R (i + j) := ⟨_, rfl⟩
      rw [← huu] at huw hcell
      have Hu := Lib.hid huu
      clear huu hB2
      go_wp2_with fail
      refine (limb_sub_nat u y b _ huw hy hb).mono ?_
      rintro e w' ⟨r, z, rfl, hz, hr, Hr, rfl⟩
      have HOs := Lib.hid (HO.out.set (i + j) r hr)
      have hGs := Lib.hid (grown_then hG (grown_cell _ g (i + j) (.int .u32 (r : Int))))
      go_wp2
      go_ret
      exact ⟨R.set (i + j) r, z, rfl, hz, HOs, hGs.out, Lib.hid (by
        have h2 := HO.out.len
        exact take_end HT.out HDl.out (by omega) (by rw [← Hu.out]; exact Hr.out)), Lib.hid (flat_set HF.out (by omega))⟩
def GivePost (base g N cap i m : Nat) (D P : List Nat) (w : World) (e : Ending) (w' : World) : Prop :=
  ∃ (P' : List Nat) (z : Nat), e = .returned (.tuple #[]) ∧ z ≤ 1 ∧ Hid (Own w' base g N cap P') ∧ w.grownBy w' (some g) ∧ Hid (val P' + 4294967296 ^ (i + m + 1) * z = val P + 4294967296 ^ i * val D) ∧ Hid (Flat P' (i + m + 1))
set_option maxRecDepth 4096 in
set_option maxHeartbeats 2000000 in
theorem quot_giveBack (w0 w : World) (g i N cap c m dcap : Nat) (P D : List Nat) (d : Option Addr) (hO : Own w w0.heap.size g N cap P) (hB : Below w0.heap.size w0 w) (hd : Wd w0 d m dcap D) (hi : i + m < N) (hN : N ≤ 2097152000000) (hF : Flat P (i + m + 1)) :
    Calls Try.prog 96 #[.slice (some ⟨g, i, none⟩) (m + 1) c, .slice d m dcap] w (GivePost w0.heap.size g N cap i m D P w) := by
  have HO0 := Lib.hid hO
  have HD := Lib.hid hd
  have HF0 := Lib.hid hF
  have HDl := Lib.hid hd.len
  have HPl := Lib.hid hO.len
  clear hO hd hF
  go_enter Try.func96, Try.ntmps96
  go_wp2
  go_loopw [4, 9] (fun cv jv wr => ∃ (j y : Nat) (R : List Nat), j ≤ m ∧ jv = .int .i64 (j : Int) ∧ cv = .int .u32 (y : Int) ∧ y ≤ 1 ∧ Hid (GiveAt P D R i j y) ∧ Hid (Flat R (i + m + 1)) ∧ Hid (Own wr w0.heap.size g N cap R) ∧ w.grownBy wr (some g)) (fun _ jv _ => m - (intOf jv).toNat)
  case atStart => exact ⟨0, 0, P, by omega, rfl, rfl, by omega, Lib.hid (give_start _ _ _), HF0, HO0, grown_refl _ _⟩
  case round =>
    obtain ⟨j, y, R, hj, rfl, rfl, hy, HT, HF, HO, hG⟩ := hrel
    have hbase := HO.out.base
    have hB2 := grown_below hB hG hbase.1
    by_cases hlt : j < m
    · obtain ⟨bd, od, rfl, hcd⟩ := (HD.out.later hB2).at (by omega)
      have hcdj := hcd j hlt
      have hji : (j : Int) < (m : Int) := by omega
      have hxw := atw_lt HD.out.ok j
      obtain ⟨x, hxx⟩ : ∃ x, x = atw D j := ⟨_, rfl⟩
      rw [← hxx] at hxw hcdj
      have Hx := Lib.hid hxx
      have hcell := HO.out.cell (k := i + j) (by omega)
      have hfro := HO.out.1.frozenAt (i + j)
      have huw := atw_lt HO.out.2 (i + j)
      obtain ⟨u, huu⟩ : ∃ u, u = atw R (i + j) := ⟨_, rfl⟩
      rw [← huu] at huw hcell
      have Hu := Lib.hid huu
      clear hcd hxx huu hB2
      go_wp2_with fail
      refine (limb_add_nat u x y _ huw hxw hy).mono ?_
      rintro e w' ⟨r, z, rfl, hz, hr, Hr, rfl⟩
      have HOs := Lib.hid (HO.out.set (i + j) r hr)
      have hGs := Lib.hid (grown_then hG (grown_cell _ g (i + j) (.int .u32 (r : Int))))
      go_wp2
      go_roundw
      case rel =>
        exact ⟨j + 1, z, R.set (i + j) r, by omega, by go_num, rfl, hz, Lib.hid (by
          have h1 := HPl.out
          have h2 := HO.out.len
          exact give_step HT.out (by omega) (by rw [← Hx.out, ← Hu.out]; exact Hr.out)), Lib.hid (flat_set HF.out (by omega)), HOs, hGs.out⟩
      case measure => simp [intOf]; omega
    · obtain rfl : j = m := by omega
      have hcell := HO.out.cell (k := i + j) (by omega)
      have hfro := HO.out.1.frozenAt (i + j)
      have huw := atw_lt HO.out.2 (i + j)
      obtain ⟨u, huu⟩ : ∃ u, u = atw R (i + j) := ⟨_, rfl⟩
      rw [← huu] at huw hcell
      have Hu := Lib.hid huu
      clear huu hB2
      go_wp2_with fail
      refine (limb_add_nat0 u y _ huw hy).mono ?_
      rintro e w' ⟨r, z, rfl, hz, hr, Hr, rfl⟩
      have HOs := Lib.hid (HO.out.set (i + j) r hr)
      have hGs := Lib.hid (grown_then hG (grown_cell _ g (i + j) (.int .u32 (r : Int))))
      go_wp2
      go_end0
      exact ⟨R.set (i + j) r, z, rfl, hz, HOs, hGs.out, Lib.hid (by
        have h2 := HO.out.len
        exact give_end HT.out HDl.out (by omega) (by rw [← Hu.out]; exact Hr.out)), Lib.hid (flat_set HF.out (by omega))⟩
end Go.Proofs.Ytipcgehcineblaa

/-
  The contracts of package quot (layer 5) at this seat: the guess at a word, and the word that is taken away.
-/
namespace Go.Proofs.Ytipcgehcineblaa
open Go.RowKit

theorem Own.window {w : World} {base g N cap : Nat} {P : List Nat} (h : Own w base g N cap P) {i k c : Nat} (hi : i + k ≤ N) (hk : 0 < k) (hc : k ≤ c) (hc2 : c ≤ 9223372036854775807) : Wd w (some ⟨g, i, none⟩) k c ((P.drop i).take k) := by
  have hl := h.len
  exact ⟨by rw [List.length_take, List.length_drop]; omega, hc, hc2, okw_take (okw_drop h.2 i) k, fun e => (by cases e), .inr ⟨g, i, rfl, fun j hj => by rw [h.cell (by omega), atw_take hj, atw_drop]⟩⟩

theorem limb_div_nat (u1 u0 v q r : Nat) (w : World) (h0 : u0 < 4294967296) (hv : v < 4294967296) (hlt : u1 < v) (hq : Hid (q = (u1 * 4294967296 + u0) / v)) (hr : Hid (r = (u1 * 4294967296 + u0) % v)) : Calls Try.prog 88 #[.int .u32 (u1 : Int), .int .u32 (u0 : Int), .int .u32 (v : Int)] w fun e w' =>
    e = .returned (.tuple #[.int .u32 (q : Int), .int .u32 (r : Int), .bool true]) ∧ ∃ n, w' = w.drewN n :=
  (limb_div_yes (u1 : Int) (u0 : Int) (v : Int) w (by omega) (by omega) (by omega) (by omega) (by omega) (by omega)).mono fun e w' ⟨he, hw⟩ => ⟨by
    have e1 : ((u1 : Int) * 4294967296 + (u0 : Int)) / (v : Int) = (q : Int) := by rw [hq.out, Int.natCast_ediv, Int.natCast_add, Int.natCast_mul]; rfl
    have e2 : ((u1 : Int) * 4294967296 + (u0 : Int)) % (v : Int) = (r : Int) := by rw [hr.out, Int.natCast_emod, Int.natCast_add, Int.natCast_mul]; rfl
    rw [he, e1, e2], hw⟩
theorem limb_div_none (u1 u0 v : Nat) (w : World) (hge : v ≤ u1) : Calls Try.prog 88 #[.int .u32 (u1 : Int), .int .u32 (u0 : Int), .int .u32 (v : Int)] w fun e w' => e = .returned (.tuple #[.int .u32 0, .int .u32 0, .bool false]) ∧ w = w' :=
  limb_div_no _ _ _ w (by omega)
set_option maxRecDepth 4096 in
set_option maxHeartbeats 2000000 in
theorem quot_guess (w : World) (a : Option Addr) (n cap : Nat) (R : List Nat) (d : Option Addr) (M K L dcap : Nat) (D : List Nat) (hR : Wd w a n cap R) (hd : Wd w d M dcap D) (hM : M < n) (hK : (M : Int) - 1 = (K : Int)) (hL : (M : Int) - 2 = (L : Int)) :
    Calls Try.prog 94 #[.slice a n cap, .slice d M dcap] w fun e w' => e = .returned (.int .u32 ((guessOf (atw R M) (atw R K) (atw D K) (atw D L) : Nat) : Int)) ∧ ∃ q, w' = w.drewN q := by
  obtain ⟨hb1, hb2⟩ := hR.bound
  obtain ⟨hb3, hb4⟩ := hd.bound
  have hokR := hR.ok
  have hokD := hd.ok
  obtain ⟨ba, oa, rfl, hca⟩ := hR.at (by omega)
  obtain ⟨bd, od, rfl, hcd⟩ := hd.at (by omega)
  have hc1 := hca M (by omega)
  have hc2 := hca K (by omega)
  have hc3 := hcd K (by omega)
  have hc4 := hcd L (by omega)
  have hw1 := atw_lt hokR M
  have hw0 := atw_lt hokR K
  have hv1 := atw_lt hokD K
  have hv0 := atw_lt hokD L
  clear hca hcd hR hd hokR hokD
  generalize atw R M = u1 at *
  generalize atw R K = u0 at *
  generalize atw D K = v1 at *
  generalize atw D L = v0 at *
  have hMi : (M : Int) < (n : Int) := by omega
  have hKi : (K : Int) < (n : Int) := by omega
  have hKj : (K : Int) < (M : Int) := by omega
  have hLj : (L : Int) < (M : Int) := by omega
  by_cases hle : v1 ≤ u1
  · have HG : Hid (guessOf u1 u0 v1 v0 = 4294967295) := Lib.hid (by unfold guessOf; rw [if_pos hle])
    have HLE := Lib.hid hle
    clear hle
    go_enter Try.func94, Try.ntmps94
    go_wp2
    go_quiet ((go_at_call 88; exact quiet_here (limb_div_none u1 u0 v1 _ HLE.out) ⟨_, rfl⟩))
    go_wp2
    go_ret
    exact ⟨by rw [HG.out]; rfl, _, rfl⟩
  · obtain ⟨q, hq⟩ : ∃ q, q = (u1 * 4294967296 + u0) / v1 := ⟨_, rfl⟩
    obtain ⟨r, hr⟩ : ∃ r, r = (u1 * 4294967296 + u0) % v1 := ⟨_, rfl⟩
    have hqw : q < 4294967296 := by rw [hq]; exact Nat.div_lt_of_lt_mul (by omega)
    have hrw : r < 4294967296 := by
      have : r < v1 := by rw [hr]; exact Nat.mod_lt _ (by omega)
      omega
    have HQ := Lib.hid hq
    have HR := Lib.hid hr
    have HLT : Hid (u1 < v1) := Lib.hid (by omega)
    clear hq hr hle
    go_enter Try.func94, Try.ntmps94
    go_wp2
    go_quiet ((go_at_call 88; exact quiet_there (limb_div_nat u1 u0 v1 q r _ hw0 hv1 HLT.out HQ HR) (fun p => ⟨_, World.drewN_drewN ..⟩)))
    go_wp2_with fail
    refine (limb_mul_nat q v0 0 _ hqw hv0 (by omega)).mono ?_
    rintro e w' ⟨z, y, rfl, hz, hy, Hs, rfl⟩
    have HZ : Hid (z = q * v0 / 4294967296) := Lib.hid (by have := Hs.out; omega)
    by_cases hgt : r < z
    · have HG : Hid (guessOf u1 u0 v1 v0 = q - 1) := Lib.hid (by
        unfold guessOf
        rw [if_neg (by have := HLT.out; omega), ← HQ.out, ← HR.out, ← HZ.out, if_pos hgt])
      have hq1 : 1 ≤ q := by
        rcases Nat.eq_zero_or_pos q with h0 | h0
        · have := HZ.out; rw [h0] at this; simp at this; omega
        · exact h0
      obtain ⟨q1, hq⟩ : ∃ q1 : Nat, (q : Int) - 1 = (q1 : Int) := ⟨q - 1, by omega⟩
      have Hq : Hid (q - 1 = q1) := Lib.hid (by omega)
      go_wp2
      go_ret
      exact ⟨by rw [HG.out, Hq.out]; rfl, _, rfl⟩
    · have HG : Hid (guessOf u1 u0 v1 v0 = q) := Lib.hid (by
        unfold guessOf
        rw [if_neg (by have := HLT.out; omega), ← HQ.out, ← HR.out, ← HZ.out, if_neg hgt])
      go_wp2
      go_ret
      exact ⟨by rw [HG.out]; rfl, _, rfl⟩
def AwayPost (base g N cap i : Nat) (D P : List Nat) (w : World) (e : Ending) (w' : World) : Prop :=
  ∃ (P' : List Nat) (q : Nat), e = .returned (.int .u32 (q : Int)) ∧ q < 4294967296 ∧ Hid (Own w' base g N cap P') ∧ w.grownBy w' (some g) ∧ Hid (Taken P D P' i q)
set_option maxRecDepth 4096 in
set_option maxHeartbeats 2000000 in
theorem quot_takeAway (w0 w : World) (g i N cap c m dcap : Nat) (P D : List Nat) (d : Option Addr) (hO : Own w w0.heap.size g N cap P) (hB : Below w0.heap.size w0 w) (hd : Wd w0 d (m + 2) dcap D) (hi : i + m + 2 < N) (hc : m + 3 ≤ c) (hc2 : c ≤ 9223372036854775807) (hN : N ≤ 2097152000000) (hv : Hid (2147483648 ≤ atw D (m + 1))) (hlt : Hid (val P < 4294967296 ^ (i + 1) * val D)) :
    Calls Try.prog 91 #[.slice (some ⟨g, i, none⟩) (m + 3) c, .slice d (m + 2) dcap] w (AwayPost w0.heap.size g N cap i D P w) := by
  have HF : Hid (Flat P (i + (m + 2) + 1)) := Lib.hid (flat_of_lt (by
    have h1 := hlt.out
    have h2 := val_lt hd.ok
    rw [hd.len] at h2
    have h3 : 4294967296 ^ (i + 1) * val D ≤ 4294967296 ^ (i + 1) * 4294967296 ^ (m + 2) := Nat.mul_le_mul_left _ (by omega)
    rw [← Nat.pow_add, show i + 1 + (m + 2) = i + (m + 2) + 1 by omega] at h3
    generalize 4294967296 ^ (i + (m + 2) + 1) = y1 at *
    generalize 4294967296 ^ (i + 1) * val D = y2 at *
    omega))
  have HG := Lib.hid (guess_list hO.2 hd.ok hd.len (by have := HF.out; rwa [show i + (m + 2) + 1 = i + m + 3 by omega] at this) hv.out hlt.out)
  have Hwin := Lib.hid (hO.window (i := i) (k := m + 3) (c := c) (by omega) (by omega) hc hc2)
  have e1 : atw ((P.drop i).take (m + 3)) (m + 2) = atw P (i + m + 2) := by rw [atw_take (by omega), atw_drop, Nat.add_assoc]
  have e0 : atw ((P.drop i).take (m + 3)) (m + 1) = atw P (i + m + 1) := by rw [atw_take (by omega), atw_drop, Nat.add_assoc]
  have He : Hid (guessOf (atw ((P.drop i).take (m + 3)) (m + 2)) (atw ((P.drop i).take (m + 3)) (m + 1)) (atw D (m + 1)) (atw D m) = guessOf (atw P (i + m + 2)) (atw P (i + m + 1)) (atw D (m + 1)) (atw D m)) := Lib.hid (by rw [e1, e0])
  have HO := Lib.hid hO
  have Hd := Lib.hid hd
  clear e1 e0 hO hd
  have hbase := HO.out.base
  go_enter Try.func91, Try.ntmps91
  go_wp2_with fail
  refine (quot_guess _ _ _ _ _ _ (m + 2) (m + 1) m _ _ Hwin.out (Hd.out.later hB) (by omega) (by omega) (by omega)).mono ?_
  rintro e w' ⟨rfl, p, rfl⟩
  rw [He.out]
  have hgw := HG.out.2.2
  have HG2 : Hid (top P i < (guessOf (atw P (i + m + 2)) (atw P (i + m + 1)) (atw D (m + 1)) (atw D m) + 1) * val D ∧ guessOf (atw P (i + m + 2)) (atw P (i + m + 1)) (atw D (m + 1)) (atw D m) * val D ≤ top P i + val D) := Lib.hid ⟨HG.out.1, HG.out.2.1⟩
  clear HG He
  generalize guessOf (atw P (i + m + 2)) (atw P (i + m + 1)) (atw D (m + 1)) (atw D m) = q at *
  have hBd := below_drewN hB p
  have HOd := Lib.hid (show Own (w.drewN p) w0.heap.size g N cap P from HO.out)
  go_wp2_with fail
  refine (quot_lessen w0 (w.drewN p) g i N cap c (m + 2) dcap q P D d HOd.out hBd Hd.out (by omega) hgw hN HF.out).mono ?_
  rintro e w1 ⟨P1, b, rfl, hb, HO1, hG1, HV1, HF1⟩
  have hG01 := grown_then (grown_drewN (grown_refl w (some g)) p) hG1
  have hB1 := grown_below hBd hG1 hbase.1
  by_cases hb0 : b = 0
  · subst hb0
    have HT : Hid (Taken P D P1 i q) := Lib.hid (taken_yes HO.out.2 HG2.out.1 HV1.out)
    go_wp2
    go_ret
    exact ⟨P1, q, rfl, hgw, HO1, hG01, HT⟩
  · have hb1 : b = 1 := by omega
    have hbi : (0 : Int) < (b : Int) := by omega
    have HV1' := Lib.hid (hb1 ▸ HV1.out)
    clear hb0 hb1 HV1
    go_wp2_with fail
    refine (quot_giveBack w0 _ g i N cap c (m + 2) dcap P1 D d HO1.out hB1 Hd.out (by omega) hN HF1.out).mono ?_
    rintro e w2 ⟨P2, z, rfl, hz, HO2, hG2, HV2, HF2⟩
    have HT := Lib.hid (taken_back HO.out.2 (flat_lt HO1.out.2 HF1.out) (flat_lt HO2.out.2 HF2.out) HG2.out.2 hz HV1'.out HV2.out)
    have hq1 : 1 ≤ q := HT.out.1
    have hG02 := grown_then hG01 hG2
    obtain ⟨q1, hq⟩ : ∃ q1 : Nat, (q : Int) - 1 = (q1 : Int) := ⟨q - 1, by omega⟩
    have Hq : Hid (q - 1 = q1) := Lib.hid (by omega)
    go_wp2
    go_ret
    exact ⟨P2, q1, rfl, by omega, HO2, hG02, Lib.hid (by rw [← Hq.out]; exact HT.out.2)⟩
end Go.Proofs.Ytipcgehcineblaa

/-
  The contracts of package quot (layer 5) at this seat: Word, long.
-/
namespace Go.Proofs.Ytipcgehcineblaa
open Go.RowKit

/-- Quotient and rest by a word. -/
def WordPost (v x : Nat) (w : World) (e : Ending) (w' : World) : Prop :=
  ∃ (a : Option Addr) (n cap : Nat), e = .returned (.tuple #[.slice a n cap, .int .u32 ((v % x : Nat) : Int), .bool true]) ∧ Wd w' a n cap (dg (v / x)) ∧ Below w.heap.size w w'
/-- The quotient stands in a row of the call's own. -/
def WordOwnPost (v x : Nat) (w : World) (e : Ending) (w' : World) : Prop :=
  ∃ (g n : Nat), e = .returned (.tuple #[.slice (some ⟨g, 0, none⟩) n n, .int .u32 ((v % x : Nat) : Int), .bool true]) ∧ Own w' w.heap.size g n n (dg (v / x)) ∧ Below w.heap.size w w'
set_option maxRecDepth 4096 in
set_option maxHeartbeats 2000000 in
theorem quot_word_own (a : Option Addr) (n cap : Nat) (l : List Nat) (x : Nat) (w : World) (h : Wd w a n cap l) (hn : n ≤ 1048576000000) (hx : x < 4294967296) (h0 : 0 < x) : Calls Try.prog 81 #[.slice a n cap, .int .u32 (x : Int)] w (WordOwnPost (val l) x w) := by
  have hmn : (dg (val l)).length ≤ n := h.trim_le
  have H := Lib.hid h
  have hxz : ((x : Int) == 0) = false := by simp; omega
  clear h
  go_enter Try.func81, Try.ntmps81
  go_wp2_with fail
  refine (nat_norm _ _ _ _ _ H.out (by omega)).mono ?_
  rintro e w1 ⟨g, m, rfl, Hm, Hown, hB1⟩
  have HO1 : Hid (Own w1 w.heap.size g m m (dg (val l))) := Lib.hid ⟨Hown.out, okw_dg _⟩
  have hm : m ≤ 1048576000000 := by rw [Hm.out]; omega
  have HL : Hid (okw (dg (val l)) ∧ (dg (val l)).length = m ∧ val (dg (val l)) = val l) := Lib.hid ⟨okw_dg _, Hm.out.symm, val_dg _⟩
  clear Hown Hm hmn H
  generalize dg (val l) = L at HO1 HL
  go_wp2
  go_loopw [5, 7] (fun rv iv wr => ∃ (k r : Nat) (Q : List Nat), k ≤ m ∧ iv = .int .i64 ((k : Int) - 1) ∧ rv = .int .u32 (r : Int) ∧ r < x ∧ Hid (WordAt x L Q k r) ∧ Hid (Own wr w.heap.size g m m Q) ∧ Below w.heap.size w wr) (fun _ iv _ => (intOf iv + 1).toNat)
  case atStart => exact ⟨m, 0, L, by omega, by go_num, rfl, h0, Lib.hid ⟨by rw [top_ge (by rw [HL.out.2.1]; omega)]; simp, h0, fun j _ => rfl, rfl⟩, HO1, hB1⟩
  case round =>
    clear HO1 hB1
    obtain ⟨k, r, Q, hk, rfl, rfl, hr, HW, HO, hB⟩ := hrel
    cases k with
    | zero =>
      have Hfin := Lib.hid (word_end HW.out HL.out.2.2)
      have hr2 : r = val l % x := Hfin.out.2
      have Hq : Hid (val Q = val l / x) := Lib.hid Hfin.out.1
      have Hr := Lib.hid hr2
      clear hr2 Hfin
      go_wp2_with fail
      refine (nat_norm _ _ _ _ _ HO.out.wd (by omega)).mono ?_
      rintro e w2 ⟨g2, n2, rfl, Hm2, h2, b2⟩
      rw [Hq.out] at h2
      have H2 : Hid (Own w2 w.heap.size g2 n2 n2 (dg (val l / x))) := Lib.hid (Own.lower ⟨h2.out, okw_dg _⟩ hB.size)
      clear h2
      go_wp2
      go_ret3
      exact ⟨g2, n2, by rw [← Hr.out]; rfl, H2.out, below_then hB b2⟩
    | succ k =>
      have e1 : ((k + 1 : Nat) : Int) - 1 = (k : Int) := by omega
      rw [e1]
      clear e1
      have hcell := HO.out.cell (k := k) (by omega)
      rw [HW.out.2.2.1 k (by omega)] at hcell
      have hfro := HO.out.1.frozenAt k
      have huw := atw_lt HL.out.1 k
      obtain ⟨u, huu⟩ : ∃ u, u = atw L k := ⟨_, rfl⟩
      rw [← huu] at huw hcell
      have Hu := Lib.hid huu
      have hb := HO.out.base
      obtain ⟨q, hq⟩ : ∃ q, q = (r * 4294967296 + u) / x := ⟨_, rfl⟩
      obtain ⟨s, hs⟩ : ∃ s, s = (r * 4294967296 + u) % x := ⟨_, rfl⟩
      have hqw : q < 4294967296 := by rw [hq]; exact Nat.div_lt_of_lt_mul (by omega)
      have hsx : s < x := by rw [hs]; exact Nat.mod_lt _ h0
      have HQ := Lib.hid hq
      have HS := Lib.hid hs
      have hki : (k : Int) < (m : Int) := by omega
      clear huu hq hs
      go_wp2_with fail
      refine (limb_div_nat r u x q s _ huw hx hr HQ HS).mono ?_
      rintro e w' ⟨rfl, p, rfl⟩
      have HOs := Lib.hid ((show Own (wr.drewN p) w.heap.size g m m Q from HO.out).set k q hqw)
      have HBs := Lib.hid ((below_drewN hB p).setCell (p := ⟨g, k, none⟩) hb.1 (.int .u32 (q : Int)))
      have HW2 : Hid (WordAt x L (Q.set k q) k s) := Lib.hid (by
        have h1 := word_down HW.out (by omega) (by rw [HO.out.len]; omega)
        rwa [← Hu.out, ← HQ.out, ← HS.out] at h1)
      go_wp2
      go_roundw
      case rel => exact ⟨k, s, Q.set k q, by omega, by go_num, rfl, hsx, HW2, HOs, HBs.out⟩
      case measure => simp [intOf]
theorem quot_word (a : Option Addr) (n cap : Nat) (l : List Nat) (x : Nat) (w : World) (h : Wd w a n cap l) (hn : n ≤ 1048576000000) (hx : x < 4294967296) (h0 : 0 < x) : Calls Try.prog 81 #[.slice a n cap, .int .u32 (x : Int)] w (WordPost (val l) x w) :=
  (quot_word_own a n cap l x w h hn hx h0).mono fun _ _ ⟨_, _, he, ho, hb⟩ => ⟨_, _, _, he, ho.wd, hb⟩
theorem quot_takeAway_at (w0 w : World) (g i N cap c M K W dcap : Nat) (P D : List Nat) (d : Option Addr) (hO : Own w w0.heap.size g N cap P) (hB : Below w0.heap.size w0 w) (hd : Wd w0 d M dcap D) (hM : 2 ≤ M) (hK : M = K + 1) (hW : W = M + 1) (hi : i + M < N) (hc : W ≤ c) (hc2 : c ≤ 9223372036854775807) (hN : N ≤ 2097152000000) (hv : Hid (2147483648 ≤ atw D K)) (hlt : Hid (val P < 4294967296 ^ (i + 1) * val D)) :
    Calls Try.prog 91 #[.slice (some ⟨g, i, none⟩) W c, .slice d M dcap] w (AwayPost w0.heap.size g N cap i D P w) := by
  obtain ⟨m, rfl⟩ : ∃ m, K = m + 1 := ⟨K - 1, by omega⟩
  subst hK
  subst hW
  exact quot_takeAway w0 w g i N cap c m dcap P D d hO hB hd hi hc hc2 hN hv hlt
def LongPost2 (p q : Nat) (w : World) (e : Ending) (w' : World) : Prop :=
  ∃ (a : Option Addr) (n cap : Nat) (b : Option Addr) (m cap' : Nat), e = .returned (.tuple #[.slice a n cap, .slice b m cap']) ∧ Wd w' a n cap (dg p) ∧ Wd w' b m cap' (dg q) ∧ Below w.heap.size w w'
set_option maxRecDepth 4096 in
set_option maxHeartbeats 4000000 in
theorem quot_long (a : Option Addr) (na cap : Nat) (la : List Nat) (b : Option Addr) (M cap' vb : Nat) (w : World) (ha : Wd w a na cap la) (hb : Wd w b M cap' (dg vb)) (hna : na ≤ 524288000000) (hM2 : 2 ≤ M) (hMn : M ≤ 1048576000000) (hle : Hid (vb ≤ val la)) :
    Calls Try.prog 82 #[.slice a na cap, .slice b M cap'] w (LongPost2 (val la / vb) (val la % vb) w) := by
  obtain ⟨i0, hi, hz0, hz1, hz2⟩ := info_parts infoU32
  obtain ⟨K, hK⟩ : ∃ K : Nat, (M : Int) - 1 = (K : Int) := ⟨M - 1, by omega⟩
  have HMl : Hid ((dg vb).length = M) := Lib.hid hb.len
  obtain ⟨bb, ob, rfl, hcb⟩ := hb.at (by omega)
  have hcK := hcb K (by omega)
  have hxw := atw_lt (okw_dg vb) K
  obtain ⟨x, hxx⟩ : ∃ x, x = atw (dg vb) K := ⟨_, rfl⟩
  rw [← hxx] at hxw hcK
  obtain ⟨s, hs⟩ : ∃ s, s = 32 - blen (atw (dg vb) K) := ⟨_, rfl⟩
  have hnt := norm_top (b := vb) (m := K) (by have := HMl.out; omega) hs
  have hs32 : s < 32 := hnt.1
  have HD : Hid ((dg (vb * 2 ^ s)).length = M ∧ 2147483648 ≤ atw (dg (vb * 2 ^ s)) K) := Lib.hid ⟨by have := hnt.2.1; omega, hnt.2.2⟩
  have hbl : blen x ≤ 32 := blen_le.2 hxw
  have hsi : (32 : Int) - ((blen x : Nat) : Int) = (s : Int) := by rw [hxx]; have := blen_le.2 (show atw (dg vb) K < 2 ^ 32 from atw_lt (okw_dg vb) K); omega
  have Ha := Lib.hid ha
  have Hb := Lib.hid hb
  have hKi : (K : Int) < (M : Int) := by omega
  have hv0 : Hid (0 < vb) := Lib.hid (by
    rcases Nat.eq_zero_or_pos vb with h | h
    · have := HMl.out; rw [h, dg_zero] at this; simp at this; omega
    · exact h)
  clear hxx hs hnt ha hb hcb
  generalize hbx : blen x = y at *
  have Hbx := Lib.hid hbx
  clear hbx
  go_enter Try.func82, Try.ntmps82
  go_wp2_with fail
  refine (limb_len_nat x _ hxw).mono ?_
  rintro e w' ⟨rfl, rfl⟩
  rw [Hbx.out]
  go_wp2_with fail
  refine (twos_up _ _ _ _ (s : Int) _ Hb.out (by omega)).mono ?_
  rintro e w1 ⟨d, dn, dcap, rfl, hd, hB1⟩
  rw [show min (s : Int).toNat 4096 = s by omega, val_dg] at hd
  have hdn : dn = M := by rw [← hd.len]; exact HD.out.1
  subst hdn
  have Hd := Lib.hid hd
  have HD2 : Hid (okw (dg (vb * 2 ^ s)) ∧ val (dg (vb * 2 ^ s)) = vb * 2 ^ s) := Lib.hid ⟨okw_dg _, val_dg _⟩
  clear hd
  have Ha1 := Lib.hid (Ha.out.later hB1)
  go_wp2_with fail
  refine (twos_up_own _ _ _ _ (s : Int) _ Ha1.out (by omega)).mono ?_
  rintro e w2 ⟨a2, n2, c2, rfl, h2, hB2, hown⟩
  rw [show min (s : Int).toNat 4096 = s by omega] at h2 hown
  obtain ⟨g, rfl, HO2⟩ := hown (Nat.ne_of_gt (Nat.mul_pos (by have h1 := hle.out; have h2 := hv0.out; omega) (Nat.two_pow_pos s)))
  obtain ⟨A, hA⟩ : ∃ A, A = val la * 2 ^ s := ⟨_, rfl⟩
  rw [← hA] at h2 HO2
  have HA := Lib.hid hA
  have hn2 : n2 ≤ 524288000001 ∧ dn ≤ n2 := by
    have h3 := h2.len
    have h4 := val_lt Ha.out.ok
    rw [Ha.out.len] at h4
    refine ⟨?_, ?_⟩
    · have h5 : 2 ^ s ≤ 4294967296 ^ 1 := Nat.le_trans (Nat.pow_le_pow_right (by decide) (show s ≤ 32 by omega)) (by decide)
      have h6 := Nat.mul_lt_mul_of_lt_of_le h4 h5 (pow_pos32 1)
      rw [← Nat.pow_add, ← hA] at h6
      have h7 := dg_length_le h6
      omega
    · rw [← h3, ← HD.out.1]
      apply dg_length_mono
      rw [hA]
      exact Nat.mul_le_mul_right _ hle.out
  obtain ⟨hn2, hMn2⟩ := hn2
  have HAl : Hid ((dg A).length = n2) := Lib.hid h2.len
  clear h2 hA
  go_wp2_with (at_builtin; refine wpList_append_own _ rfl _ _ 23 rfl w1.heap.size 85 i0 (.int .u32 0) 1 4 Try.underlying23 hi hz0 hz1 hz2 rfl (by decide) _ n2 _ rfl (HO2.out.1.alloc _) ⟨w2.heap.size, 0, none⟩ 1 1 (wcells [0]) rfl rfl (Wd.lit1 w2 85 (x := 0) (by omega)).cells (wcells_one _) (by unfold maxLen; omega) (by omega) (by simp; have := hB2.size; omega) ?_)
  intro v' w3 hown3 hgrow3 _
  obtain ⟨g3, cap3, rfl, HO3'⟩ := Own.push (r := 0) hown3 HO2.out.2 (by decide)
  have HO3 := Lib.hid HO3'
  have hbase2 := HO2.out.base
  have hB3 : Below w1.heap.size w1 w3 := (hB2.alloc hB2.size _).grown hgrow3 (by simp; have := hB2.size; omega) (by intro k hk; simp [Value.ownBlock] at hk; omega)
  obtain ⟨hc3a, hc3b⟩ := HO3.out.bound
  clear HO3' hown3 hgrow3 hbase2 HO2
  obtain ⟨N, hN⟩ : ∃ N : Nat, N = n2 + 1 := ⟨_, rfl⟩
  rw [← hN] at HO3 hc3a ⊢
  have HN := Lib.hid hN
  have hNd : dn < N := by omega
  have hNb : N ≤ 524288000002 := by omega
  clear hN
  obtain ⟨n, hnn⟩ : ∃ n : Nat, (N : Int) - (dn : Int) = (n : Int) := ⟨N - dn, by omega⟩
  have HNn : Hid (N = n + dn) := Lib.hid (by omega)
  have hnb : n ≤ 1048576000001 := by omega
  have hb3s := hB3.size
  go_wp2_with (at_make; refine wpList_make_words _ rfl _ _ 23 rfl w1.heap.size 85 i0 (.int .u32 0) Try.underlying23 hi hz0 hz1 rfl .i64 .i64 _ _ n n rfl rfl rfl rfl (by omega) (by rw [hz2]; omega) (by unfold maxLen; omega) hb3s ?_; intro w4 hown4 hgrow4)
  rw [zeros_cells] at hown4
  have HQ4 : Hid (Own w4 w1.heap.size w3.heap.size n n (List.replicate n 0)) := Lib.hid ⟨hown4, okw_zeros n⟩
  have HO4 := Lib.hid (HO3.out.stay hgrow4)
  have hB4 : Below w1.heap.size w1 w4 := hB3.grown hgrow4 hb3s (fun k hk => by cases hk)
  have hg3 : g3 ≠ w3.heap.size := by have := HO3.out.base; omega
  generalize w3.heap.size = gq at *
  have hgqb : w1.heap.size ≤ gq := hb3s
  have HL4 := Lib.hid (long_start (A := A) (n := n) (m := K) (D := dg (vb * 2 ^ s)) (by have h1 := HAl.out; have h2 := HN.out; have h3 := HNn.out; omega) (by have h1 := HD.out.1; omega) HD.out.2)
  clear hown4 hgrow4 HO3 hB3 hb3s
  go_loopw [9] (fun iv wr => ∃ (k : Nat) (Q P : List Nat), k ≤ n ∧ iv = .int .i64 ((k : Int) - 1) ∧ Hid (LongAt A (dg (vb * 2 ^ s)) Q P k) ∧ Hid (Own wr w1.heap.size gq n n Q) ∧ Hid (Own wr w1.heap.size g3 N cap3 P) ∧ Below w1.heap.size w1 wr) (fun iv _ => (intOf iv + 1).toNat)
  case atStart => exact ⟨n, List.replicate n 0, dg A ++ [0], by omega, by go_num, HL4, HQ4, HO4, hB4⟩
  case round =>
    clear HQ4 HO4 hB4 HL4
    obtain ⟨k, Q, P, hk, rfl, HL, HQ, HO, hB⟩ := hrel
    cases k with
    | zero =>
      have Hfin := Lib.hid (long_end HL.out)
      have Hq : Hid (val Q = val la / vb) := Lib.hid (by rw [Hfin.out.1, HD2.out.2, HA.out, (shifted_div _ _ _).1])
      have Hr : Hid (val P / 2 ^ s = val la % vb) := Lib.hid (by rw [Hfin.out.2, HD2.out.2, HA.out, (shifted_div _ _ _).2])
      have HP := Lib.hid HO.out.wd
      clear Hfin HL
      go_wp2_with fail
      refine (natSaid.norm _ _ _ _ _ HQ.out.wd (by omega)).mono ?_
      rintro e w5 ⟨a5, n5, c5, rfl, h5, b5⟩
      rw [Hq.out] at h5
      have H5 := Lib.hid h5
      clear h5
      go_wp2_with fail
      refine (twos_down _ _ _ _ (s : Int) _ (HP.out.later b5) (by omega) (by omega)).mono ?_
      rintro e w6 ⟨a6, n6, c6, rfl, h6, b6⟩
      rw [Int.toNat_natCast, Hr.out] at h6
      have H6 := Lib.hid h6
      have H5b := Lib.hid (H5.out.later b6)
      clear h6
      go_wp2
      go_ret2
      exact ⟨a5, n5, c5, a6, n6, c6, rfl, H5b.out, H6.out, below_then hB1 (below_then hB (below_then b5 b6))⟩
    | succ k =>
      have e1 : ((k + 1 : Nat) : Int) - 1 = (k : Int) := by omega
      rw [e1]
      clear e1
      obtain ⟨t, ht⟩ : ∃ t : Nat, (k : Int) + (dn : Int) = (t : Int) := ⟨k + dn, by omega⟩
      obtain ⟨t1, ht1⟩ : ∃ t1 : Nat, (t : Int) + 1 = (t1 : Int) := ⟨t + 1, by omega⟩
      have htc : t1 ≤ cap3 := by have := HNn.out; omega
      have hkt : k ≤ t1 := by omega
      have hbq := HQ.out.base
      have hbo := HO.out.base
      have HLT : Hid (val P < 4294967296 ^ (k + 1) * val (dg (vb * 2 ^ s))) := Lib.hid HL.out.2.1
      go_wp2_with fail
      refine (quot_takeAway_at w1 _ g3 k N cap3 _ dn K _ dcap P _ d HO.out hB Hd.out hM2 (by omega) (by omega) (by have := HNn.out; omega) (by omega) (by omega) (by omega) (Lib.hid HD.out.2) HLT).mono ?_
      rintro e w5 ⟨P5, q, rfl, hq, HO5, hG5, HT5⟩
      have HQ5 := Lib.hid (HQ.out.other hG5 (Ne.symm hg3))
      have hcell := HQ5.out.cell (k := k) (by omega)
      have hfro := HQ5.out.1.frozenAt k
      generalize atw Q k = old at hcell
      have hB5 := grown_below hB hG5 hbo.1
      have HQ6 := Lib.hid (HQ5.out.set k q hq)
      have HO6 := Lib.hid (HO5.out.other (grown_cell w5 gq k (.int .u32 (q : Int))) hg3)
      have hB6 := Lib.hid (hB5.setCell (p := ⟨gq, k, none⟩) hbq.1 (.int .u32 (q : Int)))
      have HL6 := Lib.hid (long_step HL.out (by rw [HQ.out.len]; omega) HT5.out)
      clear hB5 HO5 HQ5 HT5 HL HLT hG5
      go_wp2
      go_roundw
      case rel => exact ⟨k, Q.set k q, P5, by omega, by go_num, HL6, HQ6, HO6, hB6.out⟩
      case measure => simp [intOf]
end Go.Proofs.Ytipcgehcineblaa

/-
  The contracts of package quot (layer 5) at this seat: Div, Exact.
-/
namespace Go.Proofs.Ytipcgehcineblaa
open Go.RowKit

/-- Two lists of words, and whether there are any. -/
def Two (p q : List Nat) (ok : Bool) (w : World) (e : Ending) (w' : World) : Prop :=
  ∃ (a : Option Addr) (n cap : Nat) (b : Option Addr) (m cap' : Nat), e = .returned (.tuple #[.slice a n cap, .slice b m cap', .bool ok]) ∧ Wd w' a n cap p ∧ Wd w' b m cap' q ∧ Below w.heap.size w w'
theorem dg_one {v : Nat} (h : (dg v).length = 1) : atw (dg v) 0 = v := by
  have h1 := val_two (l := dg v) (by omega)
  rw [val_dg, atw_ge (l := dg v) (i := 1) (by omega)] at h1
  omega
theorem quot_div_none (a : Option Addr) (n cap : Nat) (b : Option Addr) (m cap' : Nat) (lb : List Nat) (w : World) (hb : Wd w b m cap' lb) (hm : m ≤ 524288000000) (h0 : Hid (val lb = 0)) :
    Calls Try.prog 70 #[.slice a n cap, .slice b m cap'] w (Two [] [] false w) := by
  go_enter Try.func70, Try.ntmps70
  go_wp2_with fail
  refine (natSaid.norm _ _ _ _ _ hb (by omega)).mono ?_
  rintro e w1 ⟨b1, M, c1, rfl, h1, hB1⟩
  rw [h0.out, dg_zero] at h1
  obtain rfl : M = 0 := h1.len.symm
  go_wp2
  go_ret3
  exact ⟨_, _, _, _, _, _, rfl, Wd.ofNil _, Wd.ofNil _, hB1⟩
set_option maxRecDepth 4096 in
set_option maxHeartbeats 2000000 in
theorem quot_div (a : Option Addr) (n cap : Nat) (la : List Nat) (b : Option Addr) (m cap' : Nat) (lb : List Nat) (w : World) (ha : Wd w a n cap la) (hb : Wd w b m cap' lb) (hn : n ≤ 524288000000) (hm : m ≤ 524288000000) (h0 : Hid (val lb ≠ 0)) :
    Calls Try.prog 70 #[.slice a n cap, .slice b m cap'] w (Two (dg (val la / val lb)) (dg (val la % val lb)) true w) := by
  have hM : (dg (val lb)).length ≤ m := hb.trim_le
  have Ha := Lib.hid ha
  clear ha
  go_enter Try.func70, Try.ntmps70
  go_wp2_with fail
  refine (natSaid.norm _ _ _ _ _ hb (by omega)).mono ?_
  rintro e w1 ⟨b1, M, c1, rfl, h1, hB1⟩
  have HM : Hid ((dg (val lb)).length = M) := Lib.hid h1.len
  have hMn : M ≤ 524288000000 := by have := HM.out; omega
  have hM0 : M ≠ 0 := fun h => h0.out (dg_nil_iff.1 (HM.out.trans h))
  have hMb : ((M : Int) == 0) = false := by simp [hM0]
  have H1 := Lib.hid h1
  have Ha1 := Lib.hid (Ha.out.later hB1)
  generalize hvb : val lb = vb at *
  clear h1 hb hM Ha hvb
  have Hv : Hid (val (dg vb) = vb) := Lib.hid (val_dg _)
  go_wp2_with fail
  refine (natSaid.cmp _ _ _ _ _ _ _ _ _ Ha1.out H1.out (by omega) (by omega)).mono ?_
  rintro e w2 ⟨rfl, hB2⟩
  rw [Hv.out]
  have Ha2 := Lib.hid (Ha1.out.later hB2)
  have H2 := Lib.hid (H1.out.later hB2)
  have hB12 := below_then hB1 hB2
  clear H1 Ha1 hB1 hB2
  by_cases hlt : val la < vb
  · have hc : cmpI (val la) vb < 0 := by rw [cmpI_lt hlt]; omega
    have Hq : Hid (val la / vb = 0 ∧ val la % vb = val la) := Lib.hid ⟨Nat.div_eq_of_lt hlt, Nat.mod_eq_of_lt hlt⟩
    clear hlt
    generalize cmpI (val la) vb = c at *
    go_wp2_with fail
    refine (natSaid.norm _ _ _ _ _ Ha2.out (by omega)).mono ?_
    rintro e w3 ⟨a3, n3, c3, rfl, h3, hB3⟩
    have H3 := Lib.hid h3
    clear h3
    go_wp2
    go_ret3
    exact ⟨_, _, _, _, _, _, rfl, by rw [Hq.out.1, dg_zero]; exact Wd.ofNil _, by rw [Hq.out.2]; exact H3.out, below_then hB12 hB3⟩
  · have hc : ¬ cmpI (val la) vb < 0 := by unfold cmpI; split <;> (try split) <;> omega
    have Hle : Hid (vb ≤ val la) := Lib.hid (by omega)
    clear hlt
    generalize cmpI (val la) vb = c at *
    by_cases hM1 : M = 1
    · subst hM1
      obtain ⟨bb, ob, rfl, hcb⟩ := H2.out.at (by omega)
      have hcb0 := hcb 0 (by omega)
      rw [dg_one HM.out, Nat.add_zero] at hcb0
      have hvw : vb < 4294967296 := by have := lt_dg_length vb; rw [HM.out] at this; simpa using this
      have hv0 : 0 < vb := Nat.pos_of_ne_zero h0.out
      clear hcb
      go_wp2_with fail
      refine (quot_word _ _ _ _ vb _ Ha2.out (by omega) hvw hv0).mono ?_
      rintro e w3 ⟨a3, n3, c3, rfl, h3, hB3⟩
      have hrw : val la % vb < 4294967296 := Nat.lt_trans (Nat.mod_lt _ hv0) hvw
      have H3 := Lib.hid h3
      obtain ⟨r, hr⟩ : ∃ r, r = val la % vb := ⟨_, rfl⟩
      rw [← hr] at hrw ⊢
      have Hr := Lib.hid hr
      clear h3 hr
      go_wp2_with fail
      refine (natSaid.of r _ (by omega)).mono ?_
      rintro e w4 ⟨a4, n4, c4, rfl, h4, hB4⟩
      have H4 := Lib.hid h4
      have H3b := Lib.hid (H3.out.later hB4)
      clear h4
      go_wp2
      go_ret3
      exact ⟨_, _, _, _, _, _, rfl, H3b.out, by rw [← Hr.out]; exact H4.out, below_then hB12 (below_then hB3 hB4)⟩
    · have hMc : ((M : Int) == 1) = false := by simp; omega
      go_wp2_with fail
      refine (quot_long _ _ _ _ _ _ _ vb _ Ha2.out H2.out (by omega) (by omega) (by omega) Hle).mono ?_
      rintro e w3 ⟨a3, n3, c3, b3, m3, d3, rfl, h3, k3, hB3⟩
      have H3 := Lib.hid h3
      have K3 := Lib.hid k3
      clear h3 k3
      go_wp2
      go_ret3
      exact ⟨_, _, _, _, _, _, rfl, H3.out, K3.out, below_then hB12 hB3⟩
theorem quot_exact_none (a : Option Addr) (n cap : Nat) (b : Option Addr) (m cap' : Nat) (lb : List Nat) (w : World) (hb : Wd w b m cap' lb) (hm : m ≤ 524288000000) (h0 : Hid (val lb = 0)) :
    Calls Try.prog 56 #[.slice a n cap, .slice b m cap'] w (Lst2 [] (.bool false) w) := by
  go_enter Try.func56, Try.ntmps56
  go_wp2_with fail
  refine (quot_div_none _ _ _ _ _ _ _ _ hb hm h0).mono ?_
  rintro e w1 ⟨a1, n1, c1, b1, m1, d1, rfl, h1, k1, hB1⟩
  go_wp2
  go_ret2
  exact ⟨_, _, _, rfl, Wd.ofNil _, hB1⟩
/-- Whether there is no rest; the quotient, if there is none. -/
def exactB (v x : Nat) : Bool := decide (v % x = 0)
def exactL (v x : Nat) : List Nat := if v % x = 0 then dg (v / x) else []
theorem quot_exact (a : Option Addr) (n cap : Nat) (la : List Nat) (b : Option Addr) (m cap' : Nat) (lb : List Nat) (w : World) (ha : Wd w a n cap la) (hb : Wd w b m cap' lb) (hn : n ≤ 524288000000) (hm : m ≤ 524288000000) (h0 : Hid (val lb ≠ 0)) :
    Calls Try.prog 56 #[.slice a n cap, .slice b m cap'] w (Lst2 (exactL (val la) (val lb)) (.bool (exactB (val la) (val lb))) w) := by
  have hlen : (dg (val la % val lb)).length ≤ m := by
    rw [← hb.len]
    exact Nat.le_trans (dg_length_mono (Nat.le_of_lt (Nat.mod_lt _ (Nat.pos_of_ne_zero h0.out)))) (dg_length_val_le hb.ok)
  go_enter Try.func56, Try.ntmps56
  go_wp2_with fail
  refine (quot_div _ _ _ _ _ _ _ _ _ ha hb hn hm h0).mono ?_
  rintro e w1 ⟨a1, n1, c1, b1, m1, d1, rfl, h1, k1, hB1⟩
  have hm1 : m1 ≤ 524288000000 := by rw [← k1.len]; omega
  have H1 := Lib.hid h1
  have K1 := Lib.hid k1
  clear h1 k1 ha hb hlen
  have Hv : Hid (val (dg (val la % val lb)) = val la % val lb) := Lib.hid (val_dg _)
  have HL : Hid (exactL (val la) (val lb) = if val la % val lb = 0 then dg (val la / val lb) else []) := Lib.hid rfl
  have HB : Hid (exactB (val la) (val lb) = decide (val la % val lb = 0)) := Lib.hid rfl
  go_wp2_with fail
  refine (natSaid.zero _ _ _ _ _ K1.out (by omega)).mono ?_
  rintro e w2 ⟨rfl, hB2⟩
  rw [Hv.out]
  have H2 := Lib.hid (H1.out.later hB2)
  by_cases hz : val la % val lb = 0
  · rw [hz] at HL HB ⊢
    have HL2 : Hid (exactL (val la) (val lb) = dg (val la / val lb)) := Lib.hid HL.out
    clear hz HL
    go_wp2
    go_ret2
    exact ⟨_, _, _, by rw [HB.out]; rfl, by rw [HL2.out]; exact H2.out, below_then hB1 hB2⟩
  · have HL2 : Hid (exactL (val la) (val lb) = []) := Lib.hid (by rw [HL.out, if_neg hz])
    have hd : decide (val la % val lb = 0) = false := decide_eq_false hz
    rw [hd]
    rw [hd] at HB
    clear hz hd HL
    go_wp2
    go_ret2
    exact ⟨_, _, _, by rw [HB.out]; rfl, by rw [HL2.out]; exact Wd.ofNil _, below_then hB1 hB2⟩
end Go.Proofs.Ytipcgehcineblaa

/-
  The contracts of the document's answer for layer 5: Double, Less.
-/
namespace Go.Proofs.Ytipcgehcineblaa
open Go.RowKit

end Go.Proofs.Ytipcgehcineblaa

/-
  The contracts of the document's answer for layer 3.
-/
namespace Go.Proofs.Ytipcgehcineblaa
open Go.RowKit

end Go.Proofs.Ytipcgehcineblaa

/-
  The contracts of the document's answer for layer 5: Div.
-/
namespace Go.Proofs.Ytipcgehcineblaa
open Go.RowKit

end Go.Proofs.Ytipcgehcineblaa

/-
  The contracts of the document's answer for layer 8: Floor.
-/
namespace Go.Proofs.Ytipcgehcineblaa
open Go.RowKit

end Go.Proofs.Ytipcgehcineblaa

/-
  Package whole at this seat: Floor.
-/
namespace Go.Proofs.Ytipcgehcineblaa
open Go.RowKit

end Go.Proofs.Ytipcgehcineblaa

/-
  Package whole at this seat: Floor, of numbers with one sign.
-/
namespace Go.Proofs.Ytipcgehcineblaa
open Go.RowKit

end Go.Proofs.Ytipcgehcineblaa

/-
  Package whole at this seat: Floor, of numbers with two signs, where nothing is left.
-/
namespace Go.Proofs.Ytipcgehcineblaa
open Go.RowKit

end Go.Proofs.Ytipcgehcineblaa

/-
  Package whole at this seat: Floor, of numbers with two signs, where something is left.
-/
namespace Go.Proofs.Ytipcgehcineblaa
open Go.RowKit

end Go.Proofs.Ytipcgehcineblaa

/-
  Package whole at this seat: what strings.CutPrefix does with a minus ahead.
-/
namespace Go.Proofs.Ytipcgehcineblaa
open Go.RowKit

end Go.Proofs.Ytipcgehcineblaa

/-
  Plain mathematics: decimal digits in groups of nine. Nothing of the program.
-/
namespace Go.Proofs.Ytipcgehcineblaa

end Go.Proofs.Ytipcgehcineblaa

/-
  Numerals by the library (strconv.AppendUint, FormatUint at base 10) at this seat, out of the shelf's contracts.
-/
namespace Go.Proofs.Ytipcgehcineblaa
open Go.RowKit

end Go.Proofs.Ytipcgehcineblaa

/-
  The public strconv.AppendUint and FormatUint at base 10.
-/
namespace Go.Proofs.Ytipcgehcineblaa
open Go.RowKit

end Go.Proofs.Ytipcgehcineblaa

/-
  Package digits at this seat: full, groups.
-/
namespace Go.Proofs.Ytipcgehcineblaa
open Go.RowKit

end Go.Proofs.Ytipcgehcineblaa

/-
  Package digits at this seat: Text, Len.
-/
namespace Go.Proofs.Ytipcgehcineblaa
open Go.RowKit

end Go.Proofs.Ytipcgehcineblaa

/-
  The contracts of package prod (layer 4) at this seat: Word, All.
-/
namespace Go.Proofs.Ytipcgehcineblaa
open Go.RowKit

theorem Wds.take {w : World} {a : Option Addr} {n cap : Nat} {ls : List (List Nat)} (h : Wds w a n cap ls) {k : Nat} (hk : k ≤ n) : Wds w a k cap (ls.take k) := by
  obtain ⟨h1, h2, h3, h4, h5⟩ := h
  refine ⟨by rw [List.length_take]; omega, by omega, h3, h4, ?_⟩
  rcases h5 with h0 | ⟨b, off, e, hc⟩
  · exact .inl (by omega)
  · refine .inr ⟨b, off, e, fun j hj => ?_⟩
    obtain ⟨a', n', c', h6, h7⟩ := hc j (by omega)
    refine ⟨a', n', c', h6, ?_⟩
    rwa [List.getD_eq_getElem?_getD, List.getElem?_take, if_pos hj, ← List.getD_eq_getElem?_getD]
theorem Wds.drop {w : World} {b off m cap q : Nat} {ls : List (List Nat)} (h : Wds w (some ⟨b, off, none⟩) (q + m) cap ls) : Wds w (some ⟨b, off + q, none⟩) m (cap - q) (ls.drop q) := by
  have h1 := h.bound
  have h2 := h.len
  refine ⟨by rw [List.length_drop]; omega, by omega, by omega, fun e => (by cases e), ?_⟩
  rcases h.2.2.2.2 with h0 | ⟨b', off', e, hc⟩
  · exact .inl (by omega)
  · simp only [Option.some.injEq, Addr.mk.injEq, and_true] at e
    obtain ⟨rfl, rfl⟩ := e
    refine .inr ⟨b, off + q, rfl, fun j hj => ?_⟩
    obtain ⟨a', n', c', h6, h7⟩ := hc (q + j) (by omega)
    exact ⟨a', n', c', by rw [Nat.add_assoc]; exact h6, by rwa [List.getD_eq_getElem?_getD, List.getElem?_drop, ← List.getD_eq_getElem?_getD]⟩

set_option maxRecDepth 4096 in
set_option maxHeartbeats 1000000 in
theorem prod_word (a : Option Addr) (n cap : Nat) (l : List Nat) (x c0 : Nat) (w : World) (h : Wd w a n cap l) (hn : n ≤ 4194304000000) (hx : x < 4294967296) (hc0 : c0 < 4294967296) :
    Calls Try.prog 87 #[.slice a n cap, .int .u32 (x : Int), .int .u32 (c0 : Int)] w (Lst (dg (val l * x + c0)) w) := by
  obtain ⟨i0, hi, hz0, hz1, hz2⟩ := info_parts infoU32
  have H := Lib.hid h
  clear h
  go_enter Try.func87, Try.ntmps87
  go_wp2_with (at_make; refine wpList_make_words _ rfl _ _ 23 rfl w.heap.size 85 i0 (.int .u32 0) Try.underlying23 hi hz0 hz1 rfl .i64 .i64 _ _ 0 (n + 1) rfl rfl (by omega) (by omega) (by omega) (by rw [hz2]; omega) (by unfold maxLen; omega) (Nat.le_refl _) ?_; intro w1 hown1 hgrow1)
  rw [zeros_cells] at hown1
  have HO1 : Hid (Own w1 w.heap.size w.heap.size 0 (n + 1) []) := Lib.hid ⟨hown1, okw_nil⟩
  have hB1 : Below w.heap.size w w1 := (Below.refl _ _).grown hgrow1 (Nat.le_refl _) (fun k hk => by cases hk)
  clear hown1 hgrow1
  go_loopw [7, 8, 19] (fun s cv i wr => ∃ (j c g cap2 : Nat) (o : List Nat), j ≤ n ∧ i = .int .i64 (j : Int) ∧ cv = .int .u32 (c : Int) ∧ c < 4294967296 ∧ s = .slice (some ⟨g, 0, none⟩) j cap2 ∧ Hid (o.length = j) ∧ Hid (val o + 4294967296 ^ j * c = low l j * x + c0) ∧ Hid (Own wr w.heap.size g j cap2 o) ∧ Below w.heap.size w wr) (fun _ _ i _ => n - (intOf i).toNat)
  case atStart => exact ⟨0, c0, _, _, [], by omega, rfl, rfl, hc0, rfl, Lib.hid rfl, Lib.hid (by rw [low_zero]; simp [val]), HO1, hB1⟩
  case round =>
    clear HO1 hB1
    obtain ⟨j, c, g, cap2, o, hj, rfl, rfl, hc, rfl, Hol, Hv, HO, hB⟩ := hrel
    have hbase : w.heap.size ≤ wr.heap.size := hB.size
    by_cases hlt : j < n
    · obtain ⟨b, off, rfl, hcl⟩ := (H.out.later hB).at (by omega)
      have hck := hcl j hlt
      have hyw := atw_lt H.out.ok j
      obtain ⟨y, hyy⟩ : ∃ y, y = atw l j := ⟨_, rfl⟩
      rw [← hyy] at hyw hck
      have Hy := Lib.hid hyy
      have hj1 : (j : Int) < (n : Int) := by omega
      clear hcl hyy
      go_wp2_with fail
      refine (limb_mul_nat3 y x c _ hyw hx hc).mono ?_
      rintro e w' ⟨c2, z, rfl, hc2, hz, Hs, rfl⟩
      go_wp2_with (at_builtin; refine wpList_append_own _ rfl _ _ 23 rfl w.heap.size 85 i0 (.int .u32 0) 1 4 Try.underlying23 hi hz0 hz1 hz2 rfl (by decide) _ j _ rfl (HO.out.1.alloc _) ⟨wr.heap.size, 0, none⟩ 1 1 (wcells [z]) rfl rfl (Wd.lit1 wr 85 (x := z) hz).cells (wcells_one _) (by unfold maxLen; omega) (by omega) (by simp; omega) ?_)
      intro v' w2 hown hgrow _
      obtain ⟨g2, cap3, rfl, HO2⟩ := Own.push (r := z) hown HO.out.2 hz
      have HO' := Lib.hid HO2
      have hb := HO.out.base
      have hB1 : Below w.heap.size w w2 := (hB.alloc hbase _).grown hgrow (by simp; omega) (by intro k hk; simp [Value.ownBlock] at hk; omega)
      clear HO2 hown hgrow
      go_wp2
      go_roundw
      case rel => exact ⟨j + 1, c2, g2, cap3, o ++ [z], by omega, by go_num, rfl, hc2, rfl, Lib.hid (by have := Hol.out; simp; omega), Lib.hid (word_step Hol.out Hv.out (by rw [← Hy.out]; exact Hs.out)), HO', hB1⟩
      case measure => simp [intOf]; omega
    · obtain rfl : j = n := by omega
      have Hv2 : Hid (val (o ++ [c]) = val l * x + c0) := Lib.hid (by rw [val_snoc, Hol.out, Hv.out, low_ge (by rw [H.out.len]; omega)])
      clear hlt Hv
      go_wp2_with (at_builtin; refine wpList_append_own _ rfl _ _ 23 rfl w.heap.size 85 i0 (.int .u32 0) 1 4 Try.underlying23 hi hz0 hz1 hz2 rfl (by decide) _ j _ rfl (HO.out.1.alloc _) ⟨_, 0, none⟩ 1 1 (wcells [c]) rfl rfl (Wd.lit1 _ 85 (x := c) hc).cells (wcells_one _) (by unfold maxLen; omega) (by omega) (by simp; omega) ?_)
      intro v' w2 hown hgrow _
      obtain ⟨g2, cap3, rfl, HO2⟩ := Own.push (r := c) hown HO.out.2 hc
      have HO' := Lib.hid HO2
      have hb := HO.out.base
      have hB1 : Below w.heap.size w w2 := (hB.alloc hbase _).grown hgrow (by simp; omega) (by intro k hk; simp [Value.ownBlock] at hk; omega)
      clear HO2 hown hgrow
      go_wp2_with fail
      refine (natSaid.norm _ _ _ _ _ HO'.out.wd (by omega)).mono ?_
      rintro e w' ⟨a', n', c', rfl, hwd, hbel⟩
      rw [Hv2.out] at hwd
      have HWD := Lib.hid hwd
      clear hwd
      go_wp2
      go_ret
      exact ⟨_, _, _, rfl, HWD.out, below_then hB1 hbel⟩
end Go.Proofs.Ytipcgehcineblaa

/-
  Package digits at this seat: wrongAt, Read.
-/
namespace Go.Proofs.Ytipcgehcineblaa
open Go.RowKit

end Go.Proofs.Ytipcgehcineblaa

/-
  Package whole at this seat: Read.
-/
namespace Go.Proofs.Ytipcgehcineblaa
open Go.RowKit

end Go.Proofs.Ytipcgehcineblaa

/-
  What package digits' functions owe, proved.
-/
namespace Go.Proofs.Ytipcgehcineblaa
open Go.RowKit

end Go.Proofs.Ytipcgehcineblaa

/-
  What package whole's functions owe, proved.
-/
namespace Go.Proofs.Ytipcgehcineblaa
open Go.RowKit

end Go.Proofs.Ytipcgehcineblaa

/-
  What package common's functions owe (layer 6), as one hypothesis: the contracts that the laws' walks lean on.
-/
namespace Go.Proofs.Ytipcgehcineblaa
open Go.RowKit

/-- Two lists of words come back. -/
def Pair2 (p q : List Nat) (w : World) (e : Ending) (w' : World) : Prop :=
  ∃ (a : Option Addr) (n cap : Nat) (b : Option Addr) (m cap' : Nat), e = .returned (.tuple #[.slice a n cap, .slice b m cap']) ∧ Wd w' a n cap p ∧ Wd w' b m cap' q ∧ Below w.heap.size w w'
structure CommonSaid : Prop where
  gcd : ∀ (a : Option Addr) (n cap : Nat) (la : List Nat) (b : Option Addr) (m cap' : Nat) (lb : List Nat) (w : World), Wd w a n cap la → Wd w b m cap' lb → n ≤ 1000 → m ≤ 1000 →
    Calls Try.prog 55 #[.slice a n cap, .slice b m cap'] w (Lst (dg (Nat.gcd (val la) (val lb))) w)
  cancel : ∀ (a : Option Addr) (n cap : Nat) (la : List Nat) (b : Option Addr) (m cap' : Nat) (lb : List Nat) (w : World), Wd w a n cap la → Wd w b m cap' lb → n ≤ 1000 → m ≤ 1000 →
    Calls Try.prog 33 #[.slice a n cap, .slice b m cap'] w (Pair2 (dg (val la / Nat.gcd (val la) (val lb))) (dg (val lb / Nat.gcd (val la) (val lb))) w)
end Go.Proofs.Ytipcgehcineblaa
