/-
  The contracts of package nat (layer 2) at this seat: comparing, reading as a number, the longest of some.
-/
import Derived.Test.YtdhfnlpolelcpaaNat
namespace Go.Proofs.Ytdhfnlpolelcpaa
open Go.RowKit

theorem or_low {hi lo : Int} (h0 : 0 ≤ hi) (h : hi ≤ 4294967295) (hl0 : 0 ≤ lo) (hl : lo ≤ 4294967295) : bits .or .u64 lo (hi * 4294967296) = lo + hi * 4294967296 := by
  have e := or_words h0 h hl0 hl
  have c : bits .or .u64 lo (hi * 4294967296) = bits .or .u64 (hi * 4294967296) lo := by
    show IntKind.u64.wrap ((BitVec.ofInt 64 lo ||| BitVec.ofInt 64 (hi * 4294967296)).toNat : Int) = IntKind.u64.wrap ((BitVec.ofInt 64 (hi * 4294967296) ||| BitVec.ofInt 64 lo).toNat : Int)
    rw [BitVec.or_comm]
  rw [c, e, Int.add_comm]
theorem or_none {x : Int} (h0 : 0 ≤ x) (h : x ≤ 4294967295) : bits .or .u64 0 x = x := by
  have e := or_words (hi := 0) (lo := x) (by omega) (by omega) h0 h
  simpa using e

set_option maxRecDepth 4096 in
set_option maxHeartbeats 1000000 in
theorem nat_cmp (a : Option Addr) (n cap : Nat) (la : List Nat) (b : Option Addr) (m cap' : Nat) (lb : List Nat) (w : World) (ha : Wd w a n cap la) (hb : Wd w b m cap' lb) :
    Calls Try.prog 31 #[.slice a n cap, .slice b m cap'] w (Gives (.int .i64 (cmpI (val la) (val lb))) w) := by
  obtain ⟨hb1, hb2⟩ := ha.bound
  obtain ⟨hb3, hb4⟩ := hb.bound
  have Ha := Lib.hid ha
  have Hb := Lib.hid hb
  clear ha hb
  go_enter Try.func31, Try.ntmps31
  go_wp2_with fail
  refine (nat_trim _ _ _ _ _ Ha.out).mono ?_
  rintro e w' ⟨p, rfl, Hp, hp, HA, rfl⟩
  go_wp2_with fail
  refine (nat_trim _ _ _ _ _ Hb.out).mono ?_
  rintro e w' ⟨q, rfl, Hq, hq, HB, rfl⟩
  by_cases hpq : p = q
  · have Hpq := Lib.hid hpq
    subst hpq
    go_wp2
    go_loopw [5] (fun i wr => ∃ k r : Nat, k ≤ p ∧ i = .int .i64 ((k : Int) - 1) ∧ wr = w.drewN r ∧ Hid (top (dg (val la)) k = top (dg (val lb)) k)) (fun i _ => (intOf i + 1).toNat)
    case atStart => exact ⟨p, 0, by omega, by go_num, rfl, Lib.hid (by rw [top_ge (by rw [← Hp.out]; omega), top_ge (by rw [← Hq.out]; omega)])⟩
    case round =>
      obtain ⟨k, r, hk, rfl, rfl, Ht⟩ := hrel
      cases k with
      | zero =>
        have hv : val la = val lb := by have := Ht.out; rw [top_zero, top_zero, val_dg, val_dg] at this; exact this
        have Hfin := Lib.hid (cmpI_eq hv)
        clear hv
        go_wp2
        go_ret
        exact ⟨ret_i64 Hfin.out.symm, below_draws _ _⟩
      | succ k =>
        have e1 : ((k + 1 : Nat) : Int) - 1 = (k : Int) := by omega
        rw [e1]
        clear e1
        obtain ⟨ba, oa, rfl, hca⟩ := HA.out.at (by omega)
        obtain ⟨bb, ob, rfl, hcb⟩ := HB.out.at (by omega)
        have hcak := hca k (by omega)
        have hcbk := hcb k (by omega)
        clear hca hcb
        have hxa := atw_lt (okw_dg (val la)) k
        have hxb := atw_lt (okw_dg (val lb)) k
        obtain ⟨x, hx⟩ : ∃ x, x = atw (dg (val la)) k := ⟨_, rfl⟩
        obtain ⟨y, hy⟩ : ∃ y, y = atw (dg (val lb)) k := ⟨_, rfl⟩
        rw [← hx] at hxa hcak
        rw [← hy] at hxb hcbk
        have Hx := Lib.hid hx
        have Hy := Lib.hid hy
        clear hx hy
        rcases Nat.lt_trichotomy x y with hxy | hxy | hxy
        · have h1 : ((x : Int) != (y : Int)) = true := by simp; omega
          have h2 : decide (x < y) = true := by simp; omega
          have Hfin := Lib.hid (cmpI_lt (cmp_lt (okw_dg _) Ht.out (by rw [← Hx.out, ← Hy.out]; exact hxy)))
          rw [val_dg, val_dg] at Hfin
          clear hxy
          go_wp2
          go_quiet (fail)
          go_wp2
          go_quiet ((go_at_call 43; exact quiet_here (nat_sign_yes _) ⟨_, rfl⟩))
          go_wp2
          go_ret
          exact ⟨ret_i64 Hfin.out.symm, by simp only [World.drewN_drewN]; exact below_draws _ _⟩
        · have h1 : ((x : Int) != (y : Int)) = false := by simp; omega
          have Hxy := Lib.hid hxy
          clear hxy
          go_wp2
          go_quiet (fail)
          go_wp2
          go_roundw
          case rel => exact ⟨k, _, by omega, by go_num, rfl, Lib.hid (top_eq Ht.out (by rw [← Hx.out, ← Hy.out]; exact Hxy.out))⟩
          case measure => simp [intOf]
        · have h1 : ((x : Int) != (y : Int)) = true := by simp; omega
          have h2 : decide (x < y) = false := by simp; omega
          have Hfin := Lib.hid (cmpI_gt (cmp_lt (okw_dg _) Ht.out.symm (by rw [← Hx.out, ← Hy.out]; exact hxy)))
          rw [val_dg, val_dg] at Hfin
          clear hxy
          go_wp2
          go_quiet (fail)
          go_wp2
          go_quiet ((go_at_call 43; exact quiet_here (nat_sign_no _) ⟨_, rfl⟩))
          go_wp2
          go_ret
          exact ⟨ret_i64 Hfin.out.symm, by simp only [World.drewN_drewN]; exact below_draws _ _⟩
  · have h1 : ((p : Int) != (q : Int)) = true := by simp; omega
    by_cases hlt : p < q
    · have h2 : decide (p < q) = true := by simp; omega
      have Hfin := Lib.hid (cmpI_lt (lt_of_dg_length (a := val la) (b := val lb) (by rw [← Hp.out, ← Hq.out]; exact hlt)))
      clear hpq hlt
      go_wp2_with fail
      refine (nat_sign_yes _).mono ?_
      rintro e w' ⟨rfl, rfl⟩
      go_wp2
      go_ret
      exact ⟨ret_i64 Hfin.out.symm, Below.refl _ _⟩
    · have h2 : decide (p < q) = false := by simp; omega
      have Hfin := Lib.hid (cmpI_gt (lt_of_dg_length (a := val lb) (b := val la) (by rw [← Hp.out, ← Hq.out]; omega)))
      clear hpq hlt
      go_wp2_with fail
      refine (nat_sign_no _).mono ?_
      rintro e w' ⟨rfl, rfl⟩
      go_wp2
      go_ret
      exact ⟨ret_i64 Hfin.out.symm, Below.refl _ _⟩
end Go.Proofs.Ytdhfnlpolelcpaa
