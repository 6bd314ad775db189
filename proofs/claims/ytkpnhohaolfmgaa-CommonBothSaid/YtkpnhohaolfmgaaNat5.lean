/-
  The contracts of package nat (layer 2) at this seat: Add, less, Sub, Gap.
-/
import Derived.Test.YtkpnhohaolfmgaaNat4
namespace Go.Proofs.Ytkpnhohaolfmgaa
open Go.RowKit

set_option maxHeartbeats 4000000 in
theorem nat_less (a : Option Addr) (n cap : Nat) (la : List Nat) (b : Option Addr) (m cap' : Nat) (lb : List Nat) (w : World) (ha : Wd w a n cap la) (hb : Wd w b m cap' lb) (hn : n ≤ 16777214) (hle : Hid (val lb ≤ val la)) :
    Calls Try.prog 59 #[.slice a n cap, .slice b m cap'] w (Lst (dg (val la - val lb)) w) := by
  obtain ⟨hb1, hb2⟩ := ha.bound
  obtain ⟨hb3, hb4⟩ := hb.bound
  have Ha := Lib.hid ha
  have Hb := Lib.hid hb
  clear ha hb
  go_enter Try.func59, Try.ntmps59
  go_wp2_with fail
  refine (nat_trim _ _ _ _ _ Ha.out).mono ?_
  rintro e w' ⟨p, rfl, Hp, hp, HA, rfl⟩
  go_wp2_with fail
  refine (nat_trim _ _ _ _ _ Hb.out).mono ?_
  rintro e w' ⟨q, rfl, Hq, hq, HB, rfl⟩
  have hqp : q ≤ p := by rw [Hp.out, Hq.out]; exact dg_length_mono hle.out
  go_wp2_with fail
  refine (nat_norm _ _ _ _ _ HA.out (by omega)).mono ?_
  rintro e w1 ⟨g, r, rfl, Hr, Hown, hB1⟩
  rw [val_dg] at Hr Hown
  have HO : Hid (Own w1 w.heap.size g r r (dg (val la))) := Lib.hid ⟨Hown.out, okw_dg _⟩
  have hrp : r = p := by rw [Hr.out, Hp.out]
  clear Hown Hr
  subst hrp
  have hx : Hid (okw (dg (val la)) ∧ (dg (val la)).length = r ∧ val (dg (val la)) = val la) := Lib.hid ⟨okw_dg _, Hp.out.symm, val_dg _⟩
  have hy : Hid (okw (dg (val lb)) ∧ (dg (val lb)).length = q ∧ val (dg (val lb)) = val lb) := Lib.hid ⟨okw_dg _, Hq.out.symm, val_dg _⟩
  clear Ha HA Hb Hp Hq
  generalize dg (val la) = x at *
  generalize dg (val lb) = y at *
  go_wp2
  go_loopw [6, 18] (fun cv iv w2 => ∃ (k c : Nat) (o : List Nat), k ≤ q ∧ iv = .int .i64 k ∧ cv = .int .u32 (c : Int) ∧ c ≤ 1 ∧ Hid (o.length = k) ∧ Hid (low x k + 4294967296 ^ k * c = low y k + val o) ∧ Hid (Own w2 w.heap.size g r r (o ++ x.drop k)) ∧ Below w.heap.size w w2) (fun _ iv _ => q - (intOf iv).toNat)
  case atStart => exact ⟨0, 0, [], by omega, rfl, rfl, by omega, Lib.hid rfl, Lib.hid (by rw [low_zero, low_zero]; rfl), Lib.hid (by simpa using HO.out), hB1⟩
  case round =>
    clear HO hB1
    obtain ⟨k, c, o, hk, rfl, rfl, hc, Hol, Hv, HO, hB2⟩ := hrel
    by_cases hlt : k < q
    · obtain ⟨bb, ob, rfl, hcb⟩ := (HB.out.later hB2).at (by omega)
      have hcbk := hcb k hlt
      have hcell := HO.out.cell (k := k) (by omega)
      rw [atw_over _ _ _ Hol.out] at hcell
      have hfro := HO.out.1.frozenAt k
      have hyl := atw_lt hy.out.1 k
      have hxl := atw_lt hx.out.1 k
      obtain ⟨xk, hxk⟩ : ∃ xk, xk = atw x k := ⟨_, rfl⟩
      obtain ⟨yk, hyk⟩ : ∃ yk, yk = atw y k := ⟨_, rfl⟩
      rw [← hxk] at hxl hcell
      rw [← hyk] at hyl hcbk
      have Hxk := Lib.hid hxk
      have Hyk := Lib.hid hyk
      have hk1 : (k : Int) < (r : Int) := by omega
      have hb := HO.out.base
      clear hxk hyk hcb
      go_wp2_with (go_at_call 64; (with_reducible refine (limb_sub_nat xk yk c _ (by omega) (by omega) (by omega)).mono ?_); rintro e w' ⟨s, z, rfl, hz, hs, Hs, rfl⟩)
      go_roundw
      case rel => exact ⟨k + 1, z, o ++ [s], by omega, by go_num, rfl, hz, Lib.hid (by have := Hol.out; simp; omega), Lib.hid (sub_step Hol.out Hv.out (by rw [← Hxk.out, ← Hyk.out]; exact Hs.out)), Lib.hid (by have h := HO.out.set k s hs; rwa [set_over o x k s Hol.out (by rw [hx.out.2.1]; omega)] at h), hB2.setCell hb.1 _⟩
      case measure => simp [intOf]; omega
    · obtain rfl : k = q := by omega
      go_wp2
      go_loopw [6, 9] (fun cv iv w3 => ∃ (t c : Nat) (o : List Nat), k ≤ t ∧ t ≤ r ∧ iv = .int .i64 t ∧ cv = .int .u32 (c : Int) ∧ c ≤ 1 ∧ Hid (o.length = t) ∧ Hid (low x t + 4294967296 ^ t * c = low y t + val o) ∧ Hid (Own w3 w.heap.size g r r (o ++ x.drop t)) ∧ Below w.heap.size w w3) (fun _ iv _ => r - (intOf iv).toNat)
      case atStart => exact ⟨k, c, o, by omega, by omega, rfl, rfl, hc, Hol, Hv, HO, hB2⟩
      case round =>
        clear HO hB2 Hv Hol hc
        obtain ⟨t, c, o, hkt, htn, rfl, rfl, hc, Hol, Hv, HO, hB2⟩ := hrel
        by_cases hc0 : c = 0
        · subst hc0
          have hfin : val (o ++ x.drop t) = val la - val lb := by
            have := sub_stop (la := x) (lb := y) Hol.out (by rw [hy.out.2.1]; exact hkt) (by simpa using Hv.out)
            rw [hx.out.2.2, hy.out.2.2] at this
            omega
          have Hfin := Lib.hid hfin
          clear hfin
          by_cases hlt : t < r
          · go_wp2_with fail
            refine (nat_trim _ _ _ _ _ HO.out.wd).mono ?_
            rintro e w' ⟨s, rfl, Hs, hs, HT, rfl⟩
            rw [Hfin.out] at HT
            go_wp2
            go_ret
            exact ⟨_, s, _, rfl, HT.out, hB2⟩
          · go_wp2_with fail
            refine (nat_trim _ _ _ _ _ HO.out.wd).mono ?_
            rintro e w' ⟨s, rfl, Hs, hs, HT, rfl⟩
            rw [Hfin.out] at HT
            go_wp2
            go_ret
            exact ⟨_, s, _, rfl, HT.out, hB2⟩
        · have Hc1 : Hid (c = 1) := Lib.hid (by omega)
          have hcp : 0 < c := by omega
          have hcpi : (0 : Int) < (c : Int) := by omega
          clear hc0
          by_cases hlt : t < r
          · have hcell := HO.out.cell (k := t) (by omega)
            rw [atw_over _ _ _ Hol.out] at hcell
            have hfro := HO.out.1.frozenAt t
            have hxl := atw_lt hx.out.1 t
            obtain ⟨xk, hxk⟩ : ∃ xk, xk = atw x t := ⟨_, rfl⟩
            rw [← hxk] at hxl hcell
            have Hxk := Lib.hid hxk
            have Hyk : Hid (atw y t = 0) := Lib.hid (atw_ge (by rw [hy.out.2.1]; exact hkt))
            have hk1 : (t : Int) < (r : Int) := by omega
            have hb := HO.out.base
            clear hxk
            go_wp2_with (go_at_call 64; (with_reducible refine (limb_sub_nat0 xk c _ (by omega) (by omega)).mono ?_); rintro e w' ⟨s, z, rfl, hz, hs, Hs, rfl⟩)
            go_roundw
            case rel => exact ⟨t + 1, z, o ++ [s], by omega, by omega, by go_num, rfl, hz, Lib.hid (by have := Hol.out; simp; omega), Lib.hid (sub_step Hol.out Hv.out (by rw [← Hxk.out, Hyk.out]; exact Hs.out)), Lib.hid (by have h := HO.out.set t s hs; rwa [set_over o x t s Hol.out (by rw [hx.out.2.1]; omega)] at h), hB2.setCell hb.1 _⟩
            case measure => simp [intOf]; omega
          · exfalso
            obtain rfl : t = r := by omega
            have h1 := Hv.out
            have h2 := val_lt (okw_append.1 HO.out.2).1
            have h3 := hle.out
            rw [Hc1.out, low_ge (by rw [hx.out.2.1]; omega), low_ge (by rw [hy.out.2.1]; exact hkt), hx.out.2.2, hy.out.2.2] at h1
            rw [Hol.out] at h2
            omega
theorem nat_gap (a : Option Addr) (n cap : Nat) (la : List Nat) (b : Option Addr) (m cap' : Nat) (lb : List Nat) (w : World) (ha : Wd w a n cap la) (hb : Wd w b m cap' lb) (hn : n ≤ 16777214) (hm : m ≤ 16777214) :
    Calls Try.prog 51 #[.slice a n cap, .slice b m cap'] w (Lst2 (dg (val la - val lb + (val lb - val la))) (.int .i64 (cmpI (val la) (val lb))) w) := by
  have Ha := Lib.hid ha
  have Hb := Lib.hid hb
  clear ha hb
  go_enter Try.func51, Try.ntmps51
  go_wp2_with fail
  refine (nat_cmp _ _ _ _ _ _ _ _ _ Ha.out Hb.out).mono ?_
  rintro e w1 ⟨rfl, hB1⟩
  have Ha1 := Lib.hid (Ha.out.later hB1)
  have Hb1 := Lib.hid (Hb.out.later hB1)
  by_cases hlt : val la < val lb
  · have hc : cmpI (val la) (val lb) < 0 := by rw [cmpI_lt hlt]; omega
    have hv : val la - val lb + (val lb - val la) = val lb - val la := by omega
    have Hv := Lib.hid hv
    have hle : Hid (val la ≤ val lb) := Lib.hid (by omega)
    clear hlt hv
    generalize cmpI (val la) (val lb) = c at *
    go_wp2_with fail
    refine (nat_less _ _ _ _ _ _ _ _ _ Hb1.out Ha1.out hm hle).mono ?_
    rintro e w2 ⟨a2, n2, c2, rfl, h2, hB2⟩
    have H2 := Lib.hid h2
    clear h2
    go_wp2
    go_ret2
    exact ⟨_, _, _, rfl, by rw [Hv.out]; exact H2.out, below_then hB1 hB2⟩
  · have hc : ¬ cmpI (val la) (val lb) < 0 := by unfold cmpI; split <;> (try split) <;> omega
    have hv : val la - val lb + (val lb - val la) = val la - val lb := by omega
    have Hv := Lib.hid hv
    have hle : Hid (val lb ≤ val la) := Lib.hid (by omega)
    clear hlt hv
    generalize cmpI (val la) (val lb) = c at *
    go_wp2_with fail
    refine (nat_less _ _ _ _ _ _ _ _ _ Ha1.out Hb1.out hn hle).mono ?_
    rintro e w2 ⟨a2, n2, c2, rfl, h2, hB2⟩
    have H2 := Lib.hid h2
    clear h2
    go_wp2
    go_ret2
    exact ⟨_, _, _, rfl, by rw [Hv.out]; exact H2.out, below_then hB1 hB2⟩
end Go.Proofs.Ytkpnhohaolfmgaa
