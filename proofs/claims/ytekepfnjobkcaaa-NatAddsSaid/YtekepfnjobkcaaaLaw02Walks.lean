/-
  The walks of the laws of layer 2, over the contracts of package nat.
-/
import Derived.Test.YtekepfnjobkcaaaNatSaid
import Derived.Test.YtekepfnjobkcaaaRef02c
namespace Go.Proofs.Ytekepfnjobkcaaa
open Go.RowKit

set_option maxHeartbeats 1000000 in
theorem law02_works (N : NatSaid) (w : World) : Calls Try.prog 7 #[] w (Gives (.bool true) w) := by
  go_enter Try.func7, Try.ntmps7
  go_wp2_with fail
  refine (N.of 1 _ (by omega)).mono ?_
  rintro e w1 ⟨a1, n1, c1, rfl, h1, b1⟩
  go_wp2_with fail
  refine (N.of 2 _ (by omega)).mono ?_
  rintro e w2 ⟨a2, n2, c2, rfl, h2, b2⟩
  have H1 := Lib.hid (h1.later b2)
  have hn1 : n1 ≤ 1 := by rw [← h1.len]; exact dg_length_le (by decide)
  have hn2 : n2 ≤ 1 := by rw [← h2.len]; exact dg_length_le (by decide)
  have hB2 := below_then b1 b2
  go_wp2_with fail
  refine (N.sub_no _ _ _ _ _ _ _ _ _ H1.out h2 (by omega) (by omega) (Lib.hid (by rw [val_dg, val_dg]; omega))).mono ?_
  rintro e w3 ⟨a3, n3, c3, rfl, h3, b3⟩
  have hB3 := below_then hB2 b3
  clear h1 h2 H1 b1 b2 h3 b3 hB2
  go_wp2_with fail
  refine (N.of 4294967296 _ (by omega)).mono ?_
  rintro e w4 ⟨a4, n4, c4, rfl, h4, b4⟩
  have hB4 := below_then hB3 b4
  have hdg : dg 4294967296 = [0, 1] := dg_val (l := [0, 1]) (.inr (by decide)) (okw_cons.2 ⟨by decide, okw_cons.2 ⟨by decide, okw_nil⟩⟩)
  rw [hdg] at h4
  have H4 := Lib.hid h4
  clear hdg h4 b4 hB3
  go_wp2_with fail
  refine (ref02_same_yes _ _ _ _ _ _ _ _ _ (H4.out.later (below_alloc _ _)) (Wd.lit2 w4 28 (x := 0) (y := 1) (by omega) (by omega)) rfl).mono ?_
  rintro e w5 ⟨rfl, b5⟩
  have hB5 := below_then hB4 (below_then (below_alloc _ _) b5)
  clear H4 b5 hB4
  go_wp2_with fail
  refine (N.of 1 _ (by omega)).mono ?_
  rintro e w6 ⟨a6, n6, c6, rfl, h6, b6⟩
  go_wp2_with fail
  refine (N.of 2 _ (by omega)).mono ?_
  rintro e w7 ⟨a7, n7, c7, rfl, h7, b7⟩
  go_wp2_with fail
  refine (N.of 3 _ (by omega)).mono ?_
  rintro e w8 ⟨a8, n8, c8, rfl, h8, b8⟩
  have H6 := Lib.hid ((h6.later b7).later b8)
  have H7 := Lib.hid (h7.later b8)
  have H8 := Lib.hid h8
  have hB8 := below_then hB5 (below_then b6 (below_then b7 b8))
  clear h6 h7 h8 b6 b7 b8 hB5
  go_wp2_with fail
  refine (N.add _ _ _ _ _ (Wds.lit3 w8 22 H6.out H7.out H8.out) (by omega) (by rw [dg_word (n := 1) (by omega) (by omega), dg_word (n := 2) (by omega) (by omega), dg_word (n := 3) (by omega) (by omega)]; decide)).mono ?_
  rintro e w9 ⟨a9, n9, c9, rfl, h9, b9⟩
  have hdg : dg (vals [dg 1, dg 2, dg 3]) = [6] := by simp only [vals, val_dg]; exact dg_word (by omega) (by omega)
  rw [hdg] at h9
  have H9 := Lib.hid h9
  have hB9 := below_then hB8 (below_then (below_alloc _ _) b9)
  clear hdg h9 b9 hB8 H6 H7 H8
  go_wp2_with fail
  refine (ref02_same_yes _ _ _ _ _ _ _ _ _ (H9.out.later (below_alloc _ _)) (Wd.lit1 w9 28 (x := 6) (by omega)) rfl).mono ?_
  rintro e w10 ⟨rfl, b10⟩
  have hB10 := below_then hB9 (below_then (below_alloc _ _) b10)
  clear H9 b10 hB9
  go_wp2_with fail
  go_ret
  exact ⟨rfl, hB10⟩

set_option maxHeartbeats 1000000 in
theorem law02_tells_big (N : NatSaid) (a : Option Addr) (n cap : Nat) (b : Option Addr) (m cap' : Nat) (x : Int) (w : World) (hn : n ≤ 9223372036854775807) (hm : m ≤ 9223372036854775807) (h : 300 < n ∨ 300 < m) :
    Calls Try.prog 3 #[.slice a n cap, .slice b m cap', .int .u64 x] w (Gives (.bool true) w) := by
  by_cases h1 : 300 < n
  · clear h
    go_enter Try.func3, Try.ntmps3
    go_wp2_with (go_at_call 7; refine (law02_works N _).mono ?_; rintro e w' ⟨rfl, hb⟩)
    go_ret
    exact ⟨rfl, hb⟩
  · have h2 : 300 < m := by omega
    clear h
    go_enter Try.func3, Try.ntmps3
    go_wp2_with (go_at_call 7; refine (law02_works N _).mono ?_; rintro e w' ⟨rfl, hb⟩)
    go_ret
    exact ⟨rfl, hb⟩

set_option maxHeartbeats 2000000 in
theorem law02_tells (N : NatSaid) (a : Option Addr) (n cap : Nat) (la : List Nat) (b : Option Addr) (m cap' : Nat) (lb : List Nat) (x : Nat) (w : World) (ha : Wd w a n cap la) (hb : Wd w b m cap' lb) (hx : x ≤ 18446744073709551615) :
    Calls Try.prog 3 #[.slice a n cap, .slice b m cap', .int .u64 (x : Int)] w (Gives (.bool true) w) := by
  obtain ⟨p1, p2⟩ := ha.bound
  obtain ⟨p3, p4⟩ := hb.bound
  by_cases hbig : 300 < n ∨ 300 < m
  · exact law02_tells_big N a n cap b m cap' x w (by omega) (by omega) hbig
  · have hn : n ≤ 300 := by omega
    have hm : m ≤ 300 := by omega
    have Ha := Lib.hid ha
    have Hb := Lib.hid hb
    clear ha hb hbig
    go_enter Try.func3, Try.ntmps3
    go_wp2_with fail
    refine (N.small _ _ _ _ _ Ha.out (by omega)).mono ?_
    rintro e w1 ⟨rfl, b1⟩
    go_wp2_with fail
    refine (ref02_norm _ _ _ _ _ (Ha.out.later b1) (by omega)).mono ?_
    rintro e w2 ⟨s, k, c, rfl, hs, b2⟩
    have hB := below_then b1 b2
    have hk : k ≤ 300 := by rw [← hs.len]; exact Nat.le_trans (dg_length_val_le Ha.out.ok) (by rw [Ha.out.len]; exact hn)
    have hkv : k ≤ 2 ↔ val la < two64 := by rw [← hs.len]; exact dg_length_pow
    have hk0 : k = 0 ↔ val la = 0 := by rw [← hs.len]; exact dg_nil_iff
    have Hs := Lib.hid hs
    have Hkv := Lib.hid hkv
    have Hk0 := Lib.hid hk0
    clear b1 b2 hs hkv hk0
    by_cases hk2 : k ≤ 2
    · have hv : val la = atw (dg (val la)) 0 + 4294967296 * atw (dg (val la)) 1 := by
        have := val_two (l := dg (val la)) (by rw [Hs.out.len]; exact hk2)
        rwa [val_dg] at this
      have hx0 := atw_lt (okw_dg (val la)) 0
      have hx1 := atw_lt (okw_dg (val la)) 1
      have hsv : smallV (val la) = atw (dg (val la)) 0 + 4294967296 * atw (dg (val la)) 1 := by unfold smallV; rw [if_pos (Hkv.out.1 hk2)]; exact hv
      have hsb : smallB (val la) = true := decide_eq_true (Hkv.out.1 hk2)
      rw [hsv, hsb]
      clear hsv hsb hv
      have A0 := Lib.hid (ref02_at s k c 0 _ w2 Hs.out (by omega))
      have A1 := Lib.hid (ref02_at s k c 1 _ w2 Hs.out (by omega))
      generalize atw (dg (val la)) 0 = x0 at *
      generalize atw (dg (val la)) 1 = x1 at *
      go_wp2_with fail
      refine A0.out.mono ?_
      rintro e w' ⟨rfl, rfl⟩
      go_wp2_with fail
      refine A1.out.mono ?_
      rintro e w' ⟨rfl, rfl⟩
      clear A0 A1
      go_wp2_with fail
      refine (N.norm _ _ _ _ _ (Ha.out.later hB) (by omega)).mono ?_
      rintro e w3 ⟨a3, n3, c3, rfl, h3, b3⟩
      go_wp2_with fail
      refine (ref02_same_yes _ _ _ _ _ _ _ _ _ h3 (Hs.out.later b3) rfl).mono ?_
      rintro e w4 ⟨rfl, b4⟩
      have hB4 := below_then hB (below_then b3 b4)
      clear h3 b3 b4 hB Hs
      go_wp2_with fail
      refine (N.of x _ hx).mono ?_
      rintro e w5 ⟨a5, n5, c5, rfl, h5, b5⟩
      go_wp2_with fail
      refine (ref02_of x _ hx).mono ?_
      rintro e w6 ⟨a6, n6, c6, rfl, h6, b6⟩
      go_wp2_with fail
      refine (ref02_same_yes _ _ _ _ _ _ _ _ _ (h5.later b6) h6 rfl).mono ?_
      rintro e w7 ⟨rfl, b7⟩
      have hB7 := below_then hB4 (below_then b5 (below_then b6 b7))
      clear h5 h6 b5 b6 b7 hB4
      go_wp2_with fail
      refine (N.zero _ _ _ _ _ (Ha.out.later hB7) (by omega)).mono ?_
      rintro e w8 ⟨rfl, b8⟩
      have hB8 := below_then hB7 b8
      have ez : decide (val la = 0) = ((k : Int) == 0) := by
        rw [Bool.eq_iff_iff, decide_eq_true_eq, beq_iff_eq, ← Hk0.out]; omega
      rw [ez]
      clear ez b8 hB7
      go_wp2_with fail
      refine (N.cmp _ _ _ _ _ _ _ _ _ (Ha.out.later hB8) (Hb.out.later hB8) (by omega) (by omega)).mono ?_
      rintro e w9 ⟨rfl, b9⟩
      have hB9 := below_then hB8 b9
      clear b9 hB8
      go_wp2_with fail
      refine (ref02_cmp _ _ _ _ _ _ _ _ _ (Ha.out.later hB9) (Hb.out.later hB9) (by omega) (by omega)).mono ?_
      rintro e w' ⟨rfl, rfl⟩
      go_wp2_with fail
      refine (law02_works N _).mono ?_
      rintro e w11 ⟨rfl, b11⟩
      go_wp2_with fail
      go_ret
      exact ⟨rfl, below_then hB9 b11⟩
    · have hsv : smallV (val la) = 0 := by unfold smallV; rw [if_neg (fun h => hk2 (Hkv.out.2 h))]
      have hsb : smallB (val la) = false := decide_eq_false (fun h => hk2 (Hkv.out.2 h))
      rw [hsv, hsb]
      have hk3 : (2 : Int) < (k : Int) := by omega
      clear hsv hsb hk2
      go_wp2_with fail
      refine (N.norm _ _ _ _ _ (Ha.out.later hB) (by omega)).mono ?_
      rintro e w3 ⟨a3, n3, c3, rfl, h3, b3⟩
      go_wp2_with fail
      refine (ref02_same_yes _ _ _ _ _ _ _ _ _ h3 (Hs.out.later b3) rfl).mono ?_
      rintro e w4 ⟨rfl, b4⟩
      have hB4 := below_then hB (below_then b3 b4)
      clear h3 b3 b4 hB Hs
      go_wp2_with fail
      refine (N.of x _ hx).mono ?_
      rintro e w5 ⟨a5, n5, c5, rfl, h5, b5⟩
      go_wp2_with fail
      refine (ref02_of x _ hx).mono ?_
      rintro e w6 ⟨a6, n6, c6, rfl, h6, b6⟩
      go_wp2_with fail
      refine (ref02_same_yes _ _ _ _ _ _ _ _ _ (h5.later b6) h6 rfl).mono ?_
      rintro e w7 ⟨rfl, b7⟩
      have hB7 := below_then hB4 (below_then b5 (below_then b6 b7))
      clear h5 h6 b5 b6 b7 hB4
      go_wp2_with fail
      refine (N.zero _ _ _ _ _ (Ha.out.later hB7) (by omega)).mono ?_
      rintro e w8 ⟨rfl, b8⟩
      have hB8 := below_then hB7 b8
      have ez : decide (val la = 0) = ((k : Int) == 0) := by
        rw [Bool.eq_iff_iff, decide_eq_true_eq, beq_iff_eq, ← Hk0.out]; omega
      rw [ez]
      clear ez b8 hB7
      go_wp2_with fail
      refine (N.cmp _ _ _ _ _ _ _ _ _ (Ha.out.later hB8) (Hb.out.later hB8) (by omega) (by omega)).mono ?_
      rintro e w9 ⟨rfl, b9⟩
      have hB9 := below_then hB8 b9
      clear b9 hB8
      go_wp2_with fail
      refine (ref02_cmp _ _ _ _ _ _ _ _ _ (Ha.out.later hB9) (Hb.out.later hB9) (by omega) (by omega)).mono ?_
      rintro e w' ⟨rfl, rfl⟩
      go_wp2_with fail
      refine (law02_works N _).mono ?_
      rintro e w11 ⟨rfl, b11⟩
      go_wp2_with fail
      go_ret
      exact ⟨ret_bool (by simp; omega), below_then hB9 b11⟩

theorem tells_open (N : NatSaid) (a : Option Addr) (n cap : Nat) (la : List Nat) (b : Option Addr) (m cap' : Nat) (lb : List Nat) (x : Int) (w : World) (ha : Wd w a n cap la) (hb : Wd w b m cap' lb) (h0 : 0 ≤ x) (hx : x ≤ 18446744073709551615) :
    Calls Try.prog 3 #[.slice a n cap, .slice b m cap', .int .u64 x] w (Gives (.bool true) w) := by
  obtain ⟨k, rfl⟩ := Int.eq_ofNat_of_zero_le h0
  exact law02_tells N a n cap la b m cap' lb k w ha hb (by omega)
end Go.Proofs.Ytekepfnjobkcaaa
