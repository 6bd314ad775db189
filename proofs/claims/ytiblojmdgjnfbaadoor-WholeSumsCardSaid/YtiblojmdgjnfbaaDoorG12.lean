/-
  Several texts of this claim as one, group 12.
-/
import Derived.Test.YtiblojmdgjnfbaaDoorG11
import Derived.Test.YtiblojmdgjnfbaaDoorG6
import Derived.Test.YtiblojmdgjnfbaaDoorG7
import Derived.Test.YtiblojmdgjnfbaaDoorG10
import Derived.Test.YtiblojmdgjnfbaaDoorG1
import Derived.BigRegion
/-
  The contracts of package quot (layer 5) at this seat: Word, long.
-/
namespace Go.Proofs.YtiblojmdgjnfbaaDoor
open Go.RowKit

theorem quot_word_none (a : Option Addr) (n cap : Nat) (w : World) : Calls Tryd.prog 66 #[.slice a n cap, .int .u32 0] w fun e w' => e = .returned (.tuple #[.slice none 0 0, .int .u32 0, .bool false]) ∧ w = w' := by
  go_enter Tryd.func66, Tryd.ntmps66
  go_wp2
  go_ret3
  exact ⟨rfl, rfl⟩
/-- Quotient and rest by a word. -/
def WordPost (v x : Nat) (w : World) (e : Ending) (w' : World) : Prop :=
  ∃ (a : Option Addr) (n cap : Nat), e = .returned (.tuple #[.slice a n cap, .int .u32 ((v % x : Nat) : Int), .bool true]) ∧ Wd w' a n cap (dg (v / x)) ∧ Below w.heap.size w w'
/-- The quotient stands in a row of the call's own. -/
def WordOwnPost (v x : Nat) (w : World) (e : Ending) (w' : World) : Prop :=
  ∃ (g n : Nat), e = .returned (.tuple #[.slice (some ⟨g, 0, none⟩) n n, .int .u32 ((v % x : Nat) : Int), .bool true]) ∧ Own w' w.heap.size g n n (dg (v / x)) ∧ Below w.heap.size w w'
set_option maxRecDepth 4096 in
set_option maxHeartbeats 2000000 in
theorem quot_word_own (a : Option Addr) (n cap : Nat) (l : List Nat) (x : Nat) (w : World) (h : Wd w a n cap l) (hn : n ≤ 1000000) (hx : x < 4294967296) (h0 : 0 < x) : Calls Tryd.prog 66 #[.slice a n cap, .int .u32 (x : Int)] w (WordOwnPost (val l) x w) := by
  have hmn : (dg (val l)).length ≤ n := h.trim_le
  have H := Lib.hid h
  have hxz : ((x : Int) == 0) = false := by simp; omega
  clear h
  go_enter Tryd.func66, Tryd.ntmps66
  go_wp2_with fail
  refine (nat_norm _ _ _ _ _ H.out (by omega)).mono ?_
  rintro e w1 ⟨g, m, rfl, Hm, Hown, hB1⟩
  have HO1 : Hid (Own w1 w.heap.size g m m (dg (val l))) := Lib.hid ⟨Hown.out, okw_dg _⟩
  have hm : m ≤ 1000000 := by rw [Hm.out]; omega
  have HL : Hid (okw (dg (val l)) ∧ (dg (val l)).length = m ∧ val (dg (val l)) = val l) := Lib.hid ⟨okw_dg _, Hm.out.symm, val_dg _⟩
  clear Hown Hm hmn H
  generalize dg (val l) = L at HO1 HL
  go_wp2
  go_loopw [5, 7] (fun rv iv wr => ∃ (k r : Nat) (Q : List Nat), k ≤ m ∧ iv = .int .i64 ((k : Int) - 1) ∧ rv = .int .u32 (r : Int) ∧ r < x ∧ Hid (WordAt x L Q k r) ∧ Hid (Own wr w.heap.size g m m Q) ∧ Below w.heap.size w wr) (fun _ iv _ => (intOf iv + 1).toNat)
  case atStart => exact ⟨m, 0, L, by omega, by go_num, rfl, h0, Lib.hid ⟨by rw [top_ge (by rw [HL.out.2.1]; omega)]; simp, h0, fun j _ => rfl, rfl⟩, HO1, hB1⟩
  case round =>
    clear HO1 hB1
    obtain ⟨k, r, Q, hk, rfl, rfl, hr, HW, HO, hB⟩ := hrel
    cases k with
    | zero =>
      have Hfin := Lib.hid (word_end HW.out HL.out.2.2)
      have hr2 : r = val l % x := Hfin.out.2
      have Hq : Hid (val Q = val l / x) := Lib.hid Hfin.out.1
      have Hr := Lib.hid hr2
      clear hr2 Hfin
      go_wp2_with fail
      refine (nat_norm _ _ _ _ _ HO.out.wd (by omega)).mono ?_
      rintro e w2 ⟨g2, n2, rfl, Hm2, h2, b2⟩
      rw [Hq.out] at h2
      have H2 : Hid (Own w2 w.heap.size g2 n2 n2 (dg (val l / x))) := Lib.hid (Own.lower ⟨h2.out, okw_dg _⟩ hB.size)
      clear h2
      go_wp2
      go_ret3
      exact ⟨g2, n2, by rw [← Hr.out]; rfl, H2.out, below_then hB b2⟩
    | succ k =>
      have e1 : ((k + 1 : Nat) : Int) - 1 = (k : Int) := by omega
      rw [e1]
      clear e1
      have hcell := HO.out.cell (k := k) (by omega)
      rw [HW.out.2.2.1 k (by omega)] at hcell
      have hfro := HO.out.1.frozenAt k
      have huw := atw_lt HL.out.1 k
      obtain ⟨u, huu⟩ : ∃ u, u = atw L k := ⟨_, rfl⟩
      rw [← huu] at huw hcell
      have Hu := Lib.hid huu
      have hb := HO.out.base
      obtain ⟨q, hq⟩ : ∃ q, q = (r * 4294967296 + u) / x := ⟨_, rfl⟩
      obtain ⟨s, hs⟩ : ∃ s, s = (r * 4294967296 + u) % x := ⟨_, rfl⟩
      have hqw : q < 4294967296 := by rw [hq]; exact Nat.div_lt_of_lt_mul (by omega)
      have hsx : s < x := by rw [hs]; exact Nat.mod_lt _ h0
      have HQ := Lib.hid hq
      have HS := Lib.hid hs
      have hki : (k : Int) < (m : Int) := by omega
      clear huu hq hs
      go_wp2_with fail
      refine (limb_div_nat r u x q s _ huw hx hr HQ HS).mono ?_
      rintro e w' ⟨rfl, p, rfl⟩
      have HOs := Lib.hid ((show Own (wr.drewN p) w.heap.size g m m Q from HO.out).set k q hqw)
      have HBs := Lib.hid ((below_drewN hB p).setCell (p := ⟨g, k, none⟩) hb.1 (.int .u32 (q : Int)))
      have HW2 : Hid (WordAt x L (Q.set k q) k s) := Lib.hid (by
        have h1 := word_down HW.out (by omega) (by rw [HO.out.len]; omega)
        rwa [← Hu.out, ← HQ.out, ← HS.out] at h1)
      go_wp2
      go_roundw
      case rel => exact ⟨k, s, Q.set k q, by omega, by go_num, rfl, hsx, HW2, HOs, HBs.out⟩
      case measure => simp [intOf]
theorem quot_word (a : Option Addr) (n cap : Nat) (l : List Nat) (x : Nat) (w : World) (h : Wd w a n cap l) (hn : n ≤ 1000000) (hx : x < 4294967296) (h0 : 0 < x) : Calls Tryd.prog 66 #[.slice a n cap, .int .u32 (x : Int)] w (WordPost (val l) x w) :=
  (quot_word_own a n cap l x w h hn hx h0).mono fun _ _ ⟨_, _, he, ho, hb⟩ => ⟨_, _, _, he, ho.wd, hb⟩
theorem quot_takeAway_at (w0 w : World) (g i N cap c M K W dcap : Nat) (P D : List Nat) (d : Option Addr) (hO : Own w w0.heap.size g N cap P) (hB : Below w0.heap.size w0 w) (hd : Wd w0 d M dcap D) (hM : 2 ≤ M) (hK : M = K + 1) (hW : W = M + 1) (hi : i + M < N) (hc : W ≤ c) (hc2 : c ≤ 9223372036854775807) (hN : N ≤ 2000000) (hv : Hid (2147483648 ≤ atw D K)) (hlt : Hid (val P < 4294967296 ^ (i + 1) * val D)) :
    Calls Tryd.prog 83 #[.slice (some ⟨g, i, none⟩) W c, .slice d M dcap] w (AwayPost w0.heap.size g N cap i D P w) := by
  obtain ⟨m, rfl⟩ : ∃ m, K = m + 1 := ⟨K - 1, by omega⟩
  subst hK
  subst hW
  exact quot_takeAway w0 w g i N cap c m dcap P D d hO hB hd hi hc hc2 hN hv hlt
def LongPost2 (p q : Nat) (w : World) (e : Ending) (w' : World) : Prop :=
  ∃ (a : Option Addr) (n cap : Nat) (b : Option Addr) (m cap' : Nat), e = .returned (.tuple #[.slice a n cap, .slice b m cap']) ∧ Wd w' a n cap (dg p) ∧ Wd w' b m cap' (dg q) ∧ Below w.heap.size w w'
set_option maxRecDepth 4096 in
set_option maxHeartbeats 4000000 in
theorem quot_long (a : Option Addr) (na cap : Nat) (la : List Nat) (b : Option Addr) (M cap' vb : Nat) (w : World) (ha : Wd w a na cap la) (hb : Wd w b M cap' (dg vb)) (hna : na ≤ 500000) (hM2 : 2 ≤ M) (hMn : M ≤ 1000000) (hle : Hid (vb ≤ val la)) :
    Calls Tryd.prog 67 #[.slice a na cap, .slice b M cap'] w (LongPost2 (val la / vb) (val la % vb) w) := by
  obtain ⟨i0, hi, hz0, hz1, hz2⟩ := info_parts infoU32
  obtain ⟨K, hK⟩ : ∃ K : Nat, (M : Int) - 1 = (K : Int) := ⟨M - 1, by omega⟩
  have HMl : Hid ((dg vb).length = M) := Lib.hid hb.len
  obtain ⟨bb, ob, rfl, hcb⟩ := hb.at (by omega)
  have hcK := hcb K (by omega)
  have hxw := atw_lt (okw_dg vb) K
  obtain ⟨x, hxx⟩ : ∃ x, x = atw (dg vb) K := ⟨_, rfl⟩
  rw [← hxx] at hxw hcK
  obtain ⟨s, hs⟩ : ∃ s, s = 32 - blen (atw (dg vb) K) := ⟨_, rfl⟩
  have hnt := norm_top (b := vb) (m := K) (by have := HMl.out; omega) hs
  have hs32 : s < 32 := hnt.1
  have HD : Hid ((dg (vb * 2 ^ s)).length = M ∧ 2147483648 ≤ atw (dg (vb * 2 ^ s)) K) := Lib.hid ⟨by have := hnt.2.1; omega, hnt.2.2⟩
  have hbl : blen x ≤ 32 := blen_le.2 hxw
  have hsi : (32 : Int) - ((blen x : Nat) : Int) = (s : Int) := by rw [hxx]; have := blen_le.2 (show atw (dg vb) K < 2 ^ 32 from atw_lt (okw_dg vb) K); omega
  have Ha := Lib.hid ha
  have Hb := Lib.hid hb
  have hKi : (K : Int) < (M : Int) := by omega
  have hv0 : Hid (0 < vb) := Lib.hid (by
    rcases Nat.eq_zero_or_pos vb with h | h
    · have := HMl.out; rw [h, dg_zero] at this; simp at this; omega
    · exact h)
  clear hxx hs hnt ha hb hcb
  generalize hbx : blen x = y at *
  have Hbx := Lib.hid hbx
  clear hbx
  go_enter Tryd.func67, Tryd.ntmps67
  go_wp2_with fail
  refine (limb_len_nat x _ hxw).mono ?_
  rintro e w' ⟨rfl, rfl⟩
  rw [Hbx.out]
  go_wp2_with fail
  refine (twos_up _ _ _ _ (s : Int) _ Hb.out (by omega)).mono ?_
  rintro e w1 ⟨d, dn, dcap, rfl, hd, hB1⟩
  rw [show min (s : Int).toNat 4096 = s by omega, val_dg] at hd
  have hdn : dn = M := by rw [← hd.len]; exact HD.out.1
  subst hdn
  have Hd := Lib.hid hd
  have HD2 : Hid (okw (dg (vb * 2 ^ s)) ∧ val (dg (vb * 2 ^ s)) = vb * 2 ^ s) := Lib.hid ⟨okw_dg _, val_dg _⟩
  clear hd
  have Ha1 := Lib.hid (Ha.out.later hB1)
  go_wp2_with fail
  refine (twos_up_own _ _ _ _ (s : Int) _ Ha1.out (by omega)).mono ?_
  rintro e w2 ⟨a2, n2, c2, rfl, h2, hB2, hown⟩
  rw [show min (s : Int).toNat 4096 = s by omega] at h2 hown
  obtain ⟨g, rfl, HO2⟩ := hown (Nat.ne_of_gt (Nat.mul_pos (by have h1 := hle.out; have h2 := hv0.out; omega) (Nat.two_pow_pos s)))
  obtain ⟨A, hA⟩ : ∃ A, A = val la * 2 ^ s := ⟨_, rfl⟩
  rw [← hA] at h2 HO2
  have HA := Lib.hid hA
  have hn2 : n2 ≤ 500001 ∧ dn ≤ n2 := by
    have h3 := h2.len
    have h4 := val_lt Ha.out.ok
    rw [Ha.out.len] at h4
    refine ⟨?_, ?_⟩
    · have h5 : 2 ^ s ≤ 4294967296 ^ 1 := Nat.le_trans (Nat.pow_le_pow_right (by decide) (show s ≤ 32 by omega)) (by decide)
      have h6 := Nat.mul_lt_mul_of_lt_of_le h4 h5 (pow_pos32 1)
      rw [← Nat.pow_add, ← hA] at h6
      have h7 := dg_length_le h6
      omega
    · rw [← h3, ← HD.out.1]
      apply dg_length_mono
      rw [hA]
      exact Nat.mul_le_mul_right _ hle.out
  obtain ⟨hn2, hMn2⟩ := hn2
  have HAl : Hid ((dg A).length = n2) := Lib.hid h2.len
  clear h2 hA
  go_wp2_with (at_builtin; refine wpList_append_own _ rfl _ _ 22 rfl w1.heap.size 72 i0 (.int .u32 0) 1 4 Tryd.underlying22 hi hz0 hz1 hz2 rfl (by decide) _ n2 _ rfl (HO2.out.1.alloc _) ⟨w2.heap.size, 0, none⟩ 1 1 (wcells [0]) rfl rfl (Wd.lit1 w2 72 (x := 0) (by omega)).cells (wcells_one _) (by unfold maxLen; omega) (by omega) (by simp; have := hB2.size; omega) ?_)
  intro v' w3 hown3 hgrow3 _
  obtain ⟨g3, cap3, rfl, HO3'⟩ := Own.push (r := 0) hown3 HO2.out.2 (by decide)
  have HO3 := Lib.hid HO3'
  have hbase2 := HO2.out.base
  have hB3 : Below w1.heap.size w1 w3 := (hB2.alloc hB2.size _).grown hgrow3 (by simp; have := hB2.size; omega) (by intro k hk; simp [Value.ownBlock] at hk; omega)
  obtain ⟨hc3a, hc3b⟩ := HO3.out.bound
  clear HO3' hown3 hgrow3 hbase2 HO2
  obtain ⟨N, hN⟩ : ∃ N : Nat, N = n2 + 1 := ⟨_, rfl⟩
  rw [← hN] at HO3 hc3a ⊢
  have HN := Lib.hid hN
  have hNd : dn < N := by omega
  have hNb : N ≤ 500002 := by omega
  clear hN
  obtain ⟨n, hnn⟩ : ∃ n : Nat, (N : Int) - (dn : Int) = (n : Int) := ⟨N - dn, by omega⟩
  have HNn : Hid (N = n + dn) := Lib.hid (by omega)
  have hnb : n ≤ 1000001 := by omega
  have hb3s := hB3.size
  go_wp2_with (at_make; refine wpList_make_words _ rfl _ _ 22 rfl w1.heap.size 72 i0 (.int .u32 0) Tryd.underlying22 hi hz0 hz1 rfl .i64 .i64 _ _ n n rfl rfl rfl rfl (by omega) (by rw [hz2]; omega) (by unfold maxLen; omega) hb3s ?_; intro w4 hown4 hgrow4)
  rw [zeros_cells] at hown4
  have HQ4 : Hid (Own w4 w1.heap.size w3.heap.size n n (List.replicate n 0)) := Lib.hid ⟨hown4, okw_zeros n⟩
  have HO4 := Lib.hid (HO3.out.stay hgrow4)
  have hB4 : Below w1.heap.size w1 w4 := hB3.grown hgrow4 hb3s (fun k hk => by cases hk)
  have hg3 : g3 ≠ w3.heap.size := by have := HO3.out.base; omega
  generalize w3.heap.size = gq at *
  have hgqb : w1.heap.size ≤ gq := hb3s
  have HL4 := Lib.hid (long_start (A := A) (n := n) (m := K) (D := dg (vb * 2 ^ s)) (by have h1 := HAl.out; have h2 := HN.out; have h3 := HNn.out; omega) (by have h1 := HD.out.1; omega) HD.out.2)
  clear hown4 hgrow4 HO3 hB3 hb3s
  go_loopw [9] (fun iv wr => ∃ (k : Nat) (Q P : List Nat), k ≤ n ∧ iv = .int .i64 ((k : Int) - 1) ∧ Hid (LongAt A (dg (vb * 2 ^ s)) Q P k) ∧ Hid (Own wr w1.heap.size gq n n Q) ∧ Hid (Own wr w1.heap.size g3 N cap3 P) ∧ Below w1.heap.size w1 wr) (fun iv _ => (intOf iv + 1).toNat)
  case atStart => exact ⟨n, List.replicate n 0, dg A ++ [0], by omega, by go_num, HL4, HQ4, HO4, hB4⟩
  case round =>
    clear HQ4 HO4 hB4 HL4
    obtain ⟨k, Q, P, hk, rfl, HL, HQ, HO, hB⟩ := hrel
    cases k with
    | zero =>
      have Hfin := Lib.hid (long_end HL.out)
      have Hq : Hid (val Q = val la / vb) := Lib.hid (by rw [Hfin.out.1, HD2.out.2, HA.out, (shifted_div _ _ _).1])
      have Hr : Hid (val P / 2 ^ s = val la % vb) := Lib.hid (by rw [Hfin.out.2, HD2.out.2, HA.out, (shifted_div _ _ _).2])
      have HP := Lib.hid HO.out.wd
      clear Hfin HL
      go_wp2_with fail
      refine (natSaid.norm _ _ _ _ _ HQ.out.wd (by omega)).mono ?_
      rintro e w5 ⟨a5, n5, c5, rfl, h5, b5⟩
      rw [Hq.out] at h5
      have H5 := Lib.hid h5
      clear h5
      go_wp2_with fail
      refine (twos_down _ _ _ _ (s : Int) _ (HP.out.later b5) (by omega) (by omega)).mono ?_
      rintro e w6 ⟨a6, n6, c6, rfl, h6, b6⟩
      rw [Int.toNat_natCast, Hr.out] at h6
      have H6 := Lib.hid h6
      have H5b := Lib.hid (H5.out.later b6)
      clear h6
      go_wp2
      go_ret2
      exact ⟨a5, n5, c5, a6, n6, c6, rfl, H5b.out, H6.out, below_then hB1 (below_then hB (below_then b5 b6))⟩
    | succ k =>
      have e1 : ((k + 1 : Nat) : Int) - 1 = (k : Int) := by omega
      rw [e1]
      clear e1
      obtain ⟨t, ht⟩ : ∃ t : Nat, (k : Int) + (dn : Int) = (t : Int) := ⟨k + dn, by omega⟩
      obtain ⟨t1, ht1⟩ : ∃ t1 : Nat, (t : Int) + 1 = (t1 : Int) := ⟨t + 1, by omega⟩
      have htc : t1 ≤ cap3 := by have := HNn.out; omega
      have hkt : k ≤ t1 := by omega
      have hbq := HQ.out.base
      have hbo := HO.out.base
      have HLT : Hid (val P < 4294967296 ^ (k + 1) * val (dg (vb * 2 ^ s))) := Lib.hid HL.out.2.1
      go_wp2_with fail
      refine (quot_takeAway_at w1 _ g3 k N cap3 _ dn K _ dcap P _ d HO.out hB Hd.out hM2 (by omega) (by omega) (by have := HNn.out; omega) (by omega) (by omega) (by omega) (Lib.hid HD.out.2) HLT).mono ?_
      rintro e w5 ⟨P5, q, rfl, hq, HO5, hG5, HT5⟩
      have HQ5 := Lib.hid (HQ.out.other hG5 (Ne.symm hg3))
      have hcell := HQ5.out.cell (k := k) (by omega)
      have hfro := HQ5.out.1.frozenAt k
      generalize atw Q k = old at hcell
      have hB5 := grown_below hB hG5 hbo.1
      have HQ6 := Lib.hid (HQ5.out.set k q hq)
      have HO6 := Lib.hid (HO5.out.other (grown_cell w5 gq k (.int .u32 (q : Int))) hg3)
      have hB6 := Lib.hid (hB5.setCell (p := ⟨gq, k, none⟩) hbq.1 (.int .u32 (q : Int)))
      have HL6 := Lib.hid (long_step HL.out (by rw [HQ.out.len]; omega) HT5.out)
      clear hB5 HO5 HQ5 HT5 HL HLT hG5
      go_wp2
      go_roundw
      case rel => exact ⟨k, Q.set k q, P5, by omega, by go_num, HL6, HQ6, HO6, hB6.out⟩
      case measure => simp [intOf]
end Go.Proofs.YtiblojmdgjnfbaaDoor

/-
  The contracts of package quot (layer 5) at this seat: Div, Exact.
-/
namespace Go.Proofs.YtiblojmdgjnfbaaDoor
open Go.RowKit

/-- Two lists of words, and whether there are any. -/
def Two (p q : List Nat) (ok : Bool) (w : World) (e : Ending) (w' : World) : Prop :=
  ∃ (a : Option Addr) (n cap : Nat) (b : Option Addr) (m cap' : Nat), e = .returned (.tuple #[.slice a n cap, .slice b m cap', .bool ok]) ∧ Wd w' a n cap p ∧ Wd w' b m cap' q ∧ Below w.heap.size w w'
theorem dg_one {v : Nat} (h : (dg v).length = 1) : atw (dg v) 0 = v := by
  have h1 := val_two (l := dg v) (by omega)
  rw [val_dg, atw_ge (l := dg v) (i := 1) (by omega)] at h1
  omega
theorem quot_div_none (a : Option Addr) (n cap : Nat) (b : Option Addr) (m cap' : Nat) (lb : List Nat) (w : World) (hb : Wd w b m cap' lb) (hm : m ≤ 500000) (h0 : Hid (val lb = 0)) :
    Calls Tryd.prog 47 #[.slice a n cap, .slice b m cap'] w (Two [] [] false w) := by
  go_enter Tryd.func47, Tryd.ntmps47
  go_wp2_with fail
  refine (natSaid.norm _ _ _ _ _ hb (by omega)).mono ?_
  rintro e w1 ⟨b1, M, c1, rfl, h1, hB1⟩
  rw [h0.out, dg_zero] at h1
  obtain rfl : M = 0 := h1.len.symm
  go_wp2
  go_ret3
  exact ⟨_, _, _, _, _, _, rfl, Wd.ofNil _, Wd.ofNil _, hB1⟩
set_option maxRecDepth 4096 in
set_option maxHeartbeats 2000000 in
theorem quot_div (a : Option Addr) (n cap : Nat) (la : List Nat) (b : Option Addr) (m cap' : Nat) (lb : List Nat) (w : World) (ha : Wd w a n cap la) (hb : Wd w b m cap' lb) (hn : n ≤ 500000) (hm : m ≤ 500000) (h0 : Hid (val lb ≠ 0)) :
    Calls Tryd.prog 47 #[.slice a n cap, .slice b m cap'] w (Two (dg (val la / val lb)) (dg (val la % val lb)) true w) := by
  have hM : (dg (val lb)).length ≤ m := hb.trim_le
  have Ha := Lib.hid ha
  clear ha
  go_enter Tryd.func47, Tryd.ntmps47
  go_wp2_with fail
  refine (natSaid.norm _ _ _ _ _ hb (by omega)).mono ?_
  rintro e w1 ⟨b1, M, c1, rfl, h1, hB1⟩
  have HM : Hid ((dg (val lb)).length = M) := Lib.hid h1.len
  have hMn : M ≤ 500000 := by have := HM.out; omega
  have hM0 : M ≠ 0 := fun h => h0.out (dg_nil_iff.1 (HM.out.trans h))
  have hMb : ((M : Int) == 0) = false := by simp [hM0]
  have H1 := Lib.hid h1
  have Ha1 := Lib.hid (Ha.out.later hB1)
  generalize hvb : val lb = vb at *
  clear h1 hb hM Ha hvb
  have Hv : Hid (val (dg vb) = vb) := Lib.hid (val_dg _)
  go_wp2_with fail
  refine (natSaid.cmp _ _ _ _ _ _ _ _ _ Ha1.out H1.out (by omega) (by omega)).mono ?_
  rintro e w2 ⟨rfl, hB2⟩
  rw [Hv.out]
  have Ha2 := Lib.hid (Ha1.out.later hB2)
  have H2 := Lib.hid (H1.out.later hB2)
  have hB12 := below_then hB1 hB2
  clear H1 Ha1 hB1 hB2
  by_cases hlt : val la < vb
  · have hc : cmpI (val la) vb < 0 := by rw [cmpI_lt hlt]; omega
    have Hq : Hid (val la / vb = 0 ∧ val la % vb = val la) := Lib.hid ⟨Nat.div_eq_of_lt hlt, Nat.mod_eq_of_lt hlt⟩
    clear hlt
    generalize cmpI (val la) vb = c at *
    go_wp2_with fail
    refine (natSaid.norm _ _ _ _ _ Ha2.out (by omega)).mono ?_
    rintro e w3 ⟨a3, n3, c3, rfl, h3, hB3⟩
    have H3 := Lib.hid h3
    clear h3
    go_wp2
    go_ret3
    exact ⟨_, _, _, _, _, _, rfl, by rw [Hq.out.1, dg_zero]; exact Wd.ofNil _, by rw [Hq.out.2]; exact H3.out, below_then hB12 hB3⟩
  · have hc : ¬ cmpI (val la) vb < 0 := by unfold cmpI; split <;> (try split) <;> omega
    have Hle : Hid (vb ≤ val la) := Lib.hid (by omega)
    clear hlt
    generalize cmpI (val la) vb = c at *
    by_cases hM1 : M = 1
    · subst hM1
      obtain ⟨bb, ob, rfl, hcb⟩ := H2.out.at (by omega)
      have hcb0 := hcb 0 (by omega)
      rw [dg_one HM.out, Nat.add_zero] at hcb0
      have hvw : vb < 4294967296 := by have := lt_dg_length vb; rw [HM.out] at this; simpa using this
      have hv0 : 0 < vb := Nat.pos_of_ne_zero h0.out
      clear hcb
      go_wp2_with fail
      refine (quot_word _ _ _ _ vb _ Ha2.out (by omega) hvw hv0).mono ?_
      rintro e w3 ⟨a3, n3, c3, rfl, h3, hB3⟩
      have hrw : val la % vb < 4294967296 := Nat.lt_trans (Nat.mod_lt _ hv0) hvw
      have H3 := Lib.hid h3
      obtain ⟨r, hr⟩ : ∃ r, r = val la % vb := ⟨_, rfl⟩
      rw [← hr] at hrw ⊢
      have Hr := Lib.hid hr
      clear h3 hr
      go_wp2_with fail
      refine (natSaid.of r _ (by omega)).mono ?_
      rintro e w4 ⟨a4, n4, c4, rfl, h4, hB4⟩
      have H4 := Lib.hid h4
      have H3b := Lib.hid (H3.out.later hB4)
      clear h4
      go_wp2
      go_ret3
      exact ⟨_, _, _, _, _, _, rfl, H3b.out, by rw [← Hr.out]; exact H4.out, below_then hB12 (below_then hB3 hB4)⟩
    · have hMc : ((M : Int) == 1) = false := by simp; omega
      go_wp2_with fail
      refine (quot_long _ _ _ _ _ _ _ vb _ Ha2.out H2.out (by omega) (by omega) (by omega) Hle).mono ?_
      rintro e w3 ⟨a3, n3, c3, b3, m3, d3, rfl, h3, k3, hB3⟩
      have H3 := Lib.hid h3
      have K3 := Lib.hid k3
      clear h3 k3
      go_wp2
      go_ret3
      exact ⟨_, _, _, _, _, _, rfl, H3.out, K3.out, below_then hB12 hB3⟩
end Go.Proofs.YtiblojmdgjnfbaaDoor

/-
  The contracts of the document's answer for layer 5: Double, Less.
-/
namespace Go.Proofs.YtiblojmdgjnfbaaDoor
open Go.RowKit

/-- P doubled, with c0 more, k words of it done: c is carried; what stands from place k on is P's. -/
def DoubleAt (P R : List Nat) (k c c0 : Nat) : Prop := val R + 4294967296 ^ k * c = val P + low P k + c0 ∧ ∀ j, k ≤ j → atw R j = atw P j
theorem double_start (P : List Nat) (c0 : Nat) : DoubleAt P P 0 c0 c0 := ⟨by rw [low_zero]; simp, fun _ _ => rfl⟩
theorem double_step {P R : List Nat} {k c c0 r z : Nat} (h : DoubleAt P R k c c0) (hk : k < R.length) (hs : r + 4294967296 * z = 2 * atw P k + c) : DoubleAt P (R.set k r) (k + 1) z c0 := by
  refine ⟨?_, fun j hj => by rw [atw_set_ne (by omega)]; exact h.2 j (by omega)⟩
  have h1 := val_set R k r hk
  rw [h.2 k (Nat.le_refl _)] at h1
  have h2 := give_word (c := c) (u := atw P k) (d := atw P k) (z := z) h1 (by omega)
  have h3 := h.1
  rw [low_succ]
  generalize val (R.set k r) = a1 at *
  generalize 4294967296 ^ (k + 1) * z = a2 at *
  generalize 4294967296 ^ k * c = a3 at *
  generalize 4294967296 ^ k * atw P k = a4 at *
  omega
theorem double_end {P R : List Nat} {k c c0 : Nat} (h : DoubleAt P R k c c0) (hk : P.length = k) : val R + 4294967296 ^ k * c = 2 * val P + c0 := by
  have h1 := h.1
  rw [low_ge (by omega)] at h1
  omega
/-- P less D, k words of it done: s is owed. -/
def LessAt (P D R : List Nat) (k s : Nat) : Prop := val R + low D k = val P + 4294967296 ^ k * s ∧ ∀ j, k ≤ j → atw R j = atw P j
theorem less_start (P D : List Nat) : LessAt P D P 0 0 := ⟨by rw [low_zero], fun _ _ => rfl⟩
theorem less_step {P D R : List Nat} {k s r z : Nat} (h : LessAt P D R k s) (hk : k < R.length) (hs : atw P k + 4294967296 * z = atw D k + s + r) : LessAt P D (R.set k r) (k + 1) z := by
  refine ⟨?_, fun j hj => by rw [atw_set_ne (by omega)]; exact h.2 j (by omega)⟩
  have h1 := val_set R k r hk
  rw [h.2 k (Nat.le_refl _)] at h1
  have h2 := take_word h1 hs rfl
  have h3 := h.1
  rw [Nat.mul_add] at h2
  rw [low_succ]
  generalize val (R.set k r) = a1 at *
  generalize 4294967296 ^ (k + 1) * z = a2 at *
  generalize 4294967296 ^ k * atw D k = a3 at *
  generalize 4294967296 ^ k * s = a4 at *
  omega
theorem less_end {P D R : List Nat} {k s : Nat} (h : LessAt P D R k s) (hR : okw R) (hk : R.length = k) (hD : D.length ≤ k) (hle : val D ≤ val P) : val R = val P - val D := by
  have h1 := h.1
  have h2 := val_lt hR
  rw [hk] at h2
  rw [low_ge hD] at h1
  rcases Nat.eq_zero_or_pos s with h0 | h0
  · subst h0; omega
  · have h3 : 4294967296 ^ k * 1 ≤ 4294967296 ^ k * s := Nat.mul_le_mul_left _ h0
    generalize 4294967296 ^ k * s = a4 at *
    generalize 4294967296 ^ k = a5 at *
    omega

def DoublePost (base g N cap c0 : Nat) (P : List Nat) (w : World) (e : Ending) (w' : World) : Prop :=
  ∃ (P' : List Nat) (z : Nat), e = .returned (.tuple #[]) ∧ Hid (Own w' base g N cap P') ∧ w.grownBy w' (some g) ∧ Hid (val P' + 4294967296 ^ N * z = 2 * val P + c0)
set_option maxRecDepth 4096 in
set_option maxHeartbeats 2000000 in
theorem ref05_double (base g N cap c0 : Nat) (more : Bool) (P : List Nat) (w : World) (hO : Own w base g N cap P) (hN : N ≤ 2000000) (hm : c0 = if more = true then 1 else 0) :
    Calls Tryd.prog 69 #[.slice (some ⟨g, 0, none⟩) N cap, .bool more] w (DoublePost base g N cap c0 P w) := by
  have HO0 := Lib.hid hO
  have HPl := Lib.hid hO.len
  have HPo := Lib.hid hO.2
  have hc0 : c0 ≤ 1 := by rw [hm]; split <;> omega
  have HM := Lib.hid hm
  clear hO hm
  go_enter Tryd.func69, Tryd.ntmps69
  cases more
  all_goals (
    go_wp2
    go_loopw [4, 5] (fun cv kv wr => ∃ (k c : Nat) (R : List Nat), k ≤ N ∧ kv = .int .i64 (k : Int) ∧ cv = .int .u32 (c : Int) ∧ c ≤ 1 ∧ Hid (DoubleAt P R k c c0) ∧ Hid (Own wr base g N cap R) ∧ w.grownBy wr (some g)) (fun _ kv _ => N - (intOf kv).toNat)
    case atStart => exact ⟨0, c0, P, by omega, rfl, by rw [HM.out]; rfl, hc0, Lib.hid (double_start _ _), HO0, grown_refl _ _⟩
    case round =>
      obtain ⟨k, c, R, hk, rfl, rfl, hc, HD, HO, hG⟩ := hrel
      by_cases hlt : k < N
      · have hcell := HO.out.cell (k := k) hlt
        rw [HD.out.2 k (Nat.le_refl _)] at hcell
        have hfro := HO.out.1.frozenAt k
        have huw := atw_lt HPo.out k
        obtain ⟨u, huu⟩ : ∃ u, u = atw P k := ⟨_, rfl⟩
        rw [← huu] at huw hcell
        have Hu := Lib.hid huu
        have hki : (k : Int) < (N : Int) := by omega
        obtain ⟨z, hz⟩ : ∃ z : Nat, (u : Int) / 2147483648 = (z : Int) := ⟨u / 2147483648, by omega⟩
        obtain ⟨v, hv⟩ : ∃ v : Nat, (u : Int) * 2 % 4294967296 = (v : Int) := ⟨u * 2 % 4294967296, by omega⟩
        obtain ⟨r, hr⟩ : ∃ r : Nat, (v : Int) + (c : Int) = (r : Int) := ⟨v + c, by omega⟩
        have Hs : Hid (r + 4294967296 * z = 2 * u + c) := Lib.hid (by omega)
        have hz1 : z ≤ 1 := by omega
        have hrw : r < 4294967296 := by omega
        have HOs := Lib.hid (HO.out.set k r hrw)
        have hGs := Lib.hid (grown_then hG (grown_cell _ g k (.int .u32 (r : Int))))
        clear huu
        go_wp2
        go_roundw
        case rel => exact ⟨k + 1, z, R.set k r, by omega, by go_num, rfl, hz1, Lib.hid (double_step HD.out (by rw [HO.out.len]; omega) (by rw [← Hu.out]; exact Hs.out)), HOs, hGs.out⟩
        case measure => simp [intOf]; omega
      · obtain rfl : k = N := by omega
        have Hfin := Lib.hid (double_end HD.out HPl.out)
        go_wp2
        go_end0
        exact ⟨R, c, rfl, HO, hG, Hfin⟩)
def LessPost (base g N cap : Nat) (P D : List Nat) (w : World) (e : Ending) (w' : World) : Prop :=
  ∃ (P' : List Nat), e = .returned (.tuple #[]) ∧ Hid (Own w' base g N cap P') ∧ w.grownBy w' (some g) ∧ Hid (val P' = val P - val D)
set_option maxRecDepth 4096 in
set_option maxHeartbeats 2000000 in
theorem ref05_less (w0 w : World) (g N cap : Nat) (P : List Nat) (d : Option Addr) (m dcap : Nat) (D : List Nat) (hO : Own w w0.heap.size g N cap P) (hB : Below w0.heap.size w0 w) (hd : Wd w0 d m dcap D) (hN : N ≤ 2000000) (hm : m ≤ N) (hle : Hid (val D ≤ val P)) :
    Calls Tryd.prog 70 #[.slice (some ⟨g, 0, none⟩) N cap, .slice d m dcap] w (LessPost w0.heap.size g N cap P D w) := by
  have HO0 := Lib.hid hO
  have HPl := Lib.hid hO.len
  have HPo := Lib.hid hO.2
  have HD := Lib.hid hd
  clear hO hd
  go_enter Tryd.func70, Tryd.ntmps70
  go_wp2
  go_loopw [4, 5] (fun sv kv wr => ∃ (k s : Nat) (R : List Nat), k ≤ N ∧ kv = .int .i64 (k : Int) ∧ sv = .int .u64 (s : Int) ∧ s ≤ 1 ∧ Hid (LessAt P D R k s) ∧ Hid (Own wr w0.heap.size g N cap R) ∧ w.grownBy wr (some g)) (fun _ kv _ => N - (intOf kv).toNat)
  case atStart => exact ⟨0, 0, P, by omega, rfl, rfl, by omega, Lib.hid (less_start _ _), HO0, grown_refl _ _⟩
  case round =>
    obtain ⟨k, s, R, hk, rfl, rfl, hs, HL, HO, hG⟩ := hrel
    have hbase := HO.out.base
    by_cases hlt : k < N
    · have hcell := HO.out.cell (k := k) hlt
      rw [HL.out.2 k (Nat.le_refl _)] at hcell
      have hfro := HO.out.1.frozenAt k
      have huw := atw_lt HPo.out k
      obtain ⟨u, huu⟩ : ∃ u, u = atw P k := ⟨_, rfl⟩
      rw [← huu] at huw hcell
      have Hu := Lib.hid huu
      have hki : (k : Int) < (N : Int) := by omega
      clear huu
      go_wp2_with fail
      refine (ref02_at _ _ _ k _ _ (HD.out.later (grown_below hB hG hbase.1)) (by omega)).mono ?_
      rintro e w' ⟨rfl, rfl⟩
      have hdw := atw_lt HD.out.ok k
      obtain ⟨b, hbb⟩ : ∃ b, b = atw D k := ⟨_, rfl⟩
      rw [← hbb] at hdw ⊢
      have Hb := Lib.hid hbb
      clear hbb
      obtain ⟨y, hy⟩ : ∃ y : Nat, (b : Int) + (s : Int) = (y : Int) := ⟨b + s, by omega⟩
      have Hy : Hid (y = b + s) := Lib.hid (by omega)
      have hyb : y ≤ 4294967296 := by omega
      by_cases hxy : u < y
      · obtain ⟨x, hx⟩ : ∃ x : Nat, (u : Int) + 4294967296 = (x : Int) := ⟨u + 4294967296, by omega⟩
        obtain ⟨r, hr⟩ : ∃ r : Nat, (x : Int) - (y : Int) = (r : Int) := ⟨x - y, by omega⟩
        have hrw : r < 4294967296 := by omega
        have HS : Hid (u + 4294967296 * 1 = b + s + r) := Lib.hid (by have := Hy.out; omega)
        have HOs := Lib.hid (HO.out.set k r hrw)
        have hGs := Lib.hid (grown_then hG (grown_cell _ g k (.int .u32 (r : Int))))
        go_wp2
        go_roundw
        case rel => exact ⟨k + 1, 1, R.set k r, by omega, by go_num, rfl, by omega, Lib.hid (less_step HL.out (by rw [HO.out.len]; omega) (by rw [← Hu.out, ← Hb.out]; exact HS.out)), HOs, hGs.out⟩
        case measure => simp [intOf]; omega
      · obtain ⟨r, hr⟩ : ∃ r : Nat, (u : Int) - (y : Int) = (r : Int) := ⟨u - y, by omega⟩
        have hrw : r < 4294967296 := by omega
        have HS : Hid (u + 4294967296 * 0 = b + s + r) := Lib.hid (by have := Hy.out; omega)
        have HOs := Lib.hid (HO.out.set k r hrw)
        have hGs := Lib.hid (grown_then hG (grown_cell _ g k (.int .u32 (r : Int))))
        go_wp2
        go_roundw
        case rel => exact ⟨k + 1, 0, R.set k r, by omega, by go_num, rfl, by omega, Lib.hid (less_step HL.out (by rw [HO.out.len]; omega) (by rw [← Hu.out, ← Hb.out]; exact HS.out)), HOs, hGs.out⟩
        case measure => simp [intOf]; omega
    · obtain rfl : k = N := by omega
      have Hfin : Hid (val R = val P - val D) := Lib.hid (less_end HL.out HO.out.2 HO.out.len (by rw [HD.out.len]; exact hm) hle.out)
      go_wp2
      go_end0
      exact ⟨R, rfl, HO, hG, Hfin⟩
end Go.Proofs.YtiblojmdgjnfbaaDoor

/-
  The contracts of the document's answer for layer 3.
-/
namespace Go.Proofs.YtiblojmdgjnfbaaDoor
open Go.RowKit

theorem bitI_nat (v i : Nat) : bitI v (i : Int) = v.testBit i := by unfold bitI; rw [decide_eq_true (by omega)]; rfl
theorem ref03_has_neg (a : Option Addr) (n cap : Nat) (i : Int) (w : World) (h : i < 0) :
    Calls Tryd.prog 85 #[.slice a n cap, .int .i64 i] w fun e w' => e = .returned (.bool false) ∧ w = w' := by
  go_enter Tryd.func85, Tryd.ntmps85
  go_wp2
  go_ret
  exact ⟨rfl, rfl⟩
theorem ref03_has_nat (a : Option Addr) (n cap : Nat) (l : List Nat) (i : Nat) (w : World) (h : Wd w a n cap l) (hi : i ≤ 9223372036854775807) :
    Calls Tryd.prog 85 #[.slice a n cap, .int .i64 (i : Int)] w fun e w' => e = .returned (.bool ((val l).testBit i)) ∧ w = w' := by
  obtain ⟨hb1, hb2⟩ := h.bound
  have H := Lib.hid h
  clear h
  by_cases hlt : i / 32 < n
  · obtain ⟨b, off, rfl, hc⟩ := H.out.at (by omega)
    have hck := hc (i / 32) hlt
    have hx := atw_lt H.out.ok (i / 32)
    clear hc
    have Hfin : Hid ((val l).testBit i = decide (atw l (i / 32) / 2 ^ (i % 32) % 2 = 1)) := Lib.hid (low_bit l H.out.ok i)
    obtain ⟨x, hxx⟩ : ∃ x, x = atw l (i / 32) := ⟨_, rfl⟩
    rw [← hxx] at hck hx Hfin
    clear hxx
    go_enter Tryd.func85, Tryd.ntmps85
    go_wp2
    go_loop [5, 6] (fun xv kv => ∃ k y : Nat, k ≤ i % 32 ∧ kv = .int .i64 (k : Int) ∧ xv = .int .u32 (y : Int) ∧ y < 4294967296 ∧ Hid (y = x / 2 ^ k)) (fun _ kv => 32 - (intOf kv).toNat)
    case atStart => exact ⟨0, x, by omega, rfl, rfl, hx, Lib.hid (by simp)⟩
    case round =>
      obtain ⟨k, y, hk, rfl, rfl, hy, Hy⟩ := hrel
      by_cases hkr : k < i % 32
      · have hki : (k : Int) < (i : Int) % 32 := by omega
        go_wp2
        go_round
        case rel => exact ⟨k + 1, y / 2, by omega, by go_num, by go_num, by omega, Lib.hid (by rw [Hy.out, Nat.pow_succ, Nat.div_div_eq_div_mul])⟩
        case measure => simp [intOf]; omega
      · have hki : (i : Int) % 32 ≤ (k : Int) := by omega
        have Hk : Hid (k = i % 32) := Lib.hid (by omega)
        clear hkr
        go_wp2
        go_ret
        exact ⟨ret_bool (by
          rw [Hfin.out, ← Hk.out, ← Hy.out, Bool.eq_iff_iff, beq_iff_eq, decide_eq_true_eq]; omega), rfl⟩
  · have Hv : Hid ((val l).testBit i = false) := Lib.hid (by rw [val_bit H.out.ok, atw_ge (by have := H.out.len; omega)]; simp)
    go_enter Tryd.func85, Tryd.ntmps85
    go_wp2
    go_ret
    exact ⟨ret_bool Hv.out.symm, rfl⟩
theorem ref03_has (a : Option Addr) (n cap : Nat) (l : List Nat) (i : Int) (w : World) (h : Wd w a n cap l) (hi : i ≤ 9223372036854775807) :
    Calls Tryd.prog 85 #[.slice a n cap, .int .i64 i] w fun e w' => e = .returned (.bool (bitI (val l) i)) ∧ w = w' := by
  rcases Int.lt_or_le i 0 with h0 | h0
  · exact (ref03_has_neg a n cap i w h0).mono fun e w' ⟨he, hw⟩ => ⟨by rw [he]; unfold bitI; rw [decide_eq_false (by omega)]; rfl, hw⟩
  · obtain ⟨k, rfl⟩ := Int.eq_ofNat_of_zero_le h0
    exact (ref03_has_nat a n cap l k w h (by omega)).mono fun e w' ⟨he, hw⟩ => ⟨by rw [he, bitI_nat], hw⟩
theorem ref03_len (a : Option Addr) (n cap : Nat) (l : List Nat) (w : World) (h : Wd w a n cap l) (hn : n ≤ 16777214) :
    Calls Tryd.prog 68 #[.slice a n cap] w fun e w' => e = .returned (.int .i64 ((blen (val l) : Nat) : Int)) ∧ w = w' := by
  obtain ⟨hb1, hb2⟩ := h.bound
  have H := Lib.hid h
  clear h
  go_enter Tryd.func68, Tryd.ntmps68
  go_wp2
  go_loop [3] (fun kv => ∃ k : Nat, k ≤ 32 * n ∧ kv = .int .i64 (k : Int) ∧ Hid (val l < 2 ^ k)) (fun kv => (intOf kv).toNat)
  case atStart => exact ⟨32 * n, by omega, by go_num, Lib.hid (by rw [← pow32, ← H.out.len]; exact val_lt H.out.ok)⟩
  case round =>
    obtain ⟨k, hk, rfl, Hv⟩ := hrel
    cases k with
    | zero =>
      have Hfin : Hid (blen (val l) = 0) := Lib.hid (by have := blen_le.2 Hv.out; omega)
      go_wp2
      go_ret
      exact ⟨ret_i64 (by rw [Hfin.out]; rfl), rfl⟩
    | succ p =>
      go_wp2_with fail
      refine (ref03_has_nat _ _ _ _ p _ H.out (by omega)).mono ?_
      rintro e w' ⟨rfl, rfl⟩
      cases hb : (val l).testBit p with
      | true =>
        have Hfin : Hid (blen (val l) = p + 1) := Lib.hid (blen_eq Hv.out (.inr (by rw [Nat.add_sub_cancel]; exact Nat.ge_two_pow_of_testBit hb)))
        clear hb
        go_wp2
        go_ret
        exact ⟨ret_i64 (by rw [Hfin.out]; omega), rfl⟩
      | false =>
        have Hlt : Hid (val l < 2 ^ p) := Lib.hid (lt_of_bit Hv.out hb)
        clear hb
        go_wp2
        go_round
        case rel => exact ⟨p, by omega, by go_num, Hlt⟩
        case measure => simp [intOf]
end Go.Proofs.YtiblojmdgjnfbaaDoor
