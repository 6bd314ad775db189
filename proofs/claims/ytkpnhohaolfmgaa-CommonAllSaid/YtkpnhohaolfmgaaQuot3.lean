/-
  The contracts of package quot (layer 5) at this seat: Word, long.
-/
import Derived.Test.YtkpnhohaolfmgaaQuot2
namespace Go.Proofs.Ytkpnhohaolfmgaa
open Go.RowKit

theorem quot_word_none (a : Option Addr) (n cap : Nat) (w : World) : Calls Try.prog 45 #[.slice a n cap, .int .u32 0] w fun e w' => e = .returned (.tuple #[.slice none 0 0, .int .u32 0, .bool false]) ∧ w = w' := by
  go_enter Try.func45, Try.ntmps45
  go_wp2
  go_ret3
  exact ⟨rfl, rfl⟩
/-- Quotient and rest by a word. -/
def WordPost (v x : Nat) (w : World) (e : Ending) (w' : World) : Prop :=
  ∃ (a : Option Addr) (n cap : Nat), e = .returned (.tuple #[.slice a n cap, .int .u32 ((v % x : Nat) : Int), .bool true]) ∧ Wd w' a n cap (dg (v / x)) ∧ Below w.heap.size w w'
set_option maxHeartbeats 2000000 in
theorem quot_word (a : Option Addr) (n cap : Nat) (l : List Nat) (x : Nat) (w : World) (h : Wd w a n cap l) (hn : n ≤ 1000000) (hx : x < 4294967296) (h0 : 0 < x) : Calls Try.prog 45 #[.slice a n cap, .int .u32 (x : Int)] w (WordPost (val l) x w) := by
  have hmn : (dg (val l)).length ≤ n := h.trim_le
  have H := Lib.hid h
  have hxz : ((x : Int) == 0) = false := by simp; omega
  clear h
  go_enter Try.func45, Try.ntmps45
  go_wp2_with fail
  refine (nat_norm _ _ _ _ _ H.out (by omega)).mono ?_
  rintro e w1 ⟨g, m, rfl, Hm, Hown, hB1⟩
  have HO1 : Hid (Own w1 w.heap.size g m m (dg (val l))) := Lib.hid ⟨Hown.out, okw_dg _⟩
  have hm : m ≤ 1000000 := by rw [Hm.out]; omega
  have HL : Hid (okw (dg (val l)) ∧ (dg (val l)).length = m ∧ val (dg (val l)) = val l) := Lib.hid ⟨okw_dg _, Hm.out.symm, val_dg _⟩
  clear Hown Hm hmn H
  generalize dg (val l) = L at HO1 HL
  go_wp2
  go_loopw [5, 7] (fun rv iv wr => ∃ (k r : Nat) (Q : List Nat), k ≤ m ∧ iv = .int .i64 ((k : Int) - 1) ∧ rv = .int .u32 (r : Int) ∧ r < x ∧ Hid (WordAt x L Q k r) ∧ Hid (Own wr w.heap.size g m m Q) ∧ Below w.heap.size w wr) (fun _ iv _ => (intOf iv + 1).toNat)
  case atStart => exact ⟨m, 0, L, by omega, by go_num, rfl, h0, Lib.hid ⟨by rw [top_ge (by rw [HL.out.2.1]; omega)]; simp, h0, fun j _ => rfl, rfl⟩, HO1, hB1⟩
  case round =>
    clear HO1 hB1
    obtain ⟨k, r, Q, hk, rfl, rfl, hr, HW, HO, hB⟩ := hrel
    cases k with
    | zero =>
      have Hfin := Lib.hid (word_end HW.out HL.out.2.2)
      have hr2 : r = val l % x := Hfin.out.2
      have Hq : Hid (val Q = val l / x) := Lib.hid Hfin.out.1
      have Hr := Lib.hid hr2
      clear hr2 Hfin
      go_wp2_with fail
      refine (natSaid.norm _ _ _ _ _ HO.out.wd (by omega)).mono ?_
      rintro e w2 ⟨a2, n2, c2, rfl, h2, b2⟩
      rw [Hq.out] at h2
      have H2 := Lib.hid h2
      clear h2
      go_wp2
      go_ret3
      exact ⟨a2, n2, c2, by rw [← Hr.out]; rfl, H2.out, below_then hB b2⟩
    | succ k =>
      have e1 : ((k + 1 : Nat) : Int) - 1 = (k : Int) := by omega
      rw [e1]
      clear e1
      have hcell := HO.out.cell (k := k) (by omega)
      rw [HW.out.2.2.1 k (by omega)] at hcell
      have hfro := HO.out.1.frozenAt k
      have huw := atw_lt HL.out.1 k
      obtain ⟨u, huu⟩ : ∃ u, u = atw L k := ⟨_, rfl⟩
      rw [← huu] at huw hcell
      have Hu := Lib.hid huu
      have hb := HO.out.base
      obtain ⟨q, hq⟩ : ∃ q, q = (r * 4294967296 + u) / x := ⟨_, rfl⟩
      obtain ⟨s, hs⟩ : ∃ s, s = (r * 4294967296 + u) % x := ⟨_, rfl⟩
      have hqw : q < 4294967296 := by rw [hq]; exact Nat.div_lt_of_lt_mul (by omega)
      have hsx : s < x := by rw [hs]; exact Nat.mod_lt _ h0
      have HQ := Lib.hid hq
      have HS := Lib.hid hs
      have hki : (k : Int) < (m : Int) := by omega
      clear huu hq hs
      go_wp2_with fail
      refine (limb_div_nat r u x q s _ huw hx hr HQ HS).mono ?_
      rintro e w' ⟨rfl, p, rfl⟩
      have HOs := Lib.hid ((show Own (wr.drewN p) w.heap.size g m m Q from HO.out).set k q hqw)
      have HBs := Lib.hid ((below_drewN hB p).setCell (p := ⟨g, k, none⟩) hb.1 (.int .u32 (q : Int)))
      have HW2 : Hid (WordAt x L (Q.set k q) k s) := Lib.hid (by
        have h1 := word_down HW.out (by omega) (by rw [HO.out.len]; omega)
        rwa [← Hu.out, ← HQ.out, ← HS.out] at h1)
      go_wp2
      go_roundw
      case rel => exact ⟨k, s, Q.set k q, by omega, by go_num, rfl, hsx, HW2, HOs, HBs.out⟩
      case measure => simp [intOf]
theorem quot_takeAway_at (w0 w : World) (g i N cap c M K W dcap : Nat) (P D : List Nat) (d : Option Addr) (hO : Own w w0.heap.size g N cap P) (hB : Below w0.heap.size w0 w) (hd : Wd w0 d M dcap D) (hM : 2 ≤ M) (hK : M = K + 1) (hW : W = M + 1) (hi : i + M < N) (hc : W ≤ c) (hc2 : c ≤ 9223372036854775807) (hN : N ≤ 2000000) (hv : Hid (2147483648 ≤ atw D K)) (hlt : Hid (val P < 4294967296 ^ (i + 1) * val D)) :
    Calls Try.prog 56 #[.slice (some ⟨g, i, none⟩) W c, .slice d M dcap] w (AwayPost w0.heap.size g N cap i D P w) := by
  obtain ⟨m, rfl⟩ : ∃ m, K = m + 1 := ⟨K - 1, by omega⟩
  subst hK
  subst hW
  exact quot_takeAway w0 w g i N cap c m dcap P D d hO hB hd hi hc hc2 hN hv hlt
def LongPost2 (p q : Nat) (w : World) (e : Ending) (w' : World) : Prop :=
  ∃ (a : Option Addr) (n cap : Nat) (b : Option Addr) (m cap' : Nat), e = .returned (.tuple #[.slice a n cap, .slice b m cap']) ∧ Wd w' a n cap (dg p) ∧ Wd w' b m cap' (dg q) ∧ Below w.heap.size w w'
set_option maxHeartbeats 4000000 in
theorem quot_long (a : Option Addr) (na cap : Nat) (la : List Nat) (b : Option Addr) (M cap' vb : Nat) (w : World) (ha : Wd w a na cap la) (hb : Wd w b M cap' (dg vb)) (hna : na ≤ 500000) (hM2 : 2 ≤ M) (hMn : M ≤ 1000000) (hle : Hid (vb ≤ val la)) :
    Calls Try.prog 46 #[.slice a na cap, .slice b M cap'] w (LongPost2 (val la / vb) (val la % vb) w) := by
  obtain ⟨i0, hi, hz0, hz1, hz2⟩ := info_parts infoU32
  obtain ⟨K, hK⟩ : ∃ K : Nat, (M : Int) - 1 = (K : Int) := ⟨M - 1, by omega⟩
  have HMl : Hid ((dg vb).length = M) := Lib.hid hb.len
  obtain ⟨bb, ob, rfl, hcb⟩ := hb.at (by omega)
  have hcK := hcb K (by omega)
  have hxw := atw_lt (okw_dg vb) K
  obtain ⟨x, hxx⟩ : ∃ x, x = atw (dg vb) K := ⟨_, rfl⟩
  rw [← hxx] at hxw hcK
  obtain ⟨s, hs⟩ : ∃ s, s = 32 - blen (atw (dg vb) K) := ⟨_, rfl⟩
  have hnt := norm_top (b := vb) (m := K) (by have := HMl.out; omega) hs
  have hs32 : s < 32 := hnt.1
  have HD : Hid ((dg (vb * 2 ^ s)).length = M ∧ 2147483648 ≤ atw (dg (vb * 2 ^ s)) K) := Lib.hid ⟨by have := hnt.2.1; omega, hnt.2.2⟩
  have hbl : blen x ≤ 32 := blen_le.2 hxw
  have hsi : (32 : Int) - ((blen x : Nat) : Int) = (s : Int) := by rw [hxx]; have := blen_le.2 (show atw (dg vb) K < 2 ^ 32 from atw_lt (okw_dg vb) K); omega
  have Ha := Lib.hid ha
  have Hb := Lib.hid hb
  have hKi : (K : Int) < (M : Int) := by omega
  have hv0 : Hid (0 < vb) := Lib.hid (by
    rcases Nat.eq_zero_or_pos vb with h | h
    · have := HMl.out; rw [h, dg_zero] at this; simp at this; omega
    · exact h)
  clear hxx hs hnt ha hb hcb
  generalize hbx : blen x = y at *
  have Hbx := Lib.hid hbx
  clear hbx
  go_enter Try.func46, Try.ntmps46
  go_wp2_with fail
  refine (limb_len_nat x _ hxw).mono ?_
  rintro e w' ⟨rfl, rfl⟩
  rw [Hbx.out]
  go_wp2_with fail
  refine (twos_up _ _ _ _ (s : Int) _ Hb.out (by omega)).mono ?_
  rintro e w1 ⟨d, dn, dcap, rfl, hd, hB1⟩
  rw [show min (s : Int).toNat 4096 = s by omega, val_dg] at hd
  have hdn : dn = M := by rw [← hd.len]; exact HD.out.1
  subst hdn
  have Hd := Lib.hid hd
  have HD2 : Hid (okw (dg (vb * 2 ^ s)) ∧ val (dg (vb * 2 ^ s)) = vb * 2 ^ s) := Lib.hid ⟨okw_dg _, val_dg _⟩
  clear hd
  have Ha1 := Lib.hid (Ha.out.later hB1)
  go_wp2_with fail
  refine (twos_up_own _ _ _ _ (s : Int) _ Ha1.out (by omega)).mono ?_
  rintro e w2 ⟨a2, n2, c2, rfl, h2, hB2, hown⟩
  rw [show min (s : Int).toNat 4096 = s by omega] at h2 hown
  obtain ⟨g, rfl, HO2⟩ := hown (Nat.ne_of_gt (Nat.mul_pos (by have h1 := hle.out; have h2 := hv0.out; omega) (Nat.two_pow_pos s)))
  obtain ⟨A, hA⟩ : ∃ A, A = val la * 2 ^ s := ⟨_, rfl⟩
  rw [← hA] at h2 HO2
  have HA := Lib.hid hA
  have hn2 : n2 ≤ 500001 ∧ dn ≤ n2 := by
    have h3 := h2.len
    have h4 := val_lt Ha.out.ok
    rw [Ha.out.len] at h4
    refine ⟨?_, ?_⟩
    · have h5 : 2 ^ s ≤ 4294967296 ^ 1 := Nat.le_trans (Nat.pow_le_pow_right (by decide) (show s ≤ 32 by omega)) (by decide)
      have h6 := Nat.mul_lt_mul_of_lt_of_le h4 h5 (pow_pos32 1)
      rw [← Nat.pow_add, ← hA] at h6
      have h7 := dg_length_le h6
      omega
    · rw [← h3, ← HD.out.1]
      apply dg_length_mono
      rw [hA]
      exact Nat.mul_le_mul_right _ hle.out
  obtain ⟨hn2, hMn2⟩ := hn2
  have HAl : Hid ((dg A).length = n2) := Lib.hid h2.len
  clear h2 hA
  go_wp2_with (at_builtin; refine wpList_append_own _ rfl _ _ 22 rfl w1.heap.size 38 i0 (.int .u32 0) 1 4 Try.underlying22 hi hz0 hz1 hz2 rfl (by decide) _ n2 _ rfl (HO2.out.1.alloc _) ⟨w2.heap.size, 0, none⟩ 1 1 (wcells [0]) rfl rfl (Wd.lit1 w2 38 (x := 0) (by omega)).cells (wcells_one _) (by unfold maxLen; omega) (by omega) (by simp; have := hB2.size; omega) ?_)
  intro v' w3 hown3 hgrow3 _
  obtain ⟨g3, cap3, rfl, HO3'⟩ := Own.push (r := 0) hown3 HO2.out.2 (by decide)
  have HO3 := Lib.hid HO3'
  have hbase2 := HO2.out.base
  have hB3 : Below w1.heap.size w1 w3 := (hB2.alloc hB2.size _).grown hgrow3 (by simp; have := hB2.size; omega) (by intro k hk; simp [Value.ownBlock] at hk; omega)
  obtain ⟨hc3a, hc3b⟩ := HO3.out.bound
  clear HO3' hown3 hgrow3 hbase2 HO2
  obtain ⟨N, hN⟩ : ∃ N : Nat, N = n2 + 1 := ⟨_, rfl⟩
  rw [← hN] at HO3 hc3a ⊢
  have HN := Lib.hid hN
  have hNd : dn < N := by omega
  have hNb : N ≤ 500002 := by omega
  clear hN
  obtain ⟨n, hnn⟩ : ∃ n : Nat, (N : Int) - (dn : Int) = (n : Int) := ⟨N - dn, by omega⟩
  have HNn : Hid (N = n + dn) := Lib.hid (by omega)
  have hnb : n ≤ 1000001 := by omega
  have hb3s := hB3.size
  go_wp2_with (at_make; refine wpList_make_words _ rfl _ _ 22 rfl w1.heap.size 38 i0 (.int .u32 0) Try.underlying22 hi hz0 hz1 rfl .i64 .i64 _ _ n n rfl rfl rfl rfl (by omega) (by rw [hz2]; omega) (by unfold maxLen; omega) hb3s ?_; intro w4 hown4 hgrow4)
  rw [zeros_cells] at hown4
  have HQ4 : Hid (Own w4 w1.heap.size w3.heap.size n n (List.replicate n 0)) := Lib.hid ⟨hown4, okw_zeros n⟩
  have HO4 := Lib.hid (HO3.out.stay hgrow4)
  have hB4 : Below w1.heap.size w1 w4 := hB3.grown hgrow4 hb3s (fun k hk => by cases hk)
  have hg3 : g3 ≠ w3.heap.size := by have := HO3.out.base; omega
  generalize w3.heap.size = gq at *
  have hgqb : w1.heap.size ≤ gq := hb3s
  have HL4 := Lib.hid (long_start (A := A) (n := n) (m := K) (D := dg (vb * 2 ^ s)) (by have h1 := HAl.out; have h2 := HN.out; have h3 := HNn.out; omega) (by have h1 := HD.out.1; omega) HD.out.2)
  clear hown4 hgrow4 HO3 hB3 hb3s
  go_loopw [9] (fun iv wr => ∃ (k : Nat) (Q P : List Nat), k ≤ n ∧ iv = .int .i64 ((k : Int) - 1) ∧ Hid (LongAt A (dg (vb * 2 ^ s)) Q P k) ∧ Hid (Own wr w1.heap.size gq n n Q) ∧ Hid (Own wr w1.heap.size g3 N cap3 P) ∧ Below w1.heap.size w1 wr) (fun iv _ => (intOf iv + 1).toNat)
  case atStart => exact ⟨n, List.replicate n 0, dg A ++ [0], by omega, by go_num, HL4, HQ4, HO4, hB4⟩
  case round =>
    clear HQ4 HO4 hB4 HL4
    obtain ⟨k, Q, P, hk, rfl, HL, HQ, HO, hB⟩ := hrel
    cases k with
    | zero =>
      have Hfin := Lib.hid (long_end HL.out)
      have Hq : Hid (val Q = val la / vb) := Lib.hid (by rw [Hfin.out.1, HD2.out.2, HA.out, (shifted_div _ _ _).1])
      have Hr : Hid (val P / 2 ^ s = val la % vb) := Lib.hid (by rw [Hfin.out.2, HD2.out.2, HA.out, (shifted_div _ _ _).2])
      have HP := Lib.hid HO.out.wd
      clear Hfin HL
      go_wp2_with fail
      refine (natSaid.norm _ _ _ _ _ HQ.out.wd (by omega)).mono ?_
      rintro e w5 ⟨a5, n5, c5, rfl, h5, b5⟩
      rw [Hq.out] at h5
      have H5 := Lib.hid h5
      clear h5
      go_wp2_with fail
      refine (twos_down _ _ _ _ (s : Int) _ (HP.out.later b5) (by omega) (by omega)).mono ?_
      rintro e w6 ⟨a6, n6, c6, rfl, h6, b6⟩
      rw [Int.toNat_natCast, Hr.out] at h6
      have H6 := Lib.hid h6
      have H5b := Lib.hid (H5.out.later b6)
      clear h6
      go_wp2
      go_ret2
      exact ⟨a5, n5, c5, a6, n6, c6, rfl, H5b.out, H6.out, below_then hB1 (below_then hB (below_then b5 b6))⟩
    | succ k =>
      have e1 : ((k + 1 : Nat) : Int) - 1 = (k : Int) := by omega
      rw [e1]
      clear e1
      obtain ⟨t, ht⟩ : ∃ t : Nat, (k : Int) + (dn : Int) = (t : Int) := ⟨k + dn, by omega⟩
      obtain ⟨t1, ht1⟩ : ∃ t1 : Nat, (t : Int) + 1 = (t1 : Int) := ⟨t + 1, by omega⟩
      have htc : t1 ≤ cap3 := by have := HNn.out; omega
      have hkt : k ≤ t1 := by omega
      have hbq := HQ.out.base
      have hbo := HO.out.base
      have HLT : Hid (val P < 4294967296 ^ (k + 1) * val (dg (vb * 2 ^ s))) := Lib.hid HL.out.2.1
      go_wp2_with fail
      refine (quot_takeAway_at w1 _ g3 k N cap3 _ dn K _ dcap P _ d HO.out hB Hd.out hM2 (by omega) (by omega) (by have := HNn.out; omega) (by omega) (by omega) (by omega) (Lib.hid HD.out.2) HLT).mono ?_
      rintro e w5 ⟨P5, q, rfl, hq, HO5, hG5, HT5⟩
      have HQ5 := Lib.hid (HQ.out.other hG5 (Ne.symm hg3))
      have hcell := HQ5.out.cell (k := k) (by omega)
      have hfro := HQ5.out.1.frozenAt k
      generalize atw Q k = old at hcell
      have hB5 := grown_below hB hG5 hbo.1
      have HQ6 := Lib.hid (HQ5.out.set k q hq)
      have HO6 := Lib.hid (HO5.out.other (grown_cell w5 gq k (.int .u32 (q : Int))) hg3)
      have hB6 := Lib.hid (hB5.setCell (p := ⟨gq, k, none⟩) hbq.1 (.int .u32 (q : Int)))
      have HL6 := Lib.hid (long_step HL.out (by rw [HQ.out.len]; omega) HT5.out)
      clear hB5 HO5 HQ5 HT5 HL HLT hG5
      go_wp2
      go_roundw
      case rel => exact ⟨k, Q.set k q, P5, by omega, by go_num, HL6, HQ6, HO6, hB6.out⟩
      case measure => simp [intOf]
end Go.Proofs.Ytkpnhohaolfmgaa
