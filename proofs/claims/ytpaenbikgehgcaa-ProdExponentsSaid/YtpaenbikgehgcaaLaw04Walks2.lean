/-
  The walks of the laws of layer 4: ProdShares, ProdExponents.
-/
import Derived.Test.YtpaenbikgehgcaaLaw04Walks
namespace Go.Proofs.Ytpaenbikgehgcaa
open Go.RowKit

theorem Wd.mul_len {w1 w2 w3 : World} {a1 a2 a3 : Option Addr} {n1 n2 n3 c1 c2 c3 : Nat} {l1 l2 : List Nat} (h1 : Wd w1 a1 n1 c1 l1) (h2 : Wd w2 a2 n2 c2 l2) (h3 : Wd w3 a3 n3 c3 (dg (val l1 * val l2))) : n3 ≤ n1 + n2 := by
  rw [← h1.len, ← h2.len, ← h3.len]
  exact Nat.le_trans (dg_mul_length _ _) (Nat.add_le_add (dg_length_val_le h1.ok) (dg_length_val_le h2.ok))
theorem Wd.add_len {w1 w2 w3 : World} {a1 a2 a3 : Option Addr} {n1 n2 n3 c1 c2 c3 : Nat} {l1 l2 : List Nat} (h1 : Wd w1 a1 n1 c1 l1) (h2 : Wd w2 a2 n2 c2 l2) (h3 : Wd w3 a3 n3 c3 (dg (val l1 + val l2))) : n3 ≤ n1 + n2 + 1 := by
  rw [← h1.len, ← h2.len, ← h3.len]
  exact Nat.le_trans (dg_add_length _ _) (Nat.succ_le_succ (Nat.add_le_add (dg_length_val_le h1.ok) (dg_length_val_le h2.ok)))
theorem vals_two (a b : List Nat) : vals [a, b] = val a + val b := by simp [vals]
theorem law04_shares_out (a : Option Addr) (n cap : Nat) (b : Option Addr) (m cap' : Nat) (c : Option Addr) (q cap2 : Nat) (w : World) (h1 : n ≤ 9223372036854775807) (h2 : m ≤ 9223372036854775807) (h3 : q ≤ 9223372036854775807) (h : 60 < n ∨ 60 < m ∨ 60 < q) :
    Calls Try.prog 6 #[.slice a n cap, .slice b m cap', .slice c q cap2] w (Gives (.bool true) w) := by
  by_cases hx : 60 < n
  · have hbi : (60 : Int) < (n : Int) := by omega
    clear h
    go_enter Try.func6, Try.ntmps6
    go_wp2_with fail
    refine (law04_works _).mono ?_
    rintro e wz ⟨rfl, bz⟩
    go_wp2
    go_ret
    exact ⟨rfl, bz⟩

  · have hbi : (n : Int) ≤ 60 := by omega
    by_cases hy : 60 < m
    · have hci : (60 : Int) < (m : Int) := by omega
      clear h
      go_enter Try.func6, Try.ntmps6
      go_wp2_with fail
      refine (law04_works _).mono ?_
      rintro e wz ⟨rfl, bz⟩
      go_wp2
      go_ret
      exact ⟨rfl, bz⟩

    · have hci : (m : Int) ≤ 60 := by omega
      have hdi : (60 : Int) < (q : Int) := by omega
      clear h
      go_enter Try.func6, Try.ntmps6
      go_wp2_with fail
      refine (law04_works _).mono ?_
      rintro e wz ⟨rfl, bz⟩
      go_wp2
      go_ret
      exact ⟨rfl, bz⟩

set_option maxHeartbeats 2000000 in
theorem law04_shares_in (a : Option Addr) (n cap : Nat) (la : List Nat) (b : Option Addr) (m cap' : Nat) (lb : List Nat) (c : Option Addr) (q cap2 : Nat) (lc : List Nat) (w : World) (ha : Wd w a n cap la) (hb : Wd w b m cap' lb) (hc : Wd w c q cap2 lc) (hn : n ≤ 60) (hm : m ≤ 60) (hq : q ≤ 60) :
    Calls Try.prog 6 #[.slice a n cap, .slice b m cap', .slice c q cap2] w (Gives (.bool true) w) := by
  have Ha := Lib.hid ha
  have Hb := Lib.hid hb
  have Hc := Lib.hid hc
  clear ha hb hc
  go_enter Try.func6, Try.ntmps6
  go_wp2_with fail
  refine (prod_mul _ _ _ _ _ _ _ _ _ Ha.out Hb.out (by omega) (by omega)).mono ?_
  rintro e w1 ⟨a1, n1, c1, rfl, h1, b1⟩
  have hn1 := Wd.mul_len Ha.out Hb.out h1
  have H1 := Lib.hid h1
  have hB1 := b1
  clear h1 b1
  go_wp2_with fail
  refine (prod_mul _ _ _ _ _ _ _ _ _ (Hb.out.later hB1) (Ha.out.later hB1) (by omega) (by omega)).mono ?_
  rintro e w2 ⟨a2, n2, c2, rfl, h2, b2⟩
  rw [Nat.mul_comm] at h2
  have hB2 := below_then hB1 b2
  have H1b := Lib.hid (H1.out.later b2)
  have H2 := Lib.hid h2
  clear h2 b2 H1 hB1
  go_wp2_with fail
  refine (ref02_same_yes _ _ _ _ _ _ _ _ _ H1b.out H2.out rfl).mono ?_
  rintro e w3 ⟨rfl, b3⟩
  have hB3 := below_then hB2 b3
  have H1c := Lib.hid (H1b.out.later b3)
  clear b3 H1b H2 hB2
  go_wp2_with fail
  refine (prod_mul _ _ _ _ _ _ _ _ _ H1c.out (Hc.out.later hB3) (by omega) (by omega)).mono ?_
  rintro e w4 ⟨a4, n4, c4, rfl, h4, b4⟩
  have hB4 := below_then hB3 b4
  have H1d := Lib.hid (H1c.out.later b4)
  rw [val_dg, Nat.mul_assoc] at h4
  have H4 := Lib.hid h4
  clear h4 b4 H1c hB3
  go_wp2_with fail
  refine (prod_mul _ _ _ _ _ _ _ _ _ (Hb.out.later hB4) (Hc.out.later hB4) (by omega) (by omega)).mono ?_
  rintro e w5 ⟨a5, n5, c5, rfl, h5, b5⟩
  have hn5 := Wd.mul_len Hb.out Hc.out h5
  have hB5 := below_then hB4 b5
  have H1e := Lib.hid (H1d.out.later b5)
  have H4b := Lib.hid (H4.out.later b5)
  have H5 := Lib.hid h5
  clear h5 b5 H1d H4 hB4
  go_wp2_with fail
  refine (prod_mul _ _ _ _ _ _ _ _ _ (Ha.out.later hB5) H5.out (by omega) (by omega)).mono ?_
  rintro e w6 ⟨a6, n6, c6, rfl, h6, b6⟩
  rw [val_dg] at h6
  have hB6 := below_then hB5 b6
  have H1f := Lib.hid (H1e.out.later b6)
  have H4c := Lib.hid (H4b.out.later b6)
  have H6 := Lib.hid h6
  clear h6 b6 H1e H4b H5 hB5
  go_wp2_with fail
  refine (ref02_same_yes _ _ _ _ _ _ _ _ _ H4c.out H6.out rfl).mono ?_
  rintro e w7 ⟨rfl, b7⟩
  have hB7 := below_then hB6 b7
  have H1g := Lib.hid (H1f.out.later b7)
  clear b7 H1f H4c H6 hB6
  go_wp2_with fail
  refine (natSaid.add _ _ _ _ _ (Wds.lit2 w7 22 (Hb.out.later hB7) (Hc.out.later hB7)) (by omega) (by have h1 := Hb.out.len; have h2 := Hc.out.len; simp only [words]; omega)).mono ?_
  rintro e w8 ⟨a8, n8, c8, rfl, h8, b8⟩
  rw [vals_two] at h8
  have hn8 := Wd.add_len Hb.out Hc.out h8
  have hB8 := below_then hB7 (below_then (below_alloc _ _) b8)
  have H1h := Lib.hid (H1g.out.later (below_then (below_alloc _ _) b8))
  have H8 := Lib.hid h8
  clear h8 b8 H1g hB7
  go_wp2_with fail
  refine (prod_mul _ _ _ _ _ _ _ _ _ (Ha.out.later hB8) H8.out (by omega) (by omega)).mono ?_
  rintro e w9 ⟨a9, n9, c9, rfl, h9, b9⟩
  rw [val_dg, Nat.mul_add] at h9
  have hB9 := below_then hB8 b9
  have H1i := Lib.hid (H1h.out.later b9)
  have H9 := Lib.hid h9
  clear h9 b9 H1h H8 hB8
  go_wp2_with fail
  refine (prod_mul _ _ _ _ _ _ _ _ _ (Ha.out.later hB9) (Hc.out.later hB9) (by omega) (by omega)).mono ?_
  rintro e w10 ⟨a10, n10, c10, rfl, h10, b10⟩
  have hn10 := Wd.mul_len Ha.out Hc.out h10
  have hB10 := below_then hB9 b10
  have H1j := Lib.hid (H1i.out.later b10)
  have H9b := Lib.hid (H9.out.later b10)
  have H10 := Lib.hid h10
  clear h10 b10 H1i H9 hB9
  go_wp2_with fail
  refine (natSaid.add _ _ _ _ _ (Wds.lit2 w10 22 H1j.out H10.out) (by omega) (by have h1 := H1j.out.len; have h2 := H10.out.len; simp only [words]; omega)).mono ?_
  rintro e w11 ⟨a11, n11, c11, rfl, h11, b11⟩
  rw [vals_two, val_dg, val_dg] at h11
  have hB11 := below_then hB10 (below_then (below_alloc _ _) b11)
  have H9c := Lib.hid (H9b.out.later (below_then (below_alloc _ _) b11))
  have H11 := Lib.hid h11
  clear h11 b11 H1j H9b H10 hB10
  go_wp2_with fail
  refine (ref02_same_yes _ _ _ _ _ _ _ _ _ H9c.out H11.out rfl).mono ?_
  rintro e w12 ⟨rfl, b12⟩
  have hB12 := below_then hB11 b12
  clear b12 H9c H11 hB11
  go_wp2_with fail
  refine (law04_works _).mono ?_
  rintro e wz ⟨rfl, bz⟩
  go_wp2
  go_ret
  exact ⟨rfl, below_then hB12 bz⟩

theorem law04_shares (a : Option Addr) (n cap : Nat) (la : List Nat) (b : Option Addr) (m cap' : Nat) (lb : List Nat) (c : Option Addr) (q cap2 : Nat) (lc : List Nat) (w : World) (ha : Wd w a n cap la) (hb : Wd w b m cap' lb) (hc : Wd w c q cap2 lc) :
    Calls Try.prog 6 #[.slice a n cap, .slice b m cap', .slice c q cap2] w (Gives (.bool true) w) := by
  have p1 := ha.bound
  have p2 := hb.bound
  have p3 := hc.bound
  by_cases h : 60 < n ∨ 60 < m ∨ 60 < q
  · exact law04_shares_out a n cap b m cap' c q cap2 w (by omega) (by omega) (by omega) h
  · exact law04_shares_in a n cap la b m cap' lb c q cap2 lc w ha hb hc (by omega) (by omega) (by omega)
theorem powB_small {v E : Nat} (hv : blen v ≤ 128) (hE : E ≤ 512) : powB v (E : Int) = true := by
  by_cases h : blen v < 2
  · exact powB_yes (.inl h)
  · refine powB_yes (.inr (Nat.le_trans hE ?_))
    have h1 : 65536 / 128 ≤ 65536 / blen v := Nat.div_le_div_left hv (by omega)
    omega
theorem prod_pow_true (a : Option Addr) (n cap : Nat) (l : List Nat) (E : Nat) (w : World) (h : Wd w a n cap l) (hn : n ≤ 4) (hE : E ≤ 512) :
    Calls Try.prog 18 #[.slice a n cap, .int .i64 (E : Int)] w fun e w' => Lst2 (dg (val l ^ E)) (.bool true) w e w' ∧ Hid ((dg (val l ^ E)).length ≤ 2049) := by
  have hv : blen (val l) ≤ 128 := Nat.le_trans (blen_le.2 (show val l < 2 ^ (32 * n) by rw [← pow32, ← h.len]; exact val_lt h.ok)) (by omega)
  have hp := powB_small hv hE
  have hr : (dg (val l ^ E)).length ≤ 2049 := by
    by_cases h2 : blen (val l) < 2
    · exact pow_room rfl (.inl h2) (Nat.le_refl E)
    · refine pow_room (E := E) rfl (.inr (Nat.le_trans hE ?_)) (Nat.le_refl E)
      have h1 : 65536 / 128 ≤ 65536 / blen (val l) := Nat.div_le_div_left hv (by omega)
      omega
  refine (prod_pow a n cap l (E : Int) w h (by omega) (by omega)).mono fun e w' h => ?_
  rw [powL_yes hp, hp] at h
  exact ⟨h, Lib.hid hr⟩
theorem law04_exps_out (a : Option Addr) (n cap : Nat) (d e : Int) (w : World) (hn : n ≤ 9223372036854775807) (h : 4 < n ∨ d < 0 ∨ e < 0 ∨ 20 < d ∨ 20 < e) :
    Calls Try.prog 7 #[.slice a n cap, .int .i64 d, .int .i64 e] w (Gives (.bool true) w) := by
  by_cases h1 : 4 < n
  · have hbi : (4 : Int) < (n : Int) := by omega
    clear h
    go_enter Try.func7, Try.ntmps7
    go_wp2_with fail
    refine (law04_works _).mono ?_
    rintro e wz ⟨rfl, bz⟩
    go_wp2
    go_ret
    exact ⟨rfl, bz⟩

  · have hbi : (n : Int) ≤ 4 := by omega
    by_cases h2 : d < 0
    · clear h
      go_enter Try.func7, Try.ntmps7
      go_wp2_with fail
      refine (law04_works _).mono ?_
      rintro e wz ⟨rfl, bz⟩
      go_wp2
      go_ret
      exact ⟨rfl, bz⟩

    · have h2i : 0 ≤ d := by omega
      by_cases h3 : e < 0
      · clear h h2
        go_enter Try.func7, Try.ntmps7
        go_wp2_with fail
        refine (law04_works _).mono ?_
        rintro e wz ⟨rfl, bz⟩
        go_wp2
        go_ret
        exact ⟨rfl, bz⟩

      · have h3i : 0 ≤ e := by omega
        by_cases h4 : 20 < d
        · clear h h2 h3
          go_enter Try.func7, Try.ntmps7
          go_wp2_with fail
          refine (law04_works _).mono ?_
          rintro e wz ⟨rfl, bz⟩
          go_wp2
          go_ret
          exact ⟨rfl, bz⟩

        · have h4i : d ≤ 20 := by omega
          have h5 : 20 < e := by omega
          clear h h2 h3 h4
          go_enter Try.func7, Try.ntmps7
          go_wp2_with fail
          refine (law04_works _).mono ?_
          rintro e wz ⟨rfl, bz⟩
          go_wp2
          go_ret
          exact ⟨rfl, bz⟩

set_option maxHeartbeats 2000000 in
theorem law04_exps_in (a : Option Addr) (n cap : Nat) (l : List Nat) (d e S : Nat) (w : World) (h : Wd w a n cap l) (hn : n ≤ 4) (hd : d ≤ 20) (he : e ≤ 20) (hS : (d : Int) + (e : Int) = (S : Int)) :
    Calls Try.prog 7 #[.slice a n cap, .int .i64 (d : Int), .int .i64 (e : Int)] w (Gives (.bool true) w) := by
  have H := Lib.hid h
  have HS : Hid (S = d + e) := Lib.hid (by omega)
  have hS40 : S ≤ 40 := by omega
  clear h
  go_enter Try.func7, Try.ntmps7
  go_wp2_with fail
  refine (prod_pow_true _ _ _ _ d _ H.out hn (by omega)).mono ?_
  rintro e1 w1 ⟨⟨a1, n1, c1, rfl, h1, b1⟩, hr1⟩
  have hn1 : n1 ≤ 2049 := by rw [← h1.len]; exact hr1.out
  have H1 := Lib.hid h1
  have hB1 := b1
  clear h1 b1 hr1
  go_wp2_with fail
  refine (prod_pow_true _ _ _ _ e _ (H.out.later hB1) hn (by omega)).mono ?_
  rintro e2 w2 ⟨⟨a2, n2, c2, rfl, h2, b2⟩, hr2⟩
  have hn2 : n2 ≤ 2049 := by rw [← h2.len]; exact hr2.out
  have H1b := Lib.hid (H1.out.later b2)
  have H2 := Lib.hid h2
  have hB2 := below_then hB1 b2
  clear h2 b2 hr2 H1 hB1
  go_wp2_with fail
  refine (prod_pow_true _ _ _ _ S _ (H.out.later hB2) hn (by omega)).mono ?_
  rintro e3 w3 ⟨⟨a3, n3, c3, rfl, h3, b3⟩, hr3⟩
  have H1c := Lib.hid (H1b.out.later b3)
  have H2b := Lib.hid (H2.out.later b3)
  have H3 := Lib.hid h3
  have hB3 := below_then hB2 b3
  clear h3 b3 hr3 H1b H2 hB2
  go_wp2_with fail
  refine (prod_pow_true _ _ _ _ 2 _ (H.out.later hB3) hn (by omega)).mono ?_
  rintro e4 w4 ⟨⟨a4, n4, c4, rfl, h4, b4⟩, hr4⟩
  have H1d := Lib.hid (H1c.out.later b4)
  have H2c := Lib.hid (H2b.out.later b4)
  have H3b := Lib.hid (H3.out.later b4)
  have H4 := Lib.hid h4
  have hB4 := below_then hB3 b4
  clear h4 b4 hr4 H1c H2b H3 hB3
  go_wp2_with fail
  refine (prod_mul _ _ _ _ _ _ _ _ _ H1d.out H2c.out (by omega) (by omega)).mono ?_
  rintro e5 w5 ⟨a5, n5, c5, rfl, h5, b5⟩
  rw [val_dg, val_dg, ← Nat.pow_add, ← HS.out] at h5
  have H3c := Lib.hid (H3b.out.later b5)
  have H4b := Lib.hid (H4.out.later b5)
  have H5 := Lib.hid h5
  have hB5 := below_then hB4 b5
  clear h5 b5 H1d H2c H3b H4 hB4
  go_wp2_with fail
  refine (ref02_same_yes _ _ _ _ _ _ _ _ _ H5.out H3c.out rfl).mono ?_
  rintro e6 w6 ⟨rfl, b6⟩
  have H4c := Lib.hid (H4b.out.later b6)
  have hB6 := below_then hB5 b6
  clear b6 H3c H4b H5 hB5
  go_wp2_with fail
  refine (prod_square _ _ _ _ _ (H.out.later hB6) (by omega)).mono ?_
  rintro e7 w7 ⟨a7, n7, c7, rfl, h7, b7⟩
  rw [← Nat.pow_two] at h7
  have H4d := Lib.hid (H4c.out.later b7)
  have H7 := Lib.hid h7
  have hB7 := below_then hB6 b7
  clear h7 b7 H4c hB6
  go_wp2_with fail
  refine (ref02_same_yes _ _ _ _ _ _ _ _ _ H7.out H4d.out rfl).mono ?_
  rintro e8 w8 ⟨rfl, b8⟩
  have hB8 := below_then hB7 b8
  clear b8 H4d H7 hB7
  go_wp2_with fail
  refine (law04_works _).mono ?_
  rintro e wz ⟨rfl, bz⟩
  go_wp2
  go_ret
  exact ⟨rfl, below_then hB8 bz⟩

theorem law04_exps (a : Option Addr) (n cap : Nat) (l : List Nat) (d e : Int) (w : World) (h : Wd w a n cap l) :
    Calls Try.prog 7 #[.slice a n cap, .int .i64 d, .int .i64 e] w (Gives (.bool true) w) := by
  have p1 := h.bound
  by_cases ho : 4 < n ∨ d < 0 ∨ e < 0 ∨ 20 < d ∨ 20 < e
  · exact law04_exps_out a n cap d e w (by omega) ho
  · obtain ⟨D, rfl⟩ := Int.eq_ofNat_of_zero_le (a := d) (by omega)
    obtain ⟨E, rfl⟩ := Int.eq_ofNat_of_zero_le (a := e) (by omega)
    exact law04_exps_in a n cap l D E (D + E) w h (by omega) (by omega) (by omega) (by omega)
end Go.Proofs.Ytpaenbikgehgcaa
