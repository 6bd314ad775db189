/-
  The walks of the laws of layer 4: works, ProdAll, ProdPowers.
-/
import Derived.Test.YtpaenbikgehgcaaProd3
import Derived.Test.YtpaenbikgehgcaaRef02c
import Derived.Test.YtpaenbikgehgcaaRef04b
namespace Go.Proofs.Ytpaenbikgehgcaa
open Go.RowKit

theorem powL_10 : powL 2 10 = [1024] := by
  have h : powB 2 ((10 : Nat) : Int) = true := powB_yes (.inr (by decide))
  show powL 2 ((10 : Nat) : Int) = _
  rw [powL_yes h, show 2 ^ 10 = 1024 from by decide, dg_word (by decide) (by decide)]
theorem powB_10 : powB 2 10 = true := by
  show powB 2 ((10 : Nat) : Int) = true
  exact powB_yes (.inr (by decide))
theorem mul_big : dg (4294967295 * 4294967295) = [1, 4294967294] := by
  have h : val [1, 4294967294] = 4294967295 * 4294967295 := by decide
  rw [← h]
  exact dg_val (.inr (by decide)) (okw_cons.2 ⟨by decide, okw_cons.2 ⟨by decide, okw_nil⟩⟩)
set_option maxHeartbeats 1000000 in
theorem law04_works (w : World) : Calls Try.prog 8 #[] w (Gives (.bool true) w) := by
  have hl2 : (dg 2).length ≤ 1 := dg_length_le (by decide)
  have hl5 : (dg 5).length ≤ 1 := dg_length_le (by decide)
  have hlb : (dg 4294967295).length ≤ 1 := dg_length_le (by decide)
  go_enter Try.func8, Try.ntmps8
  go_wp2_with fail
  refine (natSaid.of 2 _ (by omega)).mono ?_
  rintro e w1 ⟨a1, n1, c1, rfl, h1, b1⟩
  have hn1 := h1.len
  go_wp2_with fail
  refine (prod_pow _ _ _ _ 10 _ h1 (by omega) (by omega)).mono ?_
  rintro e w2 ⟨a2, n2, c2, rfl, h2, b2⟩
  rw [val_dg, powL_10] at h2
  rw [val_dg, powB_10]
  have H2 := Lib.hid h2
  have hB2 := below_then b1 b2
  clear h1 b1 h2 b2
  go_wp2_with fail
  refine (natSaid.of 5 _ (by omega)).mono ?_
  rintro e w3 ⟨a3, n3, c3, rfl, h3, b3⟩
  have hn3 := h3.len
  have hB3 := below_then hB2 b3
  have H2b := Lib.hid (H2.out.later b3)
  go_wp2_with fail
  refine (prod_pow _ _ _ _ (-1) _ h3 (by omega) (by omega)).mono ?_
  rintro e w4 ⟨a4, n4, c4, rfl, h4, b4⟩
  rw [val_dg, powB_neg (by decide)]
  have hB4 := below_then hB3 b4
  have H2c := Lib.hid (H2b.out.later b4)
  clear h3 b3 h4 b4 H2 H2b
  go_wp2_with fail
  refine (natSaid.of 4294967295 _ (by omega)).mono ?_
  rintro e w5 ⟨a5, n5, c5, rfl, h5, b5⟩
  have hn5 := h5.len
  have hB5 := below_then hB4 b5
  have H2d := Lib.hid (H2c.out.later b5)
  have H5 := Lib.hid h5
  clear h5 b5 H2c
  go_wp2_with fail
  refine (natSaid.of 4294967295 _ (by omega)).mono ?_
  rintro e w6 ⟨a6, n6, c6, rfl, h6, b6⟩
  have hn6 := h6.len
  have hB6 := below_then hB5 b6
  have H2e := Lib.hid (H2d.out.later b6)
  have H5b := Lib.hid (H5.out.later b6)
  clear b6 H2d H5
  go_wp2_with fail
  refine (prod_mul _ _ _ _ _ _ _ _ _ H5b.out h6 (by omega) (by omega)).mono ?_
  rintro e w7 ⟨a7, n7, c7, rfl, h7, b7⟩
  rw [val_dg, mul_big] at h7
  have hB7 := below_then hB6 b7
  have H2f := Lib.hid (H2e.out.later b7)
  have H7 := Lib.hid h7
  clear h6 h7 b7 H2e H5b
  go_wp2_with fail
  refine (ref02_same_yes _ _ _ _ _ _ _ _ _ (H7.out.later (below_alloc _ _)) (Wd.lit2 w7 23 (x := 1) (y := 4294967294) (by omega) (by omega)) rfl).mono ?_
  rintro e w8 ⟨rfl, b8⟩
  have hB8 := below_then hB7 (below_then (below_alloc _ _) b8)
  have H2g := Lib.hid (H2f.out.later (below_then (below_alloc _ _) b8))
  clear H7 b8 H2f
  go_wp2_with fail
  refine (ref02_same_yes _ _ _ _ _ _ _ _ _ (H2g.out.later (below_alloc _ _)) (Wd.lit1 w8 23 (x := 1024) (by omega)) rfl).mono ?_
  rintro e w9 ⟨rfl, b9⟩
  have hB9 := below_then hB8 (below_then (below_alloc _ _) b9)
  go_wp2
  go_ret
  exact ⟨rfl, hB9⟩
set_option maxHeartbeats 1000000 in
theorem law04_all (a : Option Addr) (n cap : Nat) (ls : List (List Nat)) (w : World) (h : Wds w a n cap ls) :
    Calls Try.prog 4 #[.slice a n cap] w (Gives (.bool true) w) := by
  obtain ⟨p1, p2⟩ := h.bound
  have Hlen := Lib.hid h.len
  have Hok := Lib.hid h.oks
  have H := Lib.hid h
  clear h
  go_enter Try.func4, Try.ntmps4
  go_wp2_with fail
  refine (ref02_long _ _ _ _ 100 _ H.out (by omega)).mono ?_
  rintro e w' ⟨r, rfl, rfl, hr⟩
  cases r with
  | true =>
    clear hr
    go_wp2_with fail
    refine (law04_works _).mono ?_
    rintro e wz ⟨rfl, bz⟩
    go_wp2
    go_ret
    exact ⟨rfl, bz⟩

  | false =>
    have Hr := Lib.hid (hr rfl)
    clear hr
    have hn : n ≤ 100 := by rw [← Hlen.out]; exact Hr.out.1
    have Hlit := Lib.hid (Wd.lit1 w 23 (x := 1) (by omega))
    have Hs : Hid (∀ k, (dg (prods (ls.take k))).length ≤ 101) := Lib.hid (fun k => by
      have h1 := prods_length (ls := ls.take k) (fun x hx => Hok.out x (List.mem_of_mem_take hx))
      have h2 := words_le_take ls k
      have h3 := Hr.out.2
      omega)
    go_wp2
    go_loopw [3, 4] (fun v i wr => ∃ (k : Nat) (a' : Option Addr) (n' c' : Nat), k ≤ n ∧ i = .int .i64 k ∧ v = .slice a' n' c' ∧ Hid (Wd wr a' n' c' (dg (prods (ls.take k)))) ∧ Below w.heap.size w wr) (fun _ i _ => n - (intOf i).toNat)
    case atStart => exact ⟨0, _, _, _, by omega, rfl, rfl, Lib.hid (by rw [List.take_zero]; simp only [prods]; rw [dg_word (by decide) (by decide)]; exact Hlit.out), below_alloc _ _⟩
    case round =>
      obtain ⟨k, a', n', c', hk, rfl, rfl, Hwd, hB⟩ := hrel
      have hn' : n' ≤ 101 := by rw [← Hwd.out.len]; exact Hs.out k
      by_cases hlt : k < n
      · obtain ⟨b, off, rfl, a2, n2, c2, hc, hw2⟩ := (H.out.later hB).at hlt
        have hn2 : n2 ≤ 100 := by
          rw [← hw2.len]
          exact Nat.le_trans (words_mem ls k (by rw [Hlen.out]; exact hlt)) Hr.out.2
        have H2 := Lib.hid hw2
        have hk1 : (k : Int) < (n : Int) := by omega
        have hprod := Lib.hid (prods_take ls k (by rw [Hlen.out]; exact hlt))
        clear hw2
        go_wp2_with fail
        refine (ref04_mul _ _ _ _ _ _ _ _ _ Hwd.out H2.out (by omega) (by omega)).mono ?_
        rintro e w3 ⟨a3, n3, c3, rfl, h3, b3⟩
        rw [val_dg, ← hprod.out] at h3
        have H3 := Lib.hid h3
        have hB3 := below_then hB b3
        clear h3 b3 hB
        go_wp2
        go_roundw
        case rel => exact ⟨k + 1, a3, n3, c3, by omega, by go_num, rfl, H3, hB3⟩
        case measure => simp [intOf]; omega
      · have htk : ls.take k = ls := List.take_of_length_le (by rw [Hlen.out]; omega)
        rw [htk] at Hwd
        clear htk
        go_wp2_with fail
        refine (prod_all _ _ _ _ _ (H.out.later hB) (by omega) (by have := Hr.out.2; omega)).mono ?_
        rintro e w3 ⟨a3, n3, c3, rfl, h3, b3⟩
        have hB3 := below_then hB b3
        go_wp2_with fail
        refine (ref02_same_yes _ _ _ _ _ _ _ _ _ h3 (Hwd.out.later b3) rfl).mono ?_
        rintro e w4 ⟨rfl, b4⟩
        have hB4 := below_then hB3 b4
        clear h3 b3 b4 hB hB3 Hwd
        go_wp2_with fail
        refine (law04_works _).mono ?_
        rintro e wz ⟨rfl, bz⟩
        go_wp2
        go_ret
        exact ⟨rfl, below_then hB4 bz⟩

set_option maxRecDepth 100000 in
set_option maxHeartbeats 2000000 in
theorem law04_powers (a : Option Addr) (n cap : Nat) (l : List Nat) (e : Int) (w : World) (h : Wd w a n cap l) (he : e ≤ 9223372036854775807) :
    Calls Try.prog 5 #[.slice a n cap, .int .i64 e] w (Gives (.bool true) w) := by
  obtain ⟨p1, p2⟩ := h.bound
  have H := Lib.hid h
  clear h
  by_cases hbig : 10 < n
  · have hbi : (10 : Int) < (n : Int) := by omega
    go_enter Try.func5, Try.ntmps5
    go_wp2_with fail
    refine (law04_works _).mono ?_
    rintro e wz ⟨rfl, bz⟩
    go_wp2
    go_ret
    exact ⟨rfl, bz⟩

  · have hn : n ≤ 10 := by omega
    have hni : (n : Int) ≤ 10 := by omega
    clear hbig
    by_cases h0 : e ≤ 0
    · skip
      go_enter Try.func5, Try.ntmps5
      go_wp2_with fail
      refine (prod_pow _ _ _ _ e _ H.out (by omega) (by omega)).mono ?_
      rintro e1 w1 ⟨a1, n1, c1, rfl, h1, b1⟩
      go_wp2_with fail
      refine (ref04_pow _ _ _ _ e _ (H.out.later b1) (by omega) (by omega)).mono ?_
      rintro e2 w2 ⟨a2, n2, c2, rfl, h2, b2⟩
      have H1 := Lib.hid (h1.later b2)
      have H2 := Lib.hid h2
      have hB2 := below_then b1 b2
      clear h1 h2 b1 b2
      generalize powB (val l) e = pb at *
      go_wp2_with fail
      refine (ref02_same_yes _ _ _ _ _ _ _ _ _ H1.out H2.out rfl).mono ?_
      rintro e3 w3 ⟨rfl, b3⟩
      have hB3 := below_then hB2 b3
      clear H1 H2 hB2 b3
      go_wp2_with fail
      refine (law04_works _).mono ?_
      rintro e wz ⟨rfl, bz⟩
      go_wp2
      go_ret
      exact ⟨ret_bool (by simp), below_then hB3 bz⟩

    · have h1 : 0 < e := by omega
      clear h0
      by_cases h2 : 65537 ≤ e
      · skip
        go_enter Try.func5, Try.ntmps5
        go_wp2_with fail
        refine (prod_pow _ _ _ _ e _ H.out (by omega) (by omega)).mono ?_
        rintro e1 w1 ⟨a1, n1, c1, rfl, h1, b1⟩
        go_wp2_with fail
        refine (ref04_pow _ _ _ _ e _ (H.out.later b1) (by omega) (by omega)).mono ?_
        rintro e2 w2 ⟨a2, n2, c2, rfl, h2, b2⟩
        have H1 := Lib.hid (h1.later b2)
        have H2 := Lib.hid h2
        have hB2 := below_then b1 b2
        clear h1 h2 b1 b2
        generalize powB (val l) e = pb at *
        go_wp2_with fail
        refine (ref02_same_yes _ _ _ _ _ _ _ _ _ H1.out H2.out rfl).mono ?_
        rintro e3 w3 ⟨rfl, b3⟩
        have hB3 := below_then hB2 b3
        clear H1 H2 hB2 b3
        go_wp2_with fail
        refine (law04_works _).mono ?_
        rintro e wz ⟨rfl, bz⟩
        go_wp2
        go_ret
        exact ⟨ret_bool (by simp), below_then hB3 bz⟩

      · have h3 : e < 65537 := by omega
        clear h2
        obtain ⟨L, hL⟩ : ∃ L, L = blen (val l) := ⟨_, rfl⟩
        have HL := Lib.hid hL
        have hL2 : L ≤ 320 := by rw [hL]; exact Nat.le_trans (blen_le.2 (show val l < 2 ^ (32 * n) by rw [← pow32, ← H.out.len]; exact val_lt H.out.ok)) (by omega)
        have hpx : ∃ p : Nat, e * (L : Int) = (p : Int) ∧ p ≤ 20971840 := by
          obtain ⟨E, rfl⟩ := Int.eq_ofNat_of_zero_le (a := e) (by omega)
          have hprod : E * L ≤ 65537 * 320 := Nat.mul_le_mul (by omega) hL2
          exact ⟨E * L, by simp, by omega⟩
        obtain ⟨p, hp, hpb⟩ := hpx
        clear hL hL2
        by_cases hs : p ≤ 3000
        · have hsi : (p : Int) ≤ 3000 := by omega
          go_enter Try.func5, Try.ntmps5
          go_wp2_with fail
          refine (ref03_len _ _ _ _ _ H.out (by omega)).mono ?_
          rintro e0 w' ⟨rfl, rfl⟩
          rw [← HL.out]
          go_wp2_with fail
          refine (prod_pow _ _ _ _ e _ H.out (by omega) (by omega)).mono ?_
          rintro e1 w1 ⟨a1, n1, c1, rfl, h1, b1⟩
          go_wp2_with fail
          refine (ref04_pow _ _ _ _ e _ (H.out.later b1) (by omega) (by omega)).mono ?_
          rintro e2 w2 ⟨a2, n2, c2, rfl, h2, b2⟩
          have H1 := Lib.hid (h1.later b2)
          have H2 := Lib.hid h2
          have hB2 := below_then b1 b2
          clear h1 h2 b1 b2
          generalize powB (val l) e = pb at *
          go_wp2_with fail
          refine (ref02_same_yes _ _ _ _ _ _ _ _ _ H1.out H2.out rfl).mono ?_
          rintro e3 w3 ⟨rfl, b3⟩
          have hB3 := below_then hB2 b3
          clear H1 H2 hB2 b3
          go_wp2_with fail
          refine (law04_works _).mono ?_
          rintro e wz ⟨rfl, bz⟩
          go_wp2
          go_ret
          exact ⟨ret_bool (by simp), below_then hB3 bz⟩

        · have hsi : (3000 : Int) < (p : Int) := by omega
          by_cases ht : p ≤ 65536
          · have hti : (p : Int) ≤ 65536 := by omega
            go_enter Try.func5, Try.ntmps5
            go_wp2_with fail
            refine (ref03_len _ _ _ _ _ H.out (by omega)).mono ?_
            rintro e0 w' ⟨rfl, rfl⟩
            rw [← HL.out]
            go_wp2_with fail
            refine (ref03_len _ _ _ _ _ H.out (by omega)).mono ?_
            rintro e0 w' ⟨rfl, rfl⟩
            rw [← HL.out]
            go_wp2_with fail
            refine (law04_works _).mono ?_
            rintro e wz ⟨rfl, bz⟩
            go_wp2
            go_ret
            exact ⟨rfl, bz⟩

          · have hti : (65536 : Int) < (p : Int) := by omega
            go_enter Try.func5, Try.ntmps5
            go_wp2_with fail
            refine (ref03_len _ _ _ _ _ H.out (by omega)).mono ?_
            rintro e0 w' ⟨rfl, rfl⟩
            rw [← HL.out]
            go_wp2_with fail
            refine (ref03_len _ _ _ _ _ H.out (by omega)).mono ?_
            rintro e0 w' ⟨rfl, rfl⟩
            rw [← HL.out]
            go_wp2_with fail
            refine (prod_pow _ _ _ _ e _ H.out (by omega) (by omega)).mono ?_
            rintro e1 w1 ⟨a1, n1, c1, rfl, h1, b1⟩
            go_wp2_with fail
            refine (ref04_pow _ _ _ _ e _ (H.out.later b1) (by omega) (by omega)).mono ?_
            rintro e2 w2 ⟨a2, n2, c2, rfl, h2, b2⟩
            have H1 := Lib.hid (h1.later b2)
            have H2 := Lib.hid h2
            have hB2 := below_then b1 b2
            clear h1 h2 b1 b2
            generalize powB (val l) e = pb at *
            go_wp2_with fail
            refine (ref02_same_yes _ _ _ _ _ _ _ _ _ H1.out H2.out rfl).mono ?_
            rintro e3 w3 ⟨rfl, b3⟩
            have hB3 := below_then hB2 b3
            clear H1 H2 hB2 b3
            go_wp2_with fail
            refine (law04_works _).mono ?_
            rintro e wz ⟨rfl, bz⟩
            go_wp2
            go_ret
            exact ⟨ret_bool (by simp), below_then hB3 bz⟩

end Go.Proofs.Ytpaenbikgehgcaa
