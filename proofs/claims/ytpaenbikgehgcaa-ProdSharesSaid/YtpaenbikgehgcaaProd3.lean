/-
  The contract of package prod (layer 4) at this seat: Pow.
-/
import Derived.Test.YtpaenbikgehgcaaProd2
import Derived.Test.YtpaenbikgehgcaaTwos
namespace Go.Proofs.Ytpaenbikgehgcaa
open Go.RowKit

theorem ret_pow {v : Nat} {e : Int} {a : Option Addr} {n cap : Nat} {l : List Nat} {b : Bool} {w w' : World} (h1 : l = powL v e) (h2 : b = powB v e) (h : Wd w' a n cap l) (hB : Below w.heap.size w w') :
    Lst2 (powL v e) (.bool (powB v e)) w (.returned (.tuple #[.slice a n cap, .bool b])) w' := by subst h1 h2; exact ⟨_, _, _, rfl, h, hB⟩
theorem and_bit (i : Nat) (hi : i < 9223372036854775808) : bits BinOp.and IntKind.i64 (i : Int) 1 = ((i % 2 : Nat) : Int) := by
  have h1 : (BitVec.ofInt 64 (i : Int)).toNat = i := by rw [BitVec.ofInt_natCast, BitVec.toNat_ofNat]; exact Nat.mod_eq_of_lt (by omega)
  show IntKind.i64.wrap ((BitVec.ofInt 64 (i : Int) &&& BitVec.ofInt 64 1).toNat : Int) = _
  rw [BitVec.toNat_and, h1, show (BitVec.ofInt 64 1).toNat = 1 from rfl, Nat.and_one_is_mod]
  simp [IntKind.wrap, IntKind.signed, IntKind.bits]
  omega
theorem prod_pow_neg (a : Option Addr) (n cap : Nat) (l : List Nat) (e : Int) (w : World) (h : Wd w a n cap l) (hn : n ≤ 1000000) (he : e < 0) :
    Calls Try.prog 18 #[.slice a n cap, .int .i64 e] w (Lst2 (powL (val l) e) (.bool (powB (val l) e)) w) := by
  have Hb := Lib.hid (powB_neg (v := val l) he)
  have Hl := Lib.hid (powL_no Hb.out)
  have H := Lib.hid h
  clear h
  go_enter Try.func18, Try.ntmps18
  go_wp2_with fail
  refine (twos_len _ _ _ _ _ H.out (by omega)).mono ?_
  rintro e1 w' ⟨rfl, rfl⟩
  generalize blen (val l) = L at *
  go_wp2
  go_ret2
  exact ret_pow Hl.out.symm Hb.out.symm (Wd.ofNil _) (Below.refl _ _)
theorem prod_pow_long (a : Option Addr) (n cap : Nat) (l : List Nat) (E : Nat) (w : World) (h : Wd w a n cap l) (hn : n ≤ 1000000) (h2 : 2 ≤ blen (val l)) (hE : 65536 / blen (val l) < E) :
    Calls Try.prog 18 #[.slice a n cap, .int .i64 (E : Int)] w (Lst2 (powL (val l) E) (.bool (powB (val l) E)) w) := by
  have Hb := Lib.hid (powB_long (v := val l) (e := (E : Int)) h2 (by omega))
  have Hl := Lib.hid (powL_no Hb.out)
  have H := Lib.hid h
  clear h
  obtain ⟨L, hL⟩ : ∃ L, L = blen (val l) := ⟨_, rfl⟩
  rw [← hL] at h2 hE
  have HL := Lib.hid hL
  obtain ⟨Q, hQ⟩ : ∃ Q : Nat, (65536 : Int) / (L : Int) = (Q : Int) := ⟨65536 / L, by rw [Int.natCast_ediv]; rfl⟩
  have hQE : Q < E := by have h3 : (65536 : Int) / (L : Int) = ((65536 / L : Nat) : Int) := by rw [Int.natCast_ediv]; rfl
                         omega
  have h2i : (2 : Int) ≤ (L : Int) := by omega
  have hQi : (Q : Int) < (E : Int) := by omega
  clear hL hE
  go_enter Try.func18, Try.ntmps18
  go_wp2_with fail
  refine (twos_len _ _ _ _ _ H.out (by omega)).mono ?_
  rintro e1 w' ⟨rfl, rfl⟩
  rw [← HL.out]
  go_wp2
  go_ret2
  exact ret_pow Hl.out.symm Hb.out.symm (Wd.ofNil _) (Below.refl _ _)
set_option maxHeartbeats 2000000 in
theorem prod_pow_yes (a : Option Addr) (n cap : Nat) (l : List Nat) (E : Nat) (w : World) (h : Wd w a n cap l) (hn : n ≤ 1000000) (hE : E ≤ 9223372036854775807) (hc : blen (val l) < 2 ∨ E ≤ 65536 / blen (val l)) :
    Calls Try.prog 18 #[.slice a n cap, .int .i64 (E : Int)] w (Lst2 (powL (val l) E) (.bool (powB (val l) E)) w) := by
  have Hb := Lib.hid (powB_yes hc)
  have Hl := Lib.hid (powL_yes Hb.out)
  have Hroom : Hid (∀ e, e ≤ E → (dg (val l ^ e)).length ≤ 2049) := Lib.hid (fun e he => pow_room rfl hc he)
  have H := Lib.hid h
  clear h
  obtain ⟨L, hL⟩ : ∃ L, L = blen (val l) := ⟨_, rfl⟩
  rw [← hL] at hc
  have HL := Lib.hid hL
  obtain ⟨Q, hQ⟩ : ∃ Q : Nat, (65536 : Int) / (L : Int) = (Q : Int) := ⟨65536 / L, by rw [Int.natCast_ediv]; rfl⟩
  have HQ : Hid (Q = 65536 / L) := Lib.hid (by have h3 : (65536 : Int) / (L : Int) = ((65536 / L : Nat) : Int) := by rw [Int.natCast_ediv]; rfl
                                               omega)
  have hT : blen E ≤ 63 := blen_le.2 (by omega)
  have Hlen : Hid ((dg E).length ≤ 2) := Lib.hid (dg_length_le (by omega))
  have hdec : ((L : Int) < 2) ∨ ((2 : Int) ≤ (L : Int) ∧ (E : Int) ≤ (Q : Int)) := by
    by_cases h2 : L < 2
    · exact .inl (by omega)
    · refine .inr ⟨by omega, ?_⟩
      have h3 := hc.resolve_left h2
      rw [← HQ.out] at h3
      omega
  have Hdec := Lib.hid hdec
  clear hL hc hdec
  rcases Hdec.out with hd1 | ⟨hd1, hd2⟩
  all_goals (
    clear Hdec
    go_enter Try.func18, Try.ntmps18
    go_wp2_with fail
    refine (twos_len _ _ _ _ _ H.out (by omega)).mono ?_
    rintro e1 w' ⟨rfl, rfl⟩
    rw [← HL.out]
    go_wp2_with fail
    refine (natSaid.of 1 _ (by omega)).mono ?_
    rintro e1 w1 ⟨a1, n1, c1, rfl, h1, b1⟩
    go_wp2_with fail
    refine (natSaid.of E _ (by omega)).mono ?_
    rintro e2 w2 ⟨a2, n2, c2, rfl, h2, b2⟩
    have hB2 := below_then b1 b2
    have H1 := Lib.hid (h1.later b2)
    have hn1 : n1 ≤ 2049 := by rw [← h1.len]; exact Hroom.out 0 (Nat.zero_le _)
    have hn2 : n2 ≤ 2 := by rw [← h2.len]; exact Hlen.out
    go_wp2_with fail
    refine (twos_len _ _ _ _ _ h2 (by omega)).mono ?_
    rintro e3 w' ⟨rfl, rfl⟩
    rw [val_dg]
    obtain ⟨T, hT2⟩ : ∃ T, T = blen E := ⟨_, rfl⟩
    rw [← hT2] at hT
    rw [← hT2]
    have HT := Lib.hid hT2
    clear h1 h2 b1 b2 hT2
    go_wp2
    go_loopw [7, 8] (fun s iv wr => ∃ (k n' c' : Nat) (a' : Option Addr), k ≤ T ∧ iv = .int .i64 ((k : Int) - 1) ∧ s = .slice a' n' c' ∧ n' ≤ 2049 ∧ Hid (Wd wr a' n' c' (dg (val l ^ (E / 2 ^ k)))) ∧ Below w.heap.size w wr) (fun _ iv _ => (intOf iv + 1).toNat)
    case atStart => exact ⟨T, n1, c1, a1, by omega, rfl, rfl, hn1, Lib.hid (by rw [HT.out, Nat.div_eq_of_lt (lt_blen E), Nat.pow_zero]; exact H1.out), hB2⟩
    case round =>
      clear H1 hB2
      obtain ⟨k, n', c', a', hk, rfl, rfl, hn', HP, hB⟩ := hrel
      cases k with
      | zero =>
        go_wp2
        go_ret2
        exact ret_pow (by rw [Hl.out, Nat.pow_zero, Nat.div_one]) Hb.out.symm HP.out hB
      | succ k =>
        have e1 : ((k + 1 : Nat) : Int) - 1 = (k : Int) := by omega
        rw [e1]
        clear e1
        obtain ⟨F, hF⟩ : ∃ F : Nat, (E : Int) / 2 ^ k = (F : Int) := ⟨E / 2 ^ k, div_pow_int E k⟩
        have HF : Hid (F = E / 2 ^ k) := Lib.hid (by have := div_pow_int E k; omega)
        have hFE : F ≤ E := by rw [HF.out]; exact Nat.div_le_self _ _
        obtain ⟨B, hB2⟩ : ∃ B : Nat, B = F % 2 := ⟨_, rfl⟩
        have hand : bits BinOp.and IntKind.i64 (F : Int) 1 = (B : Int) := by rw [hB2]; exact and_bit F (by omega)
        have hG : E / 2 ^ (k + 1) + E / 2 ^ (k + 1) ≤ E := by
          have h1 : E / 2 ^ (k + 1) = F / 2 := by rw [HF.out, Nat.pow_succ, Nat.div_div_eq_div_mul]
          omega
        have Hsq : Hid ((dg (val l ^ (E / 2 ^ (k + 1)) * val l ^ (E / 2 ^ (k + 1)))).length ≤ 2049) := Lib.hid (by rw [← Nat.pow_add]; exact Hroom.out _ hG)
        have HP2 : Hid ((dg (val l ^ F)).length ≤ 2049) := Lib.hid (Hroom.out _ hFE)
        have hk63 : k ≤ 62 := by omega
        clear hG
        go_wp2_with fail
        refine (prod_square _ _ _ _ _ HP.out (by omega)).mono ?_
        rintro e4 w4 ⟨a4, n4, c4, rfl, h4, b4⟩
        rw [val_dg] at h4
        have hn4 : n4 ≤ 2049 := by rw [← h4.len]; exact Hsq.out
        have hB4 := below_then hB b4
        by_cases hbit : B = 1
        · have hbi : ((B : Int) == 1) = true := by simp [hbit]
          have Hodd := Lib.hid (pow_odd (v := val l) (E := E) (k := k) (by rw [← HF.out, ← hB2]; exact hbit))
          have H4 := Lib.hid h4
          clear hbit hB2 h4 b4
          go_wp2_with fail
          refine (prod_mul _ _ _ _ _ _ _ _ _ H4.out (H.out.later hB4) (by omega) (by omega)).mono ?_
          rintro e5 w5 ⟨a5, n5, c5, rfl, h5, b5⟩
          rw [val_dg, Hodd.out, ← HF.out] at h5
          have hn5 : n5 ≤ 2049 := by rw [← h5.len]; exact HP2.out
          have H5 : Hid (Wd w5 a5 n5 c5 (dg (val l ^ (E / 2 ^ k)))) := Lib.hid (by rw [← HF.out]; exact h5)
          have hB5 := below_then hB4 b5
          clear h5 b5
          go_wp2
          go_roundw
          case rel => exact ⟨k, n5, c5, a5, by omega, by go_num, rfl, hn5, H5, hB5⟩
          case measure => simp [intOf]
        · have hbi : ((B : Int) == 1) = false := by simp; omega
          have Heven := Lib.hid (pow_even (v := val l) (E := E) (k := k) (by rw [← HF.out]; omega))
          have H4 : Hid (Wd w4 a4 n4 c4 (dg (val l ^ (E / 2 ^ k)))) := Lib.hid (by rw [← Heven.out]; exact h4)
          clear hbit hB2 h4 b4
          go_wp2
          go_roundw
          case rel => exact ⟨k, n4, c4, a4, by omega, by go_num, rfl, hn4, H4, hB4⟩
          case measure => simp [intOf])
theorem prod_pow (a : Option Addr) (n cap : Nat) (l : List Nat) (e : Int) (w : World) (h : Wd w a n cap l) (hn : n ≤ 1000000) (he : e ≤ 9223372036854775807) :
    Calls Try.prog 18 #[.slice a n cap, .int .i64 e] w (Lst2 (powL (val l) e) (.bool (powB (val l) e)) w) := by
  rcases Int.lt_or_le e 0 with h0 | h0
  · exact prod_pow_neg a n cap l e w h hn h0
  · obtain ⟨E, rfl⟩ := Int.eq_ofNat_of_zero_le h0
    by_cases hc : blen (val l) < 2 ∨ E ≤ 65536 / blen (val l)
    · exact prod_pow_yes a n cap l E w h hn (by omega) hc
    · exact prod_pow_long a n cap l E w h hn (by omega) (by omega)
end Go.Proofs.Ytpaenbikgehgcaa
