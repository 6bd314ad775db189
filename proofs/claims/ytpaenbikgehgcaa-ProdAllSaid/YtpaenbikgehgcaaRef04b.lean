/-
  The contracts of the document's answer for layer 4: Pow.
-/
import Derived.Test.YtpaenbikgehgcaaRef03
import Derived.Test.YtpaenbikgehgcaaRef04
namespace Go.Proofs.Ytpaenbikgehgcaa
open Go.RowKit

theorem ret_pow4 {v : Nat} {e : Int} {a : Option Addr} {n cap : Nat} {l : List Nat} {b : Bool} {w w' : World} (h1 : l = powL v e) (h2 : b = powB v e) (h : Wd w' a n cap l) (hB : Below w.heap.size w w') :
    Lst2 (powL v e) (.bool (powB v e)) w (.returned (.tuple #[.slice a n cap, .bool b])) w' := by subst h1 h2; exact ⟨_, _, _, rfl, h, hB⟩
theorem ref04_pow_neg (a : Option Addr) (n cap : Nat) (l : List Nat) (e : Int) (w : World) (h : Wd w a n cap l) (hn : n ≤ 1000000) (he : e < 0) :
    Calls Try.prog 19 #[.slice a n cap, .int .i64 e] w (Lst2 (powL (val l) e) (.bool (powB (val l) e)) w) := by
  have Hb := Lib.hid (powB_neg (v := val l) he)
  have Hl := Lib.hid (powL_no Hb.out)
  have H := Lib.hid h
  clear h
  go_enter Try.func19, Try.ntmps19
  go_wp2_with fail
  refine (ref03_len _ _ _ _ _ H.out (by omega)).mono ?_
  rintro e1 w' ⟨rfl, rfl⟩
  generalize blen (val l) = L at *
  go_wp2
  go_ret2
  exact ret_pow4 Hl.out.symm Hb.out.symm (Wd.empty _ _ _ (by omega)) (below_alloc _ _)
theorem ref04_pow_long (a : Option Addr) (n cap : Nat) (l : List Nat) (E : Nat) (w : World) (h : Wd w a n cap l) (hn : n ≤ 1000000) (h2 : 2 ≤ blen (val l)) (hE : 65536 / blen (val l) < E) :
    Calls Try.prog 19 #[.slice a n cap, .int .i64 (E : Int)] w (Lst2 (powL (val l) E) (.bool (powB (val l) E)) w) := by
  have Hb := Lib.hid (powB_long (v := val l) (e := (E : Int)) h2 (by omega))
  have Hl := Lib.hid (powL_no Hb.out)
  have H := Lib.hid h
  clear h
  obtain ⟨L, hL⟩ : ∃ L, L = blen (val l) := ⟨_, rfl⟩
  rw [← hL] at h2 hE
  have HL := Lib.hid hL
  obtain ⟨Q, hQ⟩ : ∃ Q : Nat, (65536 : Int) / (L : Int) = (Q : Int) := ⟨65536 / L, by rw [Int.natCast_ediv]; rfl⟩
  have hQE : Q < E := by have h3 : (65536 : Int) / (L : Int) = ((65536 / L : Nat) : Int) := by rw [Int.natCast_ediv]; rfl
                         omega
  have h2i : (1 : Int) < (L : Int) := by omega
  have hQi : (Q : Int) < (E : Int) := by omega
  clear hL hE h2
  go_enter Try.func19, Try.ntmps19
  go_wp2_with fail
  refine (ref03_len _ _ _ _ _ H.out (by omega)).mono ?_
  rintro e1 w' ⟨rfl, rfl⟩
  rw [← HL.out]
  go_wp2
  go_ret2
  exact ret_pow4 Hl.out.symm Hb.out.symm (Wd.empty _ _ _ (by omega)) (below_alloc _ _)
set_option maxHeartbeats 2000000 in
theorem ref04_pow_yes (a : Option Addr) (n cap : Nat) (l : List Nat) (E : Nat) (w : World) (h : Wd w a n cap l) (hn : n ≤ 1000000) (hE : E ≤ 9223372036854775807) (hc : blen (val l) < 2 ∨ E ≤ 65536 / blen (val l)) :
    Calls Try.prog 19 #[.slice a n cap, .int .i64 (E : Int)] w (Lst2 (powL (val l) E) (.bool (powB (val l) E)) w) := by
  have Hb := Lib.hid (powB_yes hc)
  have Hl := Lib.hid (powL_yes Hb.out)
  have Hroom : Hid (∀ e, e ≤ E → (dg (val l ^ e)).length ≤ 2049) := Lib.hid (fun e he => pow_room rfl hc he)
  have Hln : Hid ((dg (val l)).length ≤ n) := Lib.hid (by rw [← h.len]; exact dg_length_val_le h.ok)
  have H := Lib.hid h
  clear h
  obtain ⟨L, hL⟩ : ∃ L, L = blen (val l) := ⟨_, rfl⟩
  rw [← hL] at hc
  have HL := Lib.hid hL
  obtain ⟨Q, hQ⟩ : ∃ Q : Nat, (65536 : Int) / (L : Int) = (Q : Int) := ⟨65536 / L, by rw [Int.natCast_ediv]; rfl⟩
  have HQ : Hid (Q = 65536 / L) := Lib.hid (by have h3 : (65536 : Int) / (L : Int) = ((65536 / L : Nat) : Int) := by rw [Int.natCast_ediv]; rfl
                                               omega)
  have hdec : ∃ X : Nat, X ≤ E ∧ val l ^ X = val l ^ E ∧ (((L : Int) < 2 ∧ (min (E : Int) 1 : Int) = (X : Int)) ∨ ((2 : Int) ≤ (L : Int) ∧ (E : Int) ≤ (Q : Int) ∧ E = X)) := by
    by_cases h2 : L < 2
    · exact ⟨min E 1, Nat.min_le_left _ _, pow_min (small_pow (by omega)), .inl ⟨by omega, by omega⟩⟩
    · refine ⟨E, Nat.le_refl _, rfl, .inr ⟨by omega, ?_, rfl⟩⟩
      have h3 := hc.resolve_left h2
      rw [← HQ.out] at h3
      omega
  obtain ⟨X, hXE, hXp, hd⟩ := hdec
  have HX := Lib.hid hXp
  have HXE := Lib.hid hXE
  have Hdec := Lib.hid hd
  have Hlit := Lib.hid (Wd.lit1 w 23 (x := 1) (by omega))
  clear hL hc hd hXp hXE
  rcases Hdec.out with ⟨hd1, hd2⟩ | ⟨hd1, hd2, hd3⟩
  · have hd0 : (L : Int) ≤ 1 := by omega
    clear Hdec
    go_enter Try.func19, Try.ntmps19
    go_wp2_with fail
    refine (ref03_len _ _ _ _ _ H.out (by omega)).mono ?_
    rintro e1 w' ⟨rfl, rfl⟩
    rw [← HL.out]
    go_wp2
    go_loopw [7, 8] (fun s iv wr => ∃ (i n' c' : Nat) (a' : Option Addr), i ≤ X ∧ iv = .int .i64 (i : Int) ∧ s = .slice a' n' c' ∧ n' ≤ 2049 ∧ Hid (Wd wr a' n' c' (dg (val l ^ i))) ∧ Below w.heap.size w wr) (fun _ iv _ => X - (intOf iv).toNat)
    case atStart => exact ⟨0, 1, 1, _, by omega, rfl, rfl, by omega, Lib.hid (by rw [Nat.pow_zero, dg_word (by decide) (by decide)]; exact Hlit.out), below_alloc _ _⟩
    case round =>
      obtain ⟨i, n', c', a', hi, rfl, rfl, hn', HP, hB⟩ := hrel
      by_cases hlt : i < X
      · have hii : (i : Int) < (X : Int) := by omega
        have Hnext : Hid ((dg (val l ^ (i + 1))).length ≤ 2049) := Lib.hid (Hroom.out _ (by have := HXE.out; omega))
        go_wp2_with fail
        refine (ref02_norm _ _ _ _ _ (H.out.later hB) (by omega)).mono ?_
        rintro e4 w4 ⟨a4, n4, c4, rfl, h4, b4⟩
        have hn4 : n4 ≤ n := by rw [← h4.len]; exact Hln.out
        have hB4 := below_then hB b4
        go_wp2_with fail
        refine (ref04_mul _ _ _ _ _ _ _ _ _ (HP.out.later b4) h4 (by omega) (by omega)).mono ?_
        rintro e5 w5 ⟨a5, n5, c5, rfl, h5, b5⟩
        rw [val_dg, val_dg, ← Nat.pow_succ] at h5
        have hn5 : n5 ≤ 2049 := by rw [← h5.len]; exact Hnext.out
        have H5 := Lib.hid h5
        have hB5 := below_then hB4 b5
        clear h4 b4 h5 b5
        go_wp2
        go_roundw
        case rel => exact ⟨i + 1, n5, c5, a5, by omega, by go_num, rfl, hn5, H5, hB5⟩
        case measure => simp [intOf]; omega
      · obtain rfl : i = X := by omega
        go_wp2
        go_ret2
        exact ret_pow4 (by rw [Hl.out, HX.out]) Hb.out.symm HP.out hB
  · have hd0 : (1 : Int) < (L : Int) := by omega
    have hde : decide (Q < E) = false := decide_eq_false (by omega)
    subst hd3
    clear Hdec HX
    go_enter Try.func19, Try.ntmps19
    go_wp2_with fail
    refine (ref03_len _ _ _ _ _ H.out (by omega)).mono ?_
    rintro e1 w' ⟨rfl, rfl⟩
    rw [← HL.out]
    go_wp2
    go_loopw [7, 8] (fun s iv wr => ∃ (i n' c' : Nat) (a' : Option Addr), i ≤ E ∧ iv = .int .i64 (i : Int) ∧ s = .slice a' n' c' ∧ n' ≤ 2049 ∧ Hid (Wd wr a' n' c' (dg (val l ^ i))) ∧ Below w.heap.size w wr) (fun _ iv _ => E - (intOf iv).toNat)
    case atStart => exact ⟨0, 1, 1, _, by omega, rfl, rfl, by omega, Lib.hid (by rw [Nat.pow_zero, dg_word (by decide) (by decide)]; exact Hlit.out), below_alloc _ _⟩
    case round =>
      obtain ⟨i, n', c', a', hi, rfl, rfl, hn', HP, hB⟩ := hrel
      by_cases hlt : i < E
      · have hii : (i : Int) < (E : Int) := by omega
        have Hnext : Hid ((dg (val l ^ (i + 1))).length ≤ 2049) := Lib.hid (Hroom.out _ (by have := HXE.out; omega))
        go_wp2_with fail
        refine (ref02_norm _ _ _ _ _ (H.out.later hB) (by omega)).mono ?_
        rintro e4 w4 ⟨a4, n4, c4, rfl, h4, b4⟩
        have hn4 : n4 ≤ n := by rw [← h4.len]; exact Hln.out
        have hB4 := below_then hB b4
        go_wp2_with fail
        refine (ref04_mul _ _ _ _ _ _ _ _ _ (HP.out.later b4) h4 (by omega) (by omega)).mono ?_
        rintro e5 w5 ⟨a5, n5, c5, rfl, h5, b5⟩
        rw [val_dg, val_dg, ← Nat.pow_succ] at h5
        have hn5 : n5 ≤ 2049 := by rw [← h5.len]; exact Hnext.out
        have H5 := Lib.hid h5
        have hB5 := below_then hB4 b5
        clear h4 b4 h5 b5
        go_wp2
        go_roundw
        case rel => exact ⟨i + 1, n5, c5, a5, by omega, by go_num, rfl, hn5, H5, hB5⟩
        case measure => simp [intOf]; omega
      · obtain rfl : i = E := by omega
        go_wp2
        go_ret2
        exact ret_pow4 Hl.out.symm Hb.out.symm HP.out hB
theorem ref04_pow (a : Option Addr) (n cap : Nat) (l : List Nat) (e : Int) (w : World) (h : Wd w a n cap l) (hn : n ≤ 1000000) (he : e ≤ 9223372036854775807) :
    Calls Try.prog 19 #[.slice a n cap, .int .i64 e] w (Lst2 (powL (val l) e) (.bool (powB (val l) e)) w) := by
  rcases Int.lt_or_le e 0 with h0 | h0
  · exact ref04_pow_neg a n cap l e w h hn h0
  · obtain ⟨E, rfl⟩ := Int.eq_ofNat_of_zero_le h0
    by_cases hc : blen (val l) < 2 ∨ E ≤ 65536 / blen (val l)
    · exact ref04_pow_yes a n cap l E w h hn (by omega) hc
    · exact ref04_pow_long a n cap l E w h hn (by omega) (by omega)
end Go.Proofs.Ytpaenbikgehgcaa
