/-
  Several texts of this claim as one, group 17.
-/
import Derived.Test.YteoeicfbaffjcaaGreatDoorG16
import Derived.Test.YteoeicfbaffjcaaGreatDoorG4
import Derived.Test.YteoeicfbaffjcaaGreatDoorG1
import Derived.Test.YteoeicfbaffjcaaGreatDoorG9
import Derived.Shelf.Bits.Mul64
import Derived.Shelf.Strings.Prefix
import Derived.Test.YteoeicfbaffjcaaGreatDoorG6
import Derived.Test.YteoeicfbaffjcaaGreatDoorG2
import Derived.Test.YteoeicfbaffjcaaGreatDoorG15
import Derived.Test.YteoeicfbaffjcaaGreatDoorG10
import Derived.Test.YteoeicfbaffjcaaGreatDoorG12
import Derived.Deep.RegionHeld3
import Derived.Test.YteoeicfbaffjcaaGreatDoorG13
/-
  Plain mathematics: how long what a text says is; parts of a text. Nothing of the program.
-/
namespace Go.Proofs.YteoeicfbaffjcaaGreatDoor

theorem bs_take (l : List UInt8) (k : Nat) : (bs l).extract 0 k = bs (l.take k) := by unfold bs; rw [ByteArray.extract_mk]; simp
theorem bs_drop (l : List UInt8) (k : Nat) : (bs l).extract k l.length = bs (l.drop k) := by unfold bs; rw [ByteArray.extract_mk]; simp [List.take_of_length_le]
theorem bs_mid {l : List UInt8} {k : Nat} {x : UInt8} (h : k < l.length) (hx : l.getD k 0 = x) : (bs l).extract k (k + 1) = bs [x] := by
  unfold bs
  rw [ByteArray.extract_mk]
  try simp only [List.extract_toArray, List.extract_eq_drop_take]
  rw [show k + 1 - k = 1 by omega, List.drop_eq_getElem_cons h]
  rw [List.getD_eq_getElem?_getD, List.getElem?_eq_getElem h] at hx
  simp only [Option.getD_some] at hx
  rw [hx]; rfl
theorem readV_short {m : List UInt8} (h : wrongI m < 0) : (dg (readV m)).length ≤ 20 ∧ m.length ≤ 60 ∧ alldig m := by
  obtain ⟨h1, h2, h3⟩ := wrongI_none h
  refine ⟨dg_length_le (Nat.lt_of_lt_of_le (readV_lt h1) (Nat.le_trans (Nat.pow_le_pow_right (by decide) h3) ?_)), h3, h1⟩
  exact Nat.le_trans (show 10 ^ 60 ≤ 4294967296 ^ 7 by decide) (Nat.pow_le_pow_right (by decide) (by decide))
theorem zread_short {l : List UInt8} (h : zwrong l < 0) : (dg (zread l).natAbs).length ≤ 20 := by
  cases l with
  | nil => rw [zwrong] at h; omega
  | cons x r =>
    rw [zwrong] at h
    rw [zread]
    by_cases hx : x.toNat = 45
    · rw [if_pos hx] at h ⊢
      rw [zval_abs]
      exact (readV_short (by split at h <;> omega)).1
    · rw [if_neg hx] at h ⊢
      rw [zval_abs]
      exact (readV_short h).1
/-- What a text says, way by way. -/
theorem fig_end_bad {l : List UInt8} (h : 0 ≤ zwrong (fhead l)) : figVal l = ((0 : Int) : Rat) ∧ figKind l = 1 ∧ figPlace l = zwrong (fhead l) := by
  unfold figVal figKind figPlace
  rw [if_pos h, if_pos h, if_pos h]
  exact ⟨rfl, rfl, rfl⟩
theorem fig_end_whole {l : List UInt8} (h : zwrong (fhead l) < 0) (hc : cutAt l = l.length) : figVal l = ((zread (fhead l) : Int) : Rat) ∧ figKind l = 0 ∧ figPlace l = 0 := by
  have h0 : ¬ 0 ≤ zwrong (fhead l) := by omega
  unfold figVal figKind figPlace
  rw [if_neg h0, if_neg h0, if_neg h0, if_pos hc, if_pos hc, if_pos hc]
  exact ⟨rfl, rfl, rfl⟩
theorem fig_end_rest {l : List UInt8} (h : zwrong (fhead l) < 0) (hc : cutAt l < l.length) (hr : 0 ≤ wrongI (frest l)) : figVal l = ((0 : Int) : Rat) ∧ figKind l = 1 ∧ figPlace l = ((cutAt l + 1 : Nat) : Int) + wrongI (frest l) := by
  have h0 : ¬ 0 ≤ zwrong (fhead l) := by omega
  have h1 : ¬ cutAt l = l.length := by omega
  unfold figVal figKind figPlace
  rw [if_neg h0, if_neg h0, if_neg h0, if_neg h1, if_neg h1, if_neg h1, if_pos hr, if_pos hr, if_pos hr]
  exact ⟨rfl, rfl, rfl⟩
theorem fig_end_point {l : List UInt8} (h : zwrong (fhead l) < 0) (hc : cutAt l < l.length) (hr : wrongI (frest l) < 0) (hx : fbyte l = 46) : figVal l = mkRat (zval (decide ((l.getD 0 0).toNat = 45)) ((zread (fhead l)).natAbs * 10 ^ (frest l).length + readV (frest l))) (10 ^ (frest l).length) ∧ figKind l = 0 ∧ figPlace l = 0 := by
  have h0 : ¬ 0 ≤ zwrong (fhead l) := by omega
  have h1 : ¬ cutAt l = l.length := by omega
  have h2 : ¬ 0 ≤ wrongI (frest l) := by omega
  have h3 : ¬ (fbyte l ≠ 46 ∧ readV (frest l) = 0) := fun h => h.1 hx
  unfold figVal figKind figPlace
  rw [if_neg h0, if_neg h0, if_neg h0, if_neg h1, if_neg h1, if_neg h1, if_neg h2, if_neg h2, if_neg h2, if_pos hx, if_neg h3, if_neg h3]
  exact ⟨rfl, rfl, rfl⟩
theorem fig_end_none {l : List UInt8} (h : zwrong (fhead l) < 0) (hc : cutAt l < l.length) (hr : wrongI (frest l) < 0) (hx : fbyte l ≠ 46) (hv : readV (frest l) = 0) : figVal l = ((0 : Int) : Rat) ∧ figKind l = 2 ∧ figPlace l = ((cutAt l + 1 : Nat) : Int) := by
  have h0 : ¬ 0 ≤ zwrong (fhead l) := by omega
  have h1 : ¬ cutAt l = l.length := by omega
  have h2 : ¬ 0 ≤ wrongI (frest l) := by omega
  have h3 : fbyte l ≠ 46 ∧ readV (frest l) = 0 := ⟨hx, hv⟩
  unfold figVal figKind figPlace
  rw [if_neg h0, if_neg h0, if_neg h0, if_neg h1, if_neg h1, if_neg h1, if_neg h2, if_neg h2, if_neg h2, if_neg hx, if_pos hv, if_pos h3, if_pos h3]
  exact ⟨rfl, rfl, rfl⟩
theorem fig_end_slash {l : List UInt8} (h : zwrong (fhead l) < 0) (hc : cutAt l < l.length) (hr : wrongI (frest l) < 0) (hx : fbyte l ≠ 46) (hv : readV (frest l) ≠ 0) : figVal l = mkRat (zread (fhead l)) (readV (frest l)) ∧ figKind l = 0 ∧ figPlace l = 0 := by
  have h0 : ¬ 0 ≤ zwrong (fhead l) := by omega
  have h1 : ¬ cutAt l = l.length := by omega
  have h2 : ¬ 0 ≤ wrongI (frest l) := by omega
  have h3 : ¬ (fbyte l ≠ 46 ∧ readV (frest l) = 0) := fun h => hv h.2
  unfold figVal figKind figPlace
  rw [if_neg h0, if_neg h0, if_neg h0, if_neg h1, if_neg h1, if_neg h1, if_neg h2, if_neg h2, if_neg h2, if_neg hx, if_neg hv, if_neg h3, if_neg h3]
  exact ⟨rfl, rfl, rfl⟩
end Go.Proofs.YteoeicfbaffjcaaGreatDoor

/-
  What strings.Repeat makes of a nought, and what strings.HasPrefix tells: the library's own text, walked.
-/
namespace Go.Proofs.YteoeicfbaffjcaaGreatDoor
open Go.RowKit

theorem noughts_cut (X : ByteArray) (h : X = bs (List.replicate 64 48)) (c : Nat) (hc : c ≤ 64) : X.extract 0 c = bs (List.replicate c 48) := by
  rw [h, bs_take, List.take_replicate, Nat.min_eq_left hc]
def pre_lays_ren : Go.Shelf.Ren := ⟨fun | 99 => 51 | 206 => 96 | n => n, fun | 3 => 3 | 4 => 4 | 9 => 9 | n => n, fun | n => n⟩
theorem pre_lays : Go.Proofs.Lays.n99 Tryz.prog pre_lays_ren := {
  mixed := by kernel_rfl
  f99 := Tryz.func51.trans (congrArg some (by kernel_rfl))
  f206 := Tryz.func96.trans (congrArg some (by kernel_rfl))
  t3 := Tryz.underlying3
  a3 := Tryz.isAgg3
  z3 := Tryz.sizeOf3
  v3 := Tryz.zeroValue3
  t4 := Tryz.underlying4
  a4 := Tryz.isAgg4
  z4 := Tryz.sizeOf4
  v4 := Tryz.zeroValue4
  t9 := Tryz.underlying9
  a9 := Tryz.isAgg9
  z9 := Tryz.sizeOf9
  v9 := Tryz.zeroValue9 }
theorem fig_HasPrefix (l p : List UInt8) (b : Bool) (w : World) (h : Lib.hasPrefix l p = b) : Calls Tryz.prog 51 #[.string (bs l), .string (bs p)] w (fun e w' => e = .returned (.bool b) ∧ w = w') := by
  refine (Any.strings_HasPrefix pre_lays (bs l) (bs p) w).mono fun e w' ⟨he, hw⟩ => ⟨?_, hw.symm⟩
  rw [he, ← h]; rfl
theorem fig_HasPrefix_no (s : ByteArray) (w : World) (h : Lib.hasPrefix s.data.toList [48] = false) : Calls Tryz.prog 51 #[.string s, .string (bs [48])] w (fun e w' => e = .returned (.bool false) ∧ w = w') := by
  refine (Any.strings_HasPrefix pre_lays s (bs [48]) w).mono fun e w' ⟨he, hw⟩ => ⟨?_, hw.symm⟩
  rw [he, ← h]; rfl
theorem fig_HasPrefix_yes (s : ByteArray) (w : World) (h : Lib.hasPrefix s.data.toList [48] = true) : Calls Tryz.prog 51 #[.string s, .string (bs [48])] w (fun e w' => e = .returned (.bool true) ∧ w = w') := by
  refine (Any.strings_HasPrefix pre_lays s (bs [48]) w).mono fun e w' ⟨he, hw⟩ => ⟨?_, hw.symm⟩
  rw [he, ← h]; rfl
theorem fig_minus (l : List UInt8) (w : World) : Calls Tryz.prog 51 #[.string (bs l), .string (bs [45])] w (fun e w' => e = .returned (.bool (minusAhead l)) ∧ w = w') := by
  refine fig_HasPrefix l [45] (minusAhead l) w ?_
  cases l with
  | nil => rfl
  | cons x r =>
    show Lib.hasPrefix (x :: r) [45] = decide (x.toNat = 45)
    by_cases h : x.toNat = 45
    · rw [show x = 45 from UInt8.toNat_inj.1 h]
      simp [Lib.hasPrefix]
    · rw [decide_eq_false h]
      have hx : ¬ x = 45 := fun e => h (by rw [e]; rfl)
      show ((45 : UInt8) == x && ([] : List UInt8).isPrefixOf r) = false
      rw [beq_eq_false_iff_ne.2 (fun e => hx e.symm)]; rfl
def mul_lays_ren : Go.Shelf.Ren := ⟨fun | 212 => 118 | 263 => 146 | 264 => 147 | n => n, fun | 46 => 97 | 51 => 54 | 53 => 60 | 146 => 123 | 148 => 169 | n => n, fun | n => n⟩
theorem mul_lays : Go.Proofs.Lays.n212 Tryz.prog mul_lays_ren := {
  mixed := by kernel_rfl
  f212 := Tryz.func118.trans (congrArg some (by kernel_rfl))
  f263 := Tryz.func146.trans (congrArg some (by kernel_rfl))
  f264 := Tryz.func147.trans (congrArg some (by kernel_rfl))
  t46 := Tryz.underlying97
  a46 := Tryz.isAgg97
  z46 := Tryz.sizeOf97
  v46 := Tryz.zeroValue97
  t51 := Tryz.underlying54
  a51 := Tryz.isAgg54
  z51 := Tryz.sizeOf54
  v51 := Tryz.zeroValue54
  t53 := Tryz.underlying60
  a53 := Tryz.isAgg60
  z53 := Tryz.sizeOf60
  v53 := Tryz.zeroValue60
  t146 := Tryz.underlying123
  a146 := Tryz.isAgg123
  z146 := Tryz.sizeOf123
  v146 := Tryz.zeroValue123
  t148 := Tryz.underlying169
  a148 := Tryz.isAgg169
  z148 := Tryz.sizeOf169
  v148 := Tryz.zeroValue169 }
theorem fig_Mul (c : Nat) (w : World) (hc : c ≤ 64) : Calls Tryz.prog 118 #[.int .u64 1, .int .u64 (c : Int)] w (fun e w' => e = .returned (.tuple #[.int .u64 0, .int .u64 (c : Int)]) ∧ w = w') := by
  refine (Any.bits_Mul mul_lays 1 c (by decide) (by omega) w).mono fun e w' ⟨he, hw⟩ => ⟨?_, hw.symm⟩
  have h1 : 1 * c / 18446744073709551616 = 0 := by omega
  have h2 : 1 * c % 18446744073709551616 = c := by omega
  rw [h1, h2] at he
  exact he
set_option maxRecDepth 1000000 in
set_option maxHeartbeats 4000000 in
theorem fig_Repeat (c : Nat) (w : World) (hc : c ≤ 64) : Calls Tryz.prog 85 #[.string (bs [48]), .int .i64 (c : Int)] w (fun e w' => e = .returned (.string (bs (List.replicate c 48))) ∧ w = w') := by
  have hs := bs_size [48]
  simp only [List.length_cons, List.length_nil] at hs
  by_cases h0 : c = 0
  · subst h0
    go_enter Tryz.func85, Tryz.ntmps85
    go_wp2
    go_ret
    exact ⟨rfl, rfl⟩
  · by_cases h1 : c = 1
    · subst h1
      go_enter Tryz.func85, Tryz.ntmps85
      go_wp2
      go_ret
      exact ⟨rfl, rfl⟩
    · have hz0 : ((c : Int) == 0) = false := by simp; omega
      have hz1 : ((c : Int) == 1) = false := by simp; omega
      have h48 : ∀ h', ((bs [48])[0]'h').toNat = 48 := fun _ => rfl
      clear h0 h1
      go_enter Tryz.func85, Tryz.ntmps85
      go_wp2_with fail
      refine (fig_Mul c _ hc).mono ?_
      rintro e w' ⟨rfl, rfl⟩
      go_wp2_with fail
      refine (fig_HasPrefix_no _ _ (by rfl)).mono ?_
      rintro e w' ⟨rfl, rfl⟩
      go_wp2_with fail
      refine (fig_HasPrefix_no _ _ (by rfl)).mono ?_
      rintro e w' ⟨rfl, rfl⟩
      go_wp2_with fail
      refine (fig_HasPrefix_yes _ _ (by rfl)).mono ?_
      rintro e w' ⟨rfl, rfl⟩
      go_wp2
      go_ret
      exact ⟨congrArg (fun s => Ending.returned (.string s)) (noughts_cut _ (by rfl) c hc), rfl⟩
end Go.Proofs.YteoeicfbaffjcaaGreatDoor

/-
  The contract of package prod (layer 4) at this seat: Pow.
-/
namespace Go.Proofs.YteoeicfbaffjcaaGreatDoor
open Go.RowKit

theorem ret_pow {v : Nat} {e : Int} {a : Option Addr} {n cap : Nat} {l : List Nat} {b : Bool} {w w' : World} (h1 : l = powL v e) (h2 : b = powB v e) (h : Wd w' a n cap l) (hB : Below w.heap.size w w') :
    Lst2 (powL v e) (.bool (powB v e)) w (.returned (.tuple #[.slice a n cap, .bool b])) w' := by subst h1 h2; exact ⟨_, _, _, rfl, h, hB⟩
theorem and_bit (i : Nat) (hi : i < 9223372036854775808) : bits BinOp.and IntKind.i64 (i : Int) 1 = ((i % 2 : Nat) : Int) := by
  have h1 : (BitVec.ofInt 64 (i : Int)).toNat = i := by rw [BitVec.ofInt_natCast, BitVec.toNat_ofNat]; exact Nat.mod_eq_of_lt (by omega)
  show IntKind.i64.wrap ((BitVec.ofInt 64 (i : Int) &&& BitVec.ofInt 64 1).toNat : Int) = _
  rw [BitVec.toNat_and, h1, show (BitVec.ofInt 64 1).toNat = 1 from rfl, Nat.and_one_is_mod]
  simp [IntKind.wrap, IntKind.signed, IntKind.bits]
  omega
theorem prod_pow_neg (a : Option Addr) (n cap : Nat) (l : List Nat) (e : Int) (w : World) (h : Wd w a n cap l) (hn : n ≤ 1000000) (he : e < 0) :
    Calls Tryz.prog 95 #[.slice a n cap, .int .i64 e] w (Lst2 (powL (val l) e) (.bool (powB (val l) e)) w) := by
  have Hb := Lib.hid (powB_neg (v := val l) he)
  have Hl := Lib.hid (powL_no Hb.out)
  have H := Lib.hid h
  clear h
  go_enter Tryz.func95, Tryz.ntmps95
  go_wp2_with fail
  refine (twos_len _ _ _ _ _ H.out (by omega)).mono ?_
  rintro e1 w' ⟨rfl, rfl⟩
  generalize blen (val l) = L at *
  go_wp2
  go_ret2
  exact ret_pow Hl.out.symm Hb.out.symm (Wd.ofNil _) (Below.refl _ _)
theorem prod_pow_long (a : Option Addr) (n cap : Nat) (l : List Nat) (E : Nat) (w : World) (h : Wd w a n cap l) (hn : n ≤ 1000000) (h2 : 2 ≤ blen (val l)) (hE : 65536 / blen (val l) < E) :
    Calls Tryz.prog 95 #[.slice a n cap, .int .i64 (E : Int)] w (Lst2 (powL (val l) E) (.bool (powB (val l) E)) w) := by
  have Hb := Lib.hid (powB_long (v := val l) (e := (E : Int)) h2 (by omega))
  have Hl := Lib.hid (powL_no Hb.out)
  have H := Lib.hid h
  clear h
  obtain ⟨L, hL⟩ : ∃ L, L = blen (val l) := ⟨_, rfl⟩
  rw [← hL] at h2 hE
  have HL := Lib.hid hL
  obtain ⟨Q, hQ⟩ : ∃ Q : Nat, (65536 : Int) / (L : Int) = (Q : Int) := ⟨65536 / L, by rw [Int.natCast_ediv]; rfl⟩
  have hQE : Q < E := by have h3 : (65536 : Int) / (L : Int) = ((65536 / L : Nat) : Int) := by rw [Int.natCast_ediv]; rfl
                         omega
  have h2i : (2 : Int) ≤ (L : Int) := by omega
  have hQi : (Q : Int) < (E : Int) := by omega
  clear hL hE
  go_enter Tryz.func95, Tryz.ntmps95
  go_wp2_with fail
  refine (twos_len _ _ _ _ _ H.out (by omega)).mono ?_
  rintro e1 w' ⟨rfl, rfl⟩
  rw [← HL.out]
  go_wp2
  go_ret2
  exact ret_pow Hl.out.symm Hb.out.symm (Wd.ofNil _) (Below.refl _ _)
set_option maxRecDepth 4096 in
set_option maxHeartbeats 2000000 in
theorem prod_pow_yes (a : Option Addr) (n cap : Nat) (l : List Nat) (E : Nat) (w : World) (h : Wd w a n cap l) (hn : n ≤ 1000000) (hE : E ≤ 9223372036854775807) (hc : blen (val l) < 2 ∨ E ≤ 65536 / blen (val l)) :
    Calls Tryz.prog 95 #[.slice a n cap, .int .i64 (E : Int)] w (Lst2 (powL (val l) E) (.bool (powB (val l) E)) w) := by
  have Hb := Lib.hid (powB_yes hc)
  have Hl := Lib.hid (powL_yes Hb.out)
  have Hroom : Hid (∀ e, e ≤ E → (dg (val l ^ e)).length ≤ 2049) := Lib.hid (fun e he => pow_room rfl hc he)
  have H := Lib.hid h
  clear h
  obtain ⟨L, hL⟩ : ∃ L, L = blen (val l) := ⟨_, rfl⟩
  rw [← hL] at hc
  have HL := Lib.hid hL
  obtain ⟨Q, hQ⟩ : ∃ Q : Nat, (65536 : Int) / (L : Int) = (Q : Int) := ⟨65536 / L, by rw [Int.natCast_ediv]; rfl⟩
  have HQ : Hid (Q = 65536 / L) := Lib.hid (by have h3 : (65536 : Int) / (L : Int) = ((65536 / L : Nat) : Int) := by rw [Int.natCast_ediv]; rfl
                                               omega)
  have hT : blen E ≤ 63 := blen_le.2 (by omega)
  have Hlen : Hid ((dg E).length ≤ 2) := Lib.hid (dg_length_le (by omega))
  have hdec : ((L : Int) < 2) ∨ ((2 : Int) ≤ (L : Int) ∧ (E : Int) ≤ (Q : Int)) := by
    by_cases h2 : L < 2
    · exact .inl (by omega)
    · refine .inr ⟨by omega, ?_⟩
      have h3 := hc.resolve_left h2
      rw [← HQ.out] at h3
      omega
  have Hdec := Lib.hid hdec
  clear hL hc hdec
  rcases Hdec.out with hd1 | ⟨hd1, hd2⟩
  all_goals (
    clear Hdec
    go_enter Tryz.func95, Tryz.ntmps95
    go_wp2_with fail
    refine (twos_len _ _ _ _ _ H.out (by omega)).mono ?_
    rintro e1 w' ⟨rfl, rfl⟩
    rw [← HL.out]
    go_wp2_with fail
    refine (natSaid.of 1 _ (by omega)).mono ?_
    rintro e1 w1 ⟨a1, n1, c1, rfl, h1, b1⟩
    go_wp2_with fail
    refine (natSaid.of E _ (by omega)).mono ?_
    rintro e2 w2 ⟨a2, n2, c2, rfl, h2, b2⟩
    have hB2 := below_then b1 b2
    have H1 := Lib.hid (h1.later b2)
    have hn1 : n1 ≤ 2049 := by rw [← h1.len]; exact Hroom.out 0 (Nat.zero_le _)
    have hn2 : n2 ≤ 2 := by rw [← h2.len]; exact Hlen.out
    go_wp2_with fail
    refine (twos_len _ _ _ _ _ h2 (by omega)).mono ?_
    rintro e3 w' ⟨rfl, rfl⟩
    rw [val_dg]
    obtain ⟨T, hT2⟩ : ∃ T, T = blen E := ⟨_, rfl⟩
    rw [← hT2] at hT
    rw [← hT2]
    have HT := Lib.hid hT2
    clear h1 h2 b1 b2 hT2
    go_wp2
    go_loopw [7, 8] (fun s iv wr => ∃ (k n' c' : Nat) (a' : Option Addr), k ≤ T ∧ iv = .int .i64 ((k : Int) - 1) ∧ s = .slice a' n' c' ∧ n' ≤ 2049 ∧ Hid (Wd wr a' n' c' (dg (val l ^ (E / 2 ^ k)))) ∧ Below w.heap.size w wr) (fun _ iv _ => (intOf iv + 1).toNat)
    case atStart => exact ⟨T, n1, c1, a1, by omega, rfl, rfl, hn1, Lib.hid (by rw [HT.out, Nat.div_eq_of_lt (lt_blen E), Nat.pow_zero]; exact H1.out), hB2⟩
    case round =>
      clear H1 hB2
      obtain ⟨k, n', c', a', hk, rfl, rfl, hn', HP, hB⟩ := hrel
      cases k with
      | zero =>
        go_wp2
        go_ret2
        exact ret_pow (by rw [Hl.out, Nat.pow_zero, Nat.div_one]) Hb.out.symm HP.out hB
      | succ k =>
        have e1 : ((k + 1 : Nat) : Int) - 1 = (k : Int) := by omega
        rw [e1]
        clear e1
        obtain ⟨F, hF⟩ : ∃ F : Nat, (E : Int) / 2 ^ k = (F : Int) := ⟨E / 2 ^ k, div_pow_int E k⟩
        have HF : Hid (F = E / 2 ^ k) := Lib.hid (by have := div_pow_int E k; omega)
        have hFE : F ≤ E := by rw [HF.out]; exact Nat.div_le_self _ _
        obtain ⟨B, hB2⟩ : ∃ B : Nat, B = F % 2 := ⟨_, rfl⟩
        have hand : bits BinOp.and IntKind.i64 (F : Int) 1 = (B : Int) := by rw [hB2]; exact and_bit F (by omega)
        have hG : E / 2 ^ (k + 1) + E / 2 ^ (k + 1) ≤ E := by
          have h1 : E / 2 ^ (k + 1) = F / 2 := by rw [HF.out, Nat.pow_succ, Nat.div_div_eq_div_mul]
          omega
        have Hsq : Hid ((dg (val l ^ (E / 2 ^ (k + 1)) * val l ^ (E / 2 ^ (k + 1)))).length ≤ 2049) := Lib.hid (by rw [← Nat.pow_add]; exact Hroom.out _ hG)
        have HP2 : Hid ((dg (val l ^ F)).length ≤ 2049) := Lib.hid (Hroom.out _ hFE)
        have hk63 : k ≤ 62 := by omega
        clear hG
        go_wp2_with fail
        refine (prod_square _ _ _ _ _ HP.out (by omega)).mono ?_
        rintro e4 w4 ⟨a4, n4, c4, rfl, h4, b4⟩
        rw [val_dg] at h4
        have hn4 : n4 ≤ 2049 := by rw [← h4.len]; exact Hsq.out
        have hB4 := below_then hB b4
        by_cases hbit : B = 1
        · have hbi : ((B : Int) == 1) = true := by simp [hbit]
          have Hodd := Lib.hid (pow_odd (v := val l) (E := E) (k := k) (by rw [← HF.out, ← hB2]; exact hbit))
          have H4 := Lib.hid h4
          clear hbit hB2 h4 b4
          go_wp2_with fail
          refine (prod_mul _ _ _ _ _ _ _ _ _ H4.out (H.out.later hB4) (by omega) (by omega)).mono ?_
          rintro e5 w5 ⟨a5, n5, c5, rfl, h5, b5⟩
          rw [val_dg, Hodd.out, ← HF.out] at h5
          have hn5 : n5 ≤ 2049 := by rw [← h5.len]; exact HP2.out
          have H5 : Hid (Wd w5 a5 n5 c5 (dg (val l ^ (E / 2 ^ k)))) := Lib.hid (by rw [← HF.out]; exact h5)
          have hB5 := below_then hB4 b5
          clear h5 b5
          go_wp2
          go_roundw
          case rel => exact ⟨k, n5, c5, a5, by omega, by go_num, rfl, hn5, H5, hB5⟩
          case measure => simp [intOf]
        · have hbi : ((B : Int) == 1) = false := by simp; omega
          have Heven := Lib.hid (pow_even (v := val l) (E := E) (k := k) (by rw [← HF.out]; omega))
          have H4 : Hid (Wd w4 a4 n4 c4 (dg (val l ^ (E / 2 ^ k)))) := Lib.hid (by rw [← Heven.out]; exact h4)
          clear hbit hB2 h4 b4
          go_wp2
          go_roundw
          case rel => exact ⟨k, n4, c4, a4, by omega, by go_num, rfl, hn4, H4, hB4⟩
          case measure => simp [intOf])
theorem prod_pow (a : Option Addr) (n cap : Nat) (l : List Nat) (e : Int) (w : World) (h : Wd w a n cap l) (hn : n ≤ 1000000) (he : e ≤ 9223372036854775807) :
    Calls Tryz.prog 95 #[.slice a n cap, .int .i64 e] w (Lst2 (powL (val l) e) (.bool (powB (val l) e)) w) := by
  rcases Int.lt_or_le e 0 with h0 | h0
  · exact prod_pow_neg a n cap l e w h hn h0
  · obtain ⟨E, rfl⟩ := Int.eq_ofNat_of_zero_le h0
    by_cases hc : blen (val l) < 2 ∨ E ≤ 65536 / blen (val l)
    · exact prod_pow_yes a n cap l E w h hn (by omega) hc
    · exact prod_pow_long a n cap l E w h hn (by omega) (by omega)
end Go.Proofs.YteoeicfbaffjcaaGreatDoor

/-
  Package figure at this seat: power, pointed.
-/
namespace Go.Proofs.YteoeicfbaffjcaaGreatDoor
open Go.RowKit

set_option maxRecDepth 4096 in
set_option maxHeartbeats 4000000 in
theorem figure_power (k : Nat) (w : World) (hk : k ≤ 100) : Calls Tryz.prog 50 #[.int .i64 (k : Int)] w (Lst (dg (10 ^ k)) w) := by
  have HP : Hid (powL (val (dg 10)) (k : Int) = dg (10 ^ k)) := Lib.hid (by
    rw [val_dg, powL_yes (powB_yes (.inr ?_))]
    have h : 65536 / blen 10 = 16384 := by decide
    omega)
  have HT : ∀ w' : World, Calls Tryz.prog 34 #[.int .u64 10] w' (Lst (dg 10) w') := fun w' => natSaid.of 10 w' (by omega)
  have HL : Hid ((dg 10).length ≤ 1) := Lib.hid (dg_length_le (by decide))
  go_enter Tryz.func50, Tryz.ntmps50
  go_wp2_with fail
  refine (HT _).mono ?_
  rintro e w1 ⟨a1, n1, c1, rfl, h1, b1⟩
  have ln1 := h1.len
  have hn1 : n1 ≤ 1 := by rw [← ln1]; exact HL.out
  have H1 := Lib.hid h1
  clear h1 ln1
  go_wp2_with fail
  refine (prod_pow a1 n1 c1 _ (k : Int) _ H1.out (by omega) (by omega)).mono ?_
  rintro e w2 ⟨a2, n2, c2, rfl, h2, b2⟩
  rw [HP.out] at h2
  have H2 := Lib.hid h2
  have HB := Lib.hid (below_then b1 b2)
  clear h2 b1 b2
  generalize powB (val (dg 10)) (k : Int) = s at *
  go_wp2
  go_ret
  exact ⟨a2, n2, c2, rfl, H2.out, HB.out⟩
set_option maxRecDepth 4096 in
set_option maxHeartbeats 4000000 in
theorem figure_pointed (s : List UInt8) (k : Nat) (w : World) (hk : k ≤ 60) (hs : 1 ≤ s.length) (hl : s.length ≤ 1000000) : Calls Tryz.prog 40 #[.string (bs s), .int .i64 (k : Int)] w (Gives (.string (bs (pointed k (pad0 k s)))) w) := by
  by_cases h0 : k = 0
  · have HP : Hid (pointed k (pad0 k s) = s) := Lib.hid (by
      rw [h0]
      unfold pointed pad0
      rw [if_pos rfl, show 0 + 1 - s.length = 0 by omega]; rfl)
    have hq : ((k : Int) == 0) = true := by simp [h0]
    clear h0
    go_enter Tryz.func40, Tryz.ntmps40
    go_wp2
    go_ret
    exact ⟨by rw [HP.out]; rfl, Below.refl _ _⟩
  · have hq : ((k : Int) == 0) = false := by simp [h0]
    have hz := bs_size s
    obtain ⟨c, hc⟩ : ∃ c : Nat, k + 1 - s.length = c := ⟨_, rfl⟩
    have hM : (max ((k : Int) + 1 - (s.length : Int)) 0 : Int) = (c : Int) := by omega
    obtain ⟨p, hp⟩ : ∃ p, pad0 k s = p := ⟨_, rfl⟩
    have hcat : bs (List.replicate c 48) ++ bs s = bs p := by rw [bs_append, ← hp, ← hc]; rfl
    have hpl : p.length = max (k + 1) s.length := by rw [← hp]; exact pad0_length _ _
    have hz1 := bs_size (List.replicate c 48)
    have hz2 := bs_size p
    rw [List.length_replicate] at hz1
    obtain ⟨j, hj⟩ : ∃ j : Nat, p.length - k = j := ⟨_, rfl⟩
    have hji : (p.length : Int) - (k : Int) = (j : Int) := by omega
    have e1 := bs_take p j
    have e2 := bs_drop p j
    have hz3 := bs_size (p.take j)
    have hz4 := bs_size [46]
    have hz5 := bs_size (p.drop j)
    rw [List.length_take, Nat.min_eq_left (by omega)] at hz3
    rw [List.length_drop] at hz5
    simp only [List.length_cons, List.length_nil] at hz4
    have e3 : bs (p.take j) ++ bs [46] ++ bs (p.drop j) = bs (pointed k (pad0 k s)) := by
      rw [bs_append, bs_append, hp]
      unfold pointed
      rw [if_neg h0, hj, List.append_assoc]; rfl
    have HE := Lib.hid e3
    have HC := Lib.hid hc
    have hc61 : c ≤ 60 := by omega
    have hjp : j ≤ p.length := by omega
    have hpb : p.length ≤ 1000001 := by omega
    have hsp : s.length ≤ p.length := by omega
    clear h0 hc hp e3 hj hpl
    go_enter Tryz.func40, Tryz.ntmps40
    go_wp2_with fail
    refine (fig_Repeat c _ (by omega)).mono ?_
    rintro e w' ⟨rfl, rfl⟩
    go_wp2
    go_quiet (fail)
    go_wp2
    go_ret
    exact ⟨by rw [← HE.out]; rfl, below_draws _ _⟩
end Go.Proofs.YteoeicfbaffjcaaGreatDoor

/-
  Plain mathematics: what a fraction is rounded to is away by half a place at most; how many digits that has. Nothing of the program.
-/
namespace Go.Proofs.YteoeicfbaffjcaaGreatDoor

theorem txt_length_ten {n k : Nat} (h : n < 10 ^ k) (hk : 1 ≤ k) : (txt n).length ≤ k := by
  induction k generalizing n with
  | zero => omega
  | succ k ih =>
    by_cases h1 : n < 10
    · rw [txt_small h1]; simp
    · rw [txt_big (by omega), List.length_append]
      have h2 : n / 10 < 10 ^ k := by rw [Nat.pow_succ] at h; omega
      have h3 : 1 ≤ k := by
        cases k with
        | zero => simp at h; omega
        | succ k => omega
      have := ih h2 h3
      simp only [List.length_cons, List.length_nil]
      omega
theorem rnum_le (q : Rat) (k : Nat) : rnum q k ≤ q.num.natAbs * 10 ^ k + 1 := by
  unfold rnum
  have hd := q.den_pos
  generalize q.num.natAbs * 10 ^ k = x
  generalize q.den = d at *
  apply Nat.le_of_lt_succ
  rw [Nat.div_lt_iff_lt_mul (by omega)]
  have h1 : x * 2 ≤ x * (2 * d) := Nat.mul_le_mul_left _ (by omega)
  have h2 : (x + 1).succ * (2 * d) = x * (2 * d) + 4 * d := by rw [Nat.succ_mul, Nat.succ_mul]; omega
  rw [h2]; omega
theorem rnum_digits {q : Rat} (hq : qlen q ≤ 4) (k : Nat) : (txt (rnum q k)).length ≤ k + 40 := by
  have h1 := val_lt (okw_dg q.num.natAbs)
  rw [val_dg] at h1
  have h2 : 4294967296 ^ (dg q.num.natAbs).length ≤ 4294967296 ^ 4 := Nat.pow_le_pow_right (by decide) (Nat.le_trans (qlen_num q) hq)
  have h3 : q.num.natAbs < 10 ^ 39 := Nat.lt_of_lt_of_le h1 (Nat.le_trans h2 (by decide))
  have h4 := rnum_le q k
  have h5 : q.num.natAbs * 10 ^ k ≤ 10 ^ 39 * 10 ^ k := Nat.mul_le_mul_right _ (Nat.le_of_lt h3)
  have h6 : 0 < 10 ^ 39 * 10 ^ k := Nat.mul_pos (by decide) (Nat.pow_pos (by decide))
  refine txt_length_ten ?_ (by omega)
  rw [show k + 40 = 39 + k + 1 by omega, Nat.pow_succ, Nat.pow_add]
  omega
theorem mk_nonneg (u v : Nat) : 0 ≤ (mkRat (u : Int) v).num := by
  by_cases hv : v = 0
  · rw [hv, Rat.mkRat_zero]; exact Int.le_refl _
  · have h := (qval_parts false (u := u) hv).1
    rw [zval_false] at h
    have e : mkRat (u : Int) v = qval false u v := rfl
    rw [e, h]; exact Int.natCast_nonneg _
theorem qabs_mk (y : Int) {v : Nat} (_ : v ≠ 0) : qabs (mkRat y v) = mkRat (y.natAbs : Int) v := by
  have key : ∀ u : Nat, ¬ (mkRat (u : Int) v).num < 0 := fun u => by
    have := mk_nonneg u v
    omega
  unfold qabs
  rcases Int.natAbs_eq y with h | h
  · rw [h, if_neg (key _), Int.natAbs_natCast]
  · rw [h, Int.natAbs_neg, Int.natAbs_natCast, ← Rat.neg_mkRat, Rat.neg_num]
    by_cases h0 : (mkRat (y.natAbs : Int) v).num = 0
    · rw [if_neg (by omega), Rat.num_eq_zero.1 h0]; rfl
    · rw [if_pos (by have := key y.natAbs; omega), Rat.neg_neg]
/-- How far off it is. -/
theorem rnum_near (q : Rat) (k : Nat) : 2 * (zval (decide (q.num < 0)) (rnum q k) * (q.den : Int) - q.num * ((10 ^ k : Nat) : Int)).natAbs ≤ q.den := by
  have hd := q.den_pos
  have h1 := Nat.div_add_mod (2 * (q.num.natAbs * 10 ^ k) + q.den) (2 * q.den)
  have h2 := Nat.mod_lt (2 * (q.num.natAbs * 10 ^ k) + q.den) (show 0 < 2 * q.den by omega)
  have e : (2 * (q.num.natAbs * 10 ^ k) + q.den) / (2 * q.den) = rnum q k := rfl
  rw [e] at h1
  generalize (2 * (q.num.natAbs * 10 ^ k) + q.den) % (2 * q.den) = r at *
  generalize rnum q k = n at *
  generalize 10 ^ k = p at *
  generalize q.den = d at *
  have h3 : 2 * d * n = 2 * (n * d) := by grind
  rw [h3] at h1
  have key : 2 * ((n * d : Nat) - (q.num.natAbs * p : Nat) : Int).natAbs ≤ d := by omega
  have e2 : ((n * d : Nat) : Int) = (n : Int) * (d : Int) := by push_cast; rfl
  by_cases hs : q.num < 0
  · rw [decide_eq_true hs, zval_true]
    have e3 : q.num = -(q.num.natAbs : Int) := by omega
    have e4 : -(n : Int) * (d : Int) - q.num * (p : Int) = -(((n * d : Nat) : Int) - ((q.num.natAbs * p : Nat) : Int)) := by
      rw [e3]; push_cast; rw [Int.natAbs_neg, Int.natAbs_natCast]; grind
    rw [e4, Int.natAbs_neg]
    exact key
  · rw [decide_eq_false hs, zval_false]
    have e3 : q.num = (q.num.natAbs : Int) := by omega
    have e4 : (n : Int) * (d : Int) - q.num * (p : Int) = ((n * d : Nat) : Int) - ((q.num.natAbs * p : Nat) : Int) := by
      rw [e3]; push_cast; rw [Int.natAbs_natCast]
    rw [e4]
    exact key
theorem tens_rat (k : Nat) : ((10 : Int) : Rat) ^ k = mkRat ((10 ^ k : Nat) : Int) 1 := by
  induction k with
  | zero => rw [Rat.pow_zero]; rfl
  | succ k ih =>
    rw [Rat.pow_succ, ih, show ((10 : Int) : Rat) = mkRat 10 1 from (Rat.mkRat_one _).symm, Rat.mkRat_mul_mkRat, Nat.pow_succ]
    push_cast; rfl
/-- Twice the way from a fraction to what it is rounded to, in places. -/
theorem near_one (q : Rat) (k : Nat) : sgn ((qabs (mkRat (zval (decide (q.num < 0)) (rnum q k)) (10 ^ k) - q) + qabs (mkRat (zval (decide (q.num < 0)) (rnum q k)) (10 ^ k) - q)) * ((10 : Int) : Rat) ^ k - ((1 : Int) : Rat)).num ≤ 0 := by
  have h := rnum_near q k
  have hp : 10 ^ k ≠ 0 := Nat.ne_of_gt (Nat.pow_pos (by decide))
  have hd := q.den_nz
  have e1 : mkRat (zval (decide (q.num < 0)) (rnum q k)) (10 ^ k) - q = mkRat (zval (decide (q.num < 0)) (rnum q k) * (q.den : Int) - q.num * ((10 ^ k : Nat) : Int)) (10 ^ k * q.den) := by
    rw [← fc_mkRat_minus _ _ hp hd, Rat.mkRat_self]
  rw [e1, qabs_mk _ (Nat.mul_ne_zero hp hd), tens_rat]
  generalize (zval (decide (q.num < 0)) (rnum q k) * (q.den : Int) - q.num * ((10 ^ k : Nat) : Int)).natAbs = y at *
  generalize 10 ^ k = p at *
  generalize q.den = d at *
  have hpd := Nat.mul_ne_zero hp hd
  have e2 : (mkRat (y : Int) (p * d) + mkRat (y : Int) (p * d)) * mkRat (p : Int) 1 = mkRat ((2 * y : Nat) : Int) d := by
    rw [Rat.mkRat_add_mkRat _ _ hpd hpd, Rat.mkRat_mul_mkRat, Rat.mkRat_eq_iff (Nat.mul_ne_zero (Nat.mul_ne_zero hpd hpd) (by decide)) hd]
    push_cast
    grind
  have e3 : ((1 : Int) : Rat) = mkRat (d : Int) d := by
    rw [show ((1 : Int) : Rat) = mkRat 1 1 from (Rat.mkRat_one _).symm, Rat.mkRat_eq_iff (by decide) hd]; omega
  rw [e2, e3]
  have e4 : mkRat ((2 * y : Nat) : Int) d - mkRat (d : Int) d = -(mkRat ((d - 2 * y : Nat) : Int) d) := by
    rw [fc_mkRat_minus _ _ hd hd, Rat.neg_mkRat, Rat.mkRat_eq_iff (Nat.mul_ne_zero hd hd) hd]
    have : ((d - 2 * y : Nat) : Int) = (d : Int) - 2 * (y : Int) := by omega
    rw [this]
    push_cast
    grind
  have h1 := mk_nonneg (d - 2 * y) d
  rw [e4, Rat.neg_num]
  generalize (mkRat ((d - 2 * y : Nat) : Int) d).num = x at *
  unfold sgn
  split
  · omega
  · split <;> omega
end Go.Proofs.YteoeicfbaffjcaaGreatDoor

/-
  Package figure at this seat: nearest, Round.
-/
namespace Go.Proofs.YteoeicfbaffjcaaGreatDoor
open Go.RowKit

/-- What is reckoned of a fraction as it stands, right or not. -/
theorem near_raw (neg : Bool) (u v k : Nat) : (qval false (u * (10 ^ k * 2) + v) (v * 2)).floor.natAbs = rnum (qval neg u v) k := by
  by_cases h0 : v = 0
  · subst h0
    rw [qval_none neg (.inl rfl), Nat.zero_mul, qval_none false (.inl rfl)]
    unfold rnum
    show (0 : Nat) = (2 * (0 * 10 ^ k) + 1) / (2 * 1)
    rw [Nat.zero_mul]
  · rw [fc_qfloor false _ (show v * 2 ≠ 0 by omega), zval_false]
    obtain ⟨h1, h2⟩ := qval_parts neg (u := u) h0
    unfold rnum
    rw [h1, h2, zval_abs]
    have hg : 0 < Nat.gcd u v := Nat.gcd_pos_of_pos_right u (by omega)
    obtain ⟨g, hgg⟩ : ∃ g, Nat.gcd u v = g := ⟨_, rfl⟩
    have e1 : u = g * (u / g) := by rw [← hgg]; exact (Nat.mul_div_cancel' (Nat.gcd_dvd_left u v)).symm
    have e2 : v = g * (v / g) := by rw [← hgg]; exact (Nat.mul_div_cancel' (Nat.gcd_dvd_right u v)).symm
    rw [hgg] at hg ⊢
    generalize u / g = x at *
    generalize v / g = y at *
    subst e1 e2
    have e3 : g * x * (10 ^ k * 2) + g * y = g * (2 * (x * 10 ^ k) + y) := by grind
    have e4 : g * y * 2 = g * (2 * y) := by grind
    rw [e3, e4, ← Nat.mul_div_mul_left (2 * (x * 10 ^ k) + y) (2 * y) hg, Int.fdiv_eq_ediv_of_nonneg _ (Int.natCast_nonneg _), ← Int.natCast_ediv, Int.natAbs_natCast]
theorem fig_room {u v N k : Nat} {X Y : Nat} (hu : u < 4294967296 ^ X) (hv : v < 4294967296 ^ Y) (hX : X ≤ N) (hY : Y ≤ N) (hk : k ≤ 60) : u * (10 ^ k * 2) + v < 4294967296 ^ (N + 9) := by
  have h1 : 10 ^ k ≤ 10 ^ 60 := Nat.pow_le_pow_right (by decide) hk
  have h2 : 10 ^ 60 * 2 ≤ 4294967296 ^ 8 := by decide
  have h3 : u < 4294967296 ^ N := Nat.lt_of_lt_of_le hu (Nat.pow_le_pow_right (by decide) hX)
  have h4 : v < 4294967296 ^ N := Nat.lt_of_lt_of_le hv (Nat.pow_le_pow_right (by decide) hY)
  have h5 : u * (10 ^ k * 2) ≤ 4294967296 ^ N * 4294967296 ^ 8 := Nat.mul_le_mul (Nat.le_of_lt h3) (by omega)
  have h6 : 4294967296 ^ N ≤ 4294967296 ^ (N + 8) := Nat.pow_le_pow_right (by decide) (by omega)
  rw [← Nat.pow_add] at h5
  have h7 : 4294967296 ^ (N + 9) = 4294967296 ^ (N + 8) * 4294967296 := by rw [show N + 9 = N + 8 + 1 by omega, Nat.pow_succ]
  generalize 4294967296 ^ (N + 8) = B at *
  generalize u * (10 ^ k * 2) = x at *
  generalize 4294967296 ^ N = A at *
  omega
theorem fig_room_len {u v N k : Nat} {X Y : Nat} (hu : u < 4294967296 ^ X) (hv : v < 4294967296 ^ Y) (hX : X ≤ N) (hY : Y ≤ N) (hk : k ≤ 60) : (dg (u * (10 ^ k * 2) + v)).length ≤ N + 9 := dg_length_le (fig_room hu hv hX hY hk)
theorem fig_twice_len {v N Y : Nat} (hv : v < 4294967296 ^ Y) (hY : Y ≤ N) : (dg (v * 2)).length ≤ N + 9 := by
  refine Nat.le_trans (dg_length_le (Nat.lt_of_lt_of_le (show v * 2 < 4294967296 ^ (Y + 1) by rw [Nat.pow_succ]; omega) (Nat.pow_le_pow_right (by decide) (show Y + 1 ≤ N + 9 by omega)))) (Nat.le_refl _)
theorem fig_sign {u v k : Nat} (h : rnum (qval true u v) k ≠ 0) : (qval true u v).num < 0 := by
  have h1 : qval true u v = -qval false u v := fc_qval_neg false u v
  have h2 := mk_nonneg u v
  have h3 : qval false u v = mkRat (u : Int) v := rfl
  rw [← h3] at h2
  by_cases h4 : (qval false u v).num = 0
  · exfalso
    apply h
    rw [h1, Rat.num_eq_zero.1 h4]
    unfold rnum
    show (2 * (0 * 10 ^ k) + 1) / (2 * 1) = 0
    rw [Nat.zero_mul]
  · rw [h1, Rat.neg_num]; omega
theorem fig_nosign (u v : Nat) : ¬ (qval false u v).num < 0 := by
  have h2 := mk_nonneg u v
  have h3 : qval false u v = mkRat (u : Int) v := rfl
  rw [← h3] at h2
  omega
theorem fig_all3 (a1 : Option Addr) (n1 c1 : Nat) (l1 : List Nat) (a2 : Option Addr) (n2 c2 : Nat) (l2 : List Nat) (a3 : Option Addr) (n3 c3 : Nat) (l3 : List Nat) (w : World) (g : Nat) (hg : w.heap.size = g) (h1 : Wd w a1 n1 c1 l1) (h2 : Wd w a2 n2 c2 l2) (h3 : Wd w a3 n3 c3 l3) (hn1 : n1 ≤ 10000) (hn2 : n2 ≤ 10000) (hn3 : n3 ≤ 10000) :
    Calls Tryz.prog 82 #[.slice (some ⟨g, 0, none⟩) 3 3] (w.alloc (.cells #[.slice a1 n1 c1, .slice a2 n2 c2, .slice a3 n3 c3] 22)) (Lst (dg (val l1 * (val l2 * val l3))) w) := by
  subst hg
  have e : prods [l1, l2, l3] = val l1 * (val l2 * val l3) := by simp [prods]
  have q1 := h1.len
  have q2 := h2.len
  have q3 := h3.len
  refine (prod_all 3 _ 3 [l1, l2, l3] _ (Wds.lit3 w 22 h1 h2 h3) (by omega) (by simp only [words]; omega)).mono fun _ _ ⟨a', n', c', he, h, hb⟩ => ⟨a', n', c', he, ?_, below_then (below_alloc _ _) hb⟩
  rw [← e]; exact h
theorem fig_add2 (a1 : Option Addr) (n1 c1 : Nat) (l1 : List Nat) (a2 : Option Addr) (n2 c2 : Nat) (l2 : List Nat) (w : World) (g : Nat) (hg : w.heap.size = g) (h1 : Wd w a1 n1 c1 l1) (h2 : Wd w a2 n2 c2 l2) (hn1 : n1 ≤ 10000) (hn2 : n2 ≤ 10000) :
    Calls Tryz.prog 52 #[.slice (some ⟨g, 0, none⟩) 2 2] (w.alloc (.cells #[.slice a1 n1 c1, .slice a2 n2 c2] 22)) (Lst (dg (val l1 + val l2)) w) := by
  subst hg
  have e : vals [l1, l2] = val l1 + val l2 := by simp [vals]
  have q1 := h1.len
  have q2 := h2.len
  refine (natSaid.add _ 2 2 [l1, l2] _ (Wds.lit2 w 22 h1 h2) (by omega) (by simp only [words]; omega)).mono fun _ _ ⟨a', n', c', he, h, hb⟩ => ⟨a', n', c', he, ?_, below_then (below_alloc _ _) hb⟩
  rw [← e]; exact h
set_option maxRecDepth 4096 in
set_option maxHeartbeats 4000000 in
theorem figure_nearest (neg : Bool) (a : Option Addr) (n cap : Nat) (la : List Nat) (b : Option Addr) (m cap' : Nat) (lb : List Nat) (w : World) (ha : Wd w a n cap la) (hb : Wd w b m cap' lb) (k : Nat) (hk : k ≤ 60) (hn : n ≤ 900) (hm : m ≤ 900) :
    Calls Tryz.prog 39 #[frV neg a n cap b m cap', .int .i64 (k : Int)] w (Lst (dg (rnum (qval neg (val la) (val lb)) k)) w) := by
  have HB := Lib.hid (below_alloc w (.cells #[.bool neg, .slice a n cap, .slice b m cap'] 30))
  have HA := Lib.hid (ha.later HB.out)
  have HC := Lib.hid (hb.later HB.out)
  have HX := Lib.hid (blk_new w #[.bool neg, .slice a n cap, .slice b m cap'] 30)
  have hu := val_lt ha.ok
  have hv := val_lt hb.ok
  rw [ha.len] at hu
  rw [hb.len] at hv
  have lU : (dg (val la * (10 ^ k * 2) + val lb)).length ≤ 900 + 9 := fig_room_len hu hv hn hm hk
  have lP : (dg (val la * (10 ^ k * 2))).length ≤ 900 + 9 := Nat.le_trans (dg_length_mono (Nat.le_add_right _ _)) lU
  have lT : (dg (10 ^ k)).length ≤ 8 := dg_length_le (Nat.lt_of_le_of_lt (Nat.pow_le_pow_right (by decide) hk) (show 10 ^ 60 < 4294967296 ^ 8 by decide))
  have l2 : (dg 2).length ≤ 1 := dg_length_le (by decide)
  have lD : (dg (val lb * 2)).length ≤ 900 + 9 := fig_twice_len hv hm
  have HE1 : Hid (val la * (val (dg (10 ^ k)) * val (dg 2)) = val la * (10 ^ k * 2)) := Lib.hid (by rw [val_dg, val_dg])
  have HE2 : Hid (val (dg (val la * (10 ^ k * 2))) + val lb = val la * (10 ^ k * 2) + val lb) := Lib.hid (by rw [val_dg])
  have HE3 : Hid (val lb * 2 + 0 = val lb * 2) := Lib.hid (by omega)
  have HE4 : Hid ((qval false (val (dg (val la * (10 ^ k * 2) + val lb))) (val (dg (val lb * 2)))).floor.natAbs = rnum (qval neg (val la) (val lb)) k) := Lib.hid (by rw [val_dg, val_dg]; exact near_raw neg _ _ _)
  have HT : ∀ w' : World, Calls Tryz.prog 34 #[.int .u64 2] w' (Lst (dg 2) w') := fun w' => natSaid.of 2 w' (by omega)
  generalize rnum (qval neg (val la) (val lb)) k = r at *
  clear ha hb hu hv
  go_enter Tryz.func39, Tryz.ntmps39
  unfold frV
  go_wp2
  generalize (w.alloc (.cells #[.bool neg, .slice a n cap, .slice b m cap'] 30)) = W at *
  replace HB := Lib.hid (below_then HB.out ((Below.refl _ _).drew : Below W.heap.size W W.drew))
  replace HX : Hid (W.drew.heap[w.heap.size]? = _) := Lib.hid HX.out
  replace HA := Lib.hid (HA.out.later ((Below.refl _ _).drew : Below W.heap.size W W.drew))
  replace HC := Lib.hid (HC.out.later ((Below.refl _ _).drew : Below W.heap.size W W.drew))
  have pSn := fcells_3 HX.out
  go_region_held3 (fun w' => w'.cell? ⟨w.heap.size, 0, none⟩ = some (.bool neg) ∧ w'.cell? ⟨w.heap.size, 1, none⟩ = some (.slice a n cap) ∧ w'.cell? ⟨w.heap.size, 2, none⟩ = some (.slice b m cap')) (first | exact pSn | exact pSa2 _ | exact pSa3 _)
    (first
    | (go_at_call 50; (first
      | (refine (figure_power k _ (by omega)).mono ?_; rintro e wp1 ⟨a1, n1, c1, rfl, h1, b⟩; replace HB := Lib.hid (below_then HB.out b); replace HX := Lib.hid (blk_later HX.out b); replace HA := Lib.hid (HA.out.later b); replace HC := Lib.hid (HC.out.later b); have R1 := Lib.hid h1; have ln1 := h1.len; clear h1; clear b; clear pSn; have pSn := fcells_3 HX.out; have pM1 := True.intro)))
    | (go_at_call 34; (first
      | (have pm1 := pM1; refine (HT _).mono ?_; rintro e wp2 ⟨a2, n2, c2, rfl, h2, b⟩; replace HB := Lib.hid (below_then HB.out b); replace HX := Lib.hid (blk_later HX.out b); replace HA := Lib.hid (HA.out.later b); replace HC := Lib.hid (HC.out.later b); replace R1 := Lib.hid (R1.out.later b); have R2 := Lib.hid h2; have ln2 := h2.len; clear h2; have pSa2 := fun o => fcells_3 (blk_later HX.out (below_alloc wp2 o)); clear b; clear pSn; have pSn := fcells_3 HX.out; clear pM1 pm1; have pM2 := True.intro)))
    | (go_at_call 82; (first
      | (have pm2 := pM2; refine (fig_all3 a n cap la a1 n1 c1 _ a2 n2 c2 _ _ _ rfl HA.out R1.out R2.out (by omega) (by omega) (by omega)).mono ?_; rintro e wp3 ⟨a3, n3, c3, rfl, h3, b⟩; replace HB := Lib.hid (below_then HB.out b); replace HX := Lib.hid (blk_later HX.out b); replace HA := Lib.hid (HA.out.later b); replace HC := Lib.hid (HC.out.later b); replace R1 := Lib.hid (R1.out.later b); replace R2 := Lib.hid (R2.out.later b); rw [HE1.out] at h3; have R3 := Lib.hid h3; have ln3 := h3.len; clear h3; have pSa3 := fun o => fcells_3 (blk_later HX.out (below_alloc wp3 o)); clear b; clear pSn; have pSn := fcells_3 HX.out; clear pM2 pm2; have pM3 := True.intro)))
    | (go_at_call 52; (first
      | (have pm3 := pM3; refine (fig_add2 a3 n3 c3 _ b m cap' lb _ _ rfl R3.out HC.out (by omega) (by omega)).mono ?_; rintro e wp4 ⟨a4, n4, c4, rfl, h4, b⟩; replace HB := Lib.hid (below_then HB.out b); replace HX := Lib.hid (blk_later HX.out b); replace HA := Lib.hid (HA.out.later b); replace HC := Lib.hid (HC.out.later b); replace R1 := Lib.hid (R1.out.later b); replace R2 := Lib.hid (R2.out.later b); replace R3 := Lib.hid (R3.out.later b); rw [HE2.out] at h4; have R4 := Lib.hid h4; have ln4 := h4.len; clear h4; clear b; clear pSn; have pSn := fcells_3 HX.out; clear pM3 pm3; have pM4 := True.intro))))
  obtain ⟨vk0, vk1, vk2⟩ := fcells_3 HX.out
  go_wp2_with fail
  refine (prod_word b m cap' lb 2 0 _ HC.out (by omega) (by omega) (by omega)).mono ?_
  rintro e wv1 ⟨a5, n5, c5, rfl, h5, b⟩
  clear vk0 vk1 vk2
  replace HB := Lib.hid (below_then HB.out b)
  replace HX := Lib.hid (blk_later HX.out b)
  clear HC
  replace R4 := Lib.hid (R4.out.later b)
  clear b
  rw [HE3.out] at h5
  have ln5 := h5.len
  have R5 := Lib.hid h5
  clear h5
  obtain ⟨vk0, vk1, vk2⟩ := fcells_3 HX.out
  go_wp2_with fail
  refine (frac_floor false a4 n4 c4 _ a5 n5 c5 _ _ R4.out R5.out (by omega) (by omega)).mono ?_
  rintro e wv2 ⟨a6, n6, c6, rfl, h6, b⟩
  clear vk0 vk1 vk2
  replace HB := Lib.hid (below_then HB.out b)
  replace HX := Lib.hid (blk_later HX.out b)
  clear R4
  clear R5
  clear b
  generalize (qval false (val (dg (val la * (10 ^ k * 2) + val lb))) (val (dg (val lb * 2)))).floor = z at *
  rw [HE4.out] at h6
  have R6 := Lib.hid h6
  clear h6
  unfold whV
  have hfd : ∀ w', (Instr.field 28 (.agg #[.bool (zneg z), .slice a6 n6 c6]) 1).run Tryz.prog w' = .ok (.slice a6 n6 c6) w' := fun _ => by kernel_rfl
  go_wp2
  go_ret
  exact ⟨a6, n6, c6, rfl, R6.out, HB.out⟩
set_option maxRecDepth 4096 in
set_option maxHeartbeats 4000000 in
theorem figure_round (neg : Bool) (a : Option Addr) (n cap : Nat) (la : List Nat) (b : Option Addr) (m cap' : Nat) (lb : List Nat) (w : World) (ha : Wd w a n cap la) (hb : Wd w b m cap' lb) (p : Int) (hn : n ≤ 900) (hm : m ≤ 900) (hT : Hid (Dec10 w)) :
    Calls Tryz.prog 13 #[frV neg a n cap b m cap', .int .i64 p] w (Gives (.string (bs (rtxt (qval neg (val la) (val lb)) (clampP p)))) w) := by
  have HB := Lib.hid (below_alloc w (.cells #[.bool neg, .slice a n cap, .slice b m cap'] 30))
  have HA := Lib.hid (ha.later HB.out)
  have HC := Lib.hid (hb.later HB.out)
  have HX := Lib.hid (blk_new w #[.bool neg, .slice a n cap, .slice b m cap'] 30)
  obtain ⟨M, hM⟩ : ∃ M : Nat, (max p 0 : Int) = (M : Int) := ⟨p.toNat, by omega⟩
  obtain ⟨k, hk⟩ : ∃ k : Nat, (min (M : Int) 60 : Int) = (k : Int) := ⟨min M 60, by omega⟩
  have HK : Hid (clampP p = k) := Lib.hid (by unfold clampP; omega)
  have hk60 : k ≤ 60 := by omega
  have hu := val_lt ha.ok
  have hv := val_lt hb.ok
  rw [ha.len] at hu
  rw [hb.len] at hv
  have lR : (dg (rnum (qval neg (val la) (val lb)) k)).length ≤ 900 + 9 := by
    refine Nat.le_trans (dg_length_mono ?_) (fig_room_len (k := k) hu hv hn hm hk60)
    rw [← near_raw neg]
    by_cases h0 : val lb = 0
    · rw [h0, Nat.zero_mul, qval_none false (.inl rfl)]; exact Nat.zero_le _
    · rw [fc_qfloor false _ (show val lb * 2 ≠ 0 by omega), zval_false, Int.fdiv_eq_ediv_of_nonneg _ (Int.natCast_nonneg _), ← Int.natCast_ediv, Int.natAbs_natCast]
      exact Nat.div_le_self _ _
  have HF0 : Hid (neg = false → rtxt (qval neg (val la) (val lb)) k = pointed k (pad0 k (txt (rnum (qval neg (val la) (val lb)) k)))) := Lib.hid (fun h => by
    unfold rtxt
    rw [h, if_neg (fun h2 => fig_nosign _ _ h2.1)]; rfl)
  have HF1 : Hid (rnum (qval neg (val la) (val lb)) k = 0 → rtxt (qval neg (val la) (val lb)) k = pointed k (pad0 k (txt (rnum (qval neg (val la) (val lb)) k)))) := Lib.hid (fun h => by
    unfold rtxt
    rw [if_neg (fun h2 => h2.2 h)]; rfl)
  have HF2 : Hid (neg = true → rnum (qval neg (val la) (val lb)) k ≠ 0 → rtxt (qval neg (val la) (val lb)) k = 45 :: pointed k (pad0 k (txt (rnum (qval neg (val la) (val lb)) k)))) := Lib.hid (fun h h2 => by
    unfold rtxt
    subst h
    rw [if_pos ⟨fig_sign h2, h2⟩]; rfl)
  have HN : ∀ w' : World, Wd w' a n cap la → Wd w' b m cap' lb → Calls Tryz.prog 39 #[frV neg a n cap b m cap', .int .i64 (k : Int)] w' (Lst (dg (rnum (qval neg (val la) (val lb)) k)) w') := fun w' h1 h2 => figure_nearest neg a n cap la b m cap' lb w' h1 h2 k hk60 hn hm
  rw [HK.out]
  generalize rtxt (qval neg (val la) (val lb)) k = t at *
  generalize rnum (qval neg (val la) (val lb)) k = r at *
  have HV : Hid (val (dg r) = r) := Lib.hid (val_dg r)
  have ht2 : (txt r).length ≤ 100000 := by
    have h1 := val_lt (okw_dg r)
    rw [val_dg, pow32] at h1
    have h2 := txt_length_le h1
    omega
  have ht1 : 1 ≤ (txt r).length := List.length_pos_iff.2 (txt_ne r)
  have hpl : (pointed k (pad0 k (txt r))).length ≤ 200000 := by
    have h1 := pad0_length k (txt r)
    unfold pointed
    split
    · omega
    · rw [List.length_append, List.length_cons, List.length_take, List.length_drop]; omega
  have hz1 := bs_size [45]
  have hz2 := bs_size (pointed k (pad0 k (txt r)))
  simp only [List.length_cons, List.length_nil] at hz1
  clear ha hb hu hv HK
  go_enter Tryz.func13, Tryz.ntmps13
  unfold frV at HN ⊢
  obtain ⟨vk0, vk1, vk2⟩ := fcells_3 HX.out
  go_wp2_with fail
  refine (HN _ HA.out HC.out).mono ?_
  rintro e wv1 ⟨a1, n1, c1, rfl, h1, b⟩
  clear vk0 vk1 vk2
  replace HB := Lib.hid (below_then HB.out b)
  replace HX := Lib.hid (blk_later HX.out b)
  clear HA
  clear HC
  clear b
  have ln1 := h1.len
  have R1 := Lib.hid h1
  clear h1
  obtain ⟨vk0, vk1, vk2⟩ := fcells_3 HX.out
  go_wp2_with fail
  refine (digits_text a1 n1 c1 _ _ R1.out (by omega) (Lib.hid (hT.out.later HB.out))).mono ?_
  rintro e wv2 ⟨rfl, b⟩
  clear vk0 vk1 vk2
  replace HB := Lib.hid (below_then HB.out b)
  replace HX := Lib.hid (blk_later HX.out b)
  replace R1 := Lib.hid (R1.out.later b)
  clear b
  rw [HV.out]
  obtain ⟨vk0, vk1, vk2⟩ := fcells_3 HX.out
  go_wp2_with fail
  refine (figure_pointed (txt r) k _ hk60 ht1 (by omega)).mono ?_
  rintro e wv3 ⟨rfl, b⟩
  clear vk0 vk1 vk2
  replace HB := Lib.hid (below_then HB.out b)
  replace HX := Lib.hid (blk_later HX.out b)
  replace R1 := Lib.hid (R1.out.later b)
  clear b
  generalize hPP : pointed k (pad0 k (txt r)) = PP at *
  clear hPP
  obtain ⟨vk0, vk1, vk2⟩ := fcells_3 HX.out
  cases neg with
  | false =>
    have HF := Lib.hid (HF0.out rfl)
    go_wp2
    go_ret
    exact ⟨by rw [HF.out]; rfl, HB.out⟩
  | true =>
    go_wp2_with fail
    refine (natSaid.zero a1 n1 c1 _ _ R1.out (by omega)).mono ?_
    rintro e w9 ⟨rfl, b9⟩
    rw [HV.out]
    by_cases h0 : r = 0
    · have HF := Lib.hid (HF1.out h0)
      rw [decide_eq_true h0]
      clear h0
      go_wp2
      go_ret
      exact ⟨by rw [HF.out]; rfl, below_then HB.out b9⟩
    · have HF : Hid (bs [45] ++ bs PP = bs t) := Lib.hid (by rw [bs_append, HF2.out (by first | rfl | trivial) h0]; rfl)
      rw [decide_eq_false h0]
      clear h0
      go_wp2
      go_ret
      exact ⟨by rw [← HF.out]; rfl, below_then HB.out b9⟩
end Go.Proofs.YteoeicfbaffjcaaGreatDoor

/-
  What some boxes hold, cell by cell: those of faults, too. Of no program.
-/
namespace Go.Proofs.YteoeicfbaffjcaaGreatDoor
open Go.RowKit

theorem fcells_4 {w : World} {A0 : Nat} {c0_0 c0_1 c0_2 c0_3 : Value} {t0 : TypeId} (h0 : w.heap[A0]? = some (.cells #[c0_0, c0_1, c0_2, c0_3] t0 (0, 0))) : w.cell? ⟨A0, 0, none⟩ = some c0_0 ∧ w.cell? ⟨A0, 1, none⟩ = some c0_1 ∧ w.cell? ⟨A0, 2, none⟩ = some c0_2 ∧ w.cell? ⟨A0, 3, none⟩ = some c0_3 := ⟨blk_cell h0 0, blk_cell h0 1, blk_cell h0 2, blk_cell h0 3⟩
theorem fcells_2_4 {w : World} {A0 A1 : Nat} {c0_0 c0_1 c1_0 c1_1 c1_2 c1_3 : Value} {t0 t1 : TypeId} (h0 : w.heap[A0]? = some (.cells #[c0_0, c0_1] t0 (0, 0))) (h1 : w.heap[A1]? = some (.cells #[c1_0, c1_1, c1_2, c1_3] t1 (0, 0))) : w.cell? ⟨A0, 0, none⟩ = some c0_0 ∧ w.cell? ⟨A0, 1, none⟩ = some c0_1 ∧ w.cell? ⟨A1, 0, none⟩ = some c1_0 ∧ w.cell? ⟨A1, 1, none⟩ = some c1_1 ∧ w.cell? ⟨A1, 2, none⟩ = some c1_2 ∧ w.cell? ⟨A1, 3, none⟩ = some c1_3 := ⟨blk_cell h0 0, blk_cell h0 1, blk_cell h1 0, blk_cell h1 1, blk_cell h1 2, blk_cell h1 3⟩
theorem fcells_3_4 {w : World} {A0 A1 : Nat} {c0_0 c0_1 c0_2 c1_0 c1_1 c1_2 c1_3 : Value} {t0 t1 : TypeId} (h0 : w.heap[A0]? = some (.cells #[c0_0, c0_1, c0_2] t0 (0, 0))) (h1 : w.heap[A1]? = some (.cells #[c1_0, c1_1, c1_2, c1_3] t1 (0, 0))) : w.cell? ⟨A0, 0, none⟩ = some c0_0 ∧ w.cell? ⟨A0, 1, none⟩ = some c0_1 ∧ w.cell? ⟨A0, 2, none⟩ = some c0_2 ∧ w.cell? ⟨A1, 0, none⟩ = some c1_0 ∧ w.cell? ⟨A1, 1, none⟩ = some c1_1 ∧ w.cell? ⟨A1, 2, none⟩ = some c1_2 ∧ w.cell? ⟨A1, 3, none⟩ = some c1_3 := ⟨blk_cell h0 0, blk_cell h0 1, blk_cell h0 2, blk_cell h1 0, blk_cell h1 1, blk_cell h1 2, blk_cell h1 3⟩
theorem fcells_3_4_2 {w : World} {A0 A1 A2 : Nat} {c0_0 c0_1 c0_2 c1_0 c1_1 c1_2 c1_3 c2_0 c2_1 : Value} {t0 t1 t2 : TypeId} (h0 : w.heap[A0]? = some (.cells #[c0_0, c0_1, c0_2] t0 (0, 0))) (h1 : w.heap[A1]? = some (.cells #[c1_0, c1_1, c1_2, c1_3] t1 (0, 0))) (h2 : w.heap[A2]? = some (.cells #[c2_0, c2_1] t2 (0, 0))) : w.cell? ⟨A0, 0, none⟩ = some c0_0 ∧ w.cell? ⟨A0, 1, none⟩ = some c0_1 ∧ w.cell? ⟨A0, 2, none⟩ = some c0_2 ∧ w.cell? ⟨A1, 0, none⟩ = some c1_0 ∧ w.cell? ⟨A1, 1, none⟩ = some c1_1 ∧ w.cell? ⟨A1, 2, none⟩ = some c1_2 ∧ w.cell? ⟨A1, 3, none⟩ = some c1_3 ∧ w.cell? ⟨A2, 0, none⟩ = some c2_0 ∧ w.cell? ⟨A2, 1, none⟩ = some c2_1 := ⟨blk_cell h0 0, blk_cell h0 1, blk_cell h0 2, blk_cell h1 0, blk_cell h1 1, blk_cell h1 2, blk_cell h1 3, blk_cell h2 0, blk_cell h2 1⟩
theorem fcells_3_4_2_4 {w : World} {A0 A1 A2 A3 : Nat} {c0_0 c0_1 c0_2 c1_0 c1_1 c1_2 c1_3 c2_0 c2_1 c3_0 c3_1 c3_2 c3_3 : Value} {t0 t1 t2 t3 : TypeId} (h0 : w.heap[A0]? = some (.cells #[c0_0, c0_1, c0_2] t0 (0, 0))) (h1 : w.heap[A1]? = some (.cells #[c1_0, c1_1, c1_2, c1_3] t1 (0, 0))) (h2 : w.heap[A2]? = some (.cells #[c2_0, c2_1] t2 (0, 0))) (h3 : w.heap[A3]? = some (.cells #[c3_0, c3_1, c3_2, c3_3] t3 (0, 0))) : w.cell? ⟨A0, 0, none⟩ = some c0_0 ∧ w.cell? ⟨A0, 1, none⟩ = some c0_1 ∧ w.cell? ⟨A0, 2, none⟩ = some c0_2 ∧ w.cell? ⟨A1, 0, none⟩ = some c1_0 ∧ w.cell? ⟨A1, 1, none⟩ = some c1_1 ∧ w.cell? ⟨A1, 2, none⟩ = some c1_2 ∧ w.cell? ⟨A1, 3, none⟩ = some c1_3 ∧ w.cell? ⟨A2, 0, none⟩ = some c2_0 ∧ w.cell? ⟨A2, 1, none⟩ = some c2_1 ∧ w.cell? ⟨A3, 0, none⟩ = some c3_0 ∧ w.cell? ⟨A3, 1, none⟩ = some c3_1 ∧ w.cell? ⟨A3, 2, none⟩ = some c3_2 ∧ w.cell? ⟨A3, 3, none⟩ = some c3_3 := ⟨blk_cell h0 0, blk_cell h0 1, blk_cell h0 2, blk_cell h1 0, blk_cell h1 1, blk_cell h1 2, blk_cell h1 3, blk_cell h2 0, blk_cell h2 1, blk_cell h3 0, blk_cell h3 1, blk_cell h3 2, blk_cell h3 3⟩
theorem fcells_3_4_2_4_2 {w : World} {A0 A1 A2 A3 A4 : Nat} {c0_0 c0_1 c0_2 c1_0 c1_1 c1_2 c1_3 c2_0 c2_1 c3_0 c3_1 c3_2 c3_3 c4_0 c4_1 : Value} {t0 t1 t2 t3 t4 : TypeId} (h0 : w.heap[A0]? = some (.cells #[c0_0, c0_1, c0_2] t0 (0, 0))) (h1 : w.heap[A1]? = some (.cells #[c1_0, c1_1, c1_2, c1_3] t1 (0, 0))) (h2 : w.heap[A2]? = some (.cells #[c2_0, c2_1] t2 (0, 0))) (h3 : w.heap[A3]? = some (.cells #[c3_0, c3_1, c3_2, c3_3] t3 (0, 0))) (h4 : w.heap[A4]? = some (.cells #[c4_0, c4_1] t4 (0, 0))) : w.cell? ⟨A0, 0, none⟩ = some c0_0 ∧ w.cell? ⟨A0, 1, none⟩ = some c0_1 ∧ w.cell? ⟨A0, 2, none⟩ = some c0_2 ∧ w.cell? ⟨A1, 0, none⟩ = some c1_0 ∧ w.cell? ⟨A1, 1, none⟩ = some c1_1 ∧ w.cell? ⟨A1, 2, none⟩ = some c1_2 ∧ w.cell? ⟨A1, 3, none⟩ = some c1_3 ∧ w.cell? ⟨A2, 0, none⟩ = some c2_0 ∧ w.cell? ⟨A2, 1, none⟩ = some c2_1 ∧ w.cell? ⟨A3, 0, none⟩ = some c3_0 ∧ w.cell? ⟨A3, 1, none⟩ = some c3_1 ∧ w.cell? ⟨A3, 2, none⟩ = some c3_2 ∧ w.cell? ⟨A3, 3, none⟩ = some c3_3 ∧ w.cell? ⟨A4, 0, none⟩ = some c4_0 ∧ w.cell? ⟨A4, 1, none⟩ = some c4_1 := ⟨blk_cell h0 0, blk_cell h0 1, blk_cell h0 2, blk_cell h1 0, blk_cell h1 1, blk_cell h1 2, blk_cell h1 3, blk_cell h2 0, blk_cell h2 1, blk_cell h3 0, blk_cell h3 1, blk_cell h3 2, blk_cell h3 3, blk_cell h4 0, blk_cell h4 1⟩
theorem fcells_2_4_2 {w : World} {A0 A1 A2 : Nat} {c0_0 c0_1 c1_0 c1_1 c1_2 c1_3 c2_0 c2_1 : Value} {t0 t1 t2 : TypeId} (h0 : w.heap[A0]? = some (.cells #[c0_0, c0_1] t0 (0, 0))) (h1 : w.heap[A1]? = some (.cells #[c1_0, c1_1, c1_2, c1_3] t1 (0, 0))) (h2 : w.heap[A2]? = some (.cells #[c2_0, c2_1] t2 (0, 0))) : w.cell? ⟨A0, 0, none⟩ = some c0_0 ∧ w.cell? ⟨A0, 1, none⟩ = some c0_1 ∧ w.cell? ⟨A1, 0, none⟩ = some c1_0 ∧ w.cell? ⟨A1, 1, none⟩ = some c1_1 ∧ w.cell? ⟨A1, 2, none⟩ = some c1_2 ∧ w.cell? ⟨A1, 3, none⟩ = some c1_3 ∧ w.cell? ⟨A2, 0, none⟩ = some c2_0 ∧ w.cell? ⟨A2, 1, none⟩ = some c2_1 := ⟨blk_cell h0 0, blk_cell h0 1, blk_cell h1 0, blk_cell h1 1, blk_cell h1 2, blk_cell h1 3, blk_cell h2 0, blk_cell h2 1⟩
theorem fcells_3_4_4 {w : World} {A0 A1 A2 : Nat} {c0_0 c0_1 c0_2 c1_0 c1_1 c1_2 c1_3 c2_0 c2_1 c2_2 c2_3 : Value} {t0 t1 t2 : TypeId} (h0 : w.heap[A0]? = some (.cells #[c0_0, c0_1, c0_2] t0 (0, 0))) (h1 : w.heap[A1]? = some (.cells #[c1_0, c1_1, c1_2, c1_3] t1 (0, 0))) (h2 : w.heap[A2]? = some (.cells #[c2_0, c2_1, c2_2, c2_3] t2 (0, 0))) : w.cell? ⟨A0, 0, none⟩ = some c0_0 ∧ w.cell? ⟨A0, 1, none⟩ = some c0_1 ∧ w.cell? ⟨A0, 2, none⟩ = some c0_2 ∧ w.cell? ⟨A1, 0, none⟩ = some c1_0 ∧ w.cell? ⟨A1, 1, none⟩ = some c1_1 ∧ w.cell? ⟨A1, 2, none⟩ = some c1_2 ∧ w.cell? ⟨A1, 3, none⟩ = some c1_3 ∧ w.cell? ⟨A2, 0, none⟩ = some c2_0 ∧ w.cell? ⟨A2, 1, none⟩ = some c2_1 ∧ w.cell? ⟨A2, 2, none⟩ = some c2_2 ∧ w.cell? ⟨A2, 3, none⟩ = some c2_3 := ⟨blk_cell h0 0, blk_cell h0 1, blk_cell h0 2, blk_cell h1 0, blk_cell h1 1, blk_cell h1 2, blk_cell h1 3, blk_cell h2 0, blk_cell h2 1, blk_cell h2 2, blk_cell h2 3⟩
theorem fcells_3_4_4_2 {w : World} {A0 A1 A2 A3 : Nat} {c0_0 c0_1 c0_2 c1_0 c1_1 c1_2 c1_3 c2_0 c2_1 c2_2 c2_3 c3_0 c3_1 : Value} {t0 t1 t2 t3 : TypeId} (h0 : w.heap[A0]? = some (.cells #[c0_0, c0_1, c0_2] t0 (0, 0))) (h1 : w.heap[A1]? = some (.cells #[c1_0, c1_1, c1_2, c1_3] t1 (0, 0))) (h2 : w.heap[A2]? = some (.cells #[c2_0, c2_1, c2_2, c2_3] t2 (0, 0))) (h3 : w.heap[A3]? = some (.cells #[c3_0, c3_1] t3 (0, 0))) : w.cell? ⟨A0, 0, none⟩ = some c0_0 ∧ w.cell? ⟨A0, 1, none⟩ = some c0_1 ∧ w.cell? ⟨A0, 2, none⟩ = some c0_2 ∧ w.cell? ⟨A1, 0, none⟩ = some c1_0 ∧ w.cell? ⟨A1, 1, none⟩ = some c1_1 ∧ w.cell? ⟨A1, 2, none⟩ = some c1_2 ∧ w.cell? ⟨A1, 3, none⟩ = some c1_3 ∧ w.cell? ⟨A2, 0, none⟩ = some c2_0 ∧ w.cell? ⟨A2, 1, none⟩ = some c2_1 ∧ w.cell? ⟨A2, 2, none⟩ = some c2_2 ∧ w.cell? ⟨A2, 3, none⟩ = some c2_3 ∧ w.cell? ⟨A3, 0, none⟩ = some c3_0 ∧ w.cell? ⟨A3, 1, none⟩ = some c3_1 := ⟨blk_cell h0 0, blk_cell h0 1, blk_cell h0 2, blk_cell h1 0, blk_cell h1 1, blk_cell h1 2, blk_cell h1 3, blk_cell h2 0, blk_cell h2 1, blk_cell h2 2, blk_cell h2 3, blk_cell h3 0, blk_cell h3 1⟩
theorem fcells_3_4_2_3 {w : World} {A0 A1 A2 A3 : Nat} {c0_0 c0_1 c0_2 c1_0 c1_1 c1_2 c1_3 c2_0 c2_1 c3_0 c3_1 c3_2 : Value} {t0 t1 t2 t3 : TypeId} (h0 : w.heap[A0]? = some (.cells #[c0_0, c0_1, c0_2] t0 (0, 0))) (h1 : w.heap[A1]? = some (.cells #[c1_0, c1_1, c1_2, c1_3] t1 (0, 0))) (h2 : w.heap[A2]? = some (.cells #[c2_0, c2_1] t2 (0, 0))) (h3 : w.heap[A3]? = some (.cells #[c3_0, c3_1, c3_2] t3 (0, 0))) : w.cell? ⟨A0, 0, none⟩ = some c0_0 ∧ w.cell? ⟨A0, 1, none⟩ = some c0_1 ∧ w.cell? ⟨A0, 2, none⟩ = some c0_2 ∧ w.cell? ⟨A1, 0, none⟩ = some c1_0 ∧ w.cell? ⟨A1, 1, none⟩ = some c1_1 ∧ w.cell? ⟨A1, 2, none⟩ = some c1_2 ∧ w.cell? ⟨A1, 3, none⟩ = some c1_3 ∧ w.cell? ⟨A2, 0, none⟩ = some c2_0 ∧ w.cell? ⟨A2, 1, none⟩ = some c2_1 ∧ w.cell? ⟨A3, 0, none⟩ = some c3_0 ∧ w.cell? ⟨A3, 1, none⟩ = some c3_1 ∧ w.cell? ⟨A3, 2, none⟩ = some c3_2 := ⟨blk_cell h0 0, blk_cell h0 1, blk_cell h0 2, blk_cell h1 0, blk_cell h1 1, blk_cell h1 2, blk_cell h1 3, blk_cell h2 0, blk_cell h2 1, blk_cell h3 0, blk_cell h3 1, blk_cell h3 2⟩
theorem fcells_3_4_3 {w : World} {A0 A1 A2 : Nat} {c0_0 c0_1 c0_2 c1_0 c1_1 c1_2 c1_3 c2_0 c2_1 c2_2 : Value} {t0 t1 t2 : TypeId} (h0 : w.heap[A0]? = some (.cells #[c0_0, c0_1, c0_2] t0 (0, 0))) (h1 : w.heap[A1]? = some (.cells #[c1_0, c1_1, c1_2, c1_3] t1 (0, 0))) (h2 : w.heap[A2]? = some (.cells #[c2_0, c2_1, c2_2] t2 (0, 0))) : w.cell? ⟨A0, 0, none⟩ = some c0_0 ∧ w.cell? ⟨A0, 1, none⟩ = some c0_1 ∧ w.cell? ⟨A0, 2, none⟩ = some c0_2 ∧ w.cell? ⟨A1, 0, none⟩ = some c1_0 ∧ w.cell? ⟨A1, 1, none⟩ = some c1_1 ∧ w.cell? ⟨A1, 2, none⟩ = some c1_2 ∧ w.cell? ⟨A1, 3, none⟩ = some c1_3 ∧ w.cell? ⟨A2, 0, none⟩ = some c2_0 ∧ w.cell? ⟨A2, 1, none⟩ = some c2_1 ∧ w.cell? ⟨A2, 2, none⟩ = some c2_2 := ⟨blk_cell h0 0, blk_cell h0 1, blk_cell h0 2, blk_cell h1 0, blk_cell h1 1, blk_cell h1 2, blk_cell h1 3, blk_cell h2 0, blk_cell h2 1, blk_cell h2 2⟩
theorem fcells_3_4_2_2 {w : World} {A0 A1 A2 A3 : Nat} {c0_0 c0_1 c0_2 c1_0 c1_1 c1_2 c1_3 c2_0 c2_1 c3_0 c3_1 : Value} {t0 t1 t2 t3 : TypeId} (h0 : w.heap[A0]? = some (.cells #[c0_0, c0_1, c0_2] t0 (0, 0))) (h1 : w.heap[A1]? = some (.cells #[c1_0, c1_1, c1_2, c1_3] t1 (0, 0))) (h2 : w.heap[A2]? = some (.cells #[c2_0, c2_1] t2 (0, 0))) (h3 : w.heap[A3]? = some (.cells #[c3_0, c3_1] t3 (0, 0))) : w.cell? ⟨A0, 0, none⟩ = some c0_0 ∧ w.cell? ⟨A0, 1, none⟩ = some c0_1 ∧ w.cell? ⟨A0, 2, none⟩ = some c0_2 ∧ w.cell? ⟨A1, 0, none⟩ = some c1_0 ∧ w.cell? ⟨A1, 1, none⟩ = some c1_1 ∧ w.cell? ⟨A1, 2, none⟩ = some c1_2 ∧ w.cell? ⟨A1, 3, none⟩ = some c1_3 ∧ w.cell? ⟨A2, 0, none⟩ = some c2_0 ∧ w.cell? ⟨A2, 1, none⟩ = some c2_1 ∧ w.cell? ⟨A3, 0, none⟩ = some c3_0 ∧ w.cell? ⟨A3, 1, none⟩ = some c3_1 := ⟨blk_cell h0 0, blk_cell h0 1, blk_cell h0 2, blk_cell h1 0, blk_cell h1 1, blk_cell h1 2, blk_cell h1 3, blk_cell h2 0, blk_cell h2 1, blk_cell h3 0, blk_cell h3 1⟩
theorem blk_lt {w : World} {g : Nat} {o : Obj} (h : w.heap[g]? = some o) : g < w.heap.size := (Array.getElem?_eq_some_iff.1 h).1
end Go.Proofs.YteoeicfbaffjcaaGreatDoor
