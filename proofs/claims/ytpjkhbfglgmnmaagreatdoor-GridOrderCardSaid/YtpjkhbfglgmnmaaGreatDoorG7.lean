/-
  Several texts of this claim as one, group 7.
-/
import Derived.Test.YtpjkhbfglgmnmaaGreatDoorG4
import Derived.Test.YtpjkhbfglgmnmaaGreatDoorG3
import Derived.Test.YtpjkhbfglgmnmaaGreatDoorG5
import Derived.Test.YtpjkhbfglgmnmaaGreatDoorG1
import Derived.BigRegion
import Derived.StillTailTactics
import Derived.Test.YtpjkhbfglgmnmaaGreatDoorG6
import Derived.Deep.RegionHeld3
import Derived.Shelf.Strconv.AppendInt10
import Derived.Lib.AppendIntMem
import Derived.Lib.AppendStr
import Derived.Laws.IdiomStrings
import Derived.Laws.Slices
import Derived.OwnWalk
import Derived.BigCall
import Derived.BigGuard
import Derived.Test.YtpjkhbfglgmnmaaGreatDoorG2
/-
  The contracts of the document's answer for layer 5: Double, Less.
-/
namespace Go.Proofs.YtpjkhbfglgmnmaaGreatDoor
open Go.RowKit

/-- P doubled, with c0 more, k words of it done: c is carried; what stands from place k on is P's. -/
def DoubleAt (P R : List Nat) (k c c0 : Nat) : Prop := val R + 4294967296 ^ k * c = val P + low P k + c0 ∧ ∀ j, k ≤ j → atw R j = atw P j
theorem double_start (P : List Nat) (c0 : Nat) : DoubleAt P P 0 c0 c0 := ⟨by rw [low_zero]; simp, fun _ _ => rfl⟩
theorem double_step {P R : List Nat} {k c c0 r z : Nat} (h : DoubleAt P R k c c0) (hk : k < R.length) (hs : r + 4294967296 * z = 2 * atw P k + c) : DoubleAt P (R.set k r) (k + 1) z c0 := by
  refine ⟨?_, fun j hj => by rw [atw_set_ne (by omega)]; exact h.2 j (by omega)⟩
  have h1 := val_set R k r hk
  rw [h.2 k (Nat.le_refl _)] at h1
  have h2 := give_word (c := c) (u := atw P k) (d := atw P k) (z := z) h1 (by omega)
  have h3 := h.1
  rw [low_succ]
  generalize val (R.set k r) = a1 at *
  generalize 4294967296 ^ (k + 1) * z = a2 at *
  generalize 4294967296 ^ k * c = a3 at *
  generalize 4294967296 ^ k * atw P k = a4 at *
  omega
theorem double_end {P R : List Nat} {k c c0 : Nat} (h : DoubleAt P R k c c0) (hk : P.length = k) : val R + 4294967296 ^ k * c = 2 * val P + c0 := by
  have h1 := h.1
  rw [low_ge (by omega)] at h1
  omega
/-- P less D, k words of it done: s is owed. -/
def LessAt (P D R : List Nat) (k s : Nat) : Prop := val R + low D k = val P + 4294967296 ^ k * s ∧ ∀ j, k ≤ j → atw R j = atw P j
theorem less_start (P D : List Nat) : LessAt P D P 0 0 := ⟨by rw [low_zero], fun _ _ => rfl⟩
theorem less_step {P D R : List Nat} {k s r z : Nat} (h : LessAt P D R k s) (hk : k < R.length) (hs : atw P k + 4294967296 * z = atw D k + s + r) : LessAt P D (R.set k r) (k + 1) z := by
  refine ⟨?_, fun j hj => by rw [atw_set_ne (by omega)]; exact h.2 j (by omega)⟩
  have h1 := val_set R k r hk
  rw [h.2 k (Nat.le_refl _)] at h1
  have h2 := take_word h1 hs rfl
  have h3 := h.1
  rw [Nat.mul_add] at h2
  rw [low_succ]
  generalize val (R.set k r) = a1 at *
  generalize 4294967296 ^ (k + 1) * z = a2 at *
  generalize 4294967296 ^ k * atw D k = a3 at *
  generalize 4294967296 ^ k * s = a4 at *
  omega
theorem less_end {P D R : List Nat} {k s : Nat} (h : LessAt P D R k s) (hR : okw R) (hk : R.length = k) (hD : D.length ≤ k) (hle : val D ≤ val P) : val R = val P - val D := by
  have h1 := h.1
  have h2 := val_lt hR
  rw [hk] at h2
  rw [low_ge hD] at h1
  rcases Nat.eq_zero_or_pos s with h0 | h0
  · subst h0; omega
  · have h3 : 4294967296 ^ k * 1 ≤ 4294967296 ^ k * s := Nat.mul_le_mul_left _ h0
    generalize 4294967296 ^ k * s = a4 at *
    generalize 4294967296 ^ k = a5 at *
    omega

def DoublePost (base g N cap c0 : Nat) (P : List Nat) (w : World) (e : Ending) (w' : World) : Prop :=
  ∃ (P' : List Nat) (z : Nat), e = .returned (.tuple #[]) ∧ Hid (Own w' base g N cap P') ∧ w.grownBy w' (some g) ∧ Hid (val P' + 4294967296 ^ N * z = 2 * val P + c0)
set_option maxRecDepth 4096 in
set_option maxHeartbeats 2000000 in
theorem ref05_double (base g N cap c0 : Nat) (more : Bool) (P : List Nat) (w : World) (hO : Own w base g N cap P) (hN : N ≤ 2000000) (hm : c0 = if more = true then 1 else 0) :
    Calls Tryz.prog 120 #[.slice (some ⟨g, 0, none⟩) N cap, .bool more] w (DoublePost base g N cap c0 P w) := by
  have HO0 := Lib.hid hO
  have HPl := Lib.hid hO.len
  have HPo := Lib.hid hO.2
  have hc0 : c0 ≤ 1 := by rw [hm]; split <;> omega
  have HM := Lib.hid hm
  clear hO hm
  go_enter Tryz.func120, Tryz.ntmps120
  cases more
  all_goals (
    go_wp2
    go_loopw [4, 5] (fun cv kv wr => ∃ (k c : Nat) (R : List Nat), k ≤ N ∧ kv = .int .i64 (k : Int) ∧ cv = .int .u32 (c : Int) ∧ c ≤ 1 ∧ Hid (DoubleAt P R k c c0) ∧ Hid (Own wr base g N cap R) ∧ w.grownBy wr (some g)) (fun _ kv _ => N - (intOf kv).toNat)
    case atStart => exact ⟨0, c0, P, by omega, rfl, by rw [HM.out]; rfl, hc0, Lib.hid (double_start _ _), HO0, grown_refl _ _⟩
    case round =>
      obtain ⟨k, c, R, hk, rfl, rfl, hc, HD, HO, hG⟩ := hrel
      by_cases hlt : k < N
      · have hcell := HO.out.cell (k := k) hlt
        rw [HD.out.2 k (Nat.le_refl _)] at hcell
        have hfro := HO.out.1.frozenAt k
        have huw := atw_lt HPo.out k
        obtain ⟨u, huu⟩ : ∃ u, u = atw P k := ⟨_, rfl⟩
        rw [← huu] at huw hcell
        have Hu := Lib.hid huu
        have hki : (k : Int) < (N : Int) := by omega
        obtain ⟨z, hz⟩ : ∃ z : Nat, (u : Int) / 2147483648 = (z : Int) := ⟨u / 2147483648, by omega⟩
        obtain ⟨v, hv⟩ : ∃ v : Nat, (u : Int) * 2 % 4294967296 = (v : Int) := ⟨u * 2 % 4294967296, by omega⟩
        obtain ⟨r, hr⟩ : ∃ r : Nat, (v : Int) + (c : Int) = (r : Int) := ⟨v + c, by omega⟩
        have Hs : Hid (r + 4294967296 * z = 2 * u + c) := Lib.hid (by omega)
        have hz1 : z ≤ 1 := by omega
        have hrw : r < 4294967296 := by omega
        have HOs := Lib.hid (HO.out.set k r hrw)
        have hGs := Lib.hid (grown_then hG (grown_cell _ g k (.int .u32 (r : Int))))
        clear huu
        go_wp2
        go_roundw
        case rel => exact ⟨k + 1, z, R.set k r, by omega, by go_num, rfl, hz1, Lib.hid (double_step HD.out (by rw [HO.out.len]; omega) (by rw [← Hu.out]; exact Hs.out)), HOs, hGs.out⟩
        case measure => simp [intOf]; omega
      · obtain rfl : k = N := by omega
        have Hfin := Lib.hid (double_end HD.out HPl.out)
        go_wp2
        go_end0
        exact ⟨R, c, rfl, HO, hG, Hfin⟩)
def LessPost (base g N cap : Nat) (P D : List Nat) (w : World) (e : Ending) (w' : World) : Prop :=
  ∃ (P' : List Nat), e = .returned (.tuple #[]) ∧ Hid (Own w' base g N cap P') ∧ w.grownBy w' (some g) ∧ Hid (val P' = val P - val D)
set_option maxRecDepth 4096 in
set_option maxHeartbeats 2000000 in
theorem ref05_less (w0 w : World) (g N cap : Nat) (P : List Nat) (d : Option Addr) (m dcap : Nat) (D : List Nat) (hO : Own w w0.heap.size g N cap P) (hB : Below w0.heap.size w0 w) (hd : Wd w0 d m dcap D) (hN : N ≤ 2000000) (hm : m ≤ N) (hle : Hid (val D ≤ val P)) :
    Calls Tryz.prog 97 #[.slice (some ⟨g, 0, none⟩) N cap, .slice d m dcap] w (LessPost w0.heap.size g N cap P D w) := by
  have HO0 := Lib.hid hO
  have HPl := Lib.hid hO.len
  have HPo := Lib.hid hO.2
  have HD := Lib.hid hd
  clear hO hd
  go_enter Tryz.func97, Tryz.ntmps97
  go_wp2
  go_loopw [4, 5] (fun sv kv wr => ∃ (k s : Nat) (R : List Nat), k ≤ N ∧ kv = .int .i64 (k : Int) ∧ sv = .int .u64 (s : Int) ∧ s ≤ 1 ∧ Hid (LessAt P D R k s) ∧ Hid (Own wr w0.heap.size g N cap R) ∧ w.grownBy wr (some g)) (fun _ kv _ => N - (intOf kv).toNat)
  case atStart => exact ⟨0, 0, P, by omega, rfl, rfl, by omega, Lib.hid (less_start _ _), HO0, grown_refl _ _⟩
  case round =>
    obtain ⟨k, s, R, hk, rfl, rfl, hs, HL, HO, hG⟩ := hrel
    have hbase := HO.out.base
    by_cases hlt : k < N
    · have hcell := HO.out.cell (k := k) hlt
      rw [HL.out.2 k (Nat.le_refl _)] at hcell
      have hfro := HO.out.1.frozenAt k
      have huw := atw_lt HPo.out k
      obtain ⟨u, huu⟩ : ∃ u, u = atw P k := ⟨_, rfl⟩
      rw [← huu] at huw hcell
      have Hu := Lib.hid huu
      have hki : (k : Int) < (N : Int) := by omega
      clear huu
      go_wp2_with fail
      refine (ref02_at _ _ _ k _ _ (HD.out.later (grown_below hB hG hbase.1)) (by omega)).mono ?_
      rintro e w' ⟨rfl, rfl⟩
      have hdw := atw_lt HD.out.ok k
      obtain ⟨b, hbb⟩ : ∃ b, b = atw D k := ⟨_, rfl⟩
      rw [← hbb] at hdw ⊢
      have Hb := Lib.hid hbb
      clear hbb
      obtain ⟨y, hy⟩ : ∃ y : Nat, (b : Int) + (s : Int) = (y : Int) := ⟨b + s, by omega⟩
      have Hy : Hid (y = b + s) := Lib.hid (by omega)
      have hyb : y ≤ 4294967296 := by omega
      by_cases hxy : u < y
      · obtain ⟨x, hx⟩ : ∃ x : Nat, (u : Int) + 4294967296 = (x : Int) := ⟨u + 4294967296, by omega⟩
        obtain ⟨r, hr⟩ : ∃ r : Nat, (x : Int) - (y : Int) = (r : Int) := ⟨x - y, by omega⟩
        have hrw : r < 4294967296 := by omega
        have HS : Hid (u + 4294967296 * 1 = b + s + r) := Lib.hid (by have := Hy.out; omega)
        have HOs := Lib.hid (HO.out.set k r hrw)
        have hGs := Lib.hid (grown_then hG (grown_cell _ g k (.int .u32 (r : Int))))
        go_wp2
        go_roundw
        case rel => exact ⟨k + 1, 1, R.set k r, by omega, by go_num, rfl, by omega, Lib.hid (less_step HL.out (by rw [HO.out.len]; omega) (by rw [← Hu.out, ← Hb.out]; exact HS.out)), HOs, hGs.out⟩
        case measure => simp [intOf]; omega
      · obtain ⟨r, hr⟩ : ∃ r : Nat, (u : Int) - (y : Int) = (r : Int) := ⟨u - y, by omega⟩
        have hrw : r < 4294967296 := by omega
        have HS : Hid (u + 4294967296 * 0 = b + s + r) := Lib.hid (by have := Hy.out; omega)
        have HOs := Lib.hid (HO.out.set k r hrw)
        have hGs := Lib.hid (grown_then hG (grown_cell _ g k (.int .u32 (r : Int))))
        go_wp2
        go_roundw
        case rel => exact ⟨k + 1, 0, R.set k r, by omega, by go_num, rfl, by omega, Lib.hid (less_step HL.out (by rw [HO.out.len]; omega) (by rw [← Hu.out, ← Hb.out]; exact HS.out)), HOs, hGs.out⟩
        case measure => simp [intOf]; omega
    · obtain rfl : k = N := by omega
      have Hfin : Hid (val R = val P - val D) := Lib.hid (less_end HL.out HO.out.2 HO.out.len (by rw [HD.out.len]; exact hm) hle.out)
      go_wp2
      go_end0
      exact ⟨R, rfl, HO, hG, Hfin⟩
end Go.Proofs.YtpjkhbfglgmnmaaGreatDoor

/-
  The contracts of the document's answer for layer 3.
-/
namespace Go.Proofs.YtpjkhbfglgmnmaaGreatDoor
open Go.RowKit

theorem ref03_has_nat (a : Option Addr) (n cap : Nat) (l : List Nat) (i : Nat) (w : World) (h : Wd w a n cap l) (hi : i ≤ 9223372036854775807) :
    Calls Tryz.prog 132 #[.slice a n cap, .int .i64 (i : Int)] w fun e w' => e = .returned (.bool ((val l).testBit i)) ∧ w = w' := by
  obtain ⟨hb1, hb2⟩ := h.bound
  have H := Lib.hid h
  clear h
  by_cases hlt : i / 32 < n
  · obtain ⟨b, off, rfl, hc⟩ := H.out.at (by omega)
    have hck := hc (i / 32) hlt
    have hx := atw_lt H.out.ok (i / 32)
    clear hc
    have Hfin : Hid ((val l).testBit i = decide (atw l (i / 32) / 2 ^ (i % 32) % 2 = 1)) := Lib.hid (low_bit l H.out.ok i)
    obtain ⟨x, hxx⟩ : ∃ x, x = atw l (i / 32) := ⟨_, rfl⟩
    rw [← hxx] at hck hx Hfin
    clear hxx
    go_enter Tryz.func132, Tryz.ntmps132
    go_wp2
    go_loop [5, 6] (fun xv kv => ∃ k y : Nat, k ≤ i % 32 ∧ kv = .int .i64 (k : Int) ∧ xv = .int .u32 (y : Int) ∧ y < 4294967296 ∧ Hid (y = x / 2 ^ k)) (fun _ kv => 32 - (intOf kv).toNat)
    case atStart => exact ⟨0, x, by omega, rfl, rfl, hx, Lib.hid (by simp)⟩
    case round =>
      obtain ⟨k, y, hk, rfl, rfl, hy, Hy⟩ := hrel
      by_cases hkr : k < i % 32
      · have hki : (k : Int) < (i : Int) % 32 := by omega
        go_wp2
        go_round
        case rel => exact ⟨k + 1, y / 2, by omega, by go_num, by go_num, by omega, Lib.hid (by rw [Hy.out, Nat.pow_succ, Nat.div_div_eq_div_mul])⟩
        case measure => simp [intOf]; omega
      · have hki : (i : Int) % 32 ≤ (k : Int) := by omega
        have Hk : Hid (k = i % 32) := Lib.hid (by omega)
        clear hkr
        go_wp2
        go_ret
        exact ⟨ret_bool (by
          rw [Hfin.out, ← Hk.out, ← Hy.out, Bool.eq_iff_iff, beq_iff_eq, decide_eq_true_eq]; omega), rfl⟩
  · have Hv : Hid ((val l).testBit i = false) := Lib.hid (by rw [val_bit H.out.ok, atw_ge (by have := H.out.len; omega)]; simp)
    go_enter Tryz.func132, Tryz.ntmps132
    go_wp2
    go_ret
    exact ⟨ret_bool Hv.out.symm, rfl⟩
theorem ref03_len (a : Option Addr) (n cap : Nat) (l : List Nat) (w : World) (h : Wd w a n cap l) (hn : n ≤ 16777214) :
    Calls Tryz.prog 119 #[.slice a n cap] w fun e w' => e = .returned (.int .i64 ((blen (val l) : Nat) : Int)) ∧ w = w' := by
  obtain ⟨hb1, hb2⟩ := h.bound
  have H := Lib.hid h
  clear h
  go_enter Tryz.func119, Tryz.ntmps119
  go_wp2
  go_loop [3] (fun kv => ∃ k : Nat, k ≤ 32 * n ∧ kv = .int .i64 (k : Int) ∧ Hid (val l < 2 ^ k)) (fun kv => (intOf kv).toNat)
  case atStart => exact ⟨32 * n, by omega, by go_num, Lib.hid (by rw [← pow32, ← H.out.len]; exact val_lt H.out.ok)⟩
  case round =>
    obtain ⟨k, hk, rfl, Hv⟩ := hrel
    cases k with
    | zero =>
      have Hfin : Hid (blen (val l) = 0) := Lib.hid (by have := blen_le.2 Hv.out; omega)
      go_wp2
      go_ret
      exact ⟨ret_i64 (by rw [Hfin.out]; rfl), rfl⟩
    | succ p =>
      go_wp2_with fail
      refine (ref03_has_nat _ _ _ _ p _ H.out (by omega)).mono ?_
      rintro e w' ⟨rfl, rfl⟩
      cases hb : (val l).testBit p with
      | true =>
        have Hfin : Hid (blen (val l) = p + 1) := Lib.hid (blen_eq Hv.out (.inr (by rw [Nat.add_sub_cancel]; exact Nat.ge_two_pow_of_testBit hb)))
        clear hb
        go_wp2
        go_ret
        exact ⟨ret_i64 (by rw [Hfin.out]; omega), rfl⟩
      | false =>
        have Hlt : Hid (val l < 2 ^ p) := Lib.hid (lt_of_bit Hv.out hb)
        clear hb
        go_wp2
        go_round
        case rel => exact ⟨p, by omega, by go_num, Hlt⟩
        case measure => simp [intOf]
end Go.Proofs.YtpjkhbfglgmnmaaGreatDoor

/-
  The contracts of the document's answer for layer 5: Div.
-/
namespace Go.Proofs.YtpjkhbfglgmnmaaGreatDoor
open Go.RowKit

/-- A long division, bit by bit: what A is without its lowest k bits is what Q and R hold. -/
def BitsAt (A B : Nat) (Q R : List Nat) (k : Nat) : Prop := A / 2 ^ k = val Q * B + val R ∧ val R < B
theorem bits_start {A B n m : Nat} (hB : 0 < B) : BitsAt A B (List.replicate n 0) (List.replicate m 0) (blen A) := by
  refine ⟨?_, by rw [val_zeros]; exact hB⟩
  rw [val_zeros, val_zeros, Nat.div_eq_of_lt (lt_blen A)]
  simp
theorem bits_next (A k : Nat) : A / 2 ^ k = 2 * (A / 2 ^ (k + 1)) + (if A.testBit k = true then 1 else 0) := by
  have h1 : A / 2 ^ (k + 1) = A / 2 ^ k / 2 := by rw [Nat.pow_succ, Nat.div_div_eq_div_mul]
  have h2 : A.testBit k = decide (A / 2 ^ k % 2 = 1) := Nat.testBit_eq_decide_div_mod_eq
  rw [h1, h2]
  by_cases h : A / 2 ^ k % 2 = 1
  · rw [decide_eq_true h, if_pos rfl]; omega
  · rw [decide_eq_false h, if_neg (by simp)]; omega
/-- The rest doubled keeps its room. -/
theorem bits_rest {A B m : Nat} {Q R R2 : List Nat} {k z c0 : Nat} (h : BitsAt A B Q R (k + 1)) (hB : B < 4294967296 ^ m) (h2 : val R2 + 4294967296 ^ (m + 1) * z = 2 * val R + c0) (hc : c0 ≤ 1) : val R2 = 2 * val R + c0 := by
  have h3 := h.2
  rw [pow_succ32] at h2
  rcases Nat.eq_zero_or_pos z with h0 | h0
  · subst h0; omega
  · have h4 : 4294967296 * 4294967296 ^ m * 1 ≤ 4294967296 * 4294967296 ^ m * z := Nat.mul_le_mul_left _ h0
    generalize 4294967296 * 4294967296 ^ m * z = a1 at *
    generalize 4294967296 ^ m = a2 at *
    omega
/-- So does the quotient. -/
theorem bits_quot {A B n : Nat} {Q R Q2 : List Nat} {k z : Nat} (h : BitsAt A B Q R (k + 1)) (hA : A < 4294967296 ^ n) (h2 : val Q2 + 4294967296 ^ n * z = 2 * val Q + 0) : val Q2 = 2 * val Q := by
  have h3 := h.1
  have h4 := h.2
  have h5 : 2 * (A / 2 ^ (k + 1)) ≤ A := by
    have h6 := Nat.div_mul_le_self A (2 ^ (k + 1))
    rw [Nat.pow_succ] at *
    have h7 := Nat.two_pow_pos k
    have h8 : A / (2 ^ k * 2) * 2 ≤ A / (2 ^ k * 2) * (2 ^ k * 2) := Nat.mul_le_mul_left _ (by omega)
    omega
  have h9 : val Q * 1 ≤ val Q * B := Nat.mul_le_mul_left _ (by omega)
  rcases Nat.eq_zero_or_pos z with h0 | h0
  · subst h0; omega
  · have h10 : 4294967296 ^ n * 1 ≤ 4294967296 ^ n * z := Nat.mul_le_mul_left _ h0
    generalize 4294967296 ^ n * z = a1 at *
    generalize 4294967296 ^ n = a2 at *
    generalize val Q * B = a3 at *
    omega
theorem bits_no {A B : Nat} {Q R Q2 R2 : List Nat} {k c0 : Nat} (h : BitsAt A B Q R (k + 1)) (hc : c0 = if A.testBit k = true then 1 else 0) (hq : val Q2 = 2 * val Q) (hr : val R2 = 2 * val R + c0) (hlt : val R2 < B) : BitsAt A B Q2 R2 k := by
  refine ⟨?_, hlt⟩
  rw [bits_next, ← hc, h.1, hq, hr, Nat.mul_add, Nat.mul_assoc]
  omega
theorem bits_yes {A B : Nat} {Q R Q2 R2 R3 : List Nat} {k c0 : Nat} (h : BitsAt A B Q R (k + 1)) (hc : c0 = if A.testBit k = true then 1 else 0) (hc1 : c0 ≤ 1) (hq : val Q2 = 2 * val Q) (hr : val R2 = 2 * val R + c0) (hge : B ≤ val R2) (h3 : val R3 = val R2 - B) (hl : 0 < Q2.length) (ho : okw Q2) :
    BitsAt A B (Q2.set 0 (atw Q2 0 + 1)) R3 k ∧ atw Q2 0 + 1 < 4294967296 := by
  have e1 := val_set Q2 0 (atw Q2 0 + 1) hl
  rw [Nat.pow_zero, Nat.one_mul, Nat.one_mul] at e1
  have e2 : val (Q2.set 0 (atw Q2 0 + 1)) = 2 * val Q + 1 := by omega
  have h4 := h.2
  refine ⟨⟨?_, by omega⟩, ?_⟩
  · rw [bits_next, ← hc, h.1, e2, Nat.mul_add, Nat.add_mul, Nat.mul_assoc, h3, hr]
    omega
  · have h5 := top_succ Q2 0
    rw [top_zero, hq] at h5
    have h6 := atw_lt ho 0
    omega
theorem bits_end {A B : Nat} {Q R : List Nat} (h : BitsAt A B Q R 0) : val Q = A / B ∧ val R = A % B := by
  have h1 := h.1
  have h2 := h.2
  rw [Nat.pow_zero, Nat.div_one] at h1
  rw [h1, Nat.mul_comm, Nat.mul_add_div (by omega), Nat.mul_add_mod, Nat.div_eq_of_lt h2, Nat.mod_eq_of_lt h2]
  omega
def Div5Post (p q : Nat) (w : World) (e : Ending) (w' : World) : Prop :=
  ∃ (a : Option Addr) (n cap : Nat) (b : Option Addr) (m cap' : Nat), e = .returned (.tuple #[.slice a n cap, .slice b m cap']) ∧ Wd w' a n cap (dg p) ∧ Hid (w'.ownsRow w.heap.size 98 1 (.slice b m cap') m (wcells (dg q))) ∧ Below w.heap.size w w'
set_option maxRecDepth 4096 in
set_option maxHeartbeats 4000000 in
theorem ref05_div (a : Option Addr) (n cap : Nat) (la : List Nat) (b : Option Addr) (m cap' : Nat) (lb : List Nat) (w : World) (ha : Wd w a n cap la) (hb : Wd w b m cap' lb) (hn : n ≤ 500000) (hm : m ≤ 500000) (h0 : Hid (val lb ≠ 0)) :
    Calls Tryz.prog 99 #[.slice a n cap, .slice b m cap'] w (Div5Post (val la / val lb) (val la % val lb) w) := by
  obtain ⟨i0, hi, hz0, hz1, hz2⟩ := info_parts infoWord
  have Ha := Lib.hid ha
  have Hb := Lib.hid hb
  have hbl : blen (val la) ≤ 32 * n := blen_le.2 (by rw [← pow32, ← ha.len]; exact val_lt ha.ok)
  clear ha hb
  obtain ⟨M, hM⟩ : ∃ M : Nat, (m : Int) + 1 = (M : Int) := ⟨m + 1, by omega⟩
  have HM : Hid (M = m + 1) := Lib.hid (by omega)
  have hMb : M ≤ 500001 := by omega
  go_enter Tryz.func99, Tryz.ntmps99
  go_wp2_with (first
    | (at_make; refine wpList_make_words _ rfl _ _ 54 rfl w.heap.size 98 i0 (.int .u32 0) Tryz.underlying54 hi hz0 hz1 rfl .i64 .i64 _ _ n n rfl rfl rfl rfl (Nat.le_refl _) (by rw [hz2]; omega) (by unfold maxLen; omega) (Nat.le_refl _) ?_; intro w1 hown1 hgrow1; rw [zeros_cells] at hown1; have HQ1 : Hid (Own w1 w.heap.size w.heap.size n n (List.replicate n 0)) := Lib.hid ⟨hown1, okw_zeros n⟩; have hB1 : Below w.heap.size w w1 := (Below.refl _ _).grown hgrow1 (Nat.le_refl _) (fun k hk => by cases hk); clear hown1 hgrow1)
    | (at_make; refine wpList_make_words _ rfl _ _ 54 rfl w.heap.size 98 i0 (.int .u32 0) Tryz.underlying54 hi hz0 hz1 rfl .i64 .i64 _ _ M M rfl rfl rfl rfl (Nat.le_refl _) (by rw [hz2]; omega) (by unfold maxLen; omega) hB1.size ?_; intro w2 hown2 hgrow2; rw [zeros_cells] at hown2; have HR2 : Hid (Own w2 w.heap.size w1.heap.size M M (List.replicate M 0)) := Lib.hid ⟨hown2, okw_zeros M⟩; have hB2 : Below w.heap.size w w2 := hB1.grown hgrow2 hB1.size (fun k hk => by cases hk); have HQ2 : Hid (Own w2 w.heap.size w.heap.size n n (List.replicate n 0)) := Lib.hid (HQ1.out.stay hgrow2); clear hown2 hgrow2))
  have hne : w.heap.size ≠ w1.heap.size := by have := HQ1.out.base; omega
  generalize hgq : w.heap.size = base at *
  have hbq := HQ2.out.base
  have hbr := HR2.out.base
  have hBw := Lib.hid hB2
  generalize w1.heap.size = gr at *
  clear HQ1 hB1 hB2
  obtain ⟨B, HB⟩ : ∃ B, Hid (B = val lb) := ⟨_, rfl⟩
  obtain ⟨A, HA⟩ : ∃ A, Hid (A = val la) := ⟨_, rfl⟩
  rw [← HB.out] at h0 ⊢
  rw [← HA.out] at hbl ⊢
  have HAn : Hid (A < 4294967296 ^ n) := Lib.hid (by rw [HA.out, ← Ha.out.len]; exact val_lt Ha.out.ok)
  have HBm : Hid (B < 4294967296 ^ m) := Lib.hid (by rw [HB.out, ← Hb.out.len]; exact val_lt Hb.out.ok)
  have HAb : Hid (∀ k, A.testBit k = decide (atw la (k / 32) / 2 ^ (k % 32) % 2 = 1)) := Lib.hid (fun k => by rw [HA.out]; exact low_bit la Ha.out.ok k)
  have HS := Lib.hid (bits_start (A := A) (n := n) (m := M) (Nat.pos_of_ne_zero h0.out))
  rw [← hgq] at *
  refine (ref03_len _ _ _ _ _ (Ha.out.later hBw.out) (by omega)).mono ?_
  rintro e w' ⟨rfl, rfl⟩
  rw [← HA.out]
  generalize blen A = y at *
  go_wp2
  go_loopw [8] (fun iv wr => ∃ (k : Nat) (Q R : List Nat), k ≤ y ∧ iv = .int .i64 ((k : Int) - 1) ∧ Hid (BitsAt A B Q R k) ∧ Hid (Own wr w.heap.size w.heap.size n n Q) ∧ Hid (Own wr w.heap.size gr M M R) ∧ Below w.heap.size w wr) (fun iv _ => (intOf iv + 1).toNat)
  case atStart => exact ⟨y, List.replicate n 0, List.replicate M 0, by omega, by go_num, HS, HQ2, HR2, hBw.out⟩
  case round =>
    clear HQ2 HR2 hBw HS
    obtain ⟨k, Q, R, hk, rfl, HD, HQ, HR, hBr⟩ := hrel
    cases k with
    | zero =>
      have Hq : Hid (val Q = A / B) := Lib.hid (bits_end HD.out).1
      have Hr : Hid (val R = A % B) := Lib.hid (bits_end HD.out).2
      have HRw := Lib.hid HR.out.wd
      clear HD
      go_wp2_with fail
      refine (ref02_norm _ _ _ _ _ HQ.out.wd (by omega)).mono ?_
      rintro e w5 ⟨a5, n5, c5, rfl, h5, b5⟩
      rw [Hq.out] at h5
      have H5 := Lib.hid h5
      have HR5 := Lib.hid (HRw.out.later b5)
      have hb5 := below_then hBr b5
      clear h5 HRw
      go_wp2_with fail
      refine (ref02_norm_own _ _ _ _ _ HR5.out (by omega)).mono ?_
      rintro e w6 ⟨a6, n6, c6, rfl, h6, b6⟩
      rw [Hr.out] at h6
      have H6 := Lib.hid (ownsRow_lower h6 hb5.size)
      have H5b := Lib.hid (H5.out.later b6)
      clear h6
      go_wp2
      go_ret2
      exact ⟨a5, n5, c5, a6, n6, c6, rfl, by rw [← HA.out, ← HB.out]; exact H5b.out, by rw [← HA.out, ← HB.out]; exact H6, below_then hb5 b6⟩
    | succ k =>
      have e1 : ((k + 1 : Nat) : Int) - 1 = (k : Int) := by omega
      rw [e1]
      clear e1
      obtain ⟨q, hq⟩ : ∃ q : Nat, (k : Int) / 32 = (q : Int) := ⟨k / 32, by omega⟩
      obtain ⟨r, hr⟩ : ∃ r : Nat, (k : Int) % 32 = (r : Int) := ⟨k % 32, by omega⟩
      have Hqr : Hid (k / 32 = q ∧ k % 32 = r) := Lib.hid (by omega)
      have hr31 : r < 32 := by omega
      obtain ⟨ba, oa, rfl, hca⟩ := (Ha.out.later hBr).at (by omega)
      have hcq := hca q (by omega)
      have hxw := atw_lt Ha.out.ok q
      have hbit := HAb.out k
      rw [Hqr.out.1, Hqr.out.2] at hbit
      obtain ⟨x, hx⟩ : ∃ x, x = atw la q := ⟨_, rfl⟩
      rw [← hx] at hcq hxw hbit
      obtain ⟨P, HP, hP⟩ : ∃ P : Nat, Hid (P = 2 ^ r) ∧ (2 : Int) ^ r = (P : Int) := ⟨2 ^ r, rfl, by simp⟩
      have hPb : P < 4294967296 := by rw [HP.out]; exact Nat.lt_of_le_of_lt (Nat.pow_le_pow_right (by decide) (show r ≤ 31 by omega)) (by decide)
      have hP0 : 0 < P := by rw [HP.out]; exact Nat.two_pow_pos r
      rw [← HP.out] at hbit
      obtain ⟨z, hz⟩ : ∃ z : Nat, (x : Int) / (P : Int) = (z : Int) := ⟨x / P, by rw [Int.natCast_ediv]⟩
      have Hz : Hid (x / P = z) := Lib.hid (by rw [← Int.natCast_ediv] at hz; omega)
      rw [Hz.out] at hbit
      obtain ⟨tb, htb⟩ : ∃ tb, ((z : Int) % 2 == 1) = tb := ⟨_, rfl⟩
      have HT : Hid (A.testBit k = tb) := Lib.hid (by rw [hbit, ← htb, Bool.eq_iff_iff, beq_iff_eq, decide_eq_true_eq]; omega)
      have hqi : (q : Int) < (n : Int) := by omega
      have hzw : z < 4294967296 := by rw [← Hz.out]; exact Nat.lt_of_le_of_lt (Nat.div_le_self _ _) hxw
      obtain ⟨c0, hc0⟩ : ∃ c0 : Nat, c0 = if tb = true then 1 else 0 := ⟨_, rfl⟩
      have Hc0 := Lib.hid hc0
      have hc1 : c0 ≤ 1 := by rw [hc0]; split <;> omega
      have HQd : Hid (Own wr.drew w.heap.size w.heap.size n n Q) := Lib.hid HQ.out
      have HRd : Hid (Own wr.drew w.heap.size gr M M R) := Lib.hid HR.out
      have HBd : Hid (Below w.heap.size w wr.drew) := Lib.hid hBr.drew
      have hw1 : IntKind.i64.wrap (q : Int) = (q : Int) := by rw [IntKind.wrap_i64]; omega
      have hw2 : IntKind.i64.wrap (r : Int) = (r : Int) := by rw [IntKind.wrap_i64]; omega
      have hw3 : IntKind.u32.wrap (P : Int) = (P : Int) := by rw [IntKind.wrap_u32]; omega
      have hw4 : IntKind.u32.wrap (z : Int) = (z : Int) := by rw [IntKind.wrap_u32]; omega
      have hw5 : IntKind.u32.wrap ((z : Int) % 2) = (z : Int) % 2 := by rw [IntKind.wrap_u32]; omega
      have hP1 : ¬ P = 0 := by omega
      have hw6 : (k : Int).tmod 32 = (r : Int) := by rw [Int.tmod_eq_emod_of_nonneg (by omega)]; exact hr
      have hw7 : (x : Int).tdiv (P : Int) = (z : Int) := by rw [Int.tdiv_eq_ediv_of_nonneg (by omega)]; exact hz
      have hw8 : (z : Int).tmod 2 = (z : Int) % 2 := Int.tmod_eq_emod_of_nonneg (by omega)
      clear hca hbit hx hc0
      go_wp2_with fail
      refine wp_region_still_tail 12 (by kernel_rfl) (by kernel_rfl) ?_
      simp only [List.take_succ_cons, List.take_zero, List.drop_succ_cons, List.drop_zero]
      repeat still_step
      refine wpStill_nil ?_
      change wpList _ _ _ _ _ wr.drew
      generalize wr.drew = wd at *
      clear hBr HQ HR hw1 hw2 hw3 hw4 hw5 hw6 hw7 hw8
      go_wp2_with fail
      refine (ref05_double _ _ _ _ _ tb R _ HRd.out (by omega) Hc0.out).mono ?_
      rintro e w3 ⟨R2, z2, rfl, HR3, hG3, HV3⟩
      have hB3 := Lib.hid (grown_below HBd.out hG3 hbr.1)
      have HQ3 := Lib.hid (HQd.out.other hG3 hne)
      have HVr : Hid (val R2 = 2 * val R + c0) := Lib.hid (bits_rest HD.out HBm.out (by have := HV3.out; rwa [HM.out] at this) hc1)
      clear hG3 HRd HQd HBd HV3
      go_wp2_with fail
      refine (ref05_double _ _ _ _ 0 false Q _ HQ3.out (by omega) rfl).mono ?_
      rintro e w4 ⟨Q2, z3, rfl, HQ4, hG4, HV4⟩
      have hB4 := Lib.hid (grown_below hB3.out hG4 hbq.1)
      have HR4 := Lib.hid (HR3.out.other hG4 (Ne.symm hne))
      have HVq : Hid (val Q2 = 2 * val Q) := Lib.hid (bits_quot HD.out HAn.out HV4.out)
      clear hG4 HV4 HQ3 HR3 hB3
      go_wp2_with fail
      refine (ref02_cmp _ _ _ _ _ _ _ _ _ HR4.out.wd (Hb.out.later hB4.out) (by omega) (by omega)).mono ?_
      rintro e w5 ⟨rfl, rfl⟩
      rw [← HB.out]
      by_cases hlt : val R2 < B
      · have hc : cmpI (val R2) B < 0 := by rw [cmpI_lt hlt]; omega
        have HDn : Hid (BitsAt A B Q2 R2 k) := Lib.hid (bits_no HD.out (by rw [HT.out]; exact Hc0.out) HVq.out HVr.out hlt)
        clear hlt
        generalize cmpI (val R2) B = c at *
        go_wp2
        go_roundw
        case rel => exact ⟨k, Q2, R2, by omega, by go_num, HDn, HQ4, HR4, hB4.out⟩
        case measure => simp [intOf]
      · have hc : ¬ cmpI (val R2) B < 0 := by unfold cmpI; split <;> (try split) <;> omega
        have Hge : Hid (val lb ≤ val R2) := Lib.hid (by rw [← HB.out]; omega)
        have Hge2 : Hid (B ≤ val R2) := Lib.hid (by omega)
        clear hlt
        generalize cmpI (val R2) B = c at *
        go_wp2_with fail
        refine (ref05_less w _ _ _ _ R2 _ _ _ lb HR4.out hB4.out Hb.out (by omega) (by omega) Hge).mono ?_
        rintro e w6 ⟨R3, rfl, HR6, hG6, HV6⟩
        have HB6 := Lib.hid (grown_below hB4.out hG6 hbr.1)
        have HQ6 := Lib.hid (HQ4.out.other hG6 hne)
        have HDn := Lib.hid (bits_yes HD.out (by rw [HT.out]; exact Hc0.out) hc1 HVq.out HVr.out Hge2.out (by rw [HV6.out, ← HB.out]) (by rw [HQ4.out.len]; omega) HQ4.out.2)
        have hcell := HQ6.out.cell (k := 0) (by omega)
        have hfro := HQ6.out.1.frozenAt 0
        have huw := HDn.out.2
        obtain ⟨u, huu⟩ : ∃ u, u = atw Q2 0 := ⟨_, rfl⟩
        rw [← huu] at hcell huw
        have HDn2 : Hid (BitsAt A B (Q2.set 0 (u + 1)) R3 k) := Lib.hid (by rw [huu]; exact HDn.out.1)
        have HQ7 := Lib.hid (HQ6.out.set 0 (u + 1) huw)
        have HR7 := Lib.hid (HR6.out.other (grown_cell w6 w.heap.size 0 (.int .u32 ((u + 1 : Nat) : Int))) (Ne.symm hne))
        have HB7 := Lib.hid (HB6.out.setCell (p := ⟨w.heap.size, 0, none⟩) hbq.1 (.int .u32 ((u + 1 : Nat) : Int)))
        clear huu HDn hG6 HQ4 HR4 hB4 HB6 HR6 HQ6
        go_wp2
        go_roundw
        case rel => exact ⟨k, Q2.set 0 (u + 1), R3, by omega, by go_num, HDn2, HQ7, HR7, HB7.out⟩
        case measure => simp [intOf]
end Go.Proofs.YtpjkhbfglgmnmaaGreatDoor

/-
  The contracts of the document's answer for layer 8: Floor.
-/
namespace Go.Proofs.YtpjkhbfglgmnmaaGreatDoor
open Go.RowKit

end Go.Proofs.YtpjkhbfglgmnmaaGreatDoor

/-
  Package whole at this seat: Floor.
-/
namespace Go.Proofs.YtpjkhbfglgmnmaaGreatDoor
open Go.RowKit

end Go.Proofs.YtpjkhbfglgmnmaaGreatDoor

/-
  Package whole at this seat: Floor, of numbers with one sign.
-/
namespace Go.Proofs.YtpjkhbfglgmnmaaGreatDoor
open Go.RowKit

end Go.Proofs.YtpjkhbfglgmnmaaGreatDoor

/-
  Package whole at this seat: Floor, of numbers with two signs, where nothing is left.
-/
namespace Go.Proofs.YtpjkhbfglgmnmaaGreatDoor
open Go.RowKit

end Go.Proofs.YtpjkhbfglgmnmaaGreatDoor

/-
  Package whole at this seat: Floor, of numbers with two signs, where something is left.
-/
namespace Go.Proofs.YtpjkhbfglgmnmaaGreatDoor
open Go.RowKit

end Go.Proofs.YtpjkhbfglgmnmaaGreatDoor

/-
  Package whole at this seat: what strings.CutPrefix does with a minus ahead.
-/
namespace Go.Proofs.YtpjkhbfglgmnmaaGreatDoor
open Go.RowKit

end Go.Proofs.YtpjkhbfglgmnmaaGreatDoor

/-
  Plain mathematics: decimal digits in groups of nine. Nothing of the program.
-/
namespace Go.Proofs.YtpjkhbfglgmnmaaGreatDoor

/-- The last k digits of a number. -/
def lowd : Nat → Nat → List UInt8
  | 0, _ => []
  | k + 1, n => lowd k (n / 10) ++ [dig (n % 10)]
theorem lowd_length (k n : Nat) : (lowd k n).length = k := by
  induction k generalizing n with
  | zero => rfl
  | succ k ih => rw [lowd, List.length_append, ih]; rfl
theorem txt_split (k n : Nat) (h : 10 ^ k ≤ n) : txt n = txt (n / 10 ^ k) ++ lowd k n := by
  induction k generalizing n with
  | zero => rw [lowd, List.append_nil, Nat.pow_zero, Nat.div_one]
  | succ k ih =>
    have hp : 0 < 10 ^ k := Nat.pow_pos (by decide)
    rw [Nat.pow_succ] at h
    rw [txt_big (by omega), ih (n / 10) (by omega), lowd, Nat.div_div_eq_div_mul, Nat.pow_succ, Nat.mul_comm 10, List.append_assoc]
theorem lowd_mod (k n : Nat) : lowd k (n % 10 ^ k) = lowd k n := by
  induction k generalizing n with
  | zero => rfl
  | succ k ih =>
    have h1 : n % 10 ^ (k + 1) / 10 = n / 10 % 10 ^ k := by
      rw [Nat.pow_succ, Nat.mul_comm, Nat.mod_mul_right_div_self]
    have h2 : n % 10 ^ (k + 1) % 10 = n % 10 := by rw [Nat.pow_succ]; exact Nat.mod_mod_of_dvd _ (Nat.dvd_mul_left _ _)
    rw [lowd, lowd, h1, h2, ih]
/-- A number in groups of nine digits, the lowest ones first. -/
def bil (n : Nat) : List Nat := if h : n < 1000000000 then [n] else (n % 1000000000) :: bil (n / 1000000000)
termination_by n
decreasing_by omega
theorem bil_small {n : Nat} (h : n < 1000000000) : bil n = [n] := by rw [bil]; simp [h]
theorem bil_big {n : Nat} (h : 1000000000 ≤ n) : bil n = (n % 1000000000) :: bil (n / 1000000000) := by rw [bil]; simp [show ¬ n < 1000000000 by omega]
def tx : List Nat → List UInt8
  | [] => []
  | [g] => txt g
  | g :: h :: r => tx (h :: r) ++ lowd 9 g
theorem bil_ne (n : Nat) : ∃ g r, bil n = g :: r := by
  by_cases h : n < 1000000000
  · exact ⟨_, _, bil_small h⟩
  · exact ⟨_, _, bil_big (by omega)⟩
theorem tx_cons (g : Nat) (r : List Nat) (h : r ≠ []) : tx (g :: r) = tx r ++ lowd 9 g := by
  cases r with
  | nil => exact absurd rfl h
  | cons x r => rfl
theorem tx_bil (n : Nat) : tx (bil n) = txt n := by
  induction n using Nat.strongRecOn with
  | _ n ih =>
    by_cases h : n < 1000000000
    · rw [bil_small h]; rfl
    · obtain ⟨g, r, hg⟩ := bil_ne (n / 1000000000)
      rw [bil_big (by omega), tx_cons _ _ (by rw [hg]; simp), ih _ (by omega), txt_split 9 n (by omega), show (10 : Nat) ^ 9 = 1000000000 from by decide]
      have := lowd_mod 9 n
      rw [show (10 : Nat) ^ 9 = 1000000000 from by decide] at this
      rw [this]
theorem bil_lt (n : Nat) : ∀ g ∈ bil n, g < 1000000000 := by
  induction n using Nat.strongRecOn with
  | _ n ih =>
    by_cases h : n < 1000000000
    · rw [bil_small h]; intro g hg; simp at hg; omega
    · rw [bil_big (by omega)]
      intro g hg
      rcases List.mem_cons.1 hg with h1 | h1
      · omega
      · exact ih _ (by omega) g h1
theorem atw_bil (n k : Nat) : atw (bil n) k < 1000000000 := by
  by_cases h : k < (bil n).length
  · unfold atw
    rw [List.getD_eq_getElem?_getD, List.getElem?_eq_getElem h]
    exact bil_lt n _ (List.getElem_mem h)
  · unfold atw
    rw [List.getD_eq_getElem?_getD, List.getElem?_eq_none (by omega)]
    decide
theorem bil_length_le {n k : Nat} (h : n < 2 ^ k) : (bil n).length ≤ k + 1 := by
  induction k generalizing n with
  | zero => rw [bil_small (by simp at h; omega)]; simp
  | succ k ih =>
    by_cases h1 : n < 1000000000
    · rw [bil_small h1]; simp
    · rw [bil_big (by omega), List.length_cons]
      have := ih (n := n / 1000000000) (by rw [Nat.pow_succ] at h; omega)
      omega
/-- Nine digits, noughts ahead and all. -/
theorem pad_txt {g : Nat} (h : g < 1000000000) : txt (1000000000 + g) = 49 :: lowd 9 g := by
  have h1 := lowd_mod 9 (1000000000 + g)
  have hp : (10 : Nat) ^ 9 = 1000000000 := by decide
  rw [txt_split 9 _ (by omega), ← h1, hp, show (1000000000 + g) / 1000000000 = 1 by omega, show (1000000000 + g) % 1000000000 = g by omega, txt_small (by decide)]
  rfl
/-- Groups are written from the highest one down: s is the text of those from place k on. -/
def TxAt (L : List Nat) (k : Nat) (s : List UInt8) : Prop := k < L.length ∧ s = tx (L.drop k)
theorem tx_start {L : List Nat} {m : Nat} (h : L.length = m + 1) : TxAt L m (txt (atw L m)) := by
  refine ⟨by omega, ?_⟩
  rw [List.drop_eq_getElem_cons (show m < L.length by omega), List.drop_of_length_le (show L.length ≤ m + 1 by omega)]
  unfold atw
  rw [List.getD_eq_getElem?_getD, List.getElem?_eq_getElem (show m < L.length by omega)]
  rfl
theorem tx_step {L : List Nat} {k : Nat} {s : List UInt8} (h : TxAt L (k + 1) s) : TxAt L k (s ++ lowd 9 (atw L k)) := by
  obtain ⟨h1, h2⟩ := h
  refine ⟨by omega, ?_⟩
  have h3 : L.drop (k + 1) ≠ [] := by
    intro h4
    have := congrArg List.length h4
    rw [List.length_drop] at this
    simp at this
    omega
  rw [List.drop_eq_getElem_cons (show k < L.length by omega), tx_cons _ _ h3, ← h2]
  unfold atw
  rw [List.getD_eq_getElem?_getD, List.getElem?_eq_getElem (show k < L.length by omega)]
  rfl
theorem tx_end {n : Nat} {s : List UInt8} (h : TxAt (bil n) 0 s) : s = txt n := by
  rw [h.2, List.drop_zero, tx_bil]
theorem tx_length {n k : Nat} {s : List UInt8} (h : TxAt (bil n) k s) : s.length ≤ (txt n).length := by
  have key : ∀ (k : Nat) (s : List UInt8), TxAt (bil n) k s → s.length ≤ (txt n).length := by
    intro k
    induction k with
    | zero => intro s h; rw [tx_end h]; exact Nat.le_refl _
    | succ k ih =>
      intro s h
      have := ih _ (tx_step h)
      rw [List.length_append] at this
      omega
  exact key k s h
end Go.Proofs.YtpjkhbfglgmnmaaGreatDoor

/-
  Numerals by the library (strconv.AppendUint, FormatUint at base 10) at this seat, out of the shelf's contracts.
-/
namespace Go.Proofs.YtpjkhbfglgmnmaaGreatDoor
open Go.RowKit

theorem dec_txt (u : Nat) : Lib.decDigits u = txt u := by
  induction u using Nat.strongRecOn with
  | _ u ih =>
    by_cases h : u < 10
    · rw [Lib.decDigits, dif_pos h, txt_small h]; rfl
    · rw [Lib.decDigits, dif_neg h, txt_big (by omega), ih _ (by omega)]; rfl
def dec_lays_ren : Go.Shelf.Ren := ⟨fun | 129 => 150 | 283 => 137 | 284 => 138 | 285 => 139 | 286 => 140 | 288 => 125 | 317 => 149 | 318 => 151 | 319 => 152 | 320 => 153 | 337 => 161 | 338 => 162 | n => n, fun | 0 => 0 | 3 => 3 | 4 => 4 | 5 => 5 | 9 => 9 | 20 => 20 | 37 => 115 | 46 => 110 | 51 => 98 | 53 => 88 | 171 => 166 | 173 => 169 | 212 => 178 | 213 => 179 | 232 => 185 | 233 => 186 | n => n, fun | 17 => 1 | 18 => 2 | 19 => 3 | n => n⟩
theorem dec_lays : Go.Proofs.LaysM.n288 Tryz.prog dec_lays_ren := {
  mixed := by kernel_rfl
  f129 := Tryz.func150.trans (congrArg some (by kernel_rfl))
  f283 := Tryz.func137.trans (congrArg some (by kernel_rfl))
  f284 := Tryz.func138.trans (congrArg some (by kernel_rfl))
  f285 := Tryz.func139.trans (congrArg some (by kernel_rfl))
  f286 := Tryz.func140.trans (congrArg some (by kernel_rfl))
  f288 := Tryz.func125.trans (congrArg some (by kernel_rfl))
  f317 := Tryz.func149.trans (congrArg some (by kernel_rfl))
  f318 := Tryz.func151.trans (congrArg some (by kernel_rfl))
  f319 := Tryz.func152.trans (congrArg some (by kernel_rfl))
  f320 := Tryz.func153.trans (congrArg some (by kernel_rfl))
  f337 := Tryz.func161.trans (congrArg some (by kernel_rfl))
  f338 := Tryz.func162.trans (congrArg some (by kernel_rfl))
  t0 := Tryz.underlying0
  a0 := Tryz.isAgg0
  z0 := Tryz.sizeOf0
  v0 := Tryz.zeroValue0
  t3 := Tryz.underlying3
  a3 := Tryz.isAgg3
  z3 := Tryz.sizeOf3
  v3 := Tryz.zeroValue3
  t4 := Tryz.underlying4
  a4 := Tryz.isAgg4
  z4 := Tryz.sizeOf4
  v4 := Tryz.zeroValue4
  t5 := Tryz.underlying5
  a5 := Tryz.isAgg5
  z5 := Tryz.sizeOf5
  v5 := Tryz.zeroValue5
  t9 := Tryz.underlying9
  a9 := Tryz.isAgg9
  z9 := Tryz.sizeOf9
  v9 := Tryz.zeroValue9
  t20 := Tryz.underlying20
  a20 := Tryz.isAgg20
  z20 := Tryz.sizeOf20
  v20 := Tryz.zeroValue20
  t37 := Tryz.underlying115
  a37 := Tryz.isAgg115
  z37 := Tryz.sizeOf115
  v37 := Tryz.zeroValue115
  t46 := Tryz.underlying110
  a46 := Tryz.isAgg110
  z46 := Tryz.sizeOf110
  v46 := Tryz.zeroValue110
  t51 := Tryz.underlying98
  a51 := Tryz.isAgg98
  z51 := Tryz.sizeOf98
  v51 := Tryz.zeroValue98
  t53 := Tryz.underlying88
  a53 := Tryz.isAgg88
  z53 := Tryz.sizeOf88
  v53 := Tryz.zeroValue88
  t171 := Tryz.underlying166
  a171 := Tryz.isAgg166
  z171 := Tryz.sizeOf166
  v171 := Tryz.zeroValue166
  t173 := Tryz.underlying169
  a173 := Tryz.isAgg169
  z173 := Tryz.sizeOf169
  v173 := Tryz.zeroValue169
  t212 := Tryz.underlying178
  a212 := Tryz.isAgg178
  z212 := Tryz.sizeOf178
  v212 := Tryz.zeroValue178
  t213 := Tryz.underlying179
  a213 := Tryz.isAgg179
  z213 := Tryz.sizeOf179
  t232 := Tryz.underlying185
  a232 := Tryz.isAgg185
  z232 := Tryz.sizeOf185
  v232 := Tryz.zeroValue185
  t233 := Tryz.underlying186
  a233 := Tryz.isAgg186
  z233 := Tryz.sizeOf186
  v233 := Tryz.zeroValue186
  g17 := by kernel_rfl
  g18 := by kernel_rfl
  g19 := by kernel_rfl
  i0 := by kernel_rfl
  i3 := by kernel_rfl
  i4 := by kernel_rfl
  i5 := by kernel_rfl
  i9 := by kernel_rfl
  i20 := by kernel_rfl
  i37 := by kernel_rfl
  i46 := by kernel_rfl
  i51 := by kernel_rfl
  i53 := by kernel_rfl
  i171 := by kernel_rfl
  i173 := by kernel_rfl
  i212 := by kernel_rfl
  i232 := by kernel_rfl
  i233 := by kernel_rfl
  m17 := by kernel_rfl
  m18 := by kernel_rfl
  m19 := by kernel_rfl }
theorem Dec10.tab {w : World} (h : Dec10 w) : ∀ {name}, Tryz.prog.globalNamed name = some (dec_lays_ren.g 17) → Lib.TabIs Tryz.prog w name .u64 Lib.pow10Tab := fun hn => h _ hn
/-- A number's digits behind what a row of the call's own holds. -/
theorem dec_append0 (B n u : Nat) (hu64 : u < 18446744073709551616) (sv : Value) (xs : List Value) (w : World) (hown : w.ownsRow B 5 1 sv n xs) (hB : B ≤ w.heap.size) (hn : n ≤ 1000000) (hT : Dec10 w) :
    Calls Tryz.prog 125 #[sv, .int .u64 u, .int .i64 10] w fun e w' => ∃ v', e = .returned v' ∧ w'.ownsRow B 5 1 v' (n + (txt u).length) (xs ++ Lib.byteCells (txt u)) ∧ Below B w w' := by
  have h := Any.internal_strconv_AppendUint_10 dec_lays B n u hu64 sv xs w hown hB (by omega) (hT.tab dec_lays.m17)
  rw [dec_txt] at h
  exact h.mono fun e w' ⟨v', he, ho, hb, _⟩ => ⟨v', he, ho, hb⟩
end Go.Proofs.YtpjkhbfglgmnmaaGreatDoor

/-
  The public strconv.AppendUint and FormatUint at base 10.
-/
namespace Go.Proofs.YtpjkhbfglgmnmaaGreatDoor
open Go.RowKit

set_option maxRecDepth 4096 in
theorem dec_append (B n u : Nat) (hu64 : u < 18446744073709551616) (sv : Value) (xs : List Value) (w : World) (hown : w.ownsRow B 5 1 sv n xs) (hB : B ≤ w.heap.size) (hn : n ≤ 1000000) (hT : Hid (Dec10 w)) :
    Calls Tryz.prog 109 #[sv, .int .u64 u, .int .i64 10] w fun e w' => ∃ v', e = .returned v' ∧ w'.ownsRow B 5 1 v' (n + (txt u).length) (xs ++ Lib.byteCells (txt u)) ∧ Below B w w' := by
  have Ho := Lib.hid hown
  clear hown
  go_enter Tryz.func109, Tryz.ntmps109
  go_wp2_with (go_at_call 125; refine (dec_append0 B n u hu64 sv xs _ Ho.out hB hn hT.out).mono ?_; rintro e w1 ⟨v1, rfl, h1, b1⟩; refine Hid.out ?_)
  refine Lib.hid ?_
  go_wp2
  go_ret
  exact ⟨v1, rfl, h1, b1⟩
set_option maxRecDepth 100000 in
set_option maxHeartbeats 6400000 in
/-- From 100 on: the numeral is laid in an array of the call's own and read as a text. -/
theorem dec_format0 (u : Nat) (hu : 100 ≤ u) (hu64 : u < 18446744073709551616) (w : World) (hT : Hid (Dec10 w)) :
    Calls Tryz.prog 141 #[.int .u64 u, .int .i64 10] w (Gives (.string (bs (txt u))) w) := by
  have hu1 : 1 ≤ u := by omega
  have hnd20 : Lib.nDigits u ≤ 20 := by have := Lib.numDigits_eq u hu1 hu64; split at this <;> omega
  have hal : Tryz.prog.arrayLen 166 = 24 := by kernel_rfl
  have hel : Tryz.prog.elem 166 = 5 := by kernel_rfl
  have hsl : ∀ W, (Instr.sliceAt 166 (.pointer (some ⟨w.heap.size, 0, none⟩)) none (some (.int .i64 (Lib.nDigits u : Int))) none).run Tryz.prog W = .ok (.slice (some ⟨w.heap.size, 0, none⟩) (Lib.nDigits u) 24) W := fun W => by
    rw [run_sliceAt_array_h W 166 ⟨w.heap.size, 0, none⟩ Tryz.underlying166 .i64 (Lib.nDigits u : Int) (by omega) (by rw [hal]; omega), hel, hal]
    go_simp
  have hH0 := Lib.holds_zero0 w 166 (Lib.nDigits u) (by omega)
  have hfmt := Any.internal_strconv_formatBase10 (P := Tryz.prog) (ρ := dec_lays_ren) { dec_lays with } w.heap.size 0 24 u (Array.replicate (Lib.nDigits u) 0) (w.alloc (.cells Lib.zeros24 166)) hH0 (by rw [Array.size_replicate]; exact Lib.lt_pow_nDigits u) hu64 (by rw [Array.size_replicate]; omega)
  rw [Array.size_replicate] at hfmt
  have HH0 := Lib.hid hH0
  have Hfmt := Lib.hid hfmt
  have iu : (100 : Int) ≤ (u : Int) := by omega
  clear hH0 hal hel hfmt
  go_enter Tryz.func141, Tryz.ntmps141
  go_wp2_with (first
    | (go_at_call 138; refine (Any.internal_strconv_numDigits (P := Tryz.prog) (ρ := dec_lays_ren) { dec_lays with } u hu1 hu64 _ (Lib.tabIs_alloc (hT.out.tab dec_lays.m17) _)).mono ?_; rintro e w' ⟨rfl, rfl⟩)
    | (go_at_call 139; refine Hfmt.out.mono ?_; rintro e w' ⟨rfl, k, v', dk, rfl, hF⟩; refine Hid.out ?_))
  refine Lib.hid ?_
  have hcv : (convert 115 9 (.slice (some ⟨w.heap.size, 0, none⟩) (Lib.nDigits u) 24)).run Tryz.prog ((Sort.putRow (fun (b : UInt8) => Value.int .u8 (b.toNat : Int)) (w.alloc (.cells Lib.zeros24 166)) w.heap.size 0 dk).drewN k) = .ok (.string (bs (txt u))) ((Sort.putRow (fun (b : UInt8) => Value.int .u8 (b.toNat : Int)) (w.alloc (.cells Lib.zeros24 166)) w.heap.size 0 dk).drewN k) := by
    have h := run_convert_bytes_back (P := Tryz.prog) ((Sort.putRow (fun (b : UInt8) => Value.int .u8 (b.toNat : Int)) (w.alloc (.cells Lib.zeros24 166)) w.heap.size 0 dk).drewN k) 115 9 5 ⟨w.heap.size, 0, none⟩ 24 (Lib.decDigits u) Tryz.underlying115 Tryz.underlying5 Tryz.underlying9 (fun j hj => by
      rw [Lib.row_is_numeral hF j hj, Lib.add_plain, World.cell?_drewN]
      exact Sort.cell?_putRow (fun (b : UInt8) => Value.int .u8 (b.toNat : Int)) _ w.heap.size 0 _ dk HH0.out (by rw [hF.size, Array.size_replicate]) j (by rw [hF.size]; rw [Lib.decDigits_length] at hj; exact hj))
    rw [Lib.decDigits_length, dec_txt] at h
    exact h
  obtain ⟨os, eo⟩ := Lib.fin_at w (.cells Lib.zeros24 166) dk k 0
  have hnx : Below w.heap.size w ((Sort.putRow (fun (b : UInt8) => Value.int .u8 (b.toNat : Int)) (w.alloc (.cells Lib.zeros24 166)) w.heap.size 0 dk).drewN k) := by rw [eo]; exact Lib.below_grow w.heap.size w (Nat.le_refl _) k os
  generalize (Sort.putRow (fun (b : UInt8) => Value.int .u8 (b.toNat : Int)) (w.alloc (.cells Lib.zeros24 166)) w.heap.size 0 dk).drewN k = W2 at hcv hnx ⊢
  clear eo HH0 Hfmt
  go_wp2
  go_ret
  exact ⟨rfl, hnx⟩
theorem dec_format (u : Nat) (hu : 100 ≤ u) (hu64 : u < 18446744073709551616) (w : World) (hT : Hid (Dec10 w)) :
    Calls Tryz.prog 126 #[.int .u64 u, .int .i64 10] w (Gives (.string (bs (txt u))) w) := by
  go_enter Tryz.func126, Tryz.ntmps126
  go_wp2_with (go_at_call 141; refine (dec_format0 u hu hu64 _ hT).mono ?_; rintro e w1 ⟨rfl, b1⟩)
  go_ret
  exact ⟨rfl, b1⟩
end Go.Proofs.YtpjkhbfglgmnmaaGreatDoor

/-
  Package digits at this seat: full, groups.
-/
namespace Go.Proofs.YtpjkhbfglgmnmaaGreatDoor
open Go.RowKit

theorem Wd.heldA {w : World} {a : Option Addr} {n cap : Nat} {l : List Nat} (h : Wd w a n cap l) : heldVal w (.slice a n cap) = val l := by
  cases a with
  | none => obtain ⟨rfl, rfl, rfl⟩ := h.ofNone; rfl
  | some ad =>
    by_cases hn : n = 0
    · subst hn
      have h0 : l = [] := List.eq_nil_of_length_eq_zero h.len
      subst h0
      rfl
    · obtain ⟨b, off, e, _⟩ := h.at (by omega)
      cases e
      exact h.held
set_option maxRecDepth 4096 in
theorem digits_full (g : Nat) (hg : g < 1000000000) (w : World) (hT : Hid (Dec10 w)) :
    Calls Tryz.prog 110 #[.int .u32 (g : Int)] w (Gives (.string (bs (lowd 9 g))) w) := by
  obtain ⟨u, hu⟩ : ∃ u : Nat, 1000000000 + (g : Int) = (u : Int) := ⟨1000000000 + g, by omega⟩
  have HU : Hid (txt u = 49 :: lowd 9 g) := Lib.hid (by rw [show u = 1000000000 + g by omega]; exact pad_txt hg)
  have hu1 : 100 ≤ u := by omega
  have hu2 : u < 18446744073709551616 := by omega
  have hsz := bs_size (49 :: lowd 9 g)
  have htl := bs_rest 49 (lowd 9 g)
  simp only [List.length_cons, lowd_length] at hsz htl
  go_enter Tryz.func110, Tryz.ntmps110
  go_wp2_with (go_at_call 126; refine (dec_format u hu1 hu2 _ hT).mono ?_; rintro e w1 ⟨rfl, b1⟩; rw [HU.out])
  go_ret
  exact ⟨rfl, b1⟩
set_option maxRecDepth 4096 in
set_option maxHeartbeats 2000000 in
theorem digits_groups (a : Option Addr) (n cap : Nat) (l : List Nat) (w : World) (h : Wd w a n cap l) (hn : n ≤ 1000) :
    Calls Tryz.prog 108 #[.slice a n cap] w (Lst (bil (val l)) w) := by
  obtain ⟨i0, hi, hz0, hz1, hz2⟩ := info_parts infoU32
  have HL : Hid ((bil (val l)).length ≤ 32001) := Lib.hid (by
    have h1 := val_lt h.ok
    rw [h.len, pow32] at h1
    have h2 := bil_length_le h1
    omega)
  have H := Lib.hid h
  clear h
  go_enter Tryz.func108, Tryz.ntmps108
  go_wp2
  go_loopw [0, 3] (fun av gv wr => ∃ (a' : Option Addr) (n' c' : Nat) (L G : List Nat) (m : Nat), av = .slice a' n' c' ∧ n' ≤ 1000 ∧ Hid (Wd wr a' n' c' L) ∧ Hid (wr.ownsRow w.heap.size 98 1 gv m (wcells G)) ∧ Hid (okw G) ∧ Hid (bil (val l) = G ++ bil (val L)) ∧ Below w.heap.size w wr) (fun av _ wr => heldVal wr av)
  case atStart => exact ⟨a, n, cap, l, [], 0, rfl, hn, H, Lib.hid (World.ownsRow_nil _ _ _ _), Lib.hid okw_nil, Lib.hid rfl, Below.refl _ _⟩
  case round =>
    clear H hn
    obtain ⟨a', n', c', L, G, m, rfl, hn', HW, HO, HG, HB, hB⟩ := hrel
    obtain ⟨ga, gc, rfl⟩ := own_slice HO.out
    have hm : m ≤ 32000 := by
      have h1 := HL.out
      have h2 := HO.out.1
      obtain ⟨x, r, hx⟩ := bil_ne (val L)
      rw [HB.out, hx, List.length_append, List.length_cons] at h1
      rw [wcells_length] at h2
      omega
    have Hm0 := Lib.hid HW.out.heldA
    have hbase : w.heap.size ≤ wr.heap.size := hB.size
    obtain ⟨v, hv⟩ : ∃ v, v = val L := ⟨_, rfl⟩
    have Hv := Lib.hid hv
    have hgl : v % 1000000000 < 4294967296 := by omega
    obtain ⟨z, hz⟩ : ∃ z, z = v % 1000000000 := ⟨_, rfl⟩
    have hzl : z < 1000000000 := by omega
    have Hz := Lib.hid hz
    have HG2 : Hid (okw (G ++ [z])) := Lib.hid (okw_append.2 ⟨HG.out, okw_cons.2 ⟨by omega, okw_nil⟩⟩)
    clear hz hv hgl
    go_wp2_with fail
    refine (quot_word_own _ _ _ _ 1000000000 _ HW.out (by omega) (by omega) (by omega)).mono ?_
    rintro e w1 ⟨g1, n1, rfl, h1, b1⟩
    rw [← Hv.out] at h1 ⊢
    rw [← Hz.out]
    have hn1 : n1 ≤ 1000 := by
      have h2 := h1.len
      have h3 := HW.out.trim_le
      have h4 := dg_length_mono (show v / 1000000000 ≤ val L by rw [← Hv.out]; exact Nat.div_le_self _ _)
      omega
    have HO1 := Lib.hid (ownsRow_later HO.out b1)
    have hB1 := below_then hB b1
    have hbase1 := hB1.size
    have Hq := Lib.hid h1
    clear HW b1 hB h1
    go_wp2_with (at_builtin; refine wpList_append_own _ rfl _ _ 54 rfl w.heap.size 98 i0 (.int .u32 0) 1 4 Tryz.underlying54 hi hz0 hz1 hz2 rfl (by decide) _ m _ rfl (HO1.out.alloc _) ⟨w1.heap.size, 0, none⟩ 1 1 (wcells [z]) rfl rfl (Wd.lit1 w1 98 (x := z) (by omega)).cells (wcells_one _) (by unfold maxLen; omega) (by omega) (by simp; omega) ?_)
    intro v' w2 hown hgrow _
    have hB2 : Below w.heap.size w w2 := (hB1.alloc hbase1 _).grown hgrow (by simp; omega) (fun k hk => (HO1.out.lt k hk).1)
    have Hq2 : Hid (Wd w2 (some ⟨g1, 0, none⟩) n1 n1 (dg (v / 1000000000))) := Lib.hid ((Hq.out.wd.later (below_alloc _ _)).kept hgrow (by
      intro ad hd he
      cases hd
      have h2 := (Hq.out.base).1
      have h3 : g1 < wr.heap.size := (HO.out.lt g1 he.symm).2
      omega))
    rw [← wcells_append] at hown
    have HO2 := Lib.hid hown
    clear hown hgrow Hq HO1 HO
    go_wp2_with fail
    refine (natSaid.zero _ _ _ _ _ Hq2.out (by omega)).mono ?_
    rintro e w3 ⟨rfl, b3⟩
    rw [val_dg]
    have HO3 := Lib.hid (ownsRow_later HO2.out b3)
    have Hq3 := Lib.hid (Hq2.out.later b3)
    have hB3 := below_then hB2 b3
    clear b3 HO2 Hq2 hB2
    by_cases hq : v / 1000000000 = 0
    · rw [decide_eq_true hq]
      have Hfin : Hid (bil (val l) = G ++ [z]) := Lib.hid (by rw [HB.out, ← Hv.out, bil_small (by omega), Hz.out, Nat.mod_eq_of_lt (by omega)])
      obtain ⟨a4, c4, rfl⟩ := own_slice HO3.out
      have HF := Lib.hid (Wd.own HO3.out HG2.out)
      clear hq
      go_wp2
      go_ret
      exact ⟨_, _, _, rfl, by rw [Hfin.out]; exact HF.out, hB3⟩
    · rw [decide_eq_false hq]
      have Hfin : Hid (bil (val l) = (G ++ [z]) ++ bil (val (dg (v / 1000000000)))) := Lib.hid (by rw [HB.out, ← Hv.out, bil_big (by omega), ← Hz.out, val_dg, List.append_assoc]; rfl)
      have hlt : v / 1000000000 < v := by omega
      have Hm1 := Lib.hid Hq3.out.heldA
      clear hq
      go_wp2
      go_roundw
      case rel => exact ⟨_, n1, n1, _, _, _, rfl, hn1, Hq3, HO3, HG2, Hfin, hB3⟩
      case measure =>
        have h8 := Hm0.out
        have h9 := Hm1.out
        rw [val_dg] at h9
        show heldVal _ _ < heldVal _ _
        rw [h8, h9, ← Hv.out]
        exact hlt
end Go.Proofs.YtpjkhbfglgmnmaaGreatDoor

/-
  Package digits at this seat: Text, Len.
-/
namespace Go.Proofs.YtpjkhbfglgmnmaaGreatDoor
open Go.RowKit

theorem infoU8 : (Tryz.prog.info? 5).map (fun i => (i.zero, i.size, i.bytes)) = some (some (.int .u8 0), 1, 1) := by kernel_rfl
theorem strCells_bs (s : List UInt8) : Lib.strCells (bs s) = Lib.byteCells s := rfl
set_option maxRecDepth 4096 in
set_option maxHeartbeats 4000000 in
theorem digits_text (a : Option Addr) (n cap : Nat) (l : List Nat) (w : World) (h : Wd w a n cap l) (hn : n ≤ 1000) (hT : Hid (Dec10 w)) :
    Calls Tryz.prog 85 #[.slice a n cap] w (Gives (.string (bs (txt (val l)))) w) := by
  obtain ⟨i0, hi, hz0, hz1, hz2⟩ := info_parts infoU8
  have hv2 := val_lt h.ok
  rw [h.len, pow32] at hv2
  have HTL : Hid ((txt (val l)).length ≤ 32001) := Lib.hid (by have := txt_length_le hv2; omega)
  have HBL : Hid ((bil (val l)).length ≤ 32001) := Lib.hid (by have := bil_length_le hv2; omega)
  have H := Lib.hid h
  clear h hv2
  go_enter Tryz.func85, Tryz.ntmps85
  go_wp2_with fail
  refine (digits_groups _ _ _ _ _ H.out hn).mono ?_
  rintro e w1 ⟨a1, n1, c1, rfl, h1, b1⟩
  obtain ⟨v, hv⟩ : ∃ v, v = val l := ⟨_, rfl⟩
  rw [← hv] at h1 HTL HBL
  have HV := Lib.hid hv
  clear hv H hn
  have hT1 := Lib.hid (hT.out.later b1)
  obtain ⟨m, rfl⟩ : ∃ m, n1 = m + 1 := by
    obtain ⟨x, r, hx⟩ := bil_ne v
    have h2 := h1.len
    rw [hx, List.length_cons] at h2
    exact ⟨r.length, h2.symm⟩
  have hm : m ≤ 32000 := by have h2 := h1.len; have h3 := HBL.out; omega
  obtain ⟨b, off, rfl, hcl⟩ := h1.at (by omega)
  have hcm := hcl m (by omega)
  have Hcl := Lib.hid hcl
  have H1 := Lib.hid h1
  have hxw := atw_bil v m
  have HS : Hid (TxAt (bil v) m (txt (atw (bil v) m))) := Lib.hid (tx_start h1.len)
  obtain ⟨x, hx⟩ : ∃ x, x = atw (bil v) m := ⟨_, rfl⟩
  rw [← hx] at hcm hxw HS
  have e1 : ((m + 1 : Nat) : Int) - 1 = (m : Int) := by omega
  have hlt : (m : Int) < ((m + 1 : Nat) : Int) := by omega
  have hB1 := b1
  have HTx : Hid ((txt x).length ≤ 32001) := Lib.hid (by have h2 := tx_length HS.out; have h3 := HTL.out; omega)
  clear hcl hx h1 b1
  go_wp2_with (go_at_call 109; refine (dec_append w1.heap.size 0 x (by omega) (.slice none 0 0) [] _ (World.ownsRow_nil _ _ _ _) (Nat.le_refl _) (by omega) hT1).mono ?_; rintro e w2 ⟨v2, rfl, h2, b2⟩; refine Hid.out ?_)
  refine Lib.hid ?_
  rw [Nat.zero_add, List.nil_append] at h2
  have HO2 := Lib.hid h2
  have HB1 := Lib.hid hB1
  clear h2 hcm hT hlt HTx
  go_wp2
  go_loopw [5, 6] (fun sv iv wr => ∃ (k : Nat) (s : List UInt8), k ≤ m ∧ iv = .int .i64 ((k : Int) - 1) ∧ Hid (TxAt (bil v) k s) ∧ Hid (wr.ownsRow w1.heap.size 5 1 sv s.length (Lib.byteCells s)) ∧ Below w1.heap.size w1 wr) (fun _ iv _ => (intOf iv + 1).toNat)
  case atStart => exact ⟨m, txt x, by omega, by go_num, HS, HO2, b2⟩
  case round =>
    clear HO2 HS b2 hxw
    obtain ⟨k, s, hk, rfl, HS, HO, hB⟩ := hrel
    have hsl : s.length ≤ 32001 := by have h2 := tx_length HS.out; have h3 := HTL.out; omega
    have hT2 := Lib.hid (hT1.out.later hB)
    have hbase := hB.size
    cases k with
    | zero =>
      have hs := tx_end HS.out
      have hne : 0 < s.length := by rw [hs]; exact List.length_pos_iff.2 (txt_ne v)
      have Hs := Lib.hid hs
      clear hs
      rcases HO.out.2 with ⟨-, h0⟩ | ⟨g, cap', cur, rfl, -⟩
      · omega
      · have hcv := run_convert_bytes_back (P := Tryz.prog) wr 115 9 5 ⟨g, 0, none⟩ cap' s Tryz.underlying115 Tryz.underlying5 Tryz.underlying9 (fun j hj => HO.out.cells (g := g) rfl j _ (by simp [Lib.byteCells, hj]))
        go_wp2
        go_ret
        exact ⟨by rw [← HV.out, ← Hs.out]; rfl, below_then HB1.out hB⟩
    | succ k =>
      have e2 : ((k + 1 : Nat) : Int) - 1 = (k : Int) := by omega
      rw [e2]
      clear e2
      have hck := cell_later hB (Hcl.out k (by omega))
      have hyw := atw_bil v k
      have HS2 := Lib.hid (tx_step HS.out)
      obtain ⟨y, hy⟩ : ∃ y, y = atw (bil v) k := ⟨_, rfl⟩
      rw [← hy] at hck hyw HS2
      have hki : (k : Int) < ((m + 1 : Nat) : Int) := by omega
      have hz := bs_size (lowd 9 y)
      rw [lowd_length] at hz
      clear hy
      go_wp2_with (first
        | (go_at_call 110; refine (digits_full y hyw _ hT2).mono ?_; rintro e w3 ⟨rfl, b3⟩; have HO3 := Lib.hid (ownsRow_later HO.out b3); have hB3 := below_then hB b3; have hbase3 := hB3.size)
        | (at_builtin; refine Lib.wpList_append_own_string _ rfl _ _ 115 9 rfl w1.heap.size 5 i0 Tryz.underlying115 Tryz.underlying9 hi hz0 hz1 hz2 _ _ _ rfl HO3.out (bs (lowd 9 y)) rfl (by rw [hz]; unfold maxLen; omega) (by rw [hz]; omega) hbase3 ?_; intro v' w4 hown hgrow _; refine Hid.out ?_))
      refine Lib.hid ?_
      have hB4 : Below w1.heap.size w1 w4 := hB3.grown hgrow hbase3 (fun k hk => (HO3.out.lt k hk).1)
      have e3 : Lib.byteCells s ++ Lib.strCells (bs (lowd 9 y)) = Lib.byteCells (s ++ lowd 9 y) := by rw [strCells_bs, Lib.byteCells_append]
      have e4 : s.length + (bs (lowd 9 y)).size = (s ++ lowd 9 y).length := by rw [bs_size, List.length_append]
      rw [e3, e4] at hown
      have HO4 := Lib.hid hown
      clear hown hgrow e3 e4 HO3 HO
      go_wp2
      go_roundw
      case rel => exact ⟨k, _, by omega, by go_num, HS2, HO4, hB4⟩
      case measure => simp [intOf]
end Go.Proofs.YtpjkhbfglgmnmaaGreatDoor
