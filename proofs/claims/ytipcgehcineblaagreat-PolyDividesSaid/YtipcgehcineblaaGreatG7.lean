/-
  Several texts of this claim as one, group 7.
-/
import Derived.Test.YtipcgehcineblaaGreatG4
import Derived.Test.YtipcgehcineblaaGreatG5
import Derived.Test.YtipcgehcineblaaGreatG1
import Derived.BigRegion
import Derived.StillTailTactics
import Derived.Test.YtipcgehcineblaaGreatG6
import Derived.Deep.RegionHeld3
import Derived.Lib.AppendIntMem
import Derived.Lib.AppendStr
import Derived.Laws.IdiomStrings
import Derived.Laws.Slices
import Derived.OwnWalk
import Derived.BigCall
import Derived.BigGuard
import Derived.Test.YtipcgehcineblaaGreatG2
import Derived.Deep.AppendSrc
import Derived.Deep.RegionWith
import Derived.Test.YtipcgehcineblaaGreatG3
/-
  The contracts of the document's answer for layer 5: Double, Less.
-/
namespace Go.Proofs.YtipcgehcineblaaGreat
open Go.RowKit

/-- P doubled, with c0 more, k words of it done: c is carried; what stands from place k on is P's. -/
def DoubleAt (P R : List Nat) (k c c0 : Nat) : Prop := val R + 4294967296 ^ k * c = val P + low P k + c0 ∧ ∀ j, k ≤ j → atw R j = atw P j
theorem double_start (P : List Nat) (c0 : Nat) : DoubleAt P P 0 c0 c0 := ⟨by rw [low_zero]; simp, fun _ _ => rfl⟩
theorem double_step {P R : List Nat} {k c c0 r z : Nat} (h : DoubleAt P R k c c0) (hk : k < R.length) (hs : r + 4294967296 * z = 2 * atw P k + c) : DoubleAt P (R.set k r) (k + 1) z c0 := by
  refine ⟨?_, fun j hj => by rw [atw_set_ne (by omega)]; exact h.2 j (by omega)⟩
  have h1 := val_set R k r hk
  rw [h.2 k (Nat.le_refl _)] at h1
  have h2 := give_word (c := c) (u := atw P k) (d := atw P k) (z := z) h1 (by omega)
  have h3 := h.1
  rw [low_succ]
  generalize val (R.set k r) = a1 at *
  generalize 4294967296 ^ (k + 1) * z = a2 at *
  generalize 4294967296 ^ k * c = a3 at *
  generalize 4294967296 ^ k * atw P k = a4 at *
  omega
theorem double_end {P R : List Nat} {k c c0 : Nat} (h : DoubleAt P R k c c0) (hk : P.length = k) : val R + 4294967296 ^ k * c = 2 * val P + c0 := by
  have h1 := h.1
  rw [low_ge (by omega)] at h1
  omega
/-- P less D, k words of it done: s is owed. -/
def LessAt (P D R : List Nat) (k s : Nat) : Prop := val R + low D k = val P + 4294967296 ^ k * s ∧ ∀ j, k ≤ j → atw R j = atw P j
theorem less_start (P D : List Nat) : LessAt P D P 0 0 := ⟨by rw [low_zero], fun _ _ => rfl⟩
theorem less_step {P D R : List Nat} {k s r z : Nat} (h : LessAt P D R k s) (hk : k < R.length) (hs : atw P k + 4294967296 * z = atw D k + s + r) : LessAt P D (R.set k r) (k + 1) z := by
  refine ⟨?_, fun j hj => by rw [atw_set_ne (by omega)]; exact h.2 j (by omega)⟩
  have h1 := val_set R k r hk
  rw [h.2 k (Nat.le_refl _)] at h1
  have h2 := take_word h1 hs rfl
  have h3 := h.1
  rw [Nat.mul_add] at h2
  rw [low_succ]
  generalize val (R.set k r) = a1 at *
  generalize 4294967296 ^ (k + 1) * z = a2 at *
  generalize 4294967296 ^ k * atw D k = a3 at *
  generalize 4294967296 ^ k * s = a4 at *
  omega
theorem less_end {P D R : List Nat} {k s : Nat} (h : LessAt P D R k s) (hR : okw R) (hk : R.length = k) (hD : D.length ≤ k) (hle : val D ≤ val P) : val R = val P - val D := by
  have h1 := h.1
  have h2 := val_lt hR
  rw [hk] at h2
  rw [low_ge hD] at h1
  rcases Nat.eq_zero_or_pos s with h0 | h0
  · subst h0; omega
  · have h3 : 4294967296 ^ k * 1 ≤ 4294967296 ^ k * s := Nat.mul_le_mul_left _ h0
    generalize 4294967296 ^ k * s = a4 at *
    generalize 4294967296 ^ k = a5 at *
    omega

def DoublePost (base g N cap c0 : Nat) (P : List Nat) (w : World) (e : Ending) (w' : World) : Prop :=
  ∃ (P' : List Nat) (z : Nat), e = .returned (.tuple #[]) ∧ Hid (Own w' base g N cap P') ∧ w.grownBy w' (some g) ∧ Hid (val P' + 4294967296 ^ N * z = 2 * val P + c0)
set_option maxRecDepth 4096 in
set_option maxHeartbeats 2000000 in
theorem ref05_double (base g N cap c0 : Nat) (more : Bool) (P : List Nat) (w : World) (hO : Own w base g N cap P) (hN : N ≤ 2097152000000) (hm : c0 = if more = true then 1 else 0) :
    Calls Tryz.prog 100 #[.slice (some ⟨g, 0, none⟩) N cap, .bool more] w (DoublePost base g N cap c0 P w) := by
  have HO0 := Lib.hid hO
  have HPl := Lib.hid hO.len
  have HPo := Lib.hid hO.2
  have hc0 : c0 ≤ 1 := by rw [hm]; split <;> omega
  have HM := Lib.hid hm
  clear hO hm
  go_enter Tryz.func100, Tryz.ntmps100
  cases more
  all_goals (
    go_wp2
    go_loopw [4, 5] (fun cv kv wr => ∃ (k c : Nat) (R : List Nat), k ≤ N ∧ kv = .int .i64 (k : Int) ∧ cv = .int .u32 (c : Int) ∧ c ≤ 1 ∧ Hid (DoubleAt P R k c c0) ∧ Hid (Own wr base g N cap R) ∧ w.grownBy wr (some g)) (fun _ kv _ => N - (intOf kv).toNat)
    case atStart => exact ⟨0, c0, P, by omega, rfl, by rw [HM.out]; rfl, hc0, Lib.hid (double_start _ _), HO0, grown_refl _ _⟩
    case round =>
      obtain ⟨k, c, R, hk, rfl, rfl, hc, HD, HO, hG⟩ := hrel
      by_cases hlt : k < N
      · have hcell := HO.out.cell (k := k) hlt
        rw [HD.out.2 k (Nat.le_refl _)] at hcell
        have hfro := HO.out.1.frozenAt k
        have huw := atw_lt HPo.out k
        obtain ⟨u, huu⟩ : ∃ u, u = atw P k := ⟨_, rfl⟩
        rw [← huu] at huw hcell
        have Hu := Lib.hid huu
        have hki : (k : Int) < (N : Int) := by omega
        obtain ⟨z, hz⟩ : ∃ z : Nat, (u : Int) / 2147483648 = (z : Int) := ⟨u / 2147483648, by omega⟩
        obtain ⟨v, hv⟩ : ∃ v : Nat, (u : Int) * 2 % 4294967296 = (v : Int) := ⟨u * 2 % 4294967296, by omega⟩
        obtain ⟨r, hr⟩ : ∃ r : Nat, (v : Int) + (c : Int) = (r : Int) := ⟨v + c, by omega⟩
        have Hs : Hid (r + 4294967296 * z = 2 * u + c) := Lib.hid (by omega)
        have hz1 : z ≤ 1 := by omega
        have hrw : r < 4294967296 := by omega
        have HOs := Lib.hid (HO.out.set k r hrw)
        have hGs := Lib.hid (grown_then hG (grown_cell _ g k (.int .u32 (r : Int))))
        clear huu
        go_wp2
        go_roundw
        case rel => exact ⟨k + 1, z, R.set k r, by omega, by go_num, rfl, hz1, Lib.hid (double_step HD.out (by rw [HO.out.len]; omega) (by rw [← Hu.out]; exact Hs.out)), HOs, hGs.out⟩
        case measure => simp [intOf]; omega
      · obtain rfl : k = N := by omega
        have Hfin := Lib.hid (double_end HD.out HPl.out)
        go_wp2
        go_end0
        exact ⟨R, c, rfl, HO, hG, Hfin⟩)
def LessPost (base g N cap : Nat) (P D : List Nat) (w : World) (e : Ending) (w' : World) : Prop :=
  ∃ (P' : List Nat), e = .returned (.tuple #[]) ∧ Hid (Own w' base g N cap P') ∧ w.grownBy w' (some g) ∧ Hid (val P' = val P - val D)
set_option maxRecDepth 4096 in
set_option maxHeartbeats 2000000 in
theorem ref05_less (w0 w : World) (g N cap : Nat) (P : List Nat) (d : Option Addr) (m dcap : Nat) (D : List Nat) (hO : Own w w0.heap.size g N cap P) (hB : Below w0.heap.size w0 w) (hd : Wd w0 d m dcap D) (hN : N ≤ 2097152000000) (hm : m ≤ N) (hle : Hid (val D ≤ val P)) :
    Calls Tryz.prog 70 #[.slice (some ⟨g, 0, none⟩) N cap, .slice d m dcap] w (LessPost w0.heap.size g N cap P D w) := by
  have HO0 := Lib.hid hO
  have HPl := Lib.hid hO.len
  have HPo := Lib.hid hO.2
  have HD := Lib.hid hd
  clear hO hd
  go_enter Tryz.func70, Tryz.ntmps70
  go_wp2
  go_loopw [4, 5] (fun sv kv wr => ∃ (k s : Nat) (R : List Nat), k ≤ N ∧ kv = .int .i64 (k : Int) ∧ sv = .int .u64 (s : Int) ∧ s ≤ 1 ∧ Hid (LessAt P D R k s) ∧ Hid (Own wr w0.heap.size g N cap R) ∧ w.grownBy wr (some g)) (fun _ kv _ => N - (intOf kv).toNat)
  case atStart => exact ⟨0, 0, P, by omega, rfl, rfl, by omega, Lib.hid (less_start _ _), HO0, grown_refl _ _⟩
  case round =>
    obtain ⟨k, s, R, hk, rfl, rfl, hs, HL, HO, hG⟩ := hrel
    have hbase := HO.out.base
    by_cases hlt : k < N
    · have hcell := HO.out.cell (k := k) hlt
      rw [HL.out.2 k (Nat.le_refl _)] at hcell
      have hfro := HO.out.1.frozenAt k
      have huw := atw_lt HPo.out k
      obtain ⟨u, huu⟩ : ∃ u, u = atw P k := ⟨_, rfl⟩
      rw [← huu] at huw hcell
      have Hu := Lib.hid huu
      have hki : (k : Int) < (N : Int) := by omega
      clear huu
      go_wp2_with fail
      refine (ref02_at _ _ _ k _ _ (HD.out.later (grown_below hB hG hbase.1)) (by omega)).mono ?_
      rintro e w' ⟨rfl, rfl⟩
      have hdw := atw_lt HD.out.ok k
      obtain ⟨b, hbb⟩ : ∃ b, b = atw D k := ⟨_, rfl⟩
      rw [← hbb] at hdw ⊢
      have Hb := Lib.hid hbb
      clear hbb
      obtain ⟨y, hy⟩ : ∃ y : Nat, (b : Int) + (s : Int) = (y : Int) := ⟨b + s, by omega⟩
      have Hy : Hid (y = b + s) := Lib.hid (by omega)
      have hyb : y ≤ 4294967296 := by omega
      by_cases hxy : u < y
      · obtain ⟨x, hx⟩ : ∃ x : Nat, (u : Int) + 4294967296 = (x : Int) := ⟨u + 4294967296, by omega⟩
        obtain ⟨r, hr⟩ : ∃ r : Nat, (x : Int) - (y : Int) = (r : Int) := ⟨x - y, by omega⟩
        have hrw : r < 4294967296 := by omega
        have HS : Hid (u + 4294967296 * 1 = b + s + r) := Lib.hid (by have := Hy.out; omega)
        have HOs := Lib.hid (HO.out.set k r hrw)
        have hGs := Lib.hid (grown_then hG (grown_cell _ g k (.int .u32 (r : Int))))
        go_wp2
        go_roundw
        case rel => exact ⟨k + 1, 1, R.set k r, by omega, by go_num, rfl, by omega, Lib.hid (less_step HL.out (by rw [HO.out.len]; omega) (by rw [← Hu.out, ← Hb.out]; exact HS.out)), HOs, hGs.out⟩
        case measure => simp [intOf]; omega
      · obtain ⟨r, hr⟩ : ∃ r : Nat, (u : Int) - (y : Int) = (r : Int) := ⟨u - y, by omega⟩
        have hrw : r < 4294967296 := by omega
        have HS : Hid (u + 4294967296 * 0 = b + s + r) := Lib.hid (by have := Hy.out; omega)
        have HOs := Lib.hid (HO.out.set k r hrw)
        have hGs := Lib.hid (grown_then hG (grown_cell _ g k (.int .u32 (r : Int))))
        go_wp2
        go_roundw
        case rel => exact ⟨k + 1, 0, R.set k r, by omega, by go_num, rfl, by omega, Lib.hid (less_step HL.out (by rw [HO.out.len]; omega) (by rw [← Hu.out, ← Hb.out]; exact HS.out)), HOs, hGs.out⟩
        case measure => simp [intOf]; omega
    · obtain rfl : k = N := by omega
      have Hfin : Hid (val R = val P - val D) := Lib.hid (less_end HL.out HO.out.2 HO.out.len (by rw [HD.out.len]; exact hm) hle.out)
      go_wp2
      go_end0
      exact ⟨R, rfl, HO, hG, Hfin⟩
end Go.Proofs.YtipcgehcineblaaGreat

/-
  The contracts of the document's answer for layer 3.
-/
namespace Go.Proofs.YtipcgehcineblaaGreat
open Go.RowKit

theorem ref03_has_nat (a : Option Addr) (n cap : Nat) (l : List Nat) (i : Nat) (w : World) (h : Wd w a n cap l) (hi : i ≤ 9223372036854775807) :
    Calls Tryz.prog 113 #[.slice a n cap, .int .i64 (i : Int)] w fun e w' => e = .returned (.bool ((val l).testBit i)) ∧ w = w' := by
  obtain ⟨hb1, hb2⟩ := h.bound
  have H := Lib.hid h
  clear h
  by_cases hlt : i / 32 < n
  · obtain ⟨b, off, rfl, hc⟩ := H.out.at (by omega)
    have hck := hc (i / 32) hlt
    have hx := atw_lt H.out.ok (i / 32)
    clear hc
    have Hfin : Hid ((val l).testBit i = decide (atw l (i / 32) / 2 ^ (i % 32) % 2 = 1)) := Lib.hid (low_bit l H.out.ok i)
    obtain ⟨x, hxx⟩ : ∃ x, x = atw l (i / 32) := ⟨_, rfl⟩
    rw [← hxx] at hck hx Hfin
    clear hxx
    go_enter Tryz.func113, Tryz.ntmps113
    go_wp2
    go_loop [5, 6] (fun xv kv => ∃ k y : Nat, k ≤ i % 32 ∧ kv = .int .i64 (k : Int) ∧ xv = .int .u32 (y : Int) ∧ y < 4294967296 ∧ Hid (y = x / 2 ^ k)) (fun _ kv => 32 - (intOf kv).toNat)
    case atStart => exact ⟨0, x, by omega, rfl, rfl, hx, Lib.hid (by simp)⟩
    case round =>
      obtain ⟨k, y, hk, rfl, rfl, hy, Hy⟩ := hrel
      by_cases hkr : k < i % 32
      · have hki : (k : Int) < (i : Int) % 32 := by omega
        go_wp2
        go_round
        case rel => exact ⟨k + 1, y / 2, by omega, by go_num, by go_num, by omega, Lib.hid (by rw [Hy.out, Nat.pow_succ, Nat.div_div_eq_div_mul])⟩
        case measure => simp [intOf]; omega
      · have hki : (i : Int) % 32 ≤ (k : Int) := by omega
        have Hk : Hid (k = i % 32) := Lib.hid (by omega)
        clear hkr
        go_wp2
        go_ret
        exact ⟨ret_bool (by
          rw [Hfin.out, ← Hk.out, ← Hy.out, Bool.eq_iff_iff, beq_iff_eq, decide_eq_true_eq]; omega), rfl⟩
  · have Hv : Hid ((val l).testBit i = false) := Lib.hid (by rw [val_bit H.out.ok, atw_ge (by have := H.out.len; omega)]; simp)
    go_enter Tryz.func113, Tryz.ntmps113
    go_wp2
    go_ret
    exact ⟨ret_bool Hv.out.symm, rfl⟩
theorem ref03_len (a : Option Addr) (n cap : Nat) (l : List Nat) (w : World) (h : Wd w a n cap l) (hn : n ≤ 17592183947264) :
    Calls Tryz.prog 99 #[.slice a n cap] w fun e w' => e = .returned (.int .i64 ((blen (val l) : Nat) : Int)) ∧ w = w' := by
  obtain ⟨hb1, hb2⟩ := h.bound
  have H := Lib.hid h
  clear h
  go_enter Tryz.func99, Tryz.ntmps99
  go_wp2
  go_loop [3] (fun kv => ∃ k : Nat, k ≤ 32 * n ∧ kv = .int .i64 (k : Int) ∧ Hid (val l < 2 ^ k)) (fun kv => (intOf kv).toNat)
  case atStart => exact ⟨32 * n, by omega, by go_num, Lib.hid (by rw [← pow32, ← H.out.len]; exact val_lt H.out.ok)⟩
  case round =>
    obtain ⟨k, hk, rfl, Hv⟩ := hrel
    cases k with
    | zero =>
      have Hfin : Hid (blen (val l) = 0) := Lib.hid (by have := blen_le.2 Hv.out; omega)
      go_wp2
      go_ret
      exact ⟨ret_i64 (by rw [Hfin.out]; rfl), rfl⟩
    | succ p =>
      go_wp2_with fail
      refine (ref03_has_nat _ _ _ _ p _ H.out (by omega)).mono ?_
      rintro e w' ⟨rfl, rfl⟩
      cases hb : (val l).testBit p with
      | true =>
        have Hfin : Hid (blen (val l) = p + 1) := Lib.hid (blen_eq Hv.out (.inr (by rw [Nat.add_sub_cancel]; exact Nat.ge_two_pow_of_testBit hb)))
        clear hb
        go_wp2
        go_ret
        exact ⟨ret_i64 (by rw [Hfin.out]; omega), rfl⟩
      | false =>
        have Hlt : Hid (val l < 2 ^ p) := Lib.hid (lt_of_bit Hv.out hb)
        clear hb
        go_wp2
        go_round
        case rel => exact ⟨p, by omega, by go_num, Hlt⟩
        case measure => simp [intOf]
end Go.Proofs.YtipcgehcineblaaGreat

/-
  The contracts of the document's answer for layer 5: Div.
-/
namespace Go.Proofs.YtipcgehcineblaaGreat
open Go.RowKit

/-- A long division, bit by bit: what A is without its lowest k bits is what Q and R hold. -/
def BitsAt (A B : Nat) (Q R : List Nat) (k : Nat) : Prop := A / 2 ^ k = val Q * B + val R ∧ val R < B
theorem bits_start {A B n m : Nat} (hB : 0 < B) : BitsAt A B (List.replicate n 0) (List.replicate m 0) (blen A) := by
  refine ⟨?_, by rw [val_zeros]; exact hB⟩
  rw [val_zeros, val_zeros, Nat.div_eq_of_lt (lt_blen A)]
  simp
theorem bits_next (A k : Nat) : A / 2 ^ k = 2 * (A / 2 ^ (k + 1)) + (if A.testBit k = true then 1 else 0) := by
  have h1 : A / 2 ^ (k + 1) = A / 2 ^ k / 2 := by rw [Nat.pow_succ, Nat.div_div_eq_div_mul]
  have h2 : A.testBit k = decide (A / 2 ^ k % 2 = 1) := Nat.testBit_eq_decide_div_mod_eq
  rw [h1, h2]
  by_cases h : A / 2 ^ k % 2 = 1
  · rw [decide_eq_true h, if_pos rfl]; omega
  · rw [decide_eq_false h, if_neg (by simp)]; omega
/-- The rest doubled keeps its room. -/
theorem bits_rest {A B m : Nat} {Q R R2 : List Nat} {k z c0 : Nat} (h : BitsAt A B Q R (k + 1)) (hB : B < 4294967296 ^ m) (h2 : val R2 + 4294967296 ^ (m + 1) * z = 2 * val R + c0) (hc : c0 ≤ 1) : val R2 = 2 * val R + c0 := by
  have h3 := h.2
  rw [pow_succ32] at h2
  rcases Nat.eq_zero_or_pos z with h0 | h0
  · subst h0; omega
  · have h4 : 4294967296 * 4294967296 ^ m * 1 ≤ 4294967296 * 4294967296 ^ m * z := Nat.mul_le_mul_left _ h0
    generalize 4294967296 * 4294967296 ^ m * z = a1 at *
    generalize 4294967296 ^ m = a2 at *
    omega
/-- So does the quotient. -/
theorem bits_quot {A B n : Nat} {Q R Q2 : List Nat} {k z : Nat} (h : BitsAt A B Q R (k + 1)) (hA : A < 4294967296 ^ n) (h2 : val Q2 + 4294967296 ^ n * z = 2 * val Q + 0) : val Q2 = 2 * val Q := by
  have h3 := h.1
  have h4 := h.2
  have h5 : 2 * (A / 2 ^ (k + 1)) ≤ A := by
    have h6 := Nat.div_mul_le_self A (2 ^ (k + 1))
    rw [Nat.pow_succ] at *
    have h7 := Nat.two_pow_pos k
    have h8 : A / (2 ^ k * 2) * 2 ≤ A / (2 ^ k * 2) * (2 ^ k * 2) := Nat.mul_le_mul_left _ (by omega)
    omega
  have h9 : val Q * 1 ≤ val Q * B := Nat.mul_le_mul_left _ (by omega)
  rcases Nat.eq_zero_or_pos z with h0 | h0
  · subst h0; omega
  · have h10 : 4294967296 ^ n * 1 ≤ 4294967296 ^ n * z := Nat.mul_le_mul_left _ h0
    generalize 4294967296 ^ n * z = a1 at *
    generalize 4294967296 ^ n = a2 at *
    generalize val Q * B = a3 at *
    omega
theorem bits_no {A B : Nat} {Q R Q2 R2 : List Nat} {k c0 : Nat} (h : BitsAt A B Q R (k + 1)) (hc : c0 = if A.testBit k = true then 1 else 0) (hq : val Q2 = 2 * val Q) (hr : val R2 = 2 * val R + c0) (hlt : val R2 < B) : BitsAt A B Q2 R2 k := by
  refine ⟨?_, hlt⟩
  rw [bits_next, ← hc, h.1, hq, hr, Nat.mul_add, Nat.mul_assoc]
  omega
theorem bits_yes {A B : Nat} {Q R Q2 R2 R3 : List Nat} {k c0 : Nat} (h : BitsAt A B Q R (k + 1)) (hc : c0 = if A.testBit k = true then 1 else 0) (hc1 : c0 ≤ 1) (hq : val Q2 = 2 * val Q) (hr : val R2 = 2 * val R + c0) (hge : B ≤ val R2) (h3 : val R3 = val R2 - B) (hl : 0 < Q2.length) (ho : okw Q2) :
    BitsAt A B (Q2.set 0 (atw Q2 0 + 1)) R3 k ∧ atw Q2 0 + 1 < 4294967296 := by
  have e1 := val_set Q2 0 (atw Q2 0 + 1) hl
  rw [Nat.pow_zero, Nat.one_mul, Nat.one_mul] at e1
  have e2 : val (Q2.set 0 (atw Q2 0 + 1)) = 2 * val Q + 1 := by omega
  have h4 := h.2
  refine ⟨⟨?_, by omega⟩, ?_⟩
  · rw [bits_next, ← hc, h.1, e2, Nat.mul_add, Nat.add_mul, Nat.mul_assoc, h3, hr]
    omega
  · have h5 := top_succ Q2 0
    rw [top_zero, hq] at h5
    have h6 := atw_lt ho 0
    omega
theorem bits_end {A B : Nat} {Q R : List Nat} (h : BitsAt A B Q R 0) : val Q = A / B ∧ val R = A % B := by
  have h1 := h.1
  have h2 := h.2
  rw [Nat.pow_zero, Nat.div_one] at h1
  rw [h1, Nat.mul_comm, Nat.mul_add_div (by omega), Nat.mul_add_mod, Nat.div_eq_of_lt h2, Nat.mod_eq_of_lt h2]
  omega
def Div5Post (p q : Nat) (w : World) (e : Ending) (w' : World) : Prop :=
  ∃ (a : Option Addr) (n cap : Nat) (b : Option Addr) (m cap' : Nat), e = .returned (.tuple #[.slice a n cap, .slice b m cap']) ∧ Wd w' a n cap (dg p) ∧ Hid (w'.ownsRow w.heap.size 58 1 (.slice b m cap') m (wcells (dg q))) ∧ Below w.heap.size w w'
set_option maxRecDepth 4096 in
set_option maxHeartbeats 4000000 in
theorem ref05_div (a : Option Addr) (n cap : Nat) (la : List Nat) (b : Option Addr) (m cap' : Nat) (lb : List Nat) (w : World) (ha : Wd w a n cap la) (hb : Wd w b m cap' lb) (hn : n ≤ 524288000000) (hm : m ≤ 524288000000) (h0 : Hid (val lb ≠ 0)) :
    Calls Tryz.prog 72 #[.slice a n cap, .slice b m cap'] w (Div5Post (val la / val lb) (val la % val lb) w) := by
  obtain ⟨i0, hi, hz0, hz1, hz2⟩ := info_parts infoWord
  have Ha := Lib.hid ha
  have Hb := Lib.hid hb
  have hbl : blen (val la) ≤ 32 * n := blen_le.2 (by rw [← pow32, ← ha.len]; exact val_lt ha.ok)
  clear ha hb
  obtain ⟨M, hM⟩ : ∃ M : Nat, (m : Int) + 1 = (M : Int) := ⟨m + 1, by omega⟩
  have HM : Hid (M = m + 1) := Lib.hid (by omega)
  have hMb : M ≤ 524288000001 := by omega
  go_enter Tryz.func72, Tryz.ntmps72
  go_wp2_with (first
    | (at_make; refine wpList_make_words _ rfl _ _ 23 rfl w.heap.size 58 i0 (.int .u32 0) Tryz.underlying23 hi hz0 hz1 rfl .i64 .i64 _ _ n n rfl rfl rfl rfl (Nat.le_refl _) (by rw [hz2]; omega) (by unfold maxLen; omega) (Nat.le_refl _) ?_; intro w1 hown1 hgrow1; rw [zeros_cells] at hown1; have HQ1 : Hid (Own w1 w.heap.size w.heap.size n n (List.replicate n 0)) := Lib.hid ⟨hown1, okw_zeros n⟩; have hB1 : Below w.heap.size w w1 := (Below.refl _ _).grown hgrow1 (Nat.le_refl _) (fun k hk => by cases hk); clear hown1 hgrow1)
    | (at_make; refine wpList_make_words _ rfl _ _ 23 rfl w.heap.size 58 i0 (.int .u32 0) Tryz.underlying23 hi hz0 hz1 rfl .i64 .i64 _ _ M M rfl rfl rfl rfl (Nat.le_refl _) (by rw [hz2]; omega) (by unfold maxLen; omega) hB1.size ?_; intro w2 hown2 hgrow2; rw [zeros_cells] at hown2; have HR2 : Hid (Own w2 w.heap.size w1.heap.size M M (List.replicate M 0)) := Lib.hid ⟨hown2, okw_zeros M⟩; have hB2 : Below w.heap.size w w2 := hB1.grown hgrow2 hB1.size (fun k hk => by cases hk); have HQ2 : Hid (Own w2 w.heap.size w.heap.size n n (List.replicate n 0)) := Lib.hid (HQ1.out.stay hgrow2); clear hown2 hgrow2))
  have hne : w.heap.size ≠ w1.heap.size := by have := HQ1.out.base; omega
  generalize hgq : w.heap.size = base at *
  have hbq := HQ2.out.base
  have hbr := HR2.out.base
  have hBw := Lib.hid hB2
  generalize w1.heap.size = gr at *
  clear HQ1 hB1 hB2
  obtain ⟨B, HB⟩ : ∃ B, Hid (B = val lb) := ⟨_, rfl⟩
  obtain ⟨A, HA⟩ : ∃ A, Hid (A = val la) := ⟨_, rfl⟩
  rw [← HB.out] at h0 ⊢
  rw [← HA.out] at hbl ⊢
  have HAn : Hid (A < 4294967296 ^ n) := Lib.hid (by rw [HA.out, ← Ha.out.len]; exact val_lt Ha.out.ok)
  have HBm : Hid (B < 4294967296 ^ m) := Lib.hid (by rw [HB.out, ← Hb.out.len]; exact val_lt Hb.out.ok)
  have HAb : Hid (∀ k, A.testBit k = decide (atw la (k / 32) / 2 ^ (k % 32) % 2 = 1)) := Lib.hid (fun k => by rw [HA.out]; exact low_bit la Ha.out.ok k)
  have HS := Lib.hid (bits_start (A := A) (n := n) (m := M) (Nat.pos_of_ne_zero h0.out))
  rw [← hgq] at *
  refine (ref03_len _ _ _ _ _ (Ha.out.later hBw.out) (by omega)).mono ?_
  rintro e w' ⟨rfl, rfl⟩
  rw [← HA.out]
  generalize blen A = y at *
  go_wp2
  go_loopw [8] (fun iv wr => ∃ (k : Nat) (Q R : List Nat), k ≤ y ∧ iv = .int .i64 ((k : Int) - 1) ∧ Hid (BitsAt A B Q R k) ∧ Hid (Own wr w.heap.size w.heap.size n n Q) ∧ Hid (Own wr w.heap.size gr M M R) ∧ Below w.heap.size w wr) (fun iv _ => (intOf iv + 1).toNat)
  case atStart => exact ⟨y, List.replicate n 0, List.replicate M 0, by omega, by go_num, HS, HQ2, HR2, hBw.out⟩
  case round =>
    clear HQ2 HR2 hBw HS
    obtain ⟨k, Q, R, hk, rfl, HD, HQ, HR, hBr⟩ := hrel
    cases k with
    | zero =>
      have Hq : Hid (val Q = A / B) := Lib.hid (bits_end HD.out).1
      have Hr : Hid (val R = A % B) := Lib.hid (bits_end HD.out).2
      have HRw := Lib.hid HR.out.wd
      clear HD
      go_wp2_with fail
      refine (ref02_norm _ _ _ _ _ HQ.out.wd (by omega)).mono ?_
      rintro e w5 ⟨a5, n5, c5, rfl, h5, b5⟩
      rw [Hq.out] at h5
      have H5 := Lib.hid h5
      have HR5 := Lib.hid (HRw.out.later b5)
      have hb5 := below_then hBr b5
      clear h5 HRw
      go_wp2_with fail
      refine (ref02_norm_own _ _ _ _ _ HR5.out (by omega)).mono ?_
      rintro e w6 ⟨a6, n6, c6, rfl, h6, b6⟩
      rw [Hr.out] at h6
      have H6 := Lib.hid (ownsRow_lower h6 hb5.size)
      have H5b := Lib.hid (H5.out.later b6)
      clear h6
      go_wp2
      go_ret2
      exact ⟨a5, n5, c5, a6, n6, c6, rfl, by rw [← HA.out, ← HB.out]; exact H5b.out, by rw [← HA.out, ← HB.out]; exact H6, below_then hb5 b6⟩
    | succ k =>
      have e1 : ((k + 1 : Nat) : Int) - 1 = (k : Int) := by omega
      rw [e1]
      clear e1
      obtain ⟨q, hq⟩ : ∃ q : Nat, (k : Int) / 32 = (q : Int) := ⟨k / 32, by omega⟩
      obtain ⟨r, hr⟩ : ∃ r : Nat, (k : Int) % 32 = (r : Int) := ⟨k % 32, by omega⟩
      have Hqr : Hid (k / 32 = q ∧ k % 32 = r) := Lib.hid (by omega)
      have hr31 : r < 32 := by omega
      obtain ⟨ba, oa, rfl, hca⟩ := (Ha.out.later hBr).at (by omega)
      have hcq := hca q (by omega)
      have hxw := atw_lt Ha.out.ok q
      have hbit := HAb.out k
      rw [Hqr.out.1, Hqr.out.2] at hbit
      obtain ⟨x, hx⟩ : ∃ x, x = atw la q := ⟨_, rfl⟩
      rw [← hx] at hcq hxw hbit
      obtain ⟨P, HP, hP⟩ : ∃ P : Nat, Hid (P = 2 ^ r) ∧ (2 : Int) ^ r = (P : Int) := ⟨2 ^ r, rfl, by simp⟩
      have hPb : P < 4294967296 := by rw [HP.out]; exact Nat.lt_of_le_of_lt (Nat.pow_le_pow_right (by decide) (show r ≤ 31 by omega)) (by decide)
      have hP0 : 0 < P := by rw [HP.out]; exact Nat.two_pow_pos r
      rw [← HP.out] at hbit
      obtain ⟨z, hz⟩ : ∃ z : Nat, (x : Int) / (P : Int) = (z : Int) := ⟨x / P, by rw [Int.natCast_ediv]⟩
      have Hz : Hid (x / P = z) := Lib.hid (by rw [← Int.natCast_ediv] at hz; omega)
      rw [Hz.out] at hbit
      obtain ⟨tb, htb⟩ : ∃ tb, ((z : Int) % 2 == 1) = tb := ⟨_, rfl⟩
      have HT : Hid (A.testBit k = tb) := Lib.hid (by rw [hbit, ← htb, Bool.eq_iff_iff, beq_iff_eq, decide_eq_true_eq]; omega)
      have hqi : (q : Int) < (n : Int) := by omega
      have hzw : z < 4294967296 := by rw [← Hz.out]; exact Nat.lt_of_le_of_lt (Nat.div_le_self _ _) hxw
      obtain ⟨c0, hc0⟩ : ∃ c0 : Nat, c0 = if tb = true then 1 else 0 := ⟨_, rfl⟩
      have Hc0 := Lib.hid hc0
      have hc1 : c0 ≤ 1 := by rw [hc0]; split <;> omega
      have HQd : Hid (Own wr.drew w.heap.size w.heap.size n n Q) := Lib.hid HQ.out
      have HRd : Hid (Own wr.drew w.heap.size gr M M R) := Lib.hid HR.out
      have HBd : Hid (Below w.heap.size w wr.drew) := Lib.hid hBr.drew
      have hw1 : IntKind.i64.wrap (q : Int) = (q : Int) := by rw [IntKind.wrap_i64]; omega
      have hw2 : IntKind.i64.wrap (r : Int) = (r : Int) := by rw [IntKind.wrap_i64]; omega
      have hw3 : IntKind.u32.wrap (P : Int) = (P : Int) := by rw [IntKind.wrap_u32]; omega
      have hw4 : IntKind.u32.wrap (z : Int) = (z : Int) := by rw [IntKind.wrap_u32]; omega
      have hw5 : IntKind.u32.wrap ((z : Int) % 2) = (z : Int) % 2 := by rw [IntKind.wrap_u32]; omega
      have hP1 : ¬ P = 0 := by omega
      have hw6 : (k : Int).tmod 32 = (r : Int) := by rw [Int.tmod_eq_emod_of_nonneg (by omega)]; exact hr
      have hw7 : (x : Int).tdiv (P : Int) = (z : Int) := by rw [Int.tdiv_eq_ediv_of_nonneg (by omega)]; exact hz
      have hw8 : (z : Int).tmod 2 = (z : Int) % 2 := Int.tmod_eq_emod_of_nonneg (by omega)
      clear hca hbit hx hc0
      go_wp2_with fail
      refine wp_region_still_tail 12 (by kernel_rfl) (by kernel_rfl) ?_
      simp only [List.take_succ_cons, List.take_zero, List.drop_succ_cons, List.drop_zero]
      repeat still_step
      refine wpStill_nil ?_
      change wpList _ _ _ _ _ wr.drew
      generalize wr.drew = wd at *
      clear hBr HQ HR hw1 hw2 hw3 hw4 hw5 hw6 hw7 hw8
      go_wp2_with fail
      refine (ref05_double _ _ _ _ _ tb R _ HRd.out (by omega) Hc0.out).mono ?_
      rintro e w3 ⟨R2, z2, rfl, HR3, hG3, HV3⟩
      have hB3 := Lib.hid (grown_below HBd.out hG3 hbr.1)
      have HQ3 := Lib.hid (HQd.out.other hG3 hne)
      have HVr : Hid (val R2 = 2 * val R + c0) := Lib.hid (bits_rest HD.out HBm.out (by have := HV3.out; rwa [HM.out] at this) hc1)
      clear hG3 HRd HQd HBd HV3
      go_wp2_with fail
      refine (ref05_double _ _ _ _ 0 false Q _ HQ3.out (by omega) rfl).mono ?_
      rintro e w4 ⟨Q2, z3, rfl, HQ4, hG4, HV4⟩
      have hB4 := Lib.hid (grown_below hB3.out hG4 hbq.1)
      have HR4 := Lib.hid (HR3.out.other hG4 (Ne.symm hne))
      have HVq : Hid (val Q2 = 2 * val Q) := Lib.hid (bits_quot HD.out HAn.out HV4.out)
      clear hG4 HV4 HQ3 HR3 hB3
      go_wp2_with fail
      refine (ref02_cmp _ _ _ _ _ _ _ _ _ HR4.out.wd (Hb.out.later hB4.out) (by omega) (by omega)).mono ?_
      rintro e w5 ⟨rfl, rfl⟩
      rw [← HB.out]
      by_cases hlt : val R2 < B
      · have hc : cmpI (val R2) B < 0 := by rw [cmpI_lt hlt]; omega
        have HDn : Hid (BitsAt A B Q2 R2 k) := Lib.hid (bits_no HD.out (by rw [HT.out]; exact Hc0.out) HVq.out HVr.out hlt)
        clear hlt
        generalize cmpI (val R2) B = c at *
        go_wp2
        go_roundw
        case rel => exact ⟨k, Q2, R2, by omega, by go_num, HDn, HQ4, HR4, hB4.out⟩
        case measure => simp [intOf]
      · have hc : ¬ cmpI (val R2) B < 0 := by unfold cmpI; split <;> (try split) <;> omega
        have Hge : Hid (val lb ≤ val R2) := Lib.hid (by rw [← HB.out]; omega)
        have Hge2 : Hid (B ≤ val R2) := Lib.hid (by omega)
        clear hlt
        generalize cmpI (val R2) B = c at *
        go_wp2_with fail
        refine (ref05_less w _ _ _ _ R2 _ _ _ lb HR4.out hB4.out Hb.out (by omega) (by omega) Hge).mono ?_
        rintro e w6 ⟨R3, rfl, HR6, hG6, HV6⟩
        have HB6 := Lib.hid (grown_below hB4.out hG6 hbr.1)
        have HQ6 := Lib.hid (HQ4.out.other hG6 hne)
        have HDn := Lib.hid (bits_yes HD.out (by rw [HT.out]; exact Hc0.out) hc1 HVq.out HVr.out Hge2.out (by rw [HV6.out, ← HB.out]) (by rw [HQ4.out.len]; omega) HQ4.out.2)
        have hcell := HQ6.out.cell (k := 0) (by omega)
        have hfro := HQ6.out.1.frozenAt 0
        have huw := HDn.out.2
        obtain ⟨u, huu⟩ : ∃ u, u = atw Q2 0 := ⟨_, rfl⟩
        rw [← huu] at hcell huw
        have HDn2 : Hid (BitsAt A B (Q2.set 0 (u + 1)) R3 k) := Lib.hid (by rw [huu]; exact HDn.out.1)
        have HQ7 := Lib.hid (HQ6.out.set 0 (u + 1) huw)
        have HR7 := Lib.hid (HR6.out.other (grown_cell w6 w.heap.size 0 (.int .u32 ((u + 1 : Nat) : Int))) (Ne.symm hne))
        have HB7 := Lib.hid (HB6.out.setCell (p := ⟨w.heap.size, 0, none⟩) hbq.1 (.int .u32 ((u + 1 : Nat) : Int)))
        clear huu HDn hG6 HQ4 HR4 hB4 HB6 HR6 HQ6
        go_wp2
        go_roundw
        case rel => exact ⟨k, Q2.set 0 (u + 1), R3, by omega, by go_num, HDn2, HQ7, HR7, HB7.out⟩
        case measure => simp [intOf]
end Go.Proofs.YtipcgehcineblaaGreat

/-
  The contracts of the document's answer for layer 8: Floor.
-/
namespace Go.Proofs.YtipcgehcineblaaGreat
open Go.RowKit

end Go.Proofs.YtipcgehcineblaaGreat

/-
  Package whole at this seat: Floor.
-/
namespace Go.Proofs.YtipcgehcineblaaGreat
open Go.RowKit

end Go.Proofs.YtipcgehcineblaaGreat

/-
  Package whole at this seat: Floor, of numbers with one sign.
-/
namespace Go.Proofs.YtipcgehcineblaaGreat
open Go.RowKit

end Go.Proofs.YtipcgehcineblaaGreat

/-
  Package whole at this seat: Floor, of numbers with two signs, where nothing is left.
-/
namespace Go.Proofs.YtipcgehcineblaaGreat
open Go.RowKit

end Go.Proofs.YtipcgehcineblaaGreat

/-
  Package whole at this seat: Floor, of numbers with two signs, where something is left.
-/
namespace Go.Proofs.YtipcgehcineblaaGreat
open Go.RowKit

end Go.Proofs.YtipcgehcineblaaGreat

/-
  Package whole at this seat: what strings.CutPrefix does with a minus ahead.
-/
namespace Go.Proofs.YtipcgehcineblaaGreat
open Go.RowKit

end Go.Proofs.YtipcgehcineblaaGreat

/-
  Plain mathematics: decimal digits in groups of nine. Nothing of the program.
-/
namespace Go.Proofs.YtipcgehcineblaaGreat

end Go.Proofs.YtipcgehcineblaaGreat

/-
  Numerals by the library (strconv.AppendUint, FormatUint at base 10) at this seat, out of the shelf's contracts.
-/
namespace Go.Proofs.YtipcgehcineblaaGreat
open Go.RowKit

end Go.Proofs.YtipcgehcineblaaGreat

/-
  The public strconv.AppendUint and FormatUint at base 10.
-/
namespace Go.Proofs.YtipcgehcineblaaGreat
open Go.RowKit

end Go.Proofs.YtipcgehcineblaaGreat

/-
  Package digits at this seat: full, groups.
-/
namespace Go.Proofs.YtipcgehcineblaaGreat
open Go.RowKit

end Go.Proofs.YtipcgehcineblaaGreat

/-
  Package digits at this seat: Text, Len.
-/
namespace Go.Proofs.YtipcgehcineblaaGreat
open Go.RowKit

end Go.Proofs.YtipcgehcineblaaGreat

/-
  The contracts of package prod (layer 4) at this seat: Word, All.
-/
namespace Go.Proofs.YtipcgehcineblaaGreat
open Go.RowKit

theorem Wds.take {w : World} {a : Option Addr} {n cap : Nat} {ls : List (List Nat)} (h : Wds w a n cap ls) {k : Nat} (hk : k ≤ n) : Wds w a k cap (ls.take k) := by
  obtain ⟨h1, h2, h3, h4, h5⟩ := h
  refine ⟨by rw [List.length_take]; omega, by omega, h3, h4, ?_⟩
  rcases h5 with h0 | ⟨b, off, e, hc⟩
  · exact .inl (by omega)
  · refine .inr ⟨b, off, e, fun j hj => ?_⟩
    obtain ⟨a', n', c', h6, h7⟩ := hc j (by omega)
    refine ⟨a', n', c', h6, ?_⟩
    rwa [List.getD_eq_getElem?_getD, List.getElem?_take, if_pos hj, ← List.getD_eq_getElem?_getD]
theorem Wds.drop {w : World} {b off m cap q : Nat} {ls : List (List Nat)} (h : Wds w (some ⟨b, off, none⟩) (q + m) cap ls) : Wds w (some ⟨b, off + q, none⟩) m (cap - q) (ls.drop q) := by
  have h1 := h.bound
  have h2 := h.len
  refine ⟨by rw [List.length_drop]; omega, by omega, by omega, fun e => (by cases e), ?_⟩
  rcases h.2.2.2.2 with h0 | ⟨b', off', e, hc⟩
  · exact .inl (by omega)
  · simp only [Option.some.injEq, Addr.mk.injEq, and_true] at e
    obtain ⟨rfl, rfl⟩ := e
    refine .inr ⟨b, off + q, rfl, fun j hj => ?_⟩
    obtain ⟨a', n', c', h6, h7⟩ := hc (q + j) (by omega)
    exact ⟨a', n', c', by rw [Nat.add_assoc]; exact h6, by rwa [List.getD_eq_getElem?_getD, List.getElem?_drop, ← List.getD_eq_getElem?_getD]⟩

set_option maxRecDepth 4096 in
set_option maxHeartbeats 1000000 in
theorem prod_word (a : Option Addr) (n cap : Nat) (l : List Nat) (x c0 : Nat) (w : World) (h : Wd w a n cap l) (hn : n ≤ 4194304000000) (hx : x < 4294967296) (hc0 : c0 < 4294967296) :
    Calls Tryz.prog 136 #[.slice a n cap, .int .u32 (x : Int), .int .u32 (c0 : Int)] w (Lst (dg (val l * x + c0)) w) := by
  obtain ⟨i0, hi, hz0, hz1, hz2⟩ := info_parts infoU32
  have H := Lib.hid h
  clear h
  go_enter Tryz.func136, Tryz.ntmps136
  go_wp2_with (at_make; refine wpList_make_words _ rfl _ _ 23 rfl w.heap.size 58 i0 (.int .u32 0) Tryz.underlying23 hi hz0 hz1 rfl .i64 .i64 _ _ 0 (n + 1) rfl rfl (by omega) (by omega) (by omega) (by rw [hz2]; omega) (by unfold maxLen; omega) (Nat.le_refl _) ?_; intro w1 hown1 hgrow1)
  rw [zeros_cells] at hown1
  have HO1 : Hid (Own w1 w.heap.size w.heap.size 0 (n + 1) []) := Lib.hid ⟨hown1, okw_nil⟩
  have hB1 : Below w.heap.size w w1 := (Below.refl _ _).grown hgrow1 (Nat.le_refl _) (fun k hk => by cases hk)
  clear hown1 hgrow1
  go_loopw [7, 8, 19] (fun s cv i wr => ∃ (j c g cap2 : Nat) (o : List Nat), j ≤ n ∧ i = .int .i64 (j : Int) ∧ cv = .int .u32 (c : Int) ∧ c < 4294967296 ∧ s = .slice (some ⟨g, 0, none⟩) j cap2 ∧ Hid (o.length = j) ∧ Hid (val o + 4294967296 ^ j * c = low l j * x + c0) ∧ Hid (Own wr w.heap.size g j cap2 o) ∧ Below w.heap.size w wr) (fun _ _ i _ => n - (intOf i).toNat)
  case atStart => exact ⟨0, c0, _, _, [], by omega, rfl, rfl, hc0, rfl, Lib.hid rfl, Lib.hid (by rw [low_zero]; simp [val]), HO1, hB1⟩
  case round =>
    clear HO1 hB1
    obtain ⟨j, c, g, cap2, o, hj, rfl, rfl, hc, rfl, Hol, Hv, HO, hB⟩ := hrel
    have hbase : w.heap.size ≤ wr.heap.size := hB.size
    by_cases hlt : j < n
    · obtain ⟨b, off, rfl, hcl⟩ := (H.out.later hB).at (by omega)
      have hck := hcl j hlt
      have hyw := atw_lt H.out.ok j
      obtain ⟨y, hyy⟩ : ∃ y, y = atw l j := ⟨_, rfl⟩
      rw [← hyy] at hyw hck
      have Hy := Lib.hid hyy
      have hj1 : (j : Int) < (n : Int) := by omega
      clear hcl hyy
      go_wp2_with fail
      refine (limb_mul_nat3 y x c _ hyw hx hc).mono ?_
      rintro e w' ⟨c2, z, rfl, hc2, hz, Hs, rfl⟩
      go_wp2_with (at_builtin; refine wpList_append_own _ rfl _ _ 23 rfl w.heap.size 58 i0 (.int .u32 0) 1 4 Tryz.underlying23 hi hz0 hz1 hz2 rfl (by decide) _ j _ rfl (HO.out.1.alloc _) ⟨wr.heap.size, 0, none⟩ 1 1 (wcells [z]) rfl rfl (Wd.lit1 wr 58 (x := z) hz).cells (wcells_one _) (by unfold maxLen; omega) (by omega) (by simp; omega) ?_)
      intro v' w2 hown hgrow _
      obtain ⟨g2, cap3, rfl, HO2⟩ := Own.push (r := z) hown HO.out.2 hz
      have HO' := Lib.hid HO2
      have hb := HO.out.base
      have hB1 : Below w.heap.size w w2 := (hB.alloc hbase _).grown hgrow (by simp; omega) (by intro k hk; simp [Value.ownBlock] at hk; omega)
      clear HO2 hown hgrow
      go_wp2
      go_roundw
      case rel => exact ⟨j + 1, c2, g2, cap3, o ++ [z], by omega, by go_num, rfl, hc2, rfl, Lib.hid (by have := Hol.out; simp; omega), Lib.hid (word_step Hol.out Hv.out (by rw [← Hy.out]; exact Hs.out)), HO', hB1⟩
      case measure => simp [intOf]; omega
    · obtain rfl : j = n := by omega
      have Hv2 : Hid (val (o ++ [c]) = val l * x + c0) := Lib.hid (by rw [val_snoc, Hol.out, Hv.out, low_ge (by rw [H.out.len]; omega)])
      clear hlt Hv
      go_wp2_with (at_builtin; refine wpList_append_own _ rfl _ _ 23 rfl w.heap.size 58 i0 (.int .u32 0) 1 4 Tryz.underlying23 hi hz0 hz1 hz2 rfl (by decide) _ j _ rfl (HO.out.1.alloc _) ⟨_, 0, none⟩ 1 1 (wcells [c]) rfl rfl (Wd.lit1 _ 58 (x := c) hc).cells (wcells_one _) (by unfold maxLen; omega) (by omega) (by simp; omega) ?_)
      intro v' w2 hown hgrow _
      obtain ⟨g2, cap3, rfl, HO2⟩ := Own.push (r := c) hown HO.out.2 hc
      have HO' := Lib.hid HO2
      have hb := HO.out.base
      have hB1 : Below w.heap.size w w2 := (hB.alloc hbase _).grown hgrow (by simp; omega) (by intro k hk; simp [Value.ownBlock] at hk; omega)
      clear HO2 hown hgrow
      go_wp2_with fail
      refine (natSaid.norm _ _ _ _ _ HO'.out.wd (by omega)).mono ?_
      rintro e w' ⟨a', n', c', rfl, hwd, hbel⟩
      rw [Hv2.out] at hwd
      have HWD := Lib.hid hwd
      clear hwd
      go_wp2
      go_ret
      exact ⟨_, _, _, rfl, HWD.out, below_then hB1 hbel⟩
end Go.Proofs.YtipcgehcineblaaGreat

/-
  Package digits at this seat: wrongAt, Read.
-/
namespace Go.Proofs.YtipcgehcineblaaGreat
open Go.RowKit

end Go.Proofs.YtipcgehcineblaaGreat

/-
  Package whole at this seat: Read.
-/
namespace Go.Proofs.YtipcgehcineblaaGreat
open Go.RowKit

end Go.Proofs.YtipcgehcineblaaGreat

/-
  What package digits' functions owe, proved.
-/
namespace Go.Proofs.YtipcgehcineblaaGreat
open Go.RowKit

end Go.Proofs.YtipcgehcineblaaGreat

/-
  What package whole's functions owe, proved.
-/
namespace Go.Proofs.YtipcgehcineblaaGreat
open Go.RowKit

end Go.Proofs.YtipcgehcineblaaGreat

/-
  What package common's functions owe (layer 6), as one hypothesis: the contracts that the laws' walks lean on.
-/
namespace Go.Proofs.YtipcgehcineblaaGreat
open Go.RowKit

/-- Two lists of words come back. -/
def Pair2 (p q : List Nat) (w : World) (e : Ending) (w' : World) : Prop :=
  ∃ (a : Option Addr) (n cap : Nat) (b : Option Addr) (m cap' : Nat), e = .returned (.tuple #[.slice a n cap, .slice b m cap']) ∧ Wd w' a n cap p ∧ Wd w' b m cap' q ∧ Below w.heap.size w w'
structure CommonSaid : Prop where
  gcd : ∀ (a : Option Addr) (n cap : Nat) (la : List Nat) (b : Option Addr) (m cap' : Nat) (lb : List Nat) (w : World), Wd w a n cap la → Wd w b m cap' lb → n ≤ 1000 → m ≤ 1000 →
    Calls Tryz.prog 103 #[.slice a n cap, .slice b m cap'] w (Lst (dg (Nat.gcd (val la) (val lb))) w)
  cancel : ∀ (a : Option Addr) (n cap : Nat) (la : List Nat) (b : Option Addr) (m cap' : Nat) (lb : List Nat) (w : World), Wd w a n cap la → Wd w b m cap' lb → n ≤ 1000 → m ≤ 1000 →
    Calls Tryz.prog 79 #[.slice a n cap, .slice b m cap'] w (Pair2 (dg (val la / Nat.gcd (val la) (val lb))) (dg (val lb / Nat.gcd (val la) (val lb))) w)
end Go.Proofs.YtipcgehcineblaaGreat

/-
  Plain mathematics: the common divisor by Euclid's way from the heads of two numbers. Nothing of the program.
-/
namespace Go.Proofs.YtipcgehcineblaaGreat

/-- By how much so many times the one and so many times the other differ. -/
def gapOf (A B x z : Nat) : Nat := x * A - z * B + (z * B - x * A)
theorem gapOf_two (A B : Nat) : gapOf A B 0 1 = B := by unfold gapOf; omega
/-- Counts on the way from α and β: a and b are the last two rests. -/
structure Way (α β a b ya yb na nb : Nat) : Prop where
  side : (ya * α = a + yb * β ∧ nb * β = b + na * α ∧ ya * nb = yb * na + 1) ∨ (yb * β = a + ya * α ∧ na * α = b + nb * β ∧ yb * na = ya * nb + 1)
  sum : nb * a + yb * b = α
  le : na ≤ nb
  les : ya + na ≤ yb + nb
  pos : 1 ≤ nb
  ord : b ≤ a
theorem way_start {α β : Nat} (h : β ≤ α) : Way α β α β 1 0 0 1 := ⟨.inl ⟨by omega, by omega, by omega⟩, by omega, by omega, by omega, by omega, h⟩
theorem way_step {α β a b ya yb na nb : Nat} (h : Way α β a b ya yb na nb) (hb : nb ≤ b) : Way α β b (a % b) na nb (ya + a / b * na) (yb + a / b * nb) := by
  have h0 : 0 < b := by have := h.pos; omega
  have hq := Nat.div_add_mod a b
  have hr := Nat.mod_lt a h0
  have hq1 : 1 ≤ a / b := (Nat.le_div_iff_mul_le h0).2 (by have := h.ord; omega)
  generalize a / b = q at *
  generalize a % b = r at *
  subst hq
  have e1 : b * q * nb = q * nb * b := by rw [Nat.mul_comm b q, Nat.mul_assoc, Nat.mul_comm b nb, ← Nat.mul_assoc]
  refine ⟨?_, ?_, ?_, ?_, ?_, by omega⟩
  · have p1 : ∀ z : Nat, q * na * z = q * (na * z) := fun z => Nat.mul_assoc _ _ _
    have p2 : ∀ z : Nat, q * nb * z = q * (nb * z) := fun z => Nat.mul_assoc _ _ _
    have p3 : nb * (q * na) = q * (nb * na) := by rw [Nat.mul_left_comm]
    have p4 : na * (q * nb) = q * (nb * na) := by rw [Nat.mul_left_comm, Nat.mul_comm na nb]
    have p5 : b * q = q * b := Nat.mul_comm _ _
    have p6 : na * yb = yb * na := Nat.mul_comm _ _
    have p7 : nb * ya = ya * nb := Nat.mul_comm _ _
    rcases h.side with ⟨h1, h2, h3⟩ | ⟨h1, h2, h3⟩
    · have h4 : q * (nb * β) = q * b + q * (na * α) := by rw [h2, Nat.mul_add]
      right
      refine ⟨by omega, ?_, ?_⟩
      · rw [Nat.add_mul, Nat.add_mul, p1, p2]; omega
      · rw [Nat.mul_add, Nat.mul_add, p3, p4]; omega
    · have h4 : q * (na * α) = q * b + q * (nb * β) := by rw [h2, Nat.mul_add]
      left
      refine ⟨by omega, ?_, ?_⟩
      · rw [Nat.add_mul, Nat.add_mul, p1, p2]; omega
      · rw [Nat.mul_add, Nat.mul_add, p3, p4]; omega
  · have h1 := h.sum
    rw [Nat.add_mul, ← h1, Nat.mul_add nb, show nb * (b * q) = q * nb * b by rw [← e1, Nat.mul_comm]]
    omega
  · obtain ⟨k, rfl⟩ : ∃ k, q = k + 1 := ⟨q - 1, by omega⟩
    have h1 : k * na ≤ k * nb := Nat.mul_le_mul_left _ h.le
    have h2 := h.les
    rw [Nat.add_mul, Nat.add_mul]; omega
  · have h1 : q * na ≤ q * nb := Nat.mul_le_mul_left _ h.le
    have h2 := h.les
    have h3 := h.le
    omega
  · have h1 : 1 * nb ≤ q * nb := Nat.mul_le_mul_right _ hq1
    have h2 := h.pos
    omega
/-- Where Collins' condition holds, the numbers behind the heads go the same way. -/
theorem way_true {A B M a b ya yb na nb : Nat} (hM : 0 < M) (h : Way (A / M) (B / M) a b ya yb na nb) (hb : nb ≤ b) (hab : yb + nb ≤ a - b) :
    gapOf A B na nb < gapOf A B ya yb ∧ Nat.gcd (gapOf A B ya yb) (gapOf A B na nb) = Nat.gcd A B := by
  have hA := Nat.div_add_mod A M
  have hB := Nat.div_add_mod B M
  have hA0 := Nat.mod_lt A hM
  have hB0 := Nat.mod_lt B hM
  generalize A / M = α at *
  generalize B / M = β at *
  generalize A % M = A0 at *
  generalize B % M = B0 at *
  obtain ⟨d, rfl⟩ : ∃ d, a = b + d := ⟨a - b, by have := h.ord; omega⟩
  have hd : yb + nb ≤ d := by omega
  have hle := h.le
  have hles := h.les
  have hpos := h.pos
  -- what stands behind the heads weighs less than a step of theirs
  have k1 : na * A0 ≤ b * M := Nat.mul_le_mul (by omega) (by omega)
  have k2 : nb * B0 ≤ b * M := Nat.mul_le_mul (by omega) (by omega)
  have k3 : (yb + nb) * M ≤ d * M := Nat.mul_le_mul_right _ hd
  have k4 : (yb + nb) * B0 < (yb + nb) * M := Nat.mul_lt_mul_of_pos_left hB0 (by omega)
  have k5 : (ya + na) * A0 ≤ (yb + nb) * A0 := Nat.mul_le_mul_right _ hles
  have k6 : (yb + nb) * A0 < (yb + nb) * M := Nat.mul_lt_mul_of_pos_left hA0 (by omega)
  simp only [Nat.add_mul] at k3 k4 k5 k6
  have x1 : ∀ z : Nat, z * (M * α + A0) = M * (z * α) + z * A0 := fun z => by rw [Nat.mul_add, Nat.mul_left_comm]
  have x2 : ∀ z : Nat, z * (M * β + B0) = M * (z * β) + z * B0 := fun z => by rw [Nat.mul_add, Nat.mul_left_comm]
  have y1 := x1 ya
  have y2 := x2 yb
  have y3 := x1 na
  have y4 := x2 nb
  rw [hA] at y1 y3
  rw [hB] at y2 y4
  have hbM : b * M = M * b := Nat.mul_comm _ _
  have hdM : d * M = M * d := Nat.mul_comm _ _
  rcases h.side with ⟨h1, h2, h3⟩ | ⟨h1, h2, h3⟩
  · have z1 : M * (ya * α) = M * b + M * d + M * (yb * β) := by rw [h1, Nat.mul_add, Nat.mul_add]
    have z2 : M * (nb * β) = M * b + M * (na * α) := by rw [h2, Nat.mul_add]
    have g1 : yb * B ≤ ya * A := by omega
    have g2 : na * A ≤ nb * B := by omega
    have r1 : gapOf A B ya yb = ya * A - yb * B := by unfold gapOf; omega
    have r2 : gapOf A B na nb = nb * B - na * A := by unfold gapOf; omega
    rw [r1, r2]
    refine ⟨by omega, ?_⟩
    obtain ⟨R, hR⟩ : ∃ R, ya * A = R + yb * B := ⟨ya * A - yb * B, by omega⟩
    obtain ⟨S, hS⟩ : ∃ S, nb * B = S + na * A := ⟨nb * B - na * A, by omega⟩
    rw [hR, hS, Nat.add_sub_cancel, Nat.add_sub_cancel]
    have eA : A = nb * R + yb * S := by
      have e1 : nb * (ya * A) = nb * R + nb * (yb * B) := by rw [hR, Nat.mul_add]
      have e2 : yb * (nb * B) = yb * S + yb * (na * A) := by rw [hS, Nat.mul_add]
      have e3 : nb * (yb * B) = yb * (nb * B) := Nat.mul_left_comm _ _ _
      have e4 : nb * (ya * A) = yb * (na * A) + A := by rw [← Nat.mul_assoc, Nat.mul_comm nb ya, h3, Nat.add_mul, Nat.mul_assoc, Nat.one_mul]
      omega
    have eB : B = na * R + ya * S := by
      have e1 : na * (ya * A) = na * R + na * (yb * B) := by rw [hR, Nat.mul_add]
      have e2 : ya * (nb * B) = ya * S + ya * (na * A) := by rw [hS, Nat.mul_add]
      have e3 : na * (ya * A) = ya * (na * A) := Nat.mul_left_comm _ _ _
      have e4 : ya * (nb * B) = na * (yb * B) + B := by rw [← Nat.mul_assoc, h3, Nat.add_mul, Nat.one_mul, Nat.mul_comm yb na, Nat.mul_assoc]
      omega
    apply Nat.dvd_antisymm
    · have d1 := Nat.gcd_dvd_left R S
      have d2 := Nat.gcd_dvd_right R S
      refine Nat.dvd_gcd ?_ ?_
      · conv => rhs; rw [eA]
        exact Nat.dvd_add (Nat.dvd_mul_left_of_dvd d1 _) (Nat.dvd_mul_left_of_dvd d2 _)
      · conv => rhs; rw [eB]
        exact Nat.dvd_add (Nat.dvd_mul_left_of_dvd d1 _) (Nat.dvd_mul_left_of_dvd d2 _)
    · have d1 := Nat.gcd_dvd_left A B
      have d2 := Nat.gcd_dvd_right A B
      refine Nat.dvd_gcd ?_ ?_
      · exact (Nat.dvd_add_iff_left (Nat.dvd_mul_left_of_dvd d2 yb)).2 (hR ▸ Nat.dvd_mul_left_of_dvd d1 ya)
      · exact (Nat.dvd_add_iff_left (Nat.dvd_mul_left_of_dvd d1 na)).2 (hS ▸ Nat.dvd_mul_left_of_dvd d2 nb)
  · have z1 : M * (yb * β) = M * b + M * d + M * (ya * α) := by rw [h1, Nat.mul_add, Nat.mul_add]
    have z2 : M * (na * α) = M * b + M * (nb * β) := by rw [h2, Nat.mul_add]
    have g1 : ya * A ≤ yb * B := by omega
    have g2 : nb * B ≤ na * A := by omega
    have r1 : gapOf A B ya yb = yb * B - ya * A := by unfold gapOf; omega
    have r2 : gapOf A B na nb = na * A - nb * B := by unfold gapOf; omega
    rw [r1, r2]
    refine ⟨by omega, ?_⟩
    obtain ⟨R, hR⟩ : ∃ R, yb * B = R + ya * A := ⟨yb * B - ya * A, by omega⟩
    obtain ⟨S, hS⟩ : ∃ S, na * A = S + nb * B := ⟨na * A - nb * B, by omega⟩
    rw [hR, hS, Nat.add_sub_cancel, Nat.add_sub_cancel]
    have eA : A = nb * R + yb * S := by
      have e1 : nb * (yb * B) = nb * R + nb * (ya * A) := by rw [hR, Nat.mul_add]
      have e2 : yb * (na * A) = yb * S + yb * (nb * B) := by rw [hS, Nat.mul_add]
      have e3 : nb * (yb * B) = yb * (nb * B) := Nat.mul_left_comm _ _ _
      have e4 : yb * (na * A) = nb * (ya * A) + A := by rw [← Nat.mul_assoc, h3, Nat.add_mul, Nat.one_mul, Nat.mul_comm ya nb, Nat.mul_assoc]
      omega
    have eB : B = na * R + ya * S := by
      have e1 : na * (yb * B) = na * R + na * (ya * A) := by rw [hR, Nat.mul_add]
      have e2 : ya * (na * A) = ya * S + ya * (nb * B) := by rw [hS, Nat.mul_add]
      have e3 : na * (ya * A) = ya * (na * A) := Nat.mul_left_comm _ _ _
      have e4 : na * (yb * B) = ya * (nb * B) + B := by rw [← Nat.mul_assoc, Nat.mul_comm na yb, h3, Nat.add_mul, Nat.mul_assoc, Nat.one_mul]
      omega
    apply Nat.dvd_antisymm
    · have d1 := Nat.gcd_dvd_left R S
      have d2 := Nat.gcd_dvd_right R S
      refine Nat.dvd_gcd ?_ ?_
      · conv => rhs; rw [eA]
        exact Nat.dvd_add (Nat.dvd_mul_left_of_dvd d1 _) (Nat.dvd_mul_left_of_dvd d2 _)
      · conv => rhs; rw [eB]
        exact Nat.dvd_add (Nat.dvd_mul_left_of_dvd d1 _) (Nat.dvd_mul_left_of_dvd d2 _)
    · have d1 := Nat.gcd_dvd_left A B
      have d2 := Nat.gcd_dvd_right A B
      refine Nat.dvd_gcd ?_ ?_
      · exact (Nat.dvd_add_iff_left (Nat.dvd_mul_left_of_dvd d1 ya)).2 (hR ▸ Nat.dvd_mul_left_of_dvd d2 yb)
      · exact (Nat.dvd_add_iff_left (Nat.dvd_mul_left_of_dvd d2 nb)).2 (hS ▸ Nat.dvd_mul_left_of_dvd d1 na)
/-- Counts with which the two numbers become two others with the same common divisor: lesser ones, unless xb is 0. -/
structure Good (A B xa xb ya yb : Nat) : Prop where
  lt : gapOf A B ya yb < gapOf A B xa xb
  gcd : Nat.gcd (gapOf A B xa xb) (gapOf A B ya yb) = Nat.gcd A B
  second : gapOf A B ya yb ≤ B
  first : xb = 0 ∨ gapOf A B xa xb ≤ B
/-- What stands at the head of the loop. -/
structure Heads (A B M a b xa xb ya yb na nb : Nat) : Prop where
  way : Way (A / M) (B / M) a b ya yb na nb
  wx : xa < 4294967296 ∧ xb < 4294967296
  wy : ya < 4294967296 ∧ yb < 4294967296
  wn : na < 18446744073709551616 ∧ nb < 18446744073709551616
  here : (xb = 0 ∧ ya = 1 ∧ yb = 0 ∧ na = 0 ∧ nb = 1) ∨ Good A B xa xb ya yb
theorem heads_start {A B M : Nat} (h : B ≤ A) : Heads A B M (A / M) (B / M) 0 0 1 0 0 1 := ⟨way_start (Nat.div_le_div_right h), by omega, by omega, by omega, .inl ⟨rfl, rfl, rfl, rfl, rfl⟩⟩
theorem heads_small {A B M a b xa xb ya yb na nb : Nat} (h : Heads A B M a b xa xb ya yb na nb) (hα : A / M < 18446744073709551616) (hb : nb ≤ b) : na < 4294967296 ∧ nb < 4294967296 := by
  have h1 := h.way.sum
  have h2 := h.way.le
  have h3 := h.way.ord
  have h4 : nb * nb ≤ nb * a := Nat.mul_le_mul_left _ (by omega)
  have h5 : nb < 4294967296 := by
    rcases Nat.lt_or_ge nb 4294967296 with h6 | h6
    · exact h6
    · have h7 : 4294967296 * 4294967296 ≤ nb * nb := Nat.mul_le_mul h6 h6
      omega
  omega
/-- What the step makes stays within 64 bits. -/
theorem heads_room {A B M a b xa xb ya yb na nb : Nat} (h : Heads A B M a b xa xb ya yb na nb) (hα : A / M < 18446744073709551616) (hb : nb ≤ b) :
    a / b * na < 18446744073709551616 ∧ a / b * nb < 18446744073709551616 ∧ ya + a / b * na < 18446744073709551616 ∧ yb + a / b * nb < 18446744073709551616 := by
  have h1 := way_step h.way hb
  have h2 := h1.sum
  have h3 := h1.le
  have h4 := h.way.pos
  have h5 : (yb + a / b * nb) * 1 ≤ (yb + a / b * nb) * b := Nat.mul_le_mul_left _ (by omega)
  omega
theorem heads_step {A B M a b xa xb ya yb na nb : Nat} (hM : 0 < M) (h : Heads A B M a b xa xb ya yb na nb) (hα : A / M < 18446744073709551616) (hb : nb ≤ b) (hab : yb + nb ≤ a - b) :
    Heads A B M b (a % b) ya yb na nb (ya + a / b * na) (yb + a / b * nb) := by
  obtain ⟨_, _, r3, r4⟩ := heads_room h hα hb
  obtain ⟨t1, t2⟩ := way_true hM h.way hb hab
  refine ⟨way_step h.way hb, h.wy, heads_small h hα hb, ⟨r3, r4⟩, .inr ⟨t1, t2, ?_, ?_⟩⟩
  · rcases h.here with ⟨_, rfl, rfl, rfl, rfl⟩ | g
    · rw [gapOf_two]; exact Nat.le_refl _
    · have := g.second; omega
  · rcases h.here with ⟨_, rfl, rfl, rfl, rfl⟩ | g
    · exact .inl rfl
    · exact .inr g.second
/-- The head of a list: its highest places, as many as 64 bits hold. -/
theorem head_word {l : List Nat} {k s : Nat} (ho : okw l) (hs : s ≤ 31) (hv : val l < 2 ^ (32 * (k + 3) - s)) :
    atw l (k + 2) * 4294967296 + atw l (k + 1) < 2 ^ (64 - s) ∧ atw l k / 2 ^ (32 - s) < 2 ^ s ∧ (atw l (k + 2) * 4294967296 + atw l (k + 1)) * 2 ^ s + atw l k / 2 ^ (32 - s) = val l / 2 ^ (32 * k + (32 - s)) := by
  have e1 : val l / 2 ^ (32 * k) = top l k := (top_div ho k).symm
  have e2 : top l k < 2 ^ (96 - s) := by
    rw [← e1]
    rw [Nat.div_lt_iff_lt_mul (Nat.two_pow_pos _), ← Nat.pow_add, show 96 - s + 32 * k = 32 * (k + 3) - s by omega]
    exact hv
  have h1 : top l k = atw l k + 4294967296 * top l (k + 1) := top_succ l k
  have h2 : top l (k + 1) = atw l (k + 1) + 4294967296 * top l (k + 2) := top_succ l (k + 1)
  have h3 : top l (k + 2) = atw l (k + 2) + 4294967296 * top l (k + 3) := top_succ l (k + 2)
  have h4 : 2 ^ (96 - s) ≤ (79228162514264337593543950336 : Nat) := by
    rw [show (79228162514264337593543950336 : Nat) = 2 ^ 96 by decide]
    exact Nat.pow_le_pow_right (by decide) (by omega)
  have hw := atw_lt ho k
  have hP : 2 ^ s * 2 ^ (32 - s) = (4294967296 : Nat) := by rw [← Nat.pow_add, show s + (32 - s) = 32 by omega]
  have hQ : 2 ^ (64 - s) * 4294967296 = 2 ^ (96 - s) := by rw [show (4294967296 : Nat) = 2 ^ 32 by decide, ← Nat.pow_add, show 64 - s + 32 = 96 - s by omega]
  have e5 : val l / 2 ^ (32 * k + (32 - s)) = top l k / 2 ^ (32 - s) := by rw [Nat.pow_add, ← Nat.div_div_eq_div_mul, e1]
  have hp := Nat.two_pow_pos (32 - s)
  rw [e5]
  clear e1 e5 hv
  generalize 2 ^ (32 - s) = P at *
  generalize 2 ^ (96 - s) = Q at *
  generalize 2 ^ (64 - s) = R at *
  generalize 2 ^ s = S at *
  generalize atw l k = x0 at *
  generalize atw l (k + 1) = x1 at *
  generalize atw l (k + 2) = x2 at *
  generalize top l (k + 3) = t3 at *
  generalize top l (k + 2) = t2 at *
  generalize top l (k + 1) = t1 at *
  generalize top l k = t0 at *
  have e3 : t3 = 0 := by omega
  have e4 : t0 = (x2 * 4294967296 + x1) * 4294967296 + x0 := by omega
  refine ⟨by omega, ?_, ?_⟩
  · rw [Nat.div_lt_iff_lt_mul hp, hP]; exact hw
  · have e6 : (x2 * 4294967296 + x1) * 4294967296 = P * ((x2 * 4294967296 + x1) * S) := by
      rw [← hP]
      generalize x2 * (S * P) + x1 = H
      rw [Nat.mul_comm S P, Nat.mul_left_comm]
    rw [e4, e6, Nat.mul_add_div hp]
/-- A number with so many noughts ahead of its first bit. -/
theorem head_room {l : List Nat} {n : Nat} (ho : okw l) (hl : l.length = n) (hn : 3 ≤ n) (h0 : atw l (n - 1) ≠ 0) : val l < 2 ^ (32 * n - (32 - blen (atw l (n - 1)))) := by
  obtain ⟨i, rfl⟩ : ∃ i, n = i + 1 := ⟨n - 1, by omega⟩
  rw [Nat.add_sub_cancel] at h0 ⊢
  have h1 := blen_top ho (i := i) (by rw [top_ge (by omega)]) h0
  have h2 := lt_blen (val l)
  have h3 : blen (atw l i) ≤ 32 := blen_le.2 (atw_lt ho i)
  rw [h1] at h2
  rw [show 32 * (i + 1) - (32 - blen (atw l i)) = 32 * i + blen (atw l i) by omega]
  exact h2
/-- Euclid's step. -/
theorem gcd_rest {X Y : Nat} (h : Y ≠ 0) : Nat.gcd Y (X % Y) = Nat.gcd X Y ∧ X % Y < Y := by
  refine ⟨?_, Nat.mod_lt _ (Nat.pos_of_ne_zero h)⟩
  rw [Nat.gcd_comm X Y, Nat.gcd_rec Y X, Nat.gcd_comm]
end Go.Proofs.YtipcgehcineblaaGreat
