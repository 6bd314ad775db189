/-
  Several texts of this claim as one, group 8.
-/
import Derived.Test.YteoeicfbaffjcaaGreatDoorG4
import Derived.Test.YteoeicfbaffjcaaGreatDoorG5
import Derived.Test.YteoeicfbaffjcaaGreatDoorG6
import Derived.Test.YteoeicfbaffjcaaGreatDoorG1
import Derived.BigRegion
import Derived.StillTailTactics
import Derived.Test.YteoeicfbaffjcaaGreatDoorG7
import Derived.Deep.RegionHeld3
/-
  The contracts of the document's answer for layer 5: Double, Less.
-/
namespace Go.Proofs.YteoeicfbaffjcaaGreatDoor
open Go.RowKit

/-- P doubled, with c0 more, k words of it done: c is carried; what stands from place k on is P's. -/
def DoubleAt (P R : List Nat) (k c c0 : Nat) : Prop := val R + 4294967296 ^ k * c = val P + low P k + c0 ∧ ∀ j, k ≤ j → atw R j = atw P j
theorem double_start (P : List Nat) (c0 : Nat) : DoubleAt P P 0 c0 c0 := ⟨by rw [low_zero]; simp, fun _ _ => rfl⟩
theorem double_step {P R : List Nat} {k c c0 r z : Nat} (h : DoubleAt P R k c c0) (hk : k < R.length) (hs : r + 4294967296 * z = 2 * atw P k + c) : DoubleAt P (R.set k r) (k + 1) z c0 := by
  refine ⟨?_, fun j hj => by rw [atw_set_ne (by omega)]; exact h.2 j (by omega)⟩
  have h1 := val_set R k r hk
  rw [h.2 k (Nat.le_refl _)] at h1
  have h2 := give_word (c := c) (u := atw P k) (d := atw P k) (z := z) h1 (by omega)
  have h3 := h.1
  rw [low_succ]
  generalize val (R.set k r) = a1 at *
  generalize 4294967296 ^ (k + 1) * z = a2 at *
  generalize 4294967296 ^ k * c = a3 at *
  generalize 4294967296 ^ k * atw P k = a4 at *
  omega
theorem double_end {P R : List Nat} {k c c0 : Nat} (h : DoubleAt P R k c c0) (hk : P.length = k) : val R + 4294967296 ^ k * c = 2 * val P + c0 := by
  have h1 := h.1
  rw [low_ge (by omega)] at h1
  omega
/-- P less D, k words of it done: s is owed. -/
def LessAt (P D R : List Nat) (k s : Nat) : Prop := val R + low D k = val P + 4294967296 ^ k * s ∧ ∀ j, k ≤ j → atw R j = atw P j
theorem less_start (P D : List Nat) : LessAt P D P 0 0 := ⟨by rw [low_zero], fun _ _ => rfl⟩
theorem less_step {P D R : List Nat} {k s r z : Nat} (h : LessAt P D R k s) (hk : k < R.length) (hs : atw P k + 4294967296 * z = atw D k + s + r) : LessAt P D (R.set k r) (k + 1) z := by
  refine ⟨?_, fun j hj => by rw [atw_set_ne (by omega)]; exact h.2 j (by omega)⟩
  have h1 := val_set R k r hk
  rw [h.2 k (Nat.le_refl _)] at h1
  have h2 := take_word h1 hs rfl
  have h3 := h.1
  rw [Nat.mul_add] at h2
  rw [low_succ]
  generalize val (R.set k r) = a1 at *
  generalize 4294967296 ^ (k + 1) * z = a2 at *
  generalize 4294967296 ^ k * atw D k = a3 at *
  generalize 4294967296 ^ k * s = a4 at *
  omega
theorem less_end {P D R : List Nat} {k s : Nat} (h : LessAt P D R k s) (hR : okw R) (hk : R.length = k) (hD : D.length ≤ k) (hle : val D ≤ val P) : val R = val P - val D := by
  have h1 := h.1
  have h2 := val_lt hR
  rw [hk] at h2
  rw [low_ge hD] at h1
  rcases Nat.eq_zero_or_pos s with h0 | h0
  · subst h0; omega
  · have h3 : 4294967296 ^ k * 1 ≤ 4294967296 ^ k * s := Nat.mul_le_mul_left _ h0
    generalize 4294967296 ^ k * s = a4 at *
    generalize 4294967296 ^ k = a5 at *
    omega

def DoublePost (base g N cap c0 : Nat) (P : List Nat) (w : World) (e : Ending) (w' : World) : Prop :=
  ∃ (P' : List Nat) (z : Nat), e = .returned (.tuple #[]) ∧ Hid (Own w' base g N cap P') ∧ w.grownBy w' (some g) ∧ Hid (val P' + 4294967296 ^ N * z = 2 * val P + c0)
set_option maxRecDepth 4096 in
set_option maxHeartbeats 2000000 in
theorem ref05_double (base g N cap c0 : Nat) (more : Bool) (P : List Nat) (w : World) (hO : Own w base g N cap P) (hN : N ≤ 2000000) (hm : c0 = if more = true then 1 else 0) :
    Calls Tryz.prog 113 #[.slice (some ⟨g, 0, none⟩) N cap, .bool more] w (DoublePost base g N cap c0 P w) := by
  have HO0 := Lib.hid hO
  have HPl := Lib.hid hO.len
  have HPo := Lib.hid hO.2
  have hc0 : c0 ≤ 1 := by rw [hm]; split <;> omega
  have HM := Lib.hid hm
  clear hO hm
  go_enter Tryz.func113, Tryz.ntmps113
  cases more
  all_goals (
    go_wp2
    go_loopw [4, 5] (fun cv kv wr => ∃ (k c : Nat) (R : List Nat), k ≤ N ∧ kv = .int .i64 (k : Int) ∧ cv = .int .u32 (c : Int) ∧ c ≤ 1 ∧ Hid (DoubleAt P R k c c0) ∧ Hid (Own wr base g N cap R) ∧ w.grownBy wr (some g)) (fun _ kv _ => N - (intOf kv).toNat)
    case atStart => exact ⟨0, c0, P, by omega, rfl, by rw [HM.out]; rfl, hc0, Lib.hid (double_start _ _), HO0, grown_refl _ _⟩
    case round =>
      obtain ⟨k, c, R, hk, rfl, rfl, hc, HD, HO, hG⟩ := hrel
      by_cases hlt : k < N
      · have hcell := HO.out.cell (k := k) hlt
        rw [HD.out.2 k (Nat.le_refl _)] at hcell
        have hfro := HO.out.1.frozenAt k
        have huw := atw_lt HPo.out k
        obtain ⟨u, huu⟩ : ∃ u, u = atw P k := ⟨_, rfl⟩
        rw [← huu] at huw hcell
        have Hu := Lib.hid huu
        have hki : (k : Int) < (N : Int) := by omega
        obtain ⟨z, hz⟩ : ∃ z : Nat, (u : Int) / 2147483648 = (z : Int) := ⟨u / 2147483648, by omega⟩
        obtain ⟨v, hv⟩ : ∃ v : Nat, (u : Int) * 2 % 4294967296 = (v : Int) := ⟨u * 2 % 4294967296, by omega⟩
        obtain ⟨r, hr⟩ : ∃ r : Nat, (v : Int) + (c : Int) = (r : Int) := ⟨v + c, by omega⟩
        have Hs : Hid (r + 4294967296 * z = 2 * u + c) := Lib.hid (by omega)
        have hz1 : z ≤ 1 := by omega
        have hrw : r < 4294967296 := by omega
        have HOs := Lib.hid (HO.out.set k r hrw)
        have hGs := Lib.hid (grown_then hG (grown_cell _ g k (.int .u32 (r : Int))))
        clear huu
        go_wp2
        go_roundw
        case rel => exact ⟨k + 1, z, R.set k r, by omega, by go_num, rfl, hz1, Lib.hid (double_step HD.out (by rw [HO.out.len]; omega) (by rw [← Hu.out]; exact Hs.out)), HOs, hGs.out⟩
        case measure => simp [intOf]; omega
      · obtain rfl : k = N := by omega
        have Hfin := Lib.hid (double_end HD.out HPl.out)
        go_wp2
        go_end0
        exact ⟨R, c, rfl, HO, hG, Hfin⟩)
def LessPost (base g N cap : Nat) (P D : List Nat) (w : World) (e : Ending) (w' : World) : Prop :=
  ∃ (P' : List Nat), e = .returned (.tuple #[]) ∧ Hid (Own w' base g N cap P') ∧ w.grownBy w' (some g) ∧ Hid (val P' = val P - val D)
set_option maxRecDepth 4096 in
set_option maxHeartbeats 2000000 in
theorem ref05_less (w0 w : World) (g N cap : Nat) (P : List Nat) (d : Option Addr) (m dcap : Nat) (D : List Nat) (hO : Own w w0.heap.size g N cap P) (hB : Below w0.heap.size w0 w) (hd : Wd w0 d m dcap D) (hN : N ≤ 2000000) (hm : m ≤ N) (hle : Hid (val D ≤ val P)) :
    Calls Tryz.prog 72 #[.slice (some ⟨g, 0, none⟩) N cap, .slice d m dcap] w (LessPost w0.heap.size g N cap P D w) := by
  have HO0 := Lib.hid hO
  have HPl := Lib.hid hO.len
  have HPo := Lib.hid hO.2
  have HD := Lib.hid hd
  clear hO hd
  go_enter Tryz.func72, Tryz.ntmps72
  go_wp2
  go_loopw [4, 5] (fun sv kv wr => ∃ (k s : Nat) (R : List Nat), k ≤ N ∧ kv = .int .i64 (k : Int) ∧ sv = .int .u64 (s : Int) ∧ s ≤ 1 ∧ Hid (LessAt P D R k s) ∧ Hid (Own wr w0.heap.size g N cap R) ∧ w.grownBy wr (some g)) (fun _ kv _ => N - (intOf kv).toNat)
  case atStart => exact ⟨0, 0, P, by omega, rfl, rfl, by omega, Lib.hid (less_start _ _), HO0, grown_refl _ _⟩
  case round =>
    obtain ⟨k, s, R, hk, rfl, rfl, hs, HL, HO, hG⟩ := hrel
    have hbase := HO.out.base
    by_cases hlt : k < N
    · have hcell := HO.out.cell (k := k) hlt
      rw [HL.out.2 k (Nat.le_refl _)] at hcell
      have hfro := HO.out.1.frozenAt k
      have huw := atw_lt HPo.out k
      obtain ⟨u, huu⟩ : ∃ u, u = atw P k := ⟨_, rfl⟩
      rw [← huu] at huw hcell
      have Hu := Lib.hid huu
      have hki : (k : Int) < (N : Int) := by omega
      clear huu
      go_wp2_with fail
      refine (ref02_at _ _ _ k _ _ (HD.out.later (grown_below hB hG hbase.1)) (by omega)).mono ?_
      rintro e w' ⟨rfl, rfl⟩
      have hdw := atw_lt HD.out.ok k
      obtain ⟨b, hbb⟩ : ∃ b, b = atw D k := ⟨_, rfl⟩
      rw [← hbb] at hdw ⊢
      have Hb := Lib.hid hbb
      clear hbb
      obtain ⟨y, hy⟩ : ∃ y : Nat, (b : Int) + (s : Int) = (y : Int) := ⟨b + s, by omega⟩
      have Hy : Hid (y = b + s) := Lib.hid (by omega)
      have hyb : y ≤ 4294967296 := by omega
      by_cases hxy : u < y
      · obtain ⟨x, hx⟩ : ∃ x : Nat, (u : Int) + 4294967296 = (x : Int) := ⟨u + 4294967296, by omega⟩
        obtain ⟨r, hr⟩ : ∃ r : Nat, (x : Int) - (y : Int) = (r : Int) := ⟨x - y, by omega⟩
        have hrw : r < 4294967296 := by omega
        have HS : Hid (u + 4294967296 * 1 = b + s + r) := Lib.hid (by have := Hy.out; omega)
        have HOs := Lib.hid (HO.out.set k r hrw)
        have hGs := Lib.hid (grown_then hG (grown_cell _ g k (.int .u32 (r : Int))))
        go_wp2
        go_roundw
        case rel => exact ⟨k + 1, 1, R.set k r, by omega, by go_num, rfl, by omega, Lib.hid (less_step HL.out (by rw [HO.out.len]; omega) (by rw [← Hu.out, ← Hb.out]; exact HS.out)), HOs, hGs.out⟩
        case measure => simp [intOf]; omega
      · obtain ⟨r, hr⟩ : ∃ r : Nat, (u : Int) - (y : Int) = (r : Int) := ⟨u - y, by omega⟩
        have hrw : r < 4294967296 := by omega
        have HS : Hid (u + 4294967296 * 0 = b + s + r) := Lib.hid (by have := Hy.out; omega)
        have HOs := Lib.hid (HO.out.set k r hrw)
        have hGs := Lib.hid (grown_then hG (grown_cell _ g k (.int .u32 (r : Int))))
        go_wp2
        go_roundw
        case rel => exact ⟨k + 1, 0, R.set k r, by omega, by go_num, rfl, by omega, Lib.hid (less_step HL.out (by rw [HO.out.len]; omega) (by rw [← Hu.out, ← Hb.out]; exact HS.out)), HOs, hGs.out⟩
        case measure => simp [intOf]; omega
    · obtain rfl : k = N := by omega
      have Hfin : Hid (val R = val P - val D) := Lib.hid (less_end HL.out HO.out.2 HO.out.len (by rw [HD.out.len]; exact hm) hle.out)
      go_wp2
      go_end0
      exact ⟨R, rfl, HO, hG, Hfin⟩
end Go.Proofs.YteoeicfbaffjcaaGreatDoor

/-
  The contracts of the document's answer for layer 3.
-/
namespace Go.Proofs.YteoeicfbaffjcaaGreatDoor
open Go.RowKit

theorem bitI_nat (v i : Nat) : bitI v (i : Int) = v.testBit i := by unfold bitI; rw [decide_eq_true (by omega)]; rfl
theorem ref03_has_neg (a : Option Addr) (n cap : Nat) (i : Int) (w : World) (h : i < 0) :
    Calls Tryz.prog 138 #[.slice a n cap, .int .i64 i] w fun e w' => e = .returned (.bool false) ∧ w = w' := by
  go_enter Tryz.func138, Tryz.ntmps138
  go_wp2
  go_ret
  exact ⟨rfl, rfl⟩
theorem ref03_has_nat (a : Option Addr) (n cap : Nat) (l : List Nat) (i : Nat) (w : World) (h : Wd w a n cap l) (hi : i ≤ 9223372036854775807) :
    Calls Tryz.prog 138 #[.slice a n cap, .int .i64 (i : Int)] w fun e w' => e = .returned (.bool ((val l).testBit i)) ∧ w = w' := by
  obtain ⟨hb1, hb2⟩ := h.bound
  have H := Lib.hid h
  clear h
  by_cases hlt : i / 32 < n
  · obtain ⟨b, off, rfl, hc⟩ := H.out.at (by omega)
    have hck := hc (i / 32) hlt
    have hx := atw_lt H.out.ok (i / 32)
    clear hc
    have Hfin : Hid ((val l).testBit i = decide (atw l (i / 32) / 2 ^ (i % 32) % 2 = 1)) := Lib.hid (low_bit l H.out.ok i)
    obtain ⟨x, hxx⟩ : ∃ x, x = atw l (i / 32) := ⟨_, rfl⟩
    rw [← hxx] at hck hx Hfin
    clear hxx
    go_enter Tryz.func138, Tryz.ntmps138
    go_wp2
    go_loop [5, 6] (fun xv kv => ∃ k y : Nat, k ≤ i % 32 ∧ kv = .int .i64 (k : Int) ∧ xv = .int .u32 (y : Int) ∧ y < 4294967296 ∧ Hid (y = x / 2 ^ k)) (fun _ kv => 32 - (intOf kv).toNat)
    case atStart => exact ⟨0, x, by omega, rfl, rfl, hx, Lib.hid (by simp)⟩
    case round =>
      obtain ⟨k, y, hk, rfl, rfl, hy, Hy⟩ := hrel
      by_cases hkr : k < i % 32
      · have hki : (k : Int) < (i : Int) % 32 := by omega
        go_wp2
        go_round
        case rel => exact ⟨k + 1, y / 2, by omega, by go_num, by go_num, by omega, Lib.hid (by rw [Hy.out, Nat.pow_succ, Nat.div_div_eq_div_mul])⟩
        case measure => simp [intOf]; omega
      · have hki : (i : Int) % 32 ≤ (k : Int) := by omega
        have Hk : Hid (k = i % 32) := Lib.hid (by omega)
        clear hkr
        go_wp2
        go_ret
        exact ⟨ret_bool (by
          rw [Hfin.out, ← Hk.out, ← Hy.out, Bool.eq_iff_iff, beq_iff_eq, decide_eq_true_eq]; omega), rfl⟩
  · have Hv : Hid ((val l).testBit i = false) := Lib.hid (by rw [val_bit H.out.ok, atw_ge (by have := H.out.len; omega)]; simp)
    go_enter Tryz.func138, Tryz.ntmps138
    go_wp2
    go_ret
    exact ⟨ret_bool Hv.out.symm, rfl⟩
theorem ref03_has (a : Option Addr) (n cap : Nat) (l : List Nat) (i : Int) (w : World) (h : Wd w a n cap l) (hi : i ≤ 9223372036854775807) :
    Calls Tryz.prog 138 #[.slice a n cap, .int .i64 i] w fun e w' => e = .returned (.bool (bitI (val l) i)) ∧ w = w' := by
  rcases Int.lt_or_le i 0 with h0 | h0
  · exact (ref03_has_neg a n cap i w h0).mono fun e w' ⟨he, hw⟩ => ⟨by rw [he]; unfold bitI; rw [decide_eq_false (by omega)]; rfl, hw⟩
  · obtain ⟨k, rfl⟩ := Int.eq_ofNat_of_zero_le h0
    exact (ref03_has_nat a n cap l k w h (by omega)).mono fun e w' ⟨he, hw⟩ => ⟨by rw [he, bitI_nat], hw⟩
theorem ref03_len (a : Option Addr) (n cap : Nat) (l : List Nat) (w : World) (h : Wd w a n cap l) (hn : n ≤ 16777214) :
    Calls Tryz.prog 112 #[.slice a n cap] w fun e w' => e = .returned (.int .i64 ((blen (val l) : Nat) : Int)) ∧ w = w' := by
  obtain ⟨hb1, hb2⟩ := h.bound
  have H := Lib.hid h
  clear h
  go_enter Tryz.func112, Tryz.ntmps112
  go_wp2
  go_loop [3] (fun kv => ∃ k : Nat, k ≤ 32 * n ∧ kv = .int .i64 (k : Int) ∧ Hid (val l < 2 ^ k)) (fun kv => (intOf kv).toNat)
  case atStart => exact ⟨32 * n, by omega, by go_num, Lib.hid (by rw [← pow32, ← H.out.len]; exact val_lt H.out.ok)⟩
  case round =>
    obtain ⟨k, hk, rfl, Hv⟩ := hrel
    cases k with
    | zero =>
      have Hfin : Hid (blen (val l) = 0) := Lib.hid (by have := blen_le.2 Hv.out; omega)
      go_wp2
      go_ret
      exact ⟨ret_i64 (by rw [Hfin.out]; rfl), rfl⟩
    | succ p =>
      go_wp2_with fail
      refine (ref03_has_nat _ _ _ _ p _ H.out (by omega)).mono ?_
      rintro e w' ⟨rfl, rfl⟩
      cases hb : (val l).testBit p with
      | true =>
        have Hfin : Hid (blen (val l) = p + 1) := Lib.hid (blen_eq Hv.out (.inr (by rw [Nat.add_sub_cancel]; exact Nat.ge_two_pow_of_testBit hb)))
        clear hb
        go_wp2
        go_ret
        exact ⟨ret_i64 (by rw [Hfin.out]; omega), rfl⟩
      | false =>
        have Hlt : Hid (val l < 2 ^ p) := Lib.hid (lt_of_bit Hv.out hb)
        clear hb
        go_wp2
        go_round
        case rel => exact ⟨p, by omega, by go_num, Hlt⟩
        case measure => simp [intOf]
end Go.Proofs.YteoeicfbaffjcaaGreatDoor

/-
  The contracts of the document's answer for layer 5: Div.
-/
namespace Go.Proofs.YteoeicfbaffjcaaGreatDoor
open Go.RowKit

/-- A long division, bit by bit: what A is without its lowest k bits is what Q and R hold. -/
def BitsAt (A B : Nat) (Q R : List Nat) (k : Nat) : Prop := A / 2 ^ k = val Q * B + val R ∧ val R < B
theorem bits_start {A B n m : Nat} (hB : 0 < B) : BitsAt A B (List.replicate n 0) (List.replicate m 0) (blen A) := by
  refine ⟨?_, by rw [val_zeros]; exact hB⟩
  rw [val_zeros, val_zeros, Nat.div_eq_of_lt (lt_blen A)]
  simp
theorem bits_next (A k : Nat) : A / 2 ^ k = 2 * (A / 2 ^ (k + 1)) + (if A.testBit k = true then 1 else 0) := by
  have h1 : A / 2 ^ (k + 1) = A / 2 ^ k / 2 := by rw [Nat.pow_succ, Nat.div_div_eq_div_mul]
  have h2 : A.testBit k = decide (A / 2 ^ k % 2 = 1) := Nat.testBit_eq_decide_div_mod_eq
  rw [h1, h2]
  by_cases h : A / 2 ^ k % 2 = 1
  · rw [decide_eq_true h, if_pos rfl]; omega
  · rw [decide_eq_false h, if_neg (by simp)]; omega
/-- The rest doubled keeps its room. -/
theorem bits_rest {A B m : Nat} {Q R R2 : List Nat} {k z c0 : Nat} (h : BitsAt A B Q R (k + 1)) (hB : B < 4294967296 ^ m) (h2 : val R2 + 4294967296 ^ (m + 1) * z = 2 * val R + c0) (hc : c0 ≤ 1) : val R2 = 2 * val R + c0 := by
  have h3 := h.2
  rw [pow_succ32] at h2
  rcases Nat.eq_zero_or_pos z with h0 | h0
  · subst h0; omega
  · have h4 : 4294967296 * 4294967296 ^ m * 1 ≤ 4294967296 * 4294967296 ^ m * z := Nat.mul_le_mul_left _ h0
    generalize 4294967296 * 4294967296 ^ m * z = a1 at *
    generalize 4294967296 ^ m = a2 at *
    omega
/-- So does the quotient. -/
theorem bits_quot {A B n : Nat} {Q R Q2 : List Nat} {k z : Nat} (h : BitsAt A B Q R (k + 1)) (hA : A < 4294967296 ^ n) (h2 : val Q2 + 4294967296 ^ n * z = 2 * val Q + 0) : val Q2 = 2 * val Q := by
  have h3 := h.1
  have h4 := h.2
  have h5 : 2 * (A / 2 ^ (k + 1)) ≤ A := by
    have h6 := Nat.div_mul_le_self A (2 ^ (k + 1))
    rw [Nat.pow_succ] at *
    have h7 := Nat.two_pow_pos k
    have h8 : A / (2 ^ k * 2) * 2 ≤ A / (2 ^ k * 2) * (2 ^ k * 2) := Nat.mul_le_mul_left _ (by omega)
    omega
  have h9 : val Q * 1 ≤ val Q * B := Nat.mul_le_mul_left _ (by omega)
  rcases Nat.eq_zero_or_pos z with h0 | h0
  · subst h0; omega
  · have h10 : 4294967296 ^ n * 1 ≤ 4294967296 ^ n * z := Nat.mul_le_mul_left _ h0
    generalize 4294967296 ^ n * z = a1 at *
    generalize 4294967296 ^ n = a2 at *
    generalize val Q * B = a3 at *
    omega
theorem bits_no {A B : Nat} {Q R Q2 R2 : List Nat} {k c0 : Nat} (h : BitsAt A B Q R (k + 1)) (hc : c0 = if A.testBit k = true then 1 else 0) (hq : val Q2 = 2 * val Q) (hr : val R2 = 2 * val R + c0) (hlt : val R2 < B) : BitsAt A B Q2 R2 k := by
  refine ⟨?_, hlt⟩
  rw [bits_next, ← hc, h.1, hq, hr, Nat.mul_add, Nat.mul_assoc]
  omega
theorem bits_yes {A B : Nat} {Q R Q2 R2 R3 : List Nat} {k c0 : Nat} (h : BitsAt A B Q R (k + 1)) (hc : c0 = if A.testBit k = true then 1 else 0) (hc1 : c0 ≤ 1) (hq : val Q2 = 2 * val Q) (hr : val R2 = 2 * val R + c0) (hge : B ≤ val R2) (h3 : val R3 = val R2 - B) (hl : 0 < Q2.length) (ho : okw Q2) :
    BitsAt A B (Q2.set 0 (atw Q2 0 + 1)) R3 k ∧ atw Q2 0 + 1 < 4294967296 := by
  have e1 := val_set Q2 0 (atw Q2 0 + 1) hl
  rw [Nat.pow_zero, Nat.one_mul, Nat.one_mul] at e1
  have e2 : val (Q2.set 0 (atw Q2 0 + 1)) = 2 * val Q + 1 := by omega
  have h4 := h.2
  refine ⟨⟨?_, by omega⟩, ?_⟩
  · rw [bits_next, ← hc, h.1, e2, Nat.mul_add, Nat.add_mul, Nat.mul_assoc, h3, hr]
    omega
  · have h5 := top_succ Q2 0
    rw [top_zero, hq] at h5
    have h6 := atw_lt ho 0
    omega
theorem bits_end {A B : Nat} {Q R : List Nat} (h : BitsAt A B Q R 0) : val Q = A / B ∧ val R = A % B := by
  have h1 := h.1
  have h2 := h.2
  rw [Nat.pow_zero, Nat.div_one] at h1
  rw [h1, Nat.mul_comm, Nat.mul_add_div (by omega), Nat.mul_add_mod, Nat.div_eq_of_lt h2, Nat.mod_eq_of_lt h2]
  omega
def Div5Post (p q : Nat) (w : World) (e : Ending) (w' : World) : Prop :=
  ∃ (a : Option Addr) (n cap : Nat) (b : Option Addr) (m cap' : Nat), e = .returned (.tuple #[.slice a n cap, .slice b m cap']) ∧ Wd w' a n cap (dg p) ∧ Hid (w'.ownsRow w.heap.size 54 1 (.slice b m cap') m (wcells (dg q))) ∧ Below w.heap.size w w'
set_option maxRecDepth 4096 in
set_option maxHeartbeats 4000000 in
theorem ref05_div (a : Option Addr) (n cap : Nat) (la : List Nat) (b : Option Addr) (m cap' : Nat) (lb : List Nat) (w : World) (ha : Wd w a n cap la) (hb : Wd w b m cap' lb) (hn : n ≤ 500000) (hm : m ≤ 500000) (h0 : Hid (val lb ≠ 0)) :
    Calls Tryz.prog 74 #[.slice a n cap, .slice b m cap'] w (Div5Post (val la / val lb) (val la % val lb) w) := by
  obtain ⟨i0, hi, hz0, hz1, hz2⟩ := info_parts infoWord
  have Ha := Lib.hid ha
  have Hb := Lib.hid hb
  have hbl : blen (val la) ≤ 32 * n := blen_le.2 (by rw [← pow32, ← ha.len]; exact val_lt ha.ok)
  clear ha hb
  obtain ⟨M, hM⟩ : ∃ M : Nat, (m : Int) + 1 = (M : Int) := ⟨m + 1, by omega⟩
  have HM : Hid (M = m + 1) := Lib.hid (by omega)
  have hMb : M ≤ 500001 := by omega
  go_enter Tryz.func74, Tryz.ntmps74
  go_wp2_with (first
    | (at_make; refine wpList_make_words _ rfl _ _ 22 rfl w.heap.size 54 i0 (.int .u32 0) Tryz.underlying22 hi hz0 hz1 rfl .i64 .i64 _ _ n n rfl rfl rfl rfl (Nat.le_refl _) (by rw [hz2]; omega) (by unfold maxLen; omega) (Nat.le_refl _) ?_; intro w1 hown1 hgrow1; rw [zeros_cells] at hown1; have HQ1 : Hid (Own w1 w.heap.size w.heap.size n n (List.replicate n 0)) := Lib.hid ⟨hown1, okw_zeros n⟩; have hB1 : Below w.heap.size w w1 := (Below.refl _ _).grown hgrow1 (Nat.le_refl _) (fun k hk => by cases hk); clear hown1 hgrow1)
    | (at_make; refine wpList_make_words _ rfl _ _ 22 rfl w.heap.size 54 i0 (.int .u32 0) Tryz.underlying22 hi hz0 hz1 rfl .i64 .i64 _ _ M M rfl rfl rfl rfl (Nat.le_refl _) (by rw [hz2]; omega) (by unfold maxLen; omega) hB1.size ?_; intro w2 hown2 hgrow2; rw [zeros_cells] at hown2; have HR2 : Hid (Own w2 w.heap.size w1.heap.size M M (List.replicate M 0)) := Lib.hid ⟨hown2, okw_zeros M⟩; have hB2 : Below w.heap.size w w2 := hB1.grown hgrow2 hB1.size (fun k hk => by cases hk); have HQ2 : Hid (Own w2 w.heap.size w.heap.size n n (List.replicate n 0)) := Lib.hid (HQ1.out.stay hgrow2); clear hown2 hgrow2))
  have hne : w.heap.size ≠ w1.heap.size := by have := HQ1.out.base; omega
  generalize hgq : w.heap.size = base at *
  have hbq := HQ2.out.base
  have hbr := HR2.out.base
  have hBw := Lib.hid hB2
  generalize w1.heap.size = gr at *
  clear HQ1 hB1 hB2
  obtain ⟨B, HB⟩ : ∃ B, Hid (B = val lb) := ⟨_, rfl⟩
  obtain ⟨A, HA⟩ : ∃ A, Hid (A = val la) := ⟨_, rfl⟩
  rw [← HB.out] at h0 ⊢
  rw [← HA.out] at hbl ⊢
  have HAn : Hid (A < 4294967296 ^ n) := Lib.hid (by rw [HA.out, ← Ha.out.len]; exact val_lt Ha.out.ok)
  have HBm : Hid (B < 4294967296 ^ m) := Lib.hid (by rw [HB.out, ← Hb.out.len]; exact val_lt Hb.out.ok)
  have HAb : Hid (∀ k, A.testBit k = decide (atw la (k / 32) / 2 ^ (k % 32) % 2 = 1)) := Lib.hid (fun k => by rw [HA.out]; exact low_bit la Ha.out.ok k)
  have HS := Lib.hid (bits_start (A := A) (n := n) (m := M) (Nat.pos_of_ne_zero h0.out))
  rw [← hgq] at *
  refine (ref03_len _ _ _ _ _ (Ha.out.later hBw.out) (by omega)).mono ?_
  rintro e w' ⟨rfl, rfl⟩
  rw [← HA.out]
  generalize blen A = y at *
  go_wp2
  go_loopw [8] (fun iv wr => ∃ (k : Nat) (Q R : List Nat), k ≤ y ∧ iv = .int .i64 ((k : Int) - 1) ∧ Hid (BitsAt A B Q R k) ∧ Hid (Own wr w.heap.size w.heap.size n n Q) ∧ Hid (Own wr w.heap.size gr M M R) ∧ Below w.heap.size w wr) (fun iv _ => (intOf iv + 1).toNat)
  case atStart => exact ⟨y, List.replicate n 0, List.replicate M 0, by omega, by go_num, HS, HQ2, HR2, hBw.out⟩
  case round =>
    clear HQ2 HR2 hBw HS
    obtain ⟨k, Q, R, hk, rfl, HD, HQ, HR, hBr⟩ := hrel
    cases k with
    | zero =>
      have Hq : Hid (val Q = A / B) := Lib.hid (bits_end HD.out).1
      have Hr : Hid (val R = A % B) := Lib.hid (bits_end HD.out).2
      have HRw := Lib.hid HR.out.wd
      clear HD
      go_wp2_with fail
      refine (ref02_norm _ _ _ _ _ HQ.out.wd (by omega)).mono ?_
      rintro e w5 ⟨a5, n5, c5, rfl, h5, b5⟩
      rw [Hq.out] at h5
      have H5 := Lib.hid h5
      have HR5 := Lib.hid (HRw.out.later b5)
      have hb5 := below_then hBr b5
      clear h5 HRw
      go_wp2_with fail
      refine (ref02_norm_own _ _ _ _ _ HR5.out (by omega)).mono ?_
      rintro e w6 ⟨a6, n6, c6, rfl, h6, b6⟩
      rw [Hr.out] at h6
      have H6 := Lib.hid (ownsRow_lower h6 hb5.size)
      have H5b := Lib.hid (H5.out.later b6)
      clear h6
      go_wp2
      go_ret2
      exact ⟨a5, n5, c5, a6, n6, c6, rfl, by rw [← HA.out, ← HB.out]; exact H5b.out, by rw [← HA.out, ← HB.out]; exact H6, below_then hb5 b6⟩
    | succ k =>
      have e1 : ((k + 1 : Nat) : Int) - 1 = (k : Int) := by omega
      rw [e1]
      clear e1
      obtain ⟨q, hq⟩ : ∃ q : Nat, (k : Int) / 32 = (q : Int) := ⟨k / 32, by omega⟩
      obtain ⟨r, hr⟩ : ∃ r : Nat, (k : Int) % 32 = (r : Int) := ⟨k % 32, by omega⟩
      have Hqr : Hid (k / 32 = q ∧ k % 32 = r) := Lib.hid (by omega)
      have hr31 : r < 32 := by omega
      obtain ⟨ba, oa, rfl, hca⟩ := (Ha.out.later hBr).at (by omega)
      have hcq := hca q (by omega)
      have hxw := atw_lt Ha.out.ok q
      have hbit := HAb.out k
      rw [Hqr.out.1, Hqr.out.2] at hbit
      obtain ⟨x, hx⟩ : ∃ x, x = atw la q := ⟨_, rfl⟩
      rw [← hx] at hcq hxw hbit
      obtain ⟨P, HP, hP⟩ : ∃ P : Nat, Hid (P = 2 ^ r) ∧ (2 : Int) ^ r = (P : Int) := ⟨2 ^ r, rfl, by simp⟩
      have hPb : P < 4294967296 := by rw [HP.out]; exact Nat.lt_of_le_of_lt (Nat.pow_le_pow_right (by decide) (show r ≤ 31 by omega)) (by decide)
      have hP0 : 0 < P := by rw [HP.out]; exact Nat.two_pow_pos r
      rw [← HP.out] at hbit
      obtain ⟨z, hz⟩ : ∃ z : Nat, (x : Int) / (P : Int) = (z : Int) := ⟨x / P, by rw [Int.natCast_ediv]⟩
      have Hz : Hid (x / P = z) := Lib.hid (by rw [← Int.natCast_ediv] at hz; omega)
      rw [Hz.out] at hbit
      obtain ⟨tb, htb⟩ : ∃ tb, ((z : Int) % 2 == 1) = tb := ⟨_, rfl⟩
      have HT : Hid (A.testBit k = tb) := Lib.hid (by rw [hbit, ← htb, Bool.eq_iff_iff, beq_iff_eq, decide_eq_true_eq]; omega)
      have hqi : (q : Int) < (n : Int) := by omega
      have hzw : z < 4294967296 := by rw [← Hz.out]; exact Nat.lt_of_le_of_lt (Nat.div_le_self _ _) hxw
      obtain ⟨c0, hc0⟩ : ∃ c0 : Nat, c0 = if tb = true then 1 else 0 := ⟨_, rfl⟩
      have Hc0 := Lib.hid hc0
      have hc1 : c0 ≤ 1 := by rw [hc0]; split <;> omega
      have HQd : Hid (Own wr.drew w.heap.size w.heap.size n n Q) := Lib.hid HQ.out
      have HRd : Hid (Own wr.drew w.heap.size gr M M R) := Lib.hid HR.out
      have HBd : Hid (Below w.heap.size w wr.drew) := Lib.hid hBr.drew
      have hw1 : IntKind.i64.wrap (q : Int) = (q : Int) := by rw [IntKind.wrap_i64]; omega
      have hw2 : IntKind.i64.wrap (r : Int) = (r : Int) := by rw [IntKind.wrap_i64]; omega
      have hw3 : IntKind.u32.wrap (P : Int) = (P : Int) := by rw [IntKind.wrap_u32]; omega
      have hw4 : IntKind.u32.wrap (z : Int) = (z : Int) := by rw [IntKind.wrap_u32]; omega
      have hw5 : IntKind.u32.wrap ((z : Int) % 2) = (z : Int) % 2 := by rw [IntKind.wrap_u32]; omega
      have hP1 : ¬ P = 0 := by omega
      have hw6 : (k : Int).tmod 32 = (r : Int) := by rw [Int.tmod_eq_emod_of_nonneg (by omega)]; exact hr
      have hw7 : (x : Int).tdiv (P : Int) = (z : Int) := by rw [Int.tdiv_eq_ediv_of_nonneg (by omega)]; exact hz
      have hw8 : (z : Int).tmod 2 = (z : Int) % 2 := Int.tmod_eq_emod_of_nonneg (by omega)
      clear hca hbit hx hc0
      go_wp2_with fail
      refine wp_region_still_tail 12 (by kernel_rfl) (by kernel_rfl) ?_
      simp only [List.take_succ_cons, List.take_zero, List.drop_succ_cons, List.drop_zero]
      repeat still_step
      refine wpStill_nil ?_
      change wpList _ _ _ _ _ wr.drew
      generalize wr.drew = wd at *
      clear hBr HQ HR hw1 hw2 hw3 hw4 hw5 hw6 hw7 hw8
      go_wp2_with fail
      refine (ref05_double _ _ _ _ _ tb R _ HRd.out (by omega) Hc0.out).mono ?_
      rintro e w3 ⟨R2, z2, rfl, HR3, hG3, HV3⟩
      have hB3 := Lib.hid (grown_below HBd.out hG3 hbr.1)
      have HQ3 := Lib.hid (HQd.out.other hG3 hne)
      have HVr : Hid (val R2 = 2 * val R + c0) := Lib.hid (bits_rest HD.out HBm.out (by have := HV3.out; rwa [HM.out] at this) hc1)
      clear hG3 HRd HQd HBd HV3
      go_wp2_with fail
      refine (ref05_double _ _ _ _ 0 false Q _ HQ3.out (by omega) rfl).mono ?_
      rintro e w4 ⟨Q2, z3, rfl, HQ4, hG4, HV4⟩
      have hB4 := Lib.hid (grown_below hB3.out hG4 hbq.1)
      have HR4 := Lib.hid (HR3.out.other hG4 (Ne.symm hne))
      have HVq : Hid (val Q2 = 2 * val Q) := Lib.hid (bits_quot HD.out HAn.out HV4.out)
      clear hG4 HV4 HQ3 HR3 hB3
      go_wp2_with fail
      refine (ref02_cmp _ _ _ _ _ _ _ _ _ HR4.out.wd (Hb.out.later hB4.out) (by omega) (by omega)).mono ?_
      rintro e w5 ⟨rfl, rfl⟩
      rw [← HB.out]
      by_cases hlt : val R2 < B
      · have hc : cmpI (val R2) B < 0 := by rw [cmpI_lt hlt]; omega
        have HDn : Hid (BitsAt A B Q2 R2 k) := Lib.hid (bits_no HD.out (by rw [HT.out]; exact Hc0.out) HVq.out HVr.out hlt)
        clear hlt
        generalize cmpI (val R2) B = c at *
        go_wp2
        go_roundw
        case rel => exact ⟨k, Q2, R2, by omega, by go_num, HDn, HQ4, HR4, hB4.out⟩
        case measure => simp [intOf]
      · have hc : ¬ cmpI (val R2) B < 0 := by unfold cmpI; split <;> (try split) <;> omega
        have Hge : Hid (val lb ≤ val R2) := Lib.hid (by rw [← HB.out]; omega)
        have Hge2 : Hid (B ≤ val R2) := Lib.hid (by omega)
        clear hlt
        generalize cmpI (val R2) B = c at *
        go_wp2_with fail
        refine (ref05_less w _ _ _ _ R2 _ _ _ lb HR4.out hB4.out Hb.out (by omega) (by omega) Hge).mono ?_
        rintro e w6 ⟨R3, rfl, HR6, hG6, HV6⟩
        have HB6 := Lib.hid (grown_below hB4.out hG6 hbr.1)
        have HQ6 := Lib.hid (HQ4.out.other hG6 hne)
        have HDn := Lib.hid (bits_yes HD.out (by rw [HT.out]; exact Hc0.out) hc1 HVq.out HVr.out Hge2.out (by rw [HV6.out, ← HB.out]) (by rw [HQ4.out.len]; omega) HQ4.out.2)
        have hcell := HQ6.out.cell (k := 0) (by omega)
        have hfro := HQ6.out.1.frozenAt 0
        have huw := HDn.out.2
        obtain ⟨u, huu⟩ : ∃ u, u = atw Q2 0 := ⟨_, rfl⟩
        rw [← huu] at hcell huw
        have HDn2 : Hid (BitsAt A B (Q2.set 0 (u + 1)) R3 k) := Lib.hid (by rw [huu]; exact HDn.out.1)
        have HQ7 := Lib.hid (HQ6.out.set 0 (u + 1) huw)
        have HR7 := Lib.hid (HR6.out.other (grown_cell w6 w.heap.size 0 (.int .u32 ((u + 1 : Nat) : Int))) (Ne.symm hne))
        have HB7 := Lib.hid (HB6.out.setCell (p := ⟨w.heap.size, 0, none⟩) hbq.1 (.int .u32 ((u + 1 : Nat) : Int)))
        clear huu HDn hG6 HQ4 HR4 hB4 HB6 HR6 HQ6
        go_wp2
        go_roundw
        case rel => exact ⟨k, Q2.set 0 (u + 1), R3, by omega, by go_num, HDn2, HQ7, HR7, HB7.out⟩
        case measure => simp [intOf]
end Go.Proofs.YteoeicfbaffjcaaGreatDoor

/-
  The contracts of the document's answer for layer 8: Floor.
-/
namespace Go.Proofs.YteoeicfbaffjcaaGreatDoor
open Go.RowKit

theorem results_rows2 {P : Program} {fn : Func} {p q : Tmp} {ty tz : TypeId} (h : fn.results = #[.cell p ty, .cell q tz]) (tmps : Array Value) (w : World) (g k : Nat) (t s : TypeId) (cs ds : Array Value) (fr fs : Nat × Nat) (d e : TypeDesc)
    (hp : tmps.getD p undef = .pointer (some ⟨g, 0, none⟩)) (hg : w.heap[g]? = some (.cells cs t fr))
    (hu : P.underlying ty = some d) (hd : (match d with | .struct _ | .array _ _ => true | _ => false) = true) (hi : (P.info? ty).map (·.size) = some cs.size)
    (hq : tmps.getD q undef = .pointer (some ⟨k, 0, none⟩)) (hk : w.heap[k]? = some (.cells ds s fs))
    (hu2 : P.underlying tz = some e) (hd2 : (match e with | .struct _ | .array _ _ => true | _ => false) = true) (hi2 : (P.info? tz).map (·.size) = some ds.size) :
    (results fn tmps).run P w = .ok (.tuple #[.agg cs, .agg ds]) w := by
  have hp' : tmps[p]?.getD undef = .pointer (some ⟨g, 0, none⟩) := by simpa using hp
  have hq' : tmps[q]?.getD undef = .pointer (some ⟨k, 0, none⟩) := by simpa using hq
  simp [results, h, hp', hq', asAddr, Sem.run_bind, Result.andThen, run_loadVar_row w g t ty cs fr d hg hu hd hi, run_loadVar_row w k s tz ds fs e hk hu2 hd2 hi2]
/-- Four boxes of a call. -/
theorem boxes4_at (w : World) (x y z u : Array Value) (t s r q : TypeId) (w1 : World) (hb : Below ((((w.alloc (.cells x t)).alloc (.cells y s)).alloc (.cells z r)).alloc (.cells u q)).heap.size ((((w.alloc (.cells x t)).alloc (.cells y s)).alloc (.cells z r)).alloc (.cells u q)) w1) :
    w1.heap[w.heap.size]? = some (.cells x t (0, 0)) ∧ w1.heap[w.heap.size + 1]? = some (.cells y s (0, 0)) ∧ w1.heap[w.heap.size + 1 + 1]? = some (.cells z r (0, 0)) ∧ w1.heap[w.heap.size + 1 + 1 + 1]? = some (.cells u q (0, 0)) := by
  obtain ⟨h1, h2, h3⟩ := boxes3_at w x y z t s r
  refine ⟨blk_later (blk_later h1 (below_alloc _ _)) hb, blk_later (blk_later h2 (below_alloc _ _)) hb, blk_later (blk_later h3 (below_alloc _ _)) hb, ?_⟩
  have h4 := blk_new (((w.alloc (.cells x t)).alloc (.cells y s)).alloc (.cells z r)) u q
  rw [blk_size, blk_size, blk_size] at h4
  exact blk_later h4 hb
theorem six_cells {w : World} {A B G : Nat} {x y z u v q : Value} {t s r : TypeId} (h1 : w.heap[A]? = some (.cells #[x, y] t (0, 0))) (h2 : w.heap[B]? = some (.cells #[z, u] s (0, 0))) (h3 : w.heap[G]? = some (.cells #[v, q] r (0, 0))) :
    w.cell? ⟨A, 0, none⟩ = some x ∧ w.cell? ⟨A, 1, none⟩ = some y ∧ w.cell? ⟨B, 0, none⟩ = some z ∧ w.cell? ⟨B, 1, none⟩ = some u ∧ w.cell? ⟨G, 0, none⟩ = some v ∧ w.cell? ⟨G, 1, none⟩ = some q := ⟨blk_cell h1 0, blk_cell h1 1, blk_cell h2 0, blk_cell h2 1, blk_cell h3 0, blk_cell h3 1⟩
theorem blk_apart2 {w : World} {A g : Nat} {o : Obj} (h : w.heap[A]? = some o) (hne : A ≠ g) (u v : Value) : ((w.setCell ⟨g, 0, none⟩ u).setCell ⟨g, 1, none⟩ v).heap[A]? = some o := blk_apart (blk_apart h hne 0 u) hne 1 v
theorem zval_not (z : Int) : zval (!zneg z) z.natAbs = -z := by
  unfold zval zneg
  by_cases h : z < 0
  · rw [decide_eq_true h]; simp; omega
  · rw [decide_eq_false h]; simp; omega
theorem ref08_mulZ (z : Int) (a : Option Addr) (n cap : Nat) (nb : Bool) (b : Option Addr) (m cap' : Nat) (lb : List Nat) (w : World) (ha : Wd w a n cap (dg z.natAbs)) (hb : Wd w b m cap' lb) (hn : n ≤ 100000) (hm : m ≤ 100000) :
    Calls Tryz.prog 125 #[whV (zneg z) a n cap, whV nb b m cap'] w (LstZ (z * zval nb (val lb)) w) := by
  have h := ref08_mul (zneg z) a n cap _ nb b m cap' lb w ha hb hn hm
  rw [val_dg, zval_of] at h
  exact h
theorem ref08_negZ (z : Int) (a : Option Addr) (n cap : Nat) (w : World) (ha : Wd w a n cap (dg z.natAbs)) (hn : n ≤ 16777214) :
    Calls Tryz.prog 124 #[whV (zneg z) a n cap] w (LstZ (-z) w) := by
  have h := ref08_neg (zneg z) a n cap _ w ha hn
  rw [val_dg, zval_not] at h
  exact h
theorem ref08_addZ (na : Bool) (a : Option Addr) (n cap : Nat) (la : List Nat) (z : Int) (b : Option Addr) (m cap' : Nat) (w : World) (ha : Wd w a n cap la) (hb : Wd w b m cap' (dg z.natAbs)) (hn : n ≤ 100000) (hm : m ≤ 100000) :
    Calls Tryz.prog 123 #[whV na a n cap, whV (zneg z) b m cap'] w (LstZ (zval na (val la) + z) w) := by
  have h := ref08_add na a n cap la (zneg z) b m cap' _ w ha hb hn hm
  rw [val_dg, zval_of] at h
  exact h
theorem ref08_normN (neg : Bool) (a : Option Addr) (n cap v : Nat) (w : World) (h : Wd w a n cap (dg v)) (hn : n ≤ 16777214) :
    Calls Tryz.prog 102 #[whV neg a n cap] w (LstZ (zval neg v) w) := by
  have h := ref08_norm neg a n cap _ w h hn
  rw [val_dg] at h
  exact h
/-- Two whole numbers come back. -/
def LstZZ (q r : Int) (w : World) (e : Ending) (w' : World) : Prop :=
  ∃ (a : Option Addr) (n cap : Nat) (b : Option Addr) (m cap' : Nat), e = .returned (.tuple #[whV (zneg q) a n cap, whV (zneg r) b m cap']) ∧ Wd w' a n cap (dg q.natAbs) ∧ Wd w' b m cap' (dg r.natAbs) ∧ Below w.heap.size w w'
/-- The quotient, rounded down: the document's way. -/
def flq (na nb : Bool) (u v : Nat) : Int := zval (!(na == nb)) (u / v + if na ≠ nb ∧ u % v ≠ 0 then 1 else 0)
theorem flq_len {na nb : Bool} {u v n m : Nat} (hu : u < 4294967296 ^ n) (hv : (dg v).length ≤ m) : (dg (u / v + if na ≠ nb ∧ u % v ≠ 0 then 1 else 0)).length ≤ n + 1 ∧ (dg (flq na nb u v * zval nb v).natAbs).length ≤ n + 1 + m := by
  have h1 : (dg (u / v + if na ≠ nb ∧ u % v ≠ 0 then 1 else 0)).length ≤ n + 1 := by
    refine dg_length_le ?_
    have h2 : u / v ≤ u := Nat.div_le_self _ _
    have h3 : 4294967296 ^ (n + 1) = 4294967296 * 4294967296 ^ n := by rw [Nat.pow_succ, Nat.mul_comm]
    rw [h3]
    generalize 4294967296 ^ n = P at *
    split <;> omega
  refine ⟨h1, ?_⟩
  rw [Int.natAbs_mul, flq, zval_abs, zval_abs]
  have h4 := dg_mul_length (u / v + if na ≠ nb ∧ u % v ≠ 0 then 1 else 0) v
  omega
end Go.Proofs.YteoeicfbaffjcaaGreatDoor

/-
  Package whole at this seat: Floor.
-/
namespace Go.Proofs.YteoeicfbaffjcaaGreatDoor
open Go.RowKit

theorem results_rows2_tmp {P : Program} {fn : Func} {p q u : Tmp} {ty tz : TypeId} (h : fn.results = #[.cell p ty, .cell q tz, .tmp u]) (tmps : Array Value) (w : World) (g k : Nat) (t s : TypeId) (cs ds : Array Value) (fr fs : Nat × Nat) (d e : TypeDesc)
    (hp : tmps.getD p undef = .pointer (some ⟨g, 0, none⟩)) (hg : w.heap[g]? = some (.cells cs t fr))
    (hu : P.underlying ty = some d) (hd : (match d with | .struct _ | .array _ _ => true | _ => false) = true) (hi : (P.info? ty).map (·.size) = some cs.size)
    (hq : tmps.getD q undef = .pointer (some ⟨k, 0, none⟩)) (hk : w.heap[k]? = some (.cells ds s fs))
    (hu2 : P.underlying tz = some e) (hd2 : (match e with | .struct _ | .array _ _ => true | _ => false) = true) (hi2 : (P.info? tz).map (·.size) = some ds.size) :
    (results fn tmps).run P w = .ok (.tuple #[.agg cs, .agg ds, tmps.getD u undef]) w := by
  have hp' : tmps[p]?.getD undef = .pointer (some ⟨g, 0, none⟩) := by simpa using hp
  have hq' : tmps[q]?.getD undef = .pointer (some ⟨k, 0, none⟩) := by simpa using hq
  simp [results, h, hp', hq', asAddr, Sem.run_bind, Result.andThen, run_loadVar_row w g t ty cs fr d hg hu hd hi, run_loadVar_row w k s tz ds fs e hk hu2 hd2 hi2]
theorem floor_like {nb : Bool} {u v : Nat} (hv : v ≠ 0) : zval false (u / v) = Int.fdiv (zval nb u) (zval nb v) ∧ zval nb (u % v) = Int.fmod (zval nb u) (zval nb v) := by
  have h1 := Nat.div_add_mod u v
  have h2 := Nat.mod_lt u (Nat.pos_of_ne_zero hv)
  generalize u / v = q at *
  generalize u % v = r at *
  subst h1
  refine floor_unique ?_ ?_
  · cases nb <;> simp [zval, Int.mul_comm, Int.mul_neg] <;> omega
  · cases nb <;> simp [zval] <;> omega
theorem floor_even {na nb : Bool} {u v : Nat} (hn : na ≠ nb) (hv : v ≠ 0) (h0 : u % v = 0) : zval true (u / v) = Int.fdiv (zval na u) (zval nb v) ∧ zval nb (u % v) = Int.fmod (zval na u) (zval nb v) := by
  have h1 := Nat.div_add_mod u v
  rw [h0] at h1 ⊢
  generalize u / v = q at *
  subst h1
  refine floor_unique ?_ ?_
  · cases na <;> cases nb <;> simp [zval, Int.mul_comm, Int.mul_neg] at hn ⊢
  · cases nb <;> simp [zval] <;> omega
theorem floor_down {na nb : Bool} {u v : Nat} (hn : na ≠ nb) (hv : v ≠ 0) (h0 : u % v ≠ 0) : zval true (u / v + 1) = Int.fdiv (zval na u) (zval nb v) ∧ zval nb (v - u % v) = Int.fmod (zval na u) (zval nb v) := by
  have h1 := Nat.div_add_mod u v
  have h2 := Nat.mod_lt u (Nat.pos_of_ne_zero hv)
  generalize u / v = q at *
  generalize u % v = r at *
  subst h1
  have h3 : ((v - r : Nat) : Int) = (v : Int) - (r : Int) := by omega
  refine floor_unique ?_ ?_
  · cases na <;> cases nb <;> simp [zval, Int.mul_comm, Int.mul_neg, Int.mul_add, h3] at hn ⊢ <;> omega
  · cases nb <;> simp [zval] <;> omega
set_option maxRecDepth 4096 in
set_option maxHeartbeats 2000000 in
theorem whole_floor_no (na : Bool) (a : Option Addr) (n cap : Nat) (la : List Nat) (nb : Bool) (b : Option Addr) (m cap' : Nat) (lb : List Nat) (w : World) (ha : Wd w a n cap la) (hb : Wd w b m cap' lb) (hm : m ≤ 100000) (hy : zval nb (val lb) = 0) :
    Calls Tryz.prog 117 #[whV na a n cap, whV nb b m cap'] w (LstZZB 0 0 false w) := by
  have hB4 : Below w.heap.size w ((((w.alloc (.cells #[.bool na, .slice a n cap] 28)).alloc (.cells #[.bool nb, .slice b m cap'] 28)).alloc (.cells #[.bool false, .slice none 0 0] 28)).alloc (.cells #[.bool false, .slice none 0 0] 28)) := below_then (below_then (below_then (below_alloc _ _) (below_alloc _ _)) (below_alloc _ _)) (below_alloc _ _)
  have Ha := Lib.hid (ha.later hB4)
  have Hb := Lib.hid (hb.later hB4)
  have HB0 := Lib.hid hB4
  obtain ⟨p1, p2, p3, p4⟩ := boxes4_at w #[.bool na, .slice a n cap] #[.bool nb, .slice b m cap'] #[.bool false, .slice none 0 0] #[.bool false, .slice none 0 0] 28 28 28 28 ((((w.alloc (.cells #[.bool na, .slice a n cap] 28)).alloc (.cells #[.bool nb, .slice b m cap'] 28)).alloc (.cells #[.bool false, .slice none 0 0] 28)).alloc (.cells #[.bool false, .slice none 0 0] 28)) (Below.refl _ _)
  have HA0 := Lib.hid p1
  have HC0 := Lib.hid p2
  have HR0 := Lib.hid p3
  have HS0 := Lib.hid p4
  have hla := ha.trim_le
  have hlb := hb.trim_le
  have Hv0 : Hid (val lb = 0) := Lib.hid (by unfold zval at hy; cases nb <;> simp at hy <;> omega)
  clear ha hb hB4 p1 p2 p3 p4 hy hla hlb
  go_enter Tryz.func117, Tryz.ntmps117
  unfold whV
  go_wp2_with fail
  refine (quot_div_none a n cap b m cap' lb _ Hb.out (by omega) Hv0).mono ?_
  rintro e W ⟨qa, qn, qc, ra, rn, rc, rfl, h1, h2, b1⟩
  have HR1 := Lib.hid (blk_later HR0.out b1)
  have HS1 := Lib.hid (blk_later HS0.out b1)
  have HB := Lib.hid (below_then HB0.out b1)
  clear h1 h2 b1 HA0 HC0 HR0 HS0 HB0 Ha Hb
  have r0 := blk_cell HR1.out 0
  have r1 := blk_cell HR1.out 1
  have f0 := blk_free HR1.out 0
  have f1 := blk_free HR1.out 1
  have s0 := blk_cell HS1.out 0
  have s1 := blk_cell HS1.out 1
  have g0 := blk_free HS1.out 0
  have g1 := blk_free HS1.out 1
  simp only [List.getElem?_toArray, List.getElem?_cons_zero, List.getElem?_cons_succ] at r0 r1 s0 s1
  have HN1 := Lib.hid (blk_apart2 HS1.out (show w.heap.size + 1 + 1 + 1 ≠ w.heap.size + 1 + 1 by omega) (.bool false) (.slice none 0 0))
  have HG1 := Lib.hid (blk_apart2 (blk_set2 HR1.out (.bool false) (.slice none 0 0)) (show w.heap.size + 1 + 1 ≠ w.heap.size + 1 + 1 + 1 by omega) (.bool false) (.slice none 0 0))
  have HG2 := Lib.hid (blk_set2 HN1.out (.bool false) (.slice none 0 0))
  have HBz := Lib.hid (below_set2 (below_set2 HB.out (show w.heap.size ≤ w.heap.size + 1 + 1 by omega) (.bool false) (.slice none 0 0)) (show w.heap.size ≤ w.heap.size + 1 + 1 + 1 by omega) (.bool false) (.slice none 0 0))
  have HD0 : Hid (dg (0 : Int).natAbs = []) := Lib.hid (by rw [show (0 : Int).natAbs = 0 from rfl, dg_zero])
  go_wp2
  refine bodyPost_ret (results_rows2_tmp Tryz.results117 _ _ (w.heap.size + 1 + 1) (w.heap.size + 1 + 1 + 1) 28 28 #[.bool false, .slice none 0 0] #[.bool false, .slice none 0 0] (0, 0) (0, 0) _ _ rfl HG1.out Tryz.underlying28 rfl (by kernel_rfl) rfl HG2.out Tryz.underlying28 rfl (by kernel_rfl)) rfl ?_
  exact ⟨none, 0, 0, none, 0, 0, rfl, by rw [HD0.out]; exact Wd.ofNil _, by rw [HD0.out]; exact Wd.ofNil _, HBz.out⟩
end Go.Proofs.YteoeicfbaffjcaaGreatDoor

/-
  Package whole at this seat: Floor, of numbers with one sign.
-/
namespace Go.Proofs.YteoeicfbaffjcaaGreatDoor
open Go.RowKit

set_option maxRecDepth 4096 in
set_option maxHeartbeats 3000000 in
theorem whole_floor_like (na : Bool) (a : Option Addr) (n cap : Nat) (la : List Nat) (b : Option Addr) (m cap' : Nat) (lb : List Nat) (w : World) (ha : Wd w a n cap la) (hb : Wd w b m cap' lb) (hn : n ≤ 100000) (hm : m ≤ 100000) (hv0 : val lb ≠ 0) :
    Calls Tryz.prog 117 #[whV na a n cap, whV na b m cap'] w (LstZZB (Int.fdiv (zval na (val la)) (zval na (val lb))) (Int.fmod (zval na (val la)) (zval na (val lb))) true w) := by
  have hB4 : Below w.heap.size w ((((w.alloc (.cells #[.bool na, .slice a n cap] 28)).alloc (.cells #[.bool na, .slice b m cap'] 28)).alloc (.cells #[.bool false, .slice none 0 0] 28)).alloc (.cells #[.bool false, .slice none 0 0] 28)) := below_then (below_then (below_then (below_alloc _ _) (below_alloc _ _)) (below_alloc _ _)) (below_alloc _ _)
  have Ha := Lib.hid (ha.later hB4)
  have Hb := Lib.hid (hb.later hB4)
  have HB0 := Lib.hid hB4
  obtain ⟨p1, p2, p3, p4⟩ := boxes4_at w #[.bool na, .slice a n cap] #[.bool na, .slice b m cap'] #[.bool false, .slice none 0 0] #[.bool false, .slice none 0 0] 28 28 28 28 ((((w.alloc (.cells #[.bool na, .slice a n cap] 28)).alloc (.cells #[.bool na, .slice b m cap'] 28)).alloc (.cells #[.bool false, .slice none 0 0] 28)).alloc (.cells #[.bool false, .slice none 0 0] 28)) (Below.refl _ _)
  have HA0 := Lib.hid p1
  have HC0 := Lib.hid p2
  have HR0 := Lib.hid p3
  have HS0 := Lib.hid p4
  have hla := ha.trim_le
  have hlb := hb.trim_le
  have Hv0 := Lib.hid hv0
  have hq1 : (dg (val la / val lb)).length ≤ 100000 := Nat.le_trans (dg_length_mono (Nat.div_le_self _ _)) (by omega)
  have hr1 : (dg (val la % val lb)).length ≤ 100000 := Nat.le_trans (dg_length_mono (Nat.mod_le _ _)) (by omega)
  have Hq1 := Lib.hid hq1
  have Hr1 := Lib.hid hr1
  have Hlb := Lib.hid hlb
  clear ha hb hB4 p1 p2 p3 p4 hv0 hla hlb hq1 hr1
  have hq : (na == na) = true := by simp
  have HV := Lib.hid (floor_like (nb := na) (u := val la) Hv0.out)
  have HVq := Lib.hid HV.out.1
  have HVr := Lib.hid HV.out.2
  go_enter Tryz.func117, Tryz.ntmps117
  unfold whV
  go_wp2_with fail
  refine (quot_div a n cap la b m cap' lb _ Ha.out Hb.out (by omega) (by omega) Hv0).mono ?_
  rintro e W ⟨qa, qn, qc, ra, rn, rc, rfl, h1, h2, b1⟩
  have hqn : qn ≤ 16777214 := by have h7 := h1.len; have h8 := Hq1.out; omega
  have hrn : rn ≤ 16777214 := by have h7 := h2.len; have h8 := Hr1.out; omega
  have HA1 := Lib.hid (blk_later HA0.out b1)
  have HB1 := Lib.hid (blk_later HC0.out b1)
  have HR1 := Lib.hid (blk_later HR0.out b1)
  have HS1 := Lib.hid (blk_later HS0.out b1)
  have HQ := Lib.hid h1
  have HP := Lib.hid h2
  have HB := Lib.hid (below_then HB0.out b1)
  have Hb1 := Lib.hid (Hb.out.later b1)
  clear h1 h2 b1 HA0 HC0 HR0 HS0 HB0 Ha Hb
  obtain ⟨s0, s1, s2, s3⟩ := four_cells HA1.out HB1.out
  go_wp2
  have HAd : Hid (W.drew.heap[w.heap.size]? = _) := Lib.hid HA1.out
  have HBd : Hid (W.drew.heap[w.heap.size + 1]? = _) := Lib.hid HB1.out
  have HRd : Hid (W.drew.heap[w.heap.size + 1 + 1]? = _) := Lib.hid HR1.out
  have HSd : Hid (W.drew.heap[w.heap.size + 1 + 1 + 1]? = _) := Lib.hid HS1.out
  have Hd : Below W.heap.size W W.drew := (Below.refl _ _).drew
  have Sd := four_cells HAd.out HBd.out
  clear HA1 HB1 HR1 HS1
  go_region_held3 (fun w' => w'.cell? ⟨w.heap.size, 0, none⟩ = some (.bool na) ∧ w'.cell? ⟨w.heap.size, 1, none⟩ = some (.slice a n cap) ∧ w'.cell? ⟨w.heap.size + 1, 0, none⟩ = some (.bool na) ∧ w'.cell? ⟨w.heap.size + 1, 1, none⟩ = some (.slice b m cap')) (first | with_reducible exact Sd | with_reducible exact Sq1 | with_reducible exact Sq2 | with_reducible exact Sq3.out | with_reducible exact Sq4.out)
    (first
    | (go_at_call 93; (first
      | (have qm := M1; (refine (whole_signed na ra rn rc _ _ (HP.out.later (below_then Hd b5)) hrn).mono ?_); rintro e w6 ⟨a6, n6, c6, rfl, h6, b6⟩; have Sq2 := four_cells (blk_later hA5 b6) (blk_later hB5 b6); have Sq3 := Lib.hid (four_stored (g := w.heap.size + 1 + 1) (blk_later hA5 b6) (blk_later hB5 b6) (by omega) (by omega) (.bool (zneg (zval false (val la / val lb)))) (.slice a5 n5 c5)); have Sq4 := Lib.hid (four_stored (g := w.heap.size + 1 + 1 + 1) (blk_apart2 (blk_later hA5 b6) (show w.heap.size ≠ w.heap.size + 1 + 1 by omega) (.bool (zneg (zval false (val la / val lb)))) (.slice a5 n5 c5)) (blk_apart2 (blk_later hB5 b6) (show w.heap.size + 1 ≠ w.heap.size + 1 + 1 by omega) (.bool (zneg (zval false (val la / val lb)))) (.slice a5 n5 c5)) (by omega) (by omega) (.bool (zneg (zval na (val la % val lb)))) (.slice a6 n6 c6)); have hRb := blk_later HRd.out (below_then b5 b6); have hSb := blk_later HSd.out (below_then b5 b6); have r0 := blk_cell hRb 0; have r1 := blk_cell hRb 1; have f0 := blk_free hRb 0; have f1 := blk_free hRb 1; have s0 := blk_cell hSb 0; have s1 := blk_cell hSb 1; have g0 := blk_free hSb 0; have g1 := blk_free hSb 1; simp only [List.getElem?_toArray, List.getElem?_cons_zero, List.getElem?_cons_succ] at r0 r1 s0 s1; unfold whV)
      | ((refine (whole_signed false qa qn qc _ _ (HQ.out.later Hd) hqn).mono ?_); rintro e w5 ⟨a5, n5, c5, rfl, h5, b5⟩; have M1 := True.intro; have hA5 := blk_later HAd.out b5; have hB5 := blk_later HBd.out b5; have Sq1 := four_cells hA5 hB5; unfold whV))))
  have hBe := Lib.hid (below_then HB.out (below_then Hd (below_then b5 b6)))
  have H5 := Lib.hid (h5.later b6)
  have H6 := Lib.hid h6
  have hRl := Lib.hid hRb
  have hSl := Lib.hid hSb
  clear hRb hSb h5 h6 b5 b6 Sd HQ HP HB hA5 hB5 HAd HBd HRd HSd M1 Hd
  rw [HVq.out, HVr.out]
  rw [HVq.out] at H5
  rw [HVr.out] at H6
  generalize Int.fdiv (zval na (val la)) (zval na (val lb)) = zq at *
  generalize Int.fmod (zval na (val la)) (zval na (val lb)) = zr at *
  have HN1 := Lib.hid (blk_apart2 hSl.out (show w.heap.size + 1 + 1 + 1 ≠ w.heap.size + 1 + 1 by omega) (.bool (zneg zq)) (.slice a5 n5 c5))
  have HG1 := Lib.hid (blk_apart2 (blk_set2 hRl.out (.bool (zneg zq)) (.slice a5 n5 c5)) (show w.heap.size + 1 + 1 ≠ w.heap.size + 1 + 1 + 1 by omega) (.bool (zneg zr)) (.slice a6 n6 c6))
  have HG2 := Lib.hid (blk_set2 HN1.out (.bool (zneg zr)) (.slice a6 n6 c6))
  have HL5 := Lib.hid ((H5.out.stored2 hRl.out (zneg zq) (.slice a5 n5 c5)).stored2 HN1.out (zneg zr) (.slice a6 n6 c6))
  have HL6 := Lib.hid ((H6.out.stored2 hRl.out (zneg zq) (.slice a5 n5 c5)).stored2 HN1.out (zneg zr) (.slice a6 n6 c6))
  have HBz := Lib.hid (below_set2 (below_set2 hBe.out (show w.heap.size ≤ w.heap.size + 1 + 1 by omega) (.bool (zneg zq)) (.slice a5 n5 c5)) (show w.heap.size ≤ w.heap.size + 1 + 1 + 1 by omega) (.bool (zneg zr)) (.slice a6 n6 c6))
  go_wp2
  refine bodyPost_ret (results_rows2_tmp Tryz.results117 _ _ (w.heap.size + 1 + 1) (w.heap.size + 1 + 1 + 1) 28 28 #[.bool (zneg zq), .slice a5 n5 c5] #[.bool (zneg zr), .slice a6 n6 c6] (0, 0) (0, 0) _ _ rfl HG1.out Tryz.underlying28 rfl (by kernel_rfl) rfl HG2.out Tryz.underlying28 rfl (by kernel_rfl)) rfl ?_
  exact ⟨a5, n5, c5, a6, n6, c6, rfl, HL5.out, HL6.out, HBz.out⟩
end Go.Proofs.YteoeicfbaffjcaaGreatDoor

/-
  Package whole at this seat: Floor, of numbers with two signs, where nothing is left.
-/
namespace Go.Proofs.YteoeicfbaffjcaaGreatDoor
open Go.RowKit

set_option maxRecDepth 4096 in
set_option maxHeartbeats 3000000 in
theorem whole_floor_even (na : Bool) (a : Option Addr) (n cap : Nat) (la : List Nat) (nb : Bool) (b : Option Addr) (m cap' : Nat) (lb : List Nat) (w : World) (ha : Wd w a n cap la) (hb : Wd w b m cap' lb) (hn : n ≤ 100000) (hm : m ≤ 100000) (hv0 : val lb ≠ 0) (Hne : Hid (na ≠ nb)) (h0 : val la % val lb = 0) :
    Calls Tryz.prog 117 #[whV na a n cap, whV nb b m cap'] w (LstZZB (Int.fdiv (zval na (val la)) (zval nb (val lb))) (Int.fmod (zval na (val la)) (zval nb (val lb))) true w) := by
  have hB4 : Below w.heap.size w ((((w.alloc (.cells #[.bool na, .slice a n cap] 28)).alloc (.cells #[.bool nb, .slice b m cap'] 28)).alloc (.cells #[.bool false, .slice none 0 0] 28)).alloc (.cells #[.bool false, .slice none 0 0] 28)) := below_then (below_then (below_then (below_alloc _ _) (below_alloc _ _)) (below_alloc _ _)) (below_alloc _ _)
  have Ha := Lib.hid (ha.later hB4)
  have Hb := Lib.hid (hb.later hB4)
  have HB0 := Lib.hid hB4
  obtain ⟨p1, p2, p3, p4⟩ := boxes4_at w #[.bool na, .slice a n cap] #[.bool nb, .slice b m cap'] #[.bool false, .slice none 0 0] #[.bool false, .slice none 0 0] 28 28 28 28 ((((w.alloc (.cells #[.bool na, .slice a n cap] 28)).alloc (.cells #[.bool nb, .slice b m cap'] 28)).alloc (.cells #[.bool false, .slice none 0 0] 28)).alloc (.cells #[.bool false, .slice none 0 0] 28)) (Below.refl _ _)
  have HA0 := Lib.hid p1
  have HC0 := Lib.hid p2
  have HR0 := Lib.hid p3
  have HS0 := Lib.hid p4
  have hla := ha.trim_le
  have hlb := hb.trim_le
  have Hv0 := Lib.hid hv0
  have hq1 : (dg (val la / val lb)).length ≤ 100000 := Nat.le_trans (dg_length_mono (Nat.div_le_self _ _)) (by omega)
  have hr1 : (dg (val la % val lb)).length ≤ 100000 := Nat.le_trans (dg_length_mono (Nat.mod_le _ _)) (by omega)
  have Hq1 := Lib.hid hq1
  have Hr1 := Lib.hid hr1
  have Hlb := Lib.hid hlb
  clear ha hb hB4 p1 p2 p3 p4 hv0 hla hlb hq1 hr1
  have HV := Lib.hid (floor_even (u := val la) Hne.out Hv0.out h0)
  have HVq := Lib.hid HV.out.1
  have HVr := Lib.hid HV.out.2
  have Hz := Lib.hid (decide_eq_true h0)
  clear h0
  have hq : (na == nb) = false := by simp [Hne.out]
  go_enter Tryz.func117, Tryz.ntmps117
  unfold whV
  go_wp2_with fail
  refine (quot_div a n cap la b m cap' lb _ Ha.out Hb.out (by omega) (by omega) Hv0).mono ?_
  rintro e W ⟨qa, qn, qc, ra, rn, rc, rfl, h1, h2, b1⟩
  have hqn : qn ≤ 16777214 := by have h7 := h1.len; have h8 := Hq1.out; omega
  have hrn : rn ≤ 16777214 := by have h7 := h2.len; have h8 := Hr1.out; omega
  have HA1 := Lib.hid (blk_later HA0.out b1)
  have HB1 := Lib.hid (blk_later HC0.out b1)
  have HR1 := Lib.hid (blk_later HR0.out b1)
  have HS1 := Lib.hid (blk_later HS0.out b1)
  have HQ := Lib.hid h1
  have HP := Lib.hid h2
  have HB := Lib.hid (below_then HB0.out b1)
  have Hb1 := Lib.hid (Hb.out.later b1)
  clear h1 h2 b1 HA0 HC0 HR0 HS0 HB0 Ha Hb
  obtain ⟨s0, s1, s2, s3⟩ := four_cells HA1.out HB1.out
  go_wp2_with fail
  refine (natSaid.zero ra rn rc _ _ HP.out hrn).mono ?_
  rintro e W2 ⟨rfl, b⟩
  clear s0 s1 s2 s3
  replace HA1 := Lib.hid (blk_later HA1.out b)
  replace HB1 := Lib.hid (blk_later HB1.out b)
  replace HR1 := Lib.hid (blk_later HR1.out b)
  replace HS1 := Lib.hid (blk_later HS1.out b)
  replace HQ := Lib.hid (HQ.out.later b)
  replace HP := Lib.hid (HP.out.later b)
  replace Hb1 := Lib.hid (Hb1.out.later b)
  replace HB := Lib.hid (below_then HB.out b)
  clear b
  obtain ⟨s0, s1, s2, s3⟩ := four_cells HA1.out HB1.out
  rw [val_dg]
  rw [Hz.out]
  go_wp2
  have HAd : Hid (W2.drew.heap[w.heap.size]? = _) := Lib.hid HA1.out
  have HBd : Hid (W2.drew.heap[w.heap.size + 1]? = _) := Lib.hid HB1.out
  have HRd : Hid (W2.drew.heap[w.heap.size + 1 + 1]? = _) := Lib.hid HR1.out
  have HSd : Hid (W2.drew.heap[w.heap.size + 1 + 1 + 1]? = _) := Lib.hid HS1.out
  have Hd : Below W2.heap.size W2 W2.drew := (Below.refl _ _).drew
  have Sd := four_cells HAd.out HBd.out
  clear HA1 HB1 HR1 HS1
  go_region_held3 (fun w' => w'.cell? ⟨w.heap.size, 0, none⟩ = some (.bool na) ∧ w'.cell? ⟨w.heap.size, 1, none⟩ = some (.slice a n cap) ∧ w'.cell? ⟨w.heap.size + 1, 0, none⟩ = some (.bool nb) ∧ w'.cell? ⟨w.heap.size + 1, 1, none⟩ = some (.slice b m cap')) (first | with_reducible exact Sd | with_reducible exact Sq1 | with_reducible exact Sq2 | with_reducible exact Sq3.out | with_reducible exact Sq4.out)
    (first
    | (go_at_call 93; (first
      | (have qm := M1; (refine (whole_signed nb ra rn rc _ _ (HP.out.later (below_then Hd b5)) hrn).mono ?_); rintro e w6 ⟨a6, n6, c6, rfl, h6, b6⟩; have Sq2 := four_cells (blk_later hA5 b6) (blk_later hB5 b6); have Sq3 := Lib.hid (four_stored (g := w.heap.size + 1 + 1) (blk_later hA5 b6) (blk_later hB5 b6) (by omega) (by omega) (.bool (zneg (zval true (val la / val lb)))) (.slice a5 n5 c5)); have Sq4 := Lib.hid (four_stored (g := w.heap.size + 1 + 1 + 1) (blk_apart2 (blk_later hA5 b6) (show w.heap.size ≠ w.heap.size + 1 + 1 by omega) (.bool (zneg (zval true (val la / val lb)))) (.slice a5 n5 c5)) (blk_apart2 (blk_later hB5 b6) (show w.heap.size + 1 ≠ w.heap.size + 1 + 1 by omega) (.bool (zneg (zval true (val la / val lb)))) (.slice a5 n5 c5)) (by omega) (by omega) (.bool (zneg (zval nb (val la % val lb)))) (.slice a6 n6 c6)); have hRb := blk_later HRd.out (below_then b5 b6); have hSb := blk_later HSd.out (below_then b5 b6); have r0 := blk_cell hRb 0; have r1 := blk_cell hRb 1; have f0 := blk_free hRb 0; have f1 := blk_free hRb 1; have s0 := blk_cell hSb 0; have s1 := blk_cell hSb 1; have g0 := blk_free hSb 0; have g1 := blk_free hSb 1; simp only [List.getElem?_toArray, List.getElem?_cons_zero, List.getElem?_cons_succ] at r0 r1 s0 s1; unfold whV)
      | ((refine (whole_signed true qa qn qc _ _ (HQ.out.later Hd) hqn).mono ?_); rintro e w5 ⟨a5, n5, c5, rfl, h5, b5⟩; have M1 := True.intro; have hA5 := blk_later HAd.out b5; have hB5 := blk_later HBd.out b5; have Sq1 := four_cells hA5 hB5; unfold whV))))
  have hBe := Lib.hid (below_then HB.out (below_then Hd (below_then b5 b6)))
  have H5 := Lib.hid (h5.later b6)
  have H6 := Lib.hid h6
  have hRl := Lib.hid hRb
  have hSl := Lib.hid hSb
  clear hRb hSb h5 h6 b5 b6 Sd HQ HP HB hA5 hB5 HAd HBd HRd HSd M1 Hd
  rw [HVq.out, HVr.out]
  rw [HVq.out] at H5
  rw [HVr.out] at H6
  generalize Int.fdiv (zval na (val la)) (zval nb (val lb)) = zq at *
  generalize Int.fmod (zval na (val la)) (zval nb (val lb)) = zr at *
  have HN1 := Lib.hid (blk_apart2 hSl.out (show w.heap.size + 1 + 1 + 1 ≠ w.heap.size + 1 + 1 by omega) (.bool (zneg zq)) (.slice a5 n5 c5))
  have HG1 := Lib.hid (blk_apart2 (blk_set2 hRl.out (.bool (zneg zq)) (.slice a5 n5 c5)) (show w.heap.size + 1 + 1 ≠ w.heap.size + 1 + 1 + 1 by omega) (.bool (zneg zr)) (.slice a6 n6 c6))
  have HG2 := Lib.hid (blk_set2 HN1.out (.bool (zneg zr)) (.slice a6 n6 c6))
  have HL5 := Lib.hid ((H5.out.stored2 hRl.out (zneg zq) (.slice a5 n5 c5)).stored2 HN1.out (zneg zr) (.slice a6 n6 c6))
  have HL6 := Lib.hid ((H6.out.stored2 hRl.out (zneg zq) (.slice a5 n5 c5)).stored2 HN1.out (zneg zr) (.slice a6 n6 c6))
  have HBz := Lib.hid (below_set2 (below_set2 hBe.out (show w.heap.size ≤ w.heap.size + 1 + 1 by omega) (.bool (zneg zq)) (.slice a5 n5 c5)) (show w.heap.size ≤ w.heap.size + 1 + 1 + 1 by omega) (.bool (zneg zr)) (.slice a6 n6 c6))
  go_wp2
  refine bodyPost_ret (results_rows2_tmp Tryz.results117 _ _ (w.heap.size + 1 + 1) (w.heap.size + 1 + 1 + 1) 28 28 #[.bool (zneg zq), .slice a5 n5 c5] #[.bool (zneg zr), .slice a6 n6 c6] (0, 0) (0, 0) _ _ rfl HG1.out Tryz.underlying28 rfl (by kernel_rfl) rfl HG2.out Tryz.underlying28 rfl (by kernel_rfl)) rfl ?_
  exact ⟨a5, n5, c5, a6, n6, c6, rfl, HL5.out, HL6.out, HBz.out⟩
end Go.Proofs.YteoeicfbaffjcaaGreatDoor
