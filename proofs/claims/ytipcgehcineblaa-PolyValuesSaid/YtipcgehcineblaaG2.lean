/-
  Several texts of this claim as one, group 2.
-/
import Derived.Test.YtipcgehcineblaaG1
import Derived.OwnWalk
import Derived.Lib.BitFns
import Derived.Lib.TrailingZeros
/-
  The contracts of package nat (layer 2) at this seat: comparing, reading as a number, the longest of some.
-/
namespace Go.Proofs.Ytipcgehcineblaa
open Go.RowKit

theorem or_low {hi lo : Int} (h0 : 0 ≤ hi) (h : hi ≤ 4294967295) (hl0 : 0 ≤ lo) (hl : lo ≤ 4294967295) : bits .or .u64 lo (hi * 4294967296) = lo + hi * 4294967296 := by
  have e := or_words h0 h hl0 hl
  have c : bits .or .u64 lo (hi * 4294967296) = bits .or .u64 (hi * 4294967296) lo := by
    show IntKind.u64.wrap ((BitVec.ofInt 64 lo ||| BitVec.ofInt 64 (hi * 4294967296)).toNat : Int) = IntKind.u64.wrap ((BitVec.ofInt 64 (hi * 4294967296) ||| BitVec.ofInt 64 lo).toNat : Int)
    rw [BitVec.or_comm]
  rw [c, e, Int.add_comm]
theorem or_none {x : Int} (h0 : 0 ≤ x) (h : x ≤ 4294967295) : bits .or .u64 0 x = x := by
  have e := or_words (hi := 0) (lo := x) (by omega) (by omega) h0 h
  simpa using e

set_option maxRecDepth 4096 in
set_option maxHeartbeats 1000000 in
theorem nat_cmp (a : Option Addr) (n cap : Nat) (la : List Nat) (b : Option Addr) (m cap' : Nat) (lb : List Nat) (w : World) (ha : Wd w a n cap la) (hb : Wd w b m cap' lb) :
    Calls Try.prog 67 #[.slice a n cap, .slice b m cap'] w (Gives (.int .i64 (cmpI (val la) (val lb))) w) := by
  obtain ⟨hb1, hb2⟩ := ha.bound
  obtain ⟨hb3, hb4⟩ := hb.bound
  have Ha := Lib.hid ha
  have Hb := Lib.hid hb
  clear ha hb
  go_enter Try.func67, Try.ntmps67
  go_wp2_with fail
  refine (nat_trim _ _ _ _ _ Ha.out).mono ?_
  rintro e w' ⟨p, rfl, Hp, hp, HA, rfl⟩
  go_wp2_with fail
  refine (nat_trim _ _ _ _ _ Hb.out).mono ?_
  rintro e w' ⟨q, rfl, Hq, hq, HB, rfl⟩
  by_cases hpq : p = q
  · have Hpq := Lib.hid hpq
    subst hpq
    go_wp2
    go_loopw [5] (fun i wr => ∃ k r : Nat, k ≤ p ∧ i = .int .i64 ((k : Int) - 1) ∧ wr = w.drewN r ∧ Hid (top (dg (val la)) k = top (dg (val lb)) k)) (fun i _ => (intOf i + 1).toNat)
    case atStart => exact ⟨p, 0, by omega, by go_num, rfl, Lib.hid (by rw [top_ge (by rw [← Hp.out]; omega), top_ge (by rw [← Hq.out]; omega)])⟩
    case round =>
      obtain ⟨k, r, hk, rfl, rfl, Ht⟩ := hrel
      cases k with
      | zero =>
        have hv : val la = val lb := by have := Ht.out; rw [top_zero, top_zero, val_dg, val_dg] at this; exact this
        have Hfin := Lib.hid (cmpI_eq hv)
        clear hv
        go_wp2
        go_ret
        exact ⟨ret_i64 Hfin.out.symm, below_draws _ _⟩
      | succ k =>
        have e1 : ((k + 1 : Nat) : Int) - 1 = (k : Int) := by omega
        rw [e1]
        clear e1
        obtain ⟨ba, oa, rfl, hca⟩ := HA.out.at (by omega)
        obtain ⟨bb, ob, rfl, hcb⟩ := HB.out.at (by omega)
        have hcak := hca k (by omega)
        have hcbk := hcb k (by omega)
        clear hca hcb
        have hxa := atw_lt (okw_dg (val la)) k
        have hxb := atw_lt (okw_dg (val lb)) k
        obtain ⟨x, hx⟩ : ∃ x, x = atw (dg (val la)) k := ⟨_, rfl⟩
        obtain ⟨y, hy⟩ : ∃ y, y = atw (dg (val lb)) k := ⟨_, rfl⟩
        rw [← hx] at hxa hcak
        rw [← hy] at hxb hcbk
        have Hx := Lib.hid hx
        have Hy := Lib.hid hy
        clear hx hy
        rcases Nat.lt_trichotomy x y with hxy | hxy | hxy
        · have h1 : ((x : Int) != (y : Int)) = true := by simp; omega
          have h2 : decide (x < y) = true := by simp; omega
          have Hfin := Lib.hid (cmpI_lt (cmp_lt (okw_dg _) Ht.out (by rw [← Hx.out, ← Hy.out]; exact hxy)))
          rw [val_dg, val_dg] at Hfin
          clear hxy
          go_wp2
          go_quiet (fail)
          go_wp2
          go_quiet ((go_at_call 76; exact quiet_here (nat_sign_yes _) ⟨_, rfl⟩))
          go_wp2
          go_ret
          exact ⟨ret_i64 Hfin.out.symm, by simp only [World.drewN_drewN]; exact below_draws _ _⟩
        · have h1 : ((x : Int) != (y : Int)) = false := by simp; omega
          have Hxy := Lib.hid hxy
          clear hxy
          go_wp2
          go_quiet (fail)
          go_wp2
          go_roundw
          case rel => exact ⟨k, _, by omega, by go_num, rfl, Lib.hid (top_eq Ht.out (by rw [← Hx.out, ← Hy.out]; exact Hxy.out))⟩
          case measure => simp [intOf]
        · have h1 : ((x : Int) != (y : Int)) = true := by simp; omega
          have h2 : decide (x < y) = false := by simp; omega
          have Hfin := Lib.hid (cmpI_gt (cmp_lt (okw_dg _) Ht.out.symm (by rw [← Hx.out, ← Hy.out]; exact hxy)))
          rw [val_dg, val_dg] at Hfin
          clear hxy
          go_wp2
          go_quiet (fail)
          go_wp2
          go_quiet ((go_at_call 76; exact quiet_here (nat_sign_no _) ⟨_, rfl⟩))
          go_wp2
          go_ret
          exact ⟨ret_i64 Hfin.out.symm, by simp only [World.drewN_drewN]; exact below_draws _ _⟩
  · have h1 : ((p : Int) != (q : Int)) = true := by simp; omega
    by_cases hlt : p < q
    · have h2 : decide (p < q) = true := by simp; omega
      have Hfin := Lib.hid (cmpI_lt (lt_of_dg_length (a := val la) (b := val lb) (by rw [← Hp.out, ← Hq.out]; exact hlt)))
      clear hpq hlt
      go_wp2_with fail
      refine (nat_sign_yes _).mono ?_
      rintro e w' ⟨rfl, rfl⟩
      go_wp2
      go_ret
      exact ⟨ret_i64 Hfin.out.symm, Below.refl _ _⟩
    · have h2 : decide (p < q) = false := by simp; omega
      have Hfin := Lib.hid (cmpI_gt (lt_of_dg_length (a := val lb) (b := val la) (by rw [← Hp.out, ← Hq.out]; omega)))
      clear hpq hlt
      go_wp2_with fail
      refine (nat_sign_no _).mono ?_
      rintro e w' ⟨rfl, rfl⟩
      go_wp2
      go_ret
      exact ⟨ret_i64 Hfin.out.symm, Below.refl _ _⟩
set_option maxRecDepth 4096 in
set_option maxHeartbeats 400000 in
theorem nat_small (a : Option Addr) (n cap : Nat) (l : List Nat) (w : World) (h : Wd w a n cap l) :
    Calls Try.prog 71 #[.slice a n cap] w (Gives (.tuple #[.int .u64 ((smallV (val l) : Nat) : Int), .bool (smallB (val l))]) w) := by
  obtain ⟨hb1, hb2⟩ := h.bound
  have H := Lib.hid h
  clear h
  go_enter Try.func71, Try.ntmps71
  go_wp2_with fail
  refine (nat_trim _ _ _ _ _ H.out).mono ?_
  rintro e w' ⟨m, rfl, Hm, hmn, HT, rfl⟩
  have Hk : Hid (m ≤ 2 ↔ val l < two64) := Lib.hid (by rw [Hm.out]; exact dg_length_pow (k := 2))
  by_cases hm2 : m ≤ 2
  · have Hv : Hid (val l < two64) := Lib.hid (Hk.out.1 hm2)
    have Hl : Hid (val l = atw (dg (val l)) 0 + 4294967296 * atw (dg (val l)) 1) := Lib.hid (by have := val_two (l := dg (val l)) (by rw [← Hm.out]; exact hm2); rwa [val_dg] at this)
    have hx0 := atw_lt (okw_dg (val l)) 0
    have hx1 := atw_lt (okw_dg (val l)) 1
    have h1n : Hid (m ≤ 1 → atw (dg (val l)) 1 = 0) := Lib.hid fun h => atw_ge (by rw [← Hm.out]; exact h)
    have h0n : Hid (m ≤ 0 → atw (dg (val l)) 0 = 0) := Lib.hid fun h => atw_ge (by rw [← Hm.out]; exact h)
    obtain ⟨x, hx⟩ : ∃ x, x = atw (dg (val l)) 0 := ⟨_, rfl⟩
    obtain ⟨y, hy⟩ : ∃ y, y = atw (dg (val l)) 1 := ⟨_, rfl⟩
    have hc0 : 0 < m → ∃ b off, a = some ⟨b, off, none⟩ ∧ w.cell? ⟨b, off, none⟩ = some (.int .u32 (x : Int)) := fun h => by
      obtain ⟨b, off, e, hc⟩ := HT.out.at h
      exact ⟨b, off, e, by rw [hx]; exact hc 0 h⟩
    have hc1 : 1 < m → ∃ b off, a = some ⟨b, off, none⟩ ∧ w.cell? ⟨b, off + 1, none⟩ = some (.int .u32 (y : Int)) := fun h => by
      obtain ⟨b, off, e, hc⟩ := HT.out.at (by omega)
      exact ⟨b, off, e, by rw [hy]; exact hc 1 h⟩
    have Hc0 := Lib.hid hc0
    have Hc1 := Lib.hid hc1
    rw [← hx] at Hl hx0 h0n
    rw [← hy] at Hl hx1 h1n
    clear hx hy hc0 hc1
    have Hfin : Hid (smallV (val l) = x + 4294967296 * y ∧ smallB (val l) = true) := Lib.hid ⟨by unfold smallV; rw [if_pos Hv.out]; exact Hl.out, decide_eq_true Hv.out⟩
    have Ho1 : Hid (bits .or .u64 0 (x : Int) = (x : Int)) := Lib.hid (or_none (by omega) (by omega))
    have Ho2 : Hid (bits .or .u64 (x : Int) ((y : Int) * 4294967296) = (x : Int) + (y : Int) * 4294967296) := Lib.hid (or_low (by omega) (by omega) (by omega) (by omega))
    go_wp2
    go_loop [4, 14] (fun nn ix => (ix = .int .i64 0 ∧ nn = .int .u64 0) ∨ (ix = .int .i64 1 ∧ 1 ≤ m ∧ nn = .int .u64 (x : Int)) ∨ (ix = .int .i64 2 ∧ 2 ≤ m ∧ nn = .int .u64 ((x : Int) + (y : Int) * 4294967296))) (fun _ ix => 2 - (intOf ix).toNat)
    case atStart => exact .inl ⟨rfl, rfl⟩
    case round =>
      rcases hrel with ⟨rfl, rfl⟩ | ⟨rfl, hr, rfl⟩ | ⟨rfl, hr, rfl⟩
      · by_cases h0 : 0 < m
        · obtain ⟨b, off, rfl, hck⟩ := Hc0.out h0
          have ho1 := Ho1.out
          go_wp2
          go_round
          case rel => exact .inr (.inl ⟨rfl, h0, rfl⟩)
          case measure => simp [intOf]
        · have hm0 : m = 0 := by omega
          have hfin := Hfin.out
          rw [h0n.out (by omega), h1n.out (by omega)] at hfin
          have Hfin2 := Lib.hid hfin
          clear hfin Hfin
          subst hm0
          go_wp2
          go_ret2
          rw [Hfin2.out.1, Hfin2.out.2]
          exact ⟨rfl, Below.refl _ _⟩
      · by_cases h0 : 1 < m
        · obtain ⟨b, off, rfl, hck⟩ := Hc1.out h0
          have ho2 := Ho2.out
          go_wp2
          go_round
          case rel => exact .inr (.inr ⟨rfl, h0, rfl⟩)
          case measure => simp [intOf]
        · have hm0 : m = 1 := by omega
          have hfin := Hfin.out
          rw [h1n.out (by omega)] at hfin
          have Hfin2 := Lib.hid hfin
          clear hfin Hfin
          subst hm0
          go_wp2
          go_ret2
          rw [Hfin2.out.1, Hfin2.out.2]
          exact ⟨rfl, Below.refl _ _⟩
      · have hm0 : m = 2 := by omega
        subst hm0
        go_wp2
        go_ret2
        rw [Hfin.out.1, Hfin.out.2]
        exact ⟨by simp; omega, Below.refl _ _⟩
  · have Hfin : Hid (smallV (val l) = 0 ∧ smallB (val l) = false) := Lib.hid ⟨by unfold smallV; rw [if_neg (fun h => hm2 (Hk.out.2 h))], decide_eq_false (fun h => hm2 (Hk.out.2 h))⟩
    have hm3 : (2 : Int) < (m : Int) := by omega
    clear hm2
    go_wp2
    go_ret2
    rw [Hfin.out.1, Hfin.out.2]
    exact ⟨rfl, Below.refl _ _⟩
end Go.Proofs.Ytipcgehcineblaa

/-
  The contracts of package nat (layer 2) at this seat: sums.
-/
namespace Go.Proofs.Ytipcgehcineblaa
open Go.RowKit

/-- Words in a row of the call's own. -/
def Own (w : World) (base g n cap : Nat) (l : List Nat) : Prop := w.ownsRow base 85 1 (.slice (some ⟨g, 0, none⟩) n cap) n (wcells l) ∧ okw l
theorem Own.wd {w : World} {base g n cap : Nat} {l : List Nat} (h : Own w base g n cap l) : Wd w (some ⟨g, 0, none⟩) n cap l := Wd.own h.1 h.2
theorem Own.len {w : World} {base g n cap : Nat} {l : List Nat} (h : Own w base g n cap l) : l.length = n := h.wd.len
theorem Own.base {w : World} {base g n cap : Nat} {l : List Nat} (h : Own w base g n cap l) : base ≤ g ∧ g < w.heap.size := h.1.lt g rfl
theorem Own.cell {w : World} {base g n cap : Nat} {l : List Nat} (h : Own w base g n cap l) {k : Nat} (hk : k < n) : w.cell? ⟨g, k, none⟩ = some (.int .u32 ((atw l k : Nat) : Int)) :=
  (h.1.cellAt k (by omega)).trans (wcells_at (by rw [h.len]; exact hk))
theorem Own.set {w : World} {base g n cap : Nat} {l : List Nat} (h : Own w base g n cap l) (k r : Nat) (hr : r < 4294967296) : Own (w.setCell ⟨g, k, none⟩ (.int .u32 ((r : Nat) : Int))) base g n cap (l.set k r) := by
  refine ⟨?_, fun x hx => ?_⟩
  · rw [← wcells_set]; exact (h.1.stored k _).1
  · rcases List.mem_or_eq_of_mem_set hx with h1 | h1
    · exact h.2 x h1
    · omega
theorem Own.push {w' : World} {base : Nat} {v' : Value} {n : Nat} {l : List Nat} {r : Nat} (h : w'.ownsRow base 85 1 v' (n + 1) (wcells l ++ [.int .u32 ((r : Nat) : Int)])) (ho : okw l) (hr : r < 4294967296) : ∃ g cap, v' = .slice (some ⟨g, 0, none⟩) (n + 1) cap ∧ Own w' base g (n + 1) cap (l ++ [r]) := by
  have e : wcells l ++ [Value.int .u32 ((r : Nat) : Int)] = wcells (l ++ [r]) := by simp [wcells]
  rw [e] at h
  rcases h.2 with ⟨_, h0⟩ | ⟨g, cap, cur, rfl, h3⟩
  · omega
  · exact ⟨g, cap, rfl, h, okw_snoc ho hr⟩

theorem limb_add_nat (x y c : Nat) (w : World) (hx : x < 4294967296) (hy : y < 4294967296) (hc : c ≤ 1) : Calls Try.prog 83 #[.int .u32 (x : Int), .int .u32 (y : Int), .int .u32 (c : Int)] w fun e w' =>
    ∃ r z : Nat, e = .returned (.tuple #[.int .u32 (r : Int), .int .u32 (z : Int)]) ∧ z ≤ 1 ∧ r < 4294967296 ∧ Hid (r + 4294967296 * z = c + (x + y)) ∧ w = w' :=
  (limb_add x y c w (by omega) (by omega) (by omega) (by omega) (by omega) (by omega)).mono fun e w' ⟨he, hw⟩ => ⟨(x + y + c) % 4294967296, (x + y + c) / 4294967296, by rw [he]; rfl, by omega, by omega, Lib.hid (by omega), hw⟩
theorem limb_add_nat0 (x c : Nat) (w : World) (hx : x < 4294967296) (hc : c ≤ 1) : Calls Try.prog 83 #[.int .u32 (x : Int), .int .u32 0, .int .u32 (c : Int)] w fun e w' =>
    ∃ r z : Nat, e = .returned (.tuple #[.int .u32 (r : Int), .int .u32 (z : Int)]) ∧ z ≤ 1 ∧ r < 4294967296 ∧ Hid (r + 4294967296 * z = c + (x + 0)) ∧ w = w' :=
  limb_add_nat x 0 c w hx (by omega) hc
theorem limb_sub_nat (x y c : Nat) (w : World) (hx : x < 4294967296) (hy : y < 4294967296) (hc : c ≤ 1) : Calls Try.prog 84 #[.int .u32 (x : Int), .int .u32 (y : Int), .int .u32 (c : Int)] w fun e w' =>
    ∃ r z : Nat, e = .returned (.tuple #[.int .u32 (r : Int), .int .u32 (z : Int)]) ∧ z ≤ 1 ∧ r < 4294967296 ∧ Hid (x + 4294967296 * z = y + c + r) ∧ w = w' :=
  (limb_sub x y c w (by omega) (by omega) (by omega) (by omega) (by omega) (by omega)).mono fun e w' ⟨he, hw⟩ => by
    by_cases h : x < y + c
    · refine ⟨x + 4294967296 - (y + c), 1, ?_, by omega, by omega, Lib.hid (by omega), hw⟩
      have e1 : ((x : Int) - y - c) % 4294967296 = ((x + 4294967296 - (y + c) : Nat) : Int) := by omega
      have e2 : -(((x : Int) - y - c) / 4294967296) = ((1 : Nat) : Int) := by omega
      rw [he, e1, e2]
    · refine ⟨x - (y + c), 0, ?_, by omega, by omega, Lib.hid (by omega), hw⟩
      have e1 : ((x : Int) - y - c) % 4294967296 = ((x - (y + c) : Nat) : Int) := by omega
      have e2 : -(((x : Int) - y - c) / 4294967296) = ((0 : Nat) : Int) := by omega
      rw [he, e1, e2]
theorem limb_sub_nat0 (x c : Nat) (w : World) (hx : x < 4294967296) (hc : c ≤ 1) : Calls Try.prog 84 #[.int .u32 (x : Int), .int .u32 0, .int .u32 (c : Int)] w fun e w' =>
    ∃ r z : Nat, e = .returned (.tuple #[.int .u32 (r : Int), .int .u32 (z : Int)]) ∧ z ≤ 1 ∧ r < 4294967296 ∧ Hid (x + 4294967296 * z = 0 + c + r) ∧ w = w' :=
  limb_sub_nat x 0 c w hx (by omega) hc

def LongestPost (ls : List (List Nat)) (w : World) (e : Ending) (w' : World) : Prop := ∃ N : Nat, e = .returned (.int .i64 (N : Int)) ∧ N ≤ words ls ∧ w = w'
set_option maxRecDepth 4096 in
set_option maxHeartbeats 400000 in
theorem nat_longest (a : Option Addr) (n cap : Nat) (ls : List (List Nat)) (w : World) (h : Wds w a n cap ls) (hw : words ls ≤ 1048576000000) :
    Calls Try.prog 72 #[.slice a n cap] w (LongestPost ls w) := by
  obtain ⟨hb1, hb2⟩ := h.bound
  have H := Lib.hid h
  clear h
  go_enter Try.func72, Try.ntmps72
  go_wp2
  go_loop [3, 8] (fun u i => ∃ k N : Nat, k ≤ n ∧ i = .int .i64 k ∧ u = .int .i64 N ∧ N ≤ words ls) (fun _ i => n - (intOf i).toNat)
  case atStart => exact ⟨0, 0, by omega, rfl, rfl, by omega⟩
  case round =>
    obtain ⟨k, N, hk, rfl, rfl, hN⟩ := hrel
    by_cases hlt : k < n
    · obtain ⟨b, off, rfl, a', n', c', hc, hwd⟩ := H.out.at hlt
      have hn' : n' ≤ words ls := by rw [← hwd.len]; exact words_mem _ _ (by rw [H.out.len]; exact hlt)
      have HW := Lib.hid hwd
      clear hwd
      have hk1 : (k : Int) < (n : Int) := by omega
      go_wp2_with fail
      refine (nat_trim _ _ _ _ _ HW.out).mono ?_
      rintro e w' ⟨m, rfl, Hm, hmn, HT, rfl⟩
      by_cases hNm : N ≤ m
      · have hNi : (N : Int) ≤ (m : Int) := by omega
        go_wp2
        go_round
        case rel => exact ⟨k + 1, m, by omega, by go_num, by first | rfl | (congr 1; omega) | (simp; omega), by omega⟩
        case measure => simp [intOf]; omega
      · have hNi : (m : Int) < (N : Int) := by omega
        go_wp2
        go_round
        case rel => exact ⟨k + 1, N, by omega, by go_num, by first | rfl | (congr 1; omega) | (simp; omega), by omega⟩
        case measure => simp [intOf]; omega
    · go_wp2
      go_ret
      exact ⟨N, rfl, hN, rfl⟩
end Go.Proofs.Ytipcgehcineblaa

/-
  The contracts of package nat (layer 2) at this seat: addTo, Add.
-/
namespace Go.Proofs.Ytipcgehcineblaa
open Go.RowKit

/-- A right list in a row of the call's own comes back. -/
def OwnPost (w0 : World) (v : Nat) (e : Ending) (w' : World) : Prop :=
  ∃ g n cap : Nat, e = .returned (.slice (some ⟨g, 0, none⟩) n cap) ∧ Hid (Own w' w0.heap.size g n cap (dg v)) ∧ Below w0.heap.size w0 w'

set_option maxRecDepth 4096 in
set_option maxHeartbeats 4000000 in
theorem nat_addTo (w0 w : World) (g n cap p : Nat) (b : Option Addr) (m cap' q : Nat) (ho : Own w w0.heap.size g n cap (dg p)) (hB : Below w0.heap.size w0 w) (hb : Wd w0 b m cap' (dg q)) (hn : n ≤ 2097152000000) (hm : m ≤ 2097152000000) :
    Calls Try.prog 73 #[.slice (some ⟨g, 0, none⟩) n cap, .slice b m cap'] w (OwnPost w0 (p + q)) := by
  obtain ⟨i0, hi, hz0, hz1, hz2⟩ := info_parts infoU32
  obtain ⟨hb1, hb2⟩ := hb.bound
  have Ho := Lib.hid ho
  have Hb := Lib.hid hb
  clear ho hb
  go_enter Try.func73, Try.ntmps73
  go_wp2
  go_loopw [0] (fun s wr => ∃ g' n' cap' j : Nat, s = .slice (some ⟨g', 0, none⟩) n' cap' ∧ n' ≤ 2097152000000 ∧ Hid (n' = n + j ∧ (j = 0 ∨ n' ≤ m)) ∧ Hid (Own wr w0.heap.size g' n' cap' (dg p ++ List.replicate j 0)) ∧ Below w0.heap.size w0 wr) (fun s _ => m - lenOf s)
  case atStart => exact ⟨g, n, cap, 0, rfl, by omega, Lib.hid ⟨rfl, .inl rfl⟩, Lib.hid (by simpa using Ho.out), hB⟩
  case round =>
    obtain ⟨g', n', cap2, j, rfl, hn2, Hnj, Ho', hB'⟩ := hrel
    by_cases hlt : n' < m
    · have hbase : w0.heap.size ≤ wr.heap.size := hB'.size
      go_wp2_with (at_builtin; refine wpList_append_own _ rfl _ _ 23 rfl w0.heap.size 85 i0 (.int .u32 0) 1 4 Try.underlying23 hi hz0 hz1 hz2 rfl (by decide) _ n' _ rfl (Ho'.out.1.alloc _) ⟨wr.heap.size, 0, none⟩ 1 1 (wcells [0]) rfl rfl (Wd.lit1 wr 85 (x := 0) (by omega)).cells (wcells_one _) (by unfold maxLen; omega) (by omega) (by simp; omega) ?_)
      intro v' w1 hown hgrow _
      obtain ⟨g2, cap3, rfl, HO⟩ := Own.push (r := 0) hown Ho'.out.2 (by decide)
      have HO' := Lib.hid HO
      have hb := Ho'.out.base
      have hB1 : Below w0.heap.size w0 w1 := (hB'.alloc hbase _).grown hgrow (by simp; omega) (by intro k hk; simp [Value.ownBlock] at hk; omega)
      clear HO hown hgrow
      go_wp2
      go_roundw
      case rel => exact ⟨g2, n' + 1, cap3, j + 1, rfl, by omega, Lib.hid ⟨by have := Hnj.out; omega, .inr (by omega)⟩, Lib.hid (by have := HO'.out; rwa [List.append_assoc, ← List.replicate_succ'] at this), hB1⟩
      case measure => simp [lenOf]; omega
    · have hge : Hid (n' = 0 ∨ 4294967296 ^ (n' - 1) ≤ p + q) := Lib.hid (by
        have hm' := Hb.out.len
        obtain ⟨hn', hj⟩ := Hnj.out
        have hnl := Ho.out.len
        by_cases h0 : n' = 0
        · exact .inl h0
        · refine .inr ?_
          rcases hj with hj | hj
          · have h1 := dg_ge (n := p) (by omega)
            rw [show (dg p).length = n' by omega] at h1
            omega
          · have h1 := dg_ge (n := q) (by omega)
            rw [show (dg q).length = n' by omega] at h1
            omega)
      have hx : Hid (okw (dg p ++ List.replicate j 0) ∧ (dg p ++ List.replicate j 0).length = n' ∧ val (dg p ++ List.replicate j 0) = p) := Lib.hid ⟨Ho'.out.2, Ho'.out.len, by rw [val_append_zeros, val_dg]⟩
      have hqm : Hid (okw (dg q) ∧ (dg q).length = m ∧ val (dg q) = q) := Lib.hid ⟨okw_dg _, Hb.out.len, val_dg _⟩
      have hmn : m ≤ n' := by omega
      generalize dg p ++ List.replicate j 0 = x at Ho' hx
      have hd : decide (n' < m) = false := decide_eq_false hlt
      clear Hnj Ho hB hlt
      go_wp2
      go_loopw [5, 19] (fun cv iv w2 => ∃ (k c : Nat) (o : List Nat), k ≤ m ∧ iv = .int .i64 k ∧ cv = .int .u32 (c : Int) ∧ c ≤ 1 ∧ Hid (o.length = k) ∧ Hid (val o + 4294967296 ^ k * c = low x k + low (dg q) k) ∧ Hid (Own w2 w0.heap.size g' n' cap2 (o ++ x.drop k)) ∧ Below w0.heap.size w0 w2) (fun _ iv _ => m - (intOf iv).toNat)
      case atStart => exact ⟨0, 0, [], by omega, rfl, rfl, by omega, Lib.hid rfl, Lib.hid (by rw [low_zero, low_zero]; rfl), Lib.hid (by simpa using Ho'.out), hB'⟩
      case round =>
        clear Ho' hB'
        obtain ⟨k, c, o, hk, rfl, rfl, hc, Hol, Hv, HO, hB2⟩ := hrel
        by_cases hlt : k < m
        · obtain ⟨bb, ob, rfl, hcb⟩ := (Hb.out.later hB2).at (by omega)
          have hcbk := hcb k hlt
          have hcell := HO.out.cell (k := k) (by omega)
          rw [atw_over _ _ _ Hol.out] at hcell
          have hfro := HO.out.1.frozenAt k
          have hyl := atw_lt hqm.out.1 k
          have hxl := atw_lt hx.out.1 k
          obtain ⟨xk, hxk⟩ : ∃ xk, xk = atw x k := ⟨_, rfl⟩
          obtain ⟨yk, hyk⟩ : ∃ yk, yk = atw (dg q) k := ⟨_, rfl⟩
          rw [← hxk] at hxl hcell
          rw [← hyk] at hyl hcbk
          have Hxk := Lib.hid hxk
          have Hyk := Lib.hid hyk
          have hk1 : (k : Int) < (n' : Int) := by omega
          have hb := HO.out.base
          clear hxk hyk hcb
          go_wp2_with (go_at_call 83; (with_reducible refine (limb_add_nat xk yk c _ (by omega) (by omega) (by omega)).mono ?_); rintro e w' ⟨r, z, rfl, hz, hr, Hs, rfl⟩)
          go_roundw
          case rel => exact ⟨k + 1, z, o ++ [r], by omega, by go_num, rfl, hz, Lib.hid (by have := Hol.out; simp; omega), Lib.hid (add_more Hol.out Hv.out hr (by rw [Hs.out, Hxk.out, Hyk.out])), Lib.hid (by have h := HO.out.set k r hr; rwa [set_over o x k r Hol.out (by rw [hx.out.2.1]; omega)] at h), hB2.setCell hb.1 _⟩
          case measure => simp [intOf]; omega
        · obtain rfl : k = m := by omega
          go_wp2
          go_loopw [5, 8] (fun cv iv w3 => ∃ (t c : Nat) (o : List Nat), k ≤ t ∧ t ≤ n' ∧ iv = .int .i64 t ∧ cv = .int .u32 (c : Int) ∧ c ≤ 1 ∧ Hid (o.length = t) ∧ Hid (val o + 4294967296 ^ t * c = low x t + low (dg q) t) ∧ Hid (Own w3 w0.heap.size g' n' cap2 (o ++ x.drop t)) ∧ Below w0.heap.size w0 w3) (fun _ iv _ => n' - (intOf iv).toNat)
          case atStart => exact ⟨k, c, o, by omega, by omega, rfl, rfl, hc, Hol, Hv, HO, hB2⟩
          case round =>
            clear HO hB2 Hv Hol hc
            obtain ⟨t, c, o, hkt, htn, rfl, rfl, hc, Hol, Hv, HO, hB2⟩ := hrel
            by_cases hc0 : c = 0
            · subst hc0
              have Hfin := Lib.hid (add_right0 (x := o ++ x.drop t) (p := p) (q := q) HO.out.2 (by rw [add_stop Hol.out (by rw [hqm.out.2.1]; exact hkt) (by simpa using Hv.out), hx.out.2.2, hqm.out.2.2]) (by rw [HO.out.len]; exact hge.out))
              by_cases hlt : t < n'
              · go_wp2
                go_ret
                exact ⟨g', n', cap2, rfl, Lib.hid (by rw [← Hfin.out]; exact HO.out), hB2⟩
              · go_wp2
                go_ret
                exact ⟨g', n', cap2, rfl, Lib.hid (by rw [← Hfin.out]; exact HO.out), hB2⟩
            · have Hc1 : Hid (c = 1) := Lib.hid (by omega)
              have hcp : 0 < c := by omega
              have hcpi : (0 : Int) < (c : Int) := by omega
              clear hc0
              by_cases hlt : t < n'
              · have hcell := HO.out.cell (k := t) (by omega)
                rw [atw_over _ _ _ Hol.out] at hcell
                have hfro := HO.out.1.frozenAt t
                have hxl := atw_lt hx.out.1 t
                obtain ⟨xk, hxk⟩ : ∃ xk, xk = atw x t := ⟨_, rfl⟩
                rw [← hxk] at hxl hcell
                have Hxk := Lib.hid hxk
                have hyk : Hid (atw (dg q) t = 0) := Lib.hid (atw_ge (by rw [hqm.out.2.1]; exact hkt))
                have hk1 : (t : Int) < (n' : Int) := by omega
                have hb := HO.out.base
                clear hxk
                go_wp2_with (go_at_call 83; (with_reducible refine (limb_add_nat0 xk c _ (by omega) (by omega)).mono ?_); rintro e w' ⟨r, z, rfl, hz, hr, Hs, rfl⟩)
                go_roundw
                case rel => exact ⟨t + 1, z, o ++ [r], by omega, by omega, by go_num, rfl, hz, Lib.hid (by have := Hol.out; simp; omega), Lib.hid (add_more Hol.out Hv.out hr (by rw [Hs.out, Hxk.out, hyk.out])), Lib.hid (by have h := HO.out.set t r hr; rwa [set_over o x t r Hol.out (by rw [hx.out.2.1]; omega)] at h), hB2.setCell hb.1 _⟩
                case measure => simp [intOf]; omega
              · obtain rfl : t = n' := by omega
                have hdrop : x.drop t = [] := List.drop_eq_nil_of_le (by rw [hx.out.2.1]; omega)
                rw [hdrop, List.append_nil] at HO
                have Hfin := Lib.hid (add_right1 (p := p) (q := q) HO.out.2 Hol.out (by have hv := Hv.out; rw [Hc1.out] at hv; rw [hv, low_ge (by rw [hx.out.2.1]; omega), low_ge (by rw [hqm.out.2.1]; exact hkt), hx.out.2.2, hqm.out.2.2]))
                have hbase : w0.heap.size ≤ wr.heap.size := hB2.size
                clear hdrop
                go_wp2_with (at_builtin; refine wpList_append_own _ rfl _ _ 23 rfl w0.heap.size 85 i0 (.int .u32 0) 1 4 Try.underlying23 hi hz0 hz1 hz2 rfl (by decide) _ t _ rfl (HO.out.1.alloc _) ⟨_, 0, none⟩ 1 1 (wcells [c]) rfl rfl (Wd.lit1 _ 85 (x := c) (by omega)).cells (wcells_one _) (by unfold maxLen; omega) (by omega) (by simp; omega) ?_)
                intro v' w1 hown hgrow _
                obtain ⟨g2, cap3, rfl, HO2⟩ := Own.push (r := c) hown HO.out.2 (by omega)
                have HO' := Lib.hid HO2
                have hb := HO.out.base
                have hB1 : Below w0.heap.size w0 w1 := (hB2.alloc hbase _).grown hgrow (by simp; omega) (by intro k hk; simp [Value.ownBlock] at hk; omega)
                clear HO2 hown hgrow
                go_wp2
                go_ret
                exact ⟨g2, t + 1, cap3, rfl, Lib.hid (by have h := HO'.out; rw [Hc1.out] at h; rwa [Hfin.out] at h), hB1⟩
end Go.Proofs.Ytipcgehcineblaa

/-
  The contracts of package nat (layer 2) at this seat: Add, less, Sub, Gap.
-/
namespace Go.Proofs.Ytipcgehcineblaa
open Go.RowKit

set_option maxRecDepth 4096 in
set_option maxHeartbeats 2000000 in
theorem nat_add (a : Option Addr) (n cap : Nat) (ls : List (List Nat)) (w : World) (h : Wds w a n cap ls) (hn : n ≤ 1000000) (hw : words ls ≤ 1048576000000) :
    Calls Try.prog 58 #[.slice a n cap] w (Lst (dg (vals ls)) w) := by
  obtain ⟨i0, hi, hz0, hz1, hz2⟩ := info_parts infoU32
  obtain ⟨hb1, hb2⟩ := h.bound
  have H := Lib.hid h
  clear h
  go_enter Try.func58, Try.ntmps58
  go_wp2_with fail
  refine (nat_longest _ _ _ _ _ H.out hw).mono ?_
  rintro e w' ⟨N, rfl, hN, rfl⟩
  go_wp2_with (at_make; refine wpList_make_own _ rfl _ _ 23 rfl w.heap.size 85 i0 (.int .u32 0) 1 Try.underlying23 hi hz0 hz1 .i64 .i64 _ (N + 1) rfl rfl (by omega) (by rw [hz2]; omega) (by unfold maxLen; omega) (Nat.le_refl _) ?_; intro w1 hown1 hgrow1)
  have HO1 : Hid (Own w1 w.heap.size w.heap.size 0 (N + 1) []) := Lib.hid ⟨hown1, okw_nil⟩
  have hB1 : Below w.heap.size w w1 := (Below.refl _ _).grown hgrow1 (Nat.le_refl _) (fun k hk => by cases hk)
  clear hown1 hgrow1
  go_loopw [3, 12] (fun s i wr => ∃ k g m cap2 : Nat, k ≤ n ∧ i = .int .i64 k ∧ s = .slice (some ⟨g, 0, none⟩) m cap2 ∧ m ≤ 1048576000001 ∧ Hid (Own wr w.heap.size g m cap2 (dg (vals (ls.take k)))) ∧ Below w.heap.size w wr) (fun _ i _ => n - (intOf i).toNat)
  case atStart => exact ⟨0, _, 0, _, by omega, rfl, rfl, by omega, Lib.hid (by simpa [vals, dg_zero] using HO1.out), hB1⟩
  case round =>
    clear HO1 hB1
    obtain ⟨k, g, m, cap2, hk, rfl, rfl, hm, HO, hB⟩ := hrel
    by_cases hlt : k < n
    · obtain ⟨b, off, rfl, a', n', c', hc0, hwd⟩ := H.out.at hlt
      have hc := cell_later hB hc0
      have hn' : n' ≤ words ls := by rw [← hwd.len]; exact words_mem _ _ (by rw [H.out.len]; exact hlt)
      have HW := Lib.hid hwd
      have HW2 := Lib.hid (hwd.later hB)
      clear hwd hc0
      have hk1 : (k : Int) < (n : Int) := by omega
      go_wp2_with fail
      refine (nat_trim _ _ _ _ _ HW2.out).mono ?_
      rintro e w' ⟨m2, rfl, Hm, hmn, HT, rfl⟩
      have HT0 : Hid (Wd w a' m2 c' (dg (val (ls.getD k [])))) := Lib.hid (by rw [Hm.out]; exact HW.out.trim)
      go_wp2_with fail
      refine (nat_addTo w _ g m cap2 _ _ _ _ _ HO.out hB HT0.out (by omega) (by omega)).mono ?_
      rintro e w2 ⟨g2, m3, cap3, rfl, HO2, hB2⟩
      have hv := vals_take ls k (by rw [H.out.len]; exact hlt)
      rw [← hv] at HO2
      have hm3 : m3 ≤ 1048576000001 := by
        have h1 := HO2.out.len
        have h2 := vals_length (ls := ls.take (k + 1)) (fun l hl => H.out.oks l (List.mem_of_mem_take hl)) (by rw [List.length_take]; have := H.out.len; omega)
        have h3 := words_le_take ls (k + 1)
        omega
      clear HO HT HT0 HW HW2 hB hv Hm hmn
      go_wp2
      go_roundw
      case rel => exact ⟨k + 1, g2, m3, cap3, by omega, by go_num, rfl, hm3, HO2, hB2⟩
      case measure => simp [intOf]; omega
    · have hkn : k = n := by omega
      have hfin : dg (vals (ls.take k)) = dg (vals ls) := by rw [List.take_of_length_le (by rw [H.out.len]; omega)]
      rw [hfin] at HO
      clear hkn hfin
      go_wp2
      go_ret
      exact ⟨_, m, cap2, rfl, HO.out.wd, hB⟩
set_option maxRecDepth 4096 in
set_option maxHeartbeats 4000000 in
theorem nat_less (a : Option Addr) (n cap : Nat) (la : List Nat) (b : Option Addr) (m cap' : Nat) (lb : List Nat) (w : World) (ha : Wd w a n cap la) (hb : Wd w b m cap' lb) (hn : n ≤ 17592183947264) (hle : Hid (val lb ≤ val la)) :
    Calls Try.prog 74 #[.slice a n cap, .slice b m cap'] w (Lst (dg (val la - val lb)) w) := by
  obtain ⟨hb1, hb2⟩ := ha.bound
  obtain ⟨hb3, hb4⟩ := hb.bound
  have Ha := Lib.hid ha
  have Hb := Lib.hid hb
  clear ha hb
  go_enter Try.func74, Try.ntmps74
  go_wp2_with fail
  refine (nat_trim _ _ _ _ _ Ha.out).mono ?_
  rintro e w' ⟨p, rfl, Hp, hp, HA, rfl⟩
  go_wp2_with fail
  refine (nat_trim _ _ _ _ _ Hb.out).mono ?_
  rintro e w' ⟨q, rfl, Hq, hq, HB, rfl⟩
  have hqp : q ≤ p := by rw [Hp.out, Hq.out]; exact dg_length_mono hle.out
  go_wp2_with fail
  refine (nat_norm _ _ _ _ _ HA.out (by omega)).mono ?_
  rintro e w1 ⟨g, r, rfl, Hr, Hown, hB1⟩
  rw [val_dg] at Hr Hown
  have HO : Hid (Own w1 w.heap.size g r r (dg (val la))) := Lib.hid ⟨Hown.out, okw_dg _⟩
  have hrp : r = p := by rw [Hr.out, Hp.out]
  clear Hown Hr
  subst hrp
  have hx : Hid (okw (dg (val la)) ∧ (dg (val la)).length = r ∧ val (dg (val la)) = val la) := Lib.hid ⟨okw_dg _, Hp.out.symm, val_dg _⟩
  have hy : Hid (okw (dg (val lb)) ∧ (dg (val lb)).length = q ∧ val (dg (val lb)) = val lb) := Lib.hid ⟨okw_dg _, Hq.out.symm, val_dg _⟩
  clear Ha HA Hb Hp Hq
  generalize dg (val la) = x at *
  generalize dg (val lb) = y at *
  go_wp2
  go_loopw [6, 18] (fun cv iv w2 => ∃ (k c : Nat) (o : List Nat), k ≤ q ∧ iv = .int .i64 k ∧ cv = .int .u32 (c : Int) ∧ c ≤ 1 ∧ Hid (o.length = k) ∧ Hid (low x k + 4294967296 ^ k * c = low y k + val o) ∧ Hid (Own w2 w.heap.size g r r (o ++ x.drop k)) ∧ Below w.heap.size w w2) (fun _ iv _ => q - (intOf iv).toNat)
  case atStart => exact ⟨0, 0, [], by omega, rfl, rfl, by omega, Lib.hid rfl, Lib.hid (by rw [low_zero, low_zero]; rfl), Lib.hid (by simpa using HO.out), hB1⟩
  case round =>
    clear HO hB1
    obtain ⟨k, c, o, hk, rfl, rfl, hc, Hol, Hv, HO, hB2⟩ := hrel
    by_cases hlt : k < q
    · obtain ⟨bb, ob, rfl, hcb⟩ := (HB.out.later hB2).at (by omega)
      have hcbk := hcb k hlt
      have hcell := HO.out.cell (k := k) (by omega)
      rw [atw_over _ _ _ Hol.out] at hcell
      have hfro := HO.out.1.frozenAt k
      have hyl := atw_lt hy.out.1 k
      have hxl := atw_lt hx.out.1 k
      obtain ⟨xk, hxk⟩ : ∃ xk, xk = atw x k := ⟨_, rfl⟩
      obtain ⟨yk, hyk⟩ : ∃ yk, yk = atw y k := ⟨_, rfl⟩
      rw [← hxk] at hxl hcell
      rw [← hyk] at hyl hcbk
      have Hxk := Lib.hid hxk
      have Hyk := Lib.hid hyk
      have hk1 : (k : Int) < (r : Int) := by omega
      have hb := HO.out.base
      clear hxk hyk hcb
      go_wp2_with (go_at_call 84; (with_reducible refine (limb_sub_nat xk yk c _ (by omega) (by omega) (by omega)).mono ?_); rintro e w' ⟨s, z, rfl, hz, hs, Hs, rfl⟩)
      go_roundw
      case rel => exact ⟨k + 1, z, o ++ [s], by omega, by go_num, rfl, hz, Lib.hid (by have := Hol.out; simp; omega), Lib.hid (sub_step Hol.out Hv.out (by rw [← Hxk.out, ← Hyk.out]; exact Hs.out)), Lib.hid (by have h := HO.out.set k s hs; rwa [set_over o x k s Hol.out (by rw [hx.out.2.1]; omega)] at h), hB2.setCell hb.1 _⟩
      case measure => simp [intOf]; omega
    · obtain rfl : k = q := by omega
      go_wp2
      go_loopw [6, 9] (fun cv iv w3 => ∃ (t c : Nat) (o : List Nat), k ≤ t ∧ t ≤ r ∧ iv = .int .i64 t ∧ cv = .int .u32 (c : Int) ∧ c ≤ 1 ∧ Hid (o.length = t) ∧ Hid (low x t + 4294967296 ^ t * c = low y t + val o) ∧ Hid (Own w3 w.heap.size g r r (o ++ x.drop t)) ∧ Below w.heap.size w w3) (fun _ iv _ => r - (intOf iv).toNat)
      case atStart => exact ⟨k, c, o, by omega, by omega, rfl, rfl, hc, Hol, Hv, HO, hB2⟩
      case round =>
        clear HO hB2 Hv Hol hc
        obtain ⟨t, c, o, hkt, htn, rfl, rfl, hc, Hol, Hv, HO, hB2⟩ := hrel
        by_cases hc0 : c = 0
        · subst hc0
          have hfin : val (o ++ x.drop t) = val la - val lb := by
            have := sub_stop (la := x) (lb := y) Hol.out (by rw [hy.out.2.1]; exact hkt) (by simpa using Hv.out)
            rw [hx.out.2.2, hy.out.2.2] at this
            omega
          have Hfin := Lib.hid hfin
          clear hfin
          by_cases hlt : t < r
          · go_wp2_with fail
            refine (nat_trim _ _ _ _ _ HO.out.wd).mono ?_
            rintro e w' ⟨s, rfl, Hs, hs, HT, rfl⟩
            rw [Hfin.out] at HT
            go_wp2
            go_ret
            exact ⟨_, s, _, rfl, HT.out, hB2⟩
          · go_wp2_with fail
            refine (nat_trim _ _ _ _ _ HO.out.wd).mono ?_
            rintro e w' ⟨s, rfl, Hs, hs, HT, rfl⟩
            rw [Hfin.out] at HT
            go_wp2
            go_ret
            exact ⟨_, s, _, rfl, HT.out, hB2⟩
        · have Hc1 : Hid (c = 1) := Lib.hid (by omega)
          have hcp : 0 < c := by omega
          have hcpi : (0 : Int) < (c : Int) := by omega
          clear hc0
          by_cases hlt : t < r
          · have hcell := HO.out.cell (k := t) (by omega)
            rw [atw_over _ _ _ Hol.out] at hcell
            have hfro := HO.out.1.frozenAt t
            have hxl := atw_lt hx.out.1 t
            obtain ⟨xk, hxk⟩ : ∃ xk, xk = atw x t := ⟨_, rfl⟩
            rw [← hxk] at hxl hcell
            have Hxk := Lib.hid hxk
            have Hyk : Hid (atw y t = 0) := Lib.hid (atw_ge (by rw [hy.out.2.1]; exact hkt))
            have hk1 : (t : Int) < (r : Int) := by omega
            have hb := HO.out.base
            clear hxk
            go_wp2_with (go_at_call 84; (with_reducible refine (limb_sub_nat0 xk c _ (by omega) (by omega)).mono ?_); rintro e w' ⟨s, z, rfl, hz, hs, Hs, rfl⟩)
            go_roundw
            case rel => exact ⟨t + 1, z, o ++ [s], by omega, by omega, by go_num, rfl, hz, Lib.hid (by have := Hol.out; simp; omega), Lib.hid (sub_step Hol.out Hv.out (by rw [← Hxk.out, Hyk.out]; exact Hs.out)), Lib.hid (by have h := HO.out.set t s hs; rwa [set_over o x t s Hol.out (by rw [hx.out.2.1]; omega)] at h), hB2.setCell hb.1 _⟩
            case measure => simp [intOf]; omega
          · exfalso
            obtain rfl : t = r := by omega
            have h1 := Hv.out
            have h2 := val_lt (okw_append.1 HO.out.2).1
            have h3 := hle.out
            rw [Hc1.out, low_ge (by rw [hx.out.2.1]; omega), low_ge (by rw [hy.out.2.1]; exact hkt), hx.out.2.2, hy.out.2.2] at h1
            rw [Hol.out] at h2
            omega
theorem nat_gap (a : Option Addr) (n cap : Nat) (la : List Nat) (b : Option Addr) (m cap' : Nat) (lb : List Nat) (w : World) (ha : Wd w a n cap la) (hb : Wd w b m cap' lb) (hn : n ≤ 17592183947264) (hm : m ≤ 17592183947264) :
    Calls Try.prog 59 #[.slice a n cap, .slice b m cap'] w (Lst2 (dg (val la - val lb + (val lb - val la))) (.int .i64 (cmpI (val la) (val lb))) w) := by
  have Ha := Lib.hid ha
  have Hb := Lib.hid hb
  clear ha hb
  go_enter Try.func59, Try.ntmps59
  go_wp2_with fail
  refine (nat_cmp _ _ _ _ _ _ _ _ _ Ha.out Hb.out).mono ?_
  rintro e w1 ⟨rfl, hB1⟩
  have Ha1 := Lib.hid (Ha.out.later hB1)
  have Hb1 := Lib.hid (Hb.out.later hB1)
  by_cases hlt : val la < val lb
  · have hc : cmpI (val la) (val lb) < 0 := by rw [cmpI_lt hlt]; omega
    have hv : val la - val lb + (val lb - val la) = val lb - val la := by omega
    have Hv := Lib.hid hv
    have hle : Hid (val la ≤ val lb) := Lib.hid (by omega)
    clear hlt hv
    generalize cmpI (val la) (val lb) = c at *
    go_wp2_with fail
    refine (nat_less _ _ _ _ _ _ _ _ _ Hb1.out Ha1.out hm hle).mono ?_
    rintro e w2 ⟨a2, n2, c2, rfl, h2, hB2⟩
    have H2 := Lib.hid h2
    clear h2
    go_wp2
    go_ret2
    exact ⟨_, _, _, rfl, by rw [Hv.out]; exact H2.out, below_then hB1 hB2⟩
  · have hc : ¬ cmpI (val la) (val lb) < 0 := by unfold cmpI; split <;> (try split) <;> omega
    have hv : val la - val lb + (val lb - val la) = val la - val lb := by omega
    have Hv := Lib.hid hv
    have hle : Hid (val lb ≤ val la) := Lib.hid (by omega)
    clear hlt hv
    generalize cmpI (val la) (val lb) = c at *
    go_wp2_with fail
    refine (nat_less _ _ _ _ _ _ _ _ _ Ha1.out Hb1.out hn hle).mono ?_
    rintro e w2 ⟨a2, n2, c2, rfl, h2, hB2⟩
    have H2 := Lib.hid h2
    clear h2
    go_wp2
    go_ret2
    exact ⟨_, _, _, rfl, by rw [Hv.out]; exact H2.out, below_then hB1 hB2⟩
end Go.Proofs.Ytipcgehcineblaa

/-
  Package nat keeps what the laws of layer 2 lean on.
-/
namespace Go.Proofs.Ytipcgehcineblaa
open Go.RowKit
theorem natSaid : NatSaid where
  norm := fun a n cap l w h hn => (nat_norm a n cap l w h hn).mono fun _ _ ⟨_, _, he, _, HO, hB⟩ => ⟨_, _, _, he, Wd.own HO.out (okw_dg _), hB⟩
  of := nat_of
  small := fun a n cap l w h _ => nat_small a n cap l w h
  zero := fun a n cap l w h _ => nat_zero a n cap l w h
  cmp := fun a n cap la b m cap' lb w ha hb _ _ => nat_cmp a n cap la b m cap' lb w ha hb
  add := nat_add
  gap := nat_gap
end Go.Proofs.Ytipcgehcineblaa

/-
  Plain mathematics: the bits of natural numbers, of lists of words, and shifts. Nothing of the program.
-/
namespace Go.Proofs.Ytipcgehcineblaa

theorem pow32 (k : Nat) : (4294967296 : Nat) ^ k = 2 ^ (32 * k) := by rw [Nat.pow_mul]

/-- How many bits a number has. -/
def blen (n : Nat) : Nat := if n = 0 then 0 else n.log2 + 1
theorem lt_blen (n : Nat) : n < 2 ^ blen n := by
  unfold blen; split
  · subst_vars; decide
  · exact Nat.lt_log2_self
theorem blen_le {n k : Nat} : blen n ≤ k ↔ n < 2 ^ k := by
  constructor
  · intro h; exact Nat.lt_of_lt_of_le (lt_blen n) (Nat.pow_le_pow_right (by decide) h)
  · intro h
    unfold blen; split
    · omega
    · rename_i h0; exact (Nat.log2_lt h0).2 h
theorem blen_ge {n : Nat} (h : n ≠ 0) : 2 ^ (blen n - 1) ≤ n := by
  unfold blen; rw [if_neg h, Nat.add_sub_cancel]; exact Nat.log2_self_le h
theorem blen_pos {n : Nat} (h : n ≠ 0) : 0 < blen n := by unfold blen; rw [if_neg h]; omega
theorem blen_eq {n k : Nat} (h : n < 2 ^ k) (hk : k = 0 ∨ 2 ^ (k - 1) ≤ n) : blen n = k := by
  have h1 := blen_le.2 h
  rcases hk with hk | hk
  · omega
  · rcases Nat.lt_or_ge (blen n) k with h2 | h2
    · have h3 := blen_le.1 (show blen n ≤ k - 1 by omega)
      omega
    · omega
theorem blen_mul {v n : Nat} (h : v ≠ 0) : blen (v * 2 ^ n) = blen v + n := by
  have hp : 0 < blen v := blen_pos h
  apply blen_eq
  · rw [Nat.pow_add]; exact Nat.mul_lt_mul_of_pos_right (lt_blen v) (Nat.two_pow_pos n)
  · refine .inr ?_
    rw [show blen v + n - 1 = (blen v - 1) + n by omega, Nat.pow_add]
    exact Nat.mul_le_mul_right _ (blen_ge h)
theorem aux_zero (f : Nat) : Lib.bitLenAux f 0 = 0 := by cases f <;> simp [Lib.bitLenAux]
theorem aux_bounds : ∀ (f x : Nat), x < 2 ^ f → x ≠ 0 → 1 ≤ Lib.bitLenAux f x ∧ 2 ^ (Lib.bitLenAux f x - 1) ≤ x ∧ x < 2 ^ Lib.bitLenAux f x
  | 0, x, h, h0 => by simp at h; omega
  | f + 1, x, h, h0 => by
    rw [Lib.bitLenAux, if_neg h0]
    by_cases h2 : x / 2 = 0
    · rw [h2, aux_zero]
      have : x = 1 := by omega
      subst this
      simp
    · obtain ⟨a, b, c⟩ := aux_bounds f (x / 2) (by rw [Nat.pow_succ] at h; omega) h2
      generalize Lib.bitLenAux f (x / 2) = L at a b c ⊢
      obtain ⟨k, rfl⟩ : ∃ k, L = k + 1 := ⟨L - 1, by omega⟩
      simp only [Nat.add_sub_cancel] at b
      refine ⟨by omega, ?_, ?_⟩
      · rw [show 1 + (k + 1) - 1 = k + 1 by omega, Nat.pow_succ]; omega
      · rw [show 1 + (k + 1) = k + 1 + 1 by omega, Nat.pow_succ]; omega
theorem bitLen_blen {x : Nat} (h : x < 18446744073709551616) : Lib.bitLen x = blen x := by
  by_cases h0 : x = 0
  · subst h0; rfl
  · obtain ⟨a, b, c⟩ := aux_bounds 64 x h h0
    exact (blen_eq c (.inr b)).symm

/-! Bits of lists of words. -/
theorem val_split2 (l : List Nat) (i : Nat) : val l = 2 ^ (32 * i) * top l i + low l i := by rw [val_split l i, pow32]; omega
theorem low_lt2 {l : List Nat} (h : okw l) (i : Nat) : low l i < 2 ^ (32 * i) := by rw [← pow32]; exact low_lt h i
/-- The topmost word that isn't 0. -/
theorem blen_top {l : List Nat} {i : Nat} (ho : okw l) (ht : top l (i + 1) = 0) (h0 : atw l i ≠ 0) : blen (val l) = 32 * i + blen (atw l i) := by
  have hl := low_lt2 ho i
  have hv : val l = 2 ^ (32 * i) * atw l i + low l i := by rw [val_split2 l i, top_succ, ht]; rfl
  have hb := blen_pos h0
  apply blen_eq
  · rw [hv, Nat.pow_add]
    have h1 : 2 ^ (32 * i) * atw l i + 2 ^ (32 * i) ≤ 2 ^ (32 * i) * 2 ^ blen (atw l i) := by
      rw [← Nat.mul_succ]; exact Nat.mul_le_mul_left _ (lt_blen _)
    omega
  · refine .inr ?_
    rw [hv, show 32 * i + blen (atw l i) - 1 = 32 * i + (blen (atw l i) - 1) by omega, Nat.pow_add]
    have h1 := Nat.mul_le_mul_left (2 ^ (32 * i)) (blen_ge h0)
    omega
end Go.Proofs.Ytipcgehcineblaa

/-
  Plain mathematics: shifts of lists of words, word by word, and numbers built bit by bit. Nothing of the program.
-/
namespace Go.Proofs.Ytipcgehcineblaa

theorem dg_len_blen (n : Nat) : (dg n).length = (blen n + 31) / 32 := by
  have h1 : (dg n).length ≤ (blen n + 31) / 32 := dg_length_le (by
    rw [pow32]; exact Nat.lt_of_lt_of_le (lt_blen n) (Nat.pow_le_pow_right (by decide) (by omega)))
  have h2 : blen n ≤ 32 * (dg n).length := blen_le.2 (by rw [← pow32]; exact lt_dg_length n)
  omega
theorem top_div {l : List Nat} (h : okw l) (q : Nat) : top l q = val l / 2 ^ (32 * q) := by
  have h1 := val_split2 l q
  have h2 := low_lt2 h q
  have hp := Nat.two_pow_pos (32 * q)
  rw [h1, Nat.mul_add_div hp, Nat.div_eq_of_lt h2, Nat.add_zero]
/-- A shift up, word by word. -/
theorem up_step {l o : List Nat} {k q r c c' x : Nat} (ho : o.length = q + k) (h : val o + 4294967296 ^ (q + k) * c = low l k * 2 ^ (32 * q + r)) (hx : x + 4294967296 * c' = atw l k * 2 ^ r + c) :
    val (o ++ [x]) + 4294967296 ^ (q + (k + 1)) * c' = low l (k + 1) * 2 ^ (32 * q + r) := by
  have e1 : 4294967296 ^ k * atw l k * 2 ^ (32 * q + r) = 4294967296 ^ (q + k) * (atw l k * 2 ^ r) := by
    rw [Nat.pow_add 2, ← pow32, Nat.pow_add 4294967296 q k]
    generalize 4294967296 ^ k = A
    generalize 4294967296 ^ q = B
    generalize 2 ^ r = C
    rw [Nat.mul_comm A, Nat.mul_assoc, Nat.mul_comm B A, Nat.mul_assoc A, Nat.mul_left_comm, Nat.mul_left_comm B]
  rw [val_snoc, ho, low_succ, Nat.add_mul, e1, show q + (k + 1) = q + k + 1 from rfl, pow_succ32, ← h]
  generalize 4294967296 ^ (q + k) = P at *
  have e2 : P * x + 4294967296 * P * c' = P * (atw l k * 2 ^ r) + P * c := by
    rw [Nat.mul_comm 4294967296 P, Nat.mul_assoc, ← Nat.mul_add, hx, Nat.mul_add]
  omega
theorem up_end0 {o : List Nat} {v q m n : Nat} (hok : okw o) (hm : (dg v).length = m) (h0 : v ≠ 0) (hq : 32 * q ≤ n) (ho : o.length = q + m) (h : val o = v * 2 ^ n) : o = dg (v * 2 ^ n) := by
  rw [← h]
  refine dg_of_ge hok (.inr ?_)
  have hm0 : (dg v).length ≠ 0 := fun e => h0 (dg_nil_iff.1 e)
  have h1 := dg_ge hm0
  rw [hm] at h1 hm0
  rw [ho, h, pow32, show 32 * (q + m - 1) = 32 * (m - 1) + 32 * q by omega, Nat.pow_add, ← pow32]
  exact Nat.mul_le_mul h1 (Nat.pow_le_pow_right (by decide) hq)
theorem up_end1 {o : List Nat} {c z : Nat} (hok : okw o) (hc : c < 4294967296) (h0 : c ≠ 0) (h : val o + 4294967296 ^ o.length * c = z) : o ++ [c] = dg z := by
  have h1 := dg_snoc hok hc h0
  rwa [val_snoc, h] at h1

theorem val_set (o : List Nat) (k y : Nat) (hk : k < o.length) : val (o.set k y) + 4294967296 ^ k * atw o k = val o + 4294967296 ^ k * y := by
  induction o generalizing k with
  | nil => simp at hk
  | cons x o ih =>
    cases k with
    | zero => simp [val, atw]; omega
    | succ k =>
      have := ih k (by simpa using hk)
      have e : atw (x :: o) (k + 1) = atw o k := by simp [atw]
      simp only [List.set_cons_succ, val]
      rw [e, pow_succ32, Nat.mul_assoc, Nat.mul_assoc]
      omega
/-- A word's high part, and what of it falls into the word below. -/
theorem word_parts (w r : Nat) (hr : r ≤ 31) : w * 2 ^ (32 - r) = w * 2 ^ (32 - r) % 4294967296 + 4294967296 * (w / 2 ^ r) := by
  have e : w * 2 ^ (32 - r) / 4294967296 = w / 2 ^ r := by
    rw [show (4294967296 : Nat) = 2 ^ r * 2 ^ (32 - r) by rw [← Nat.pow_add, show r + (32 - r) = 32 by omega], Nat.mul_div_mul_right _ _ (Nat.two_pow_pos _)]
  rw [← e]; omega
theorem down_first {t : List Nat} (r : Nat) : val [atw t 0 / 2 ^ r] = low t 1 / 2 ^ r := by simp [val, low_one]
/-- What stands in the topmost word so far leaves room for the next one's low bits. -/
theorem down_room {t o : List Nat} {k r : Nat} (hr : r ≤ 31) (ht : okw t) (h : val o = low t (k + 1) / 2 ^ r) : atw o k < 2 ^ (32 - r) := by
  have h1 := low_lt2 ht (k + 1)
  have h2 : low t (k + 1) / 2 ^ r < 2 ^ (32 * k) * 2 ^ (32 - r) := by
    rw [Nat.div_lt_iff_lt_mul (Nat.two_pow_pos r), ← Nat.pow_add, ← Nat.pow_add, show 32 * k + (32 - r) + r = 32 * (k + 1) by omega]
    exact h1
  rw [← h] at h2
  have h3 : 2 ^ (32 * k) * atw o k ≤ val o := by
    rw [val_split2 o k, top_succ, Nat.mul_add]; omega
  exact Nat.lt_of_mul_lt_mul_left (Nat.lt_of_le_of_lt h3 h2)
theorem down_or {x w r : Nat} (hr : r ≤ 31) (hx : x < 2 ^ (32 - r)) : x ||| (w * 2 ^ (32 - r) % 4294967296) = x + w * 2 ^ (32 - r) % 4294967296 ∧ x + w * 2 ^ (32 - r) % 4294967296 < 4294967296 := by
  have e0 : (4294967296 : Nat) = 2 ^ (32 - r) * 2 ^ r := by rw [← Nat.pow_add, show 32 - r + r = 32 by omega]
  have e1 : w * 2 ^ (32 - r) % 4294967296 = 2 ^ (32 - r) * (w % 2 ^ r) := by rw [e0, Nat.mul_comm w, Nat.mul_mod_mul_left]
  rw [e1]
  constructor
  · have := Nat.two_pow_add_eq_or_of_lt hx (w % 2 ^ r)
    rw [Nat.or_comm, ← this, Nat.add_comm]
  · have h1 : w % 2 ^ r < 2 ^ r := Nat.mod_lt _ (Nat.two_pow_pos r)
    have h2 : 2 ^ (32 - r) * (w % 2 ^ r) + 2 ^ (32 - r) ≤ 2 ^ (32 - r) * 2 ^ r := by rw [← Nat.mul_succ]; exact Nat.mul_le_mul_left _ h1
    omega
theorem down_step {t o : List Nat} {k r : Nat} (hr : r ≤ 31) (ho : o.length = k + 1) (h : val o = low t (k + 1) / 2 ^ r) :
    val (o.set k (atw o k + atw t (k + 1) * 2 ^ (32 - r) % 4294967296) ++ [atw t (k + 1) / 2 ^ r]) = low t (k + 1 + 1) / 2 ^ r := by
  have hs := val_set o k (atw o k + atw t (k + 1) * 2 ^ (32 - r) % 4294967296) (by omega)
  have hw := word_parts (atw t (k + 1)) r hr
  have e : low t (k + 1 + 1) / 2 ^ r = low t (k + 1) / 2 ^ r + 4294967296 ^ k * (atw t (k + 1) * 2 ^ (32 - r)) := by
    rw [low_succ t (k + 1)]
    have e1 : 4294967296 ^ (k + 1) * atw t (k + 1) = 2 ^ r * (4294967296 ^ k * (atw t (k + 1) * 2 ^ (32 - r))) := by
      rw [pow_succ32, show (4294967296 : Nat) * 4294967296 ^ k = 2 ^ r * 2 ^ (32 - r) * 4294967296 ^ k by rw [← Nat.pow_add, show r + (32 - r) = 32 by omega]]
      generalize 2 ^ (32 - r) = A
      generalize 4294967296 ^ k = B
      rw [Nat.mul_assoc, Nat.mul_assoc, Nat.mul_left_comm A, Nat.mul_comm A]
    rw [e1, Nat.add_mul_div_left _ _ (Nat.two_pow_pos r)]
  rw [val_snoc, List.length_set, ho, e, ← h, pow_succ32]
  generalize atw t (k + 1) * 2 ^ (32 - r) = W at *
  generalize W % 4294967296 = a at *
  generalize atw t (k + 1) / 2 ^ r = b at *
  subst hw
  rw [Nat.mul_add] at hs ⊢
  rw [Nat.mul_comm 4294967296 (4294967296 ^ k), Nat.mul_assoc]
  omega
theorem set_behind (o z : List Nat) (x y k : Nat) (hk : k < o.length) : ((o ++ [x]) ++ z).set k y = (o.set k y ++ [x]) ++ z := by
  rw [List.set_append_left _ _ (by simp; omega), List.set_append_left _ _ hk]
theorem shift_div {l : List Nat} (h : okw l) (q r : Nat) : top l q / 2 ^ r = val l / 2 ^ (32 * q + r) := by
  rw [top_div h, Nat.div_div_eq_div_mul, ← Nat.pow_add]

/-! What the machine's words tell. -/
theorem or_u32_nat (x y : Nat) (hx : x < 4294967296) (hy : y < 4294967296) : bits .or .u32 (x : Int) (y : Int) = ((x ||| y : Nat) : Int) := by
  have h1 : (BitVec.ofInt 32 (x : Int)).toNat = x := by rw [BitVec.ofInt_natCast, BitVec.toNat_ofNat]; exact Nat.mod_eq_of_lt (by omega)
  have h2 : (BitVec.ofInt 32 (y : Int)).toNat = y := by rw [BitVec.ofInt_natCast, BitVec.toNat_ofNat]; exact Nat.mod_eq_of_lt (by omega)
  have h3 : x ||| y < 2 ^ 32 := Nat.or_lt_two_pow (by omega) (by omega)
  show IntKind.u32.wrap ((BitVec.ofInt 32 (x : Int) ||| BitVec.ofInt 32 (y : Int)).toNat : Int) = _
  rw [BitVec.toNat_or, h1, h2, wrapu32]
  omega
theorem div_pow_int (x r : Nat) : (x : Int) / 2 ^ r = ((x / 2 ^ r : Nat) : Int) := by rw [Int.natCast_ediv, Int.natCast_pow]; rfl
theorem mul_pow_int (x r : Nat) : (x : Int) * 2 ^ r = ((x * 2 ^ r : Nat) : Int) := by rw [Int.natCast_mul, Int.natCast_pow]; rfl
theorem div_pow_lt {x : Nat} (h : x < 4294967296) (r : Nat) : x / 2 ^ r < 4294967296 := Nat.lt_of_le_of_lt (Nat.div_le_self _ _) h
end Go.Proofs.Ytipcgehcineblaa

/-
  Plain mathematics: products and powers of numbers that are lists of words. Nothing of the program.
-/
namespace Go.Proofs.Ytipcgehcineblaa

theorem atw_set_ne {l : List Nat} {k j y : Nat} (h : j ≠ k) : atw (l.set k y) j = atw l j := by
  unfold atw
  rw [List.getD_eq_getElem?_getD, List.getD_eq_getElem?_getD, List.getElem?_set_ne (Ne.symm h)]
theorem atw_zeros (n k : Nat) : atw (List.replicate n 0) k = 0 := by
  unfold atw
  rw [List.getD_eq_getElem?_getD, List.getElem?_replicate]
  split <;> rfl

/-- A product, row by row: what the first i words of a make of b stands in P; nothing stands from place i + m on. -/
def RowAt (A B P : List Nat) (m i : Nat) : Prop := val P = low A i * val B ∧ ∀ k, i + m ≤ k → atw P k = 0
/-- Within a row: j words of b are done, and c is carried. -/
def CellAt (A B P : List Nat) (m i j c : Nat) : Prop := val P + 4294967296 ^ (i + j) * c = low A i * val B + 4294967296 ^ i * (atw A i * low B j) ∧ ∀ k, i + m ≤ k → atw P k = 0
theorem row_start (A B : List Nat) (n m : Nat) : RowAt A B (List.replicate n 0) m 0 := ⟨by rw [val_zeros, low_zero, Nat.zero_mul], fun k _ => atw_zeros n k⟩
theorem cell_start {A B P : List Nat} {m i : Nat} (h : RowAt A B P m i) : CellAt A B P m i 0 0 := ⟨by rw [h.1, low_zero]; simp, h.2⟩
theorem cell_step {A B P : List Nat} {m i j c lo hi : Nat} (h : CellAt A B P m i j c) (hj : j < m) (hP : i + j < P.length) (hs : lo + 4294967296 * hi = atw A i * atw B j + (atw P (i + j) + c)) : CellAt A B (P.set (i + j) lo) m i (j + 1) hi := by
  refine ⟨?_, fun k hk => by rw [atw_set_ne (by omega)]; exact h.2 k hk⟩
  have h1 := val_set P (i + j) lo hP
  have h2 := h.1
  have h3 : 4294967296 ^ (i + j) * lo + 4294967296 ^ (i + j) * (4294967296 * hi) = 4294967296 ^ (i + j) * (atw A i * atw B j) + (4294967296 ^ (i + j) * atw P (i + j) + 4294967296 ^ (i + j) * c) := by
    rw [← Nat.mul_add, hs, Nat.mul_add, Nat.mul_add]
  have h4 : 4294967296 ^ (i + (j + 1)) * hi = 4294967296 ^ (i + j) * (4294967296 * hi) := by rw [← Nat.add_assoc, Nat.pow_succ, Nat.mul_assoc]
  have h5 : 4294967296 ^ i * (atw A i * low B (j + 1)) = 4294967296 ^ i * (atw A i * low B j) + 4294967296 ^ (i + j) * (atw A i * atw B j) := by
    rw [low_succ, Nat.mul_add, Nat.mul_add, Nat.pow_add, Nat.mul_left_comm (atw A i), ← Nat.mul_assoc (4294967296 ^ i) (4294967296 ^ j)]
  rw [h4, h5]
  generalize val (P.set (i + j) lo) = a1 at *
  generalize 4294967296 ^ (i + j) * lo = a2 at *
  generalize 4294967296 ^ (i + j) * (4294967296 * hi) = a3 at *
  generalize 4294967296 ^ (i + j) * (atw A i * atw B j) = a4 at *
  generalize 4294967296 ^ (i + j) * atw P (i + j) = a5 at *
  generalize 4294967296 ^ (i + j) * c = a6 at *
  generalize low A i * val B = a7 at *
  generalize 4294967296 ^ i * (atw A i * low B j) = a8 at *
  omega
theorem row_next {A B P : List Nat} {m i c : Nat} (h : CellAt A B P m i m c) (hB : B.length = m) (hP : i + m < P.length) : RowAt A B (P.set (i + m) c) m (i + 1) := by
  refine ⟨?_, fun k hk => by rw [atw_set_ne (by omega)]; exact h.2 k (by omega)⟩
  have h1 := val_set P (i + m) c hP
  have h2 := h.1
  rw [h.2 (i + m) (Nat.le_refl _), Nat.mul_zero, Nat.add_zero] at h1
  rw [low_ge (l := B) (i := m) (by omega)] at h2
  rw [h1, h2, low_succ, Nat.add_mul, Nat.mul_assoc]
theorem row_end {A B P : List Nat} {m i : Nat} (h : RowAt A B P m i) (hA : A.length = i) : val P = val A * val B := by rw [h.1, low_ge (by omega)]
/-- A number by a word, word by word. -/
theorem word_step {l o : List Nat} {k x c hi lo : Nat} {d : Nat} (ho : o.length = k) (h : val o + 4294967296 ^ k * c = low l k * x + d) (hs : lo + 4294967296 * hi = atw l k * x + c) :
    val (o ++ [lo]) + 4294967296 ^ (k + 1) * hi = low l (k + 1) * x + d := by
  have h3 : 4294967296 ^ k * lo + 4294967296 ^ k * (4294967296 * hi) = 4294967296 ^ k * (atw l k * x) + 4294967296 ^ k * c := by rw [← Nat.mul_add, hs, Nat.mul_add]
  have h4 : 4294967296 ^ (k + 1) * hi = 4294967296 ^ k * (4294967296 * hi) := by rw [Nat.pow_succ, Nat.mul_assoc]
  rw [val_snoc, ho, h4, low_succ, Nat.add_mul, Nat.mul_assoc]
  generalize 4294967296 ^ k * lo = a2 at *
  generalize 4294967296 ^ k * (4294967296 * hi) = a3 at *
  generalize 4294967296 ^ k * (atw l k * x) = a4 at *
  generalize 4294967296 ^ k * c = a6 at *
  generalize low l k * x = a7 at *
  omega

/-- How long a product is. -/
theorem dg_mul_length (a b : Nat) : (dg (a * b)).length ≤ (dg a).length + (dg b).length := by
  apply dg_length_le
  rw [Nat.pow_add]
  have h1 := lt_dg_length a
  have h2 := lt_dg_length b
  exact Nat.mul_lt_mul'' h1 h2
theorem dg_add_length (a b : Nat) : (dg (a + b)).length ≤ (dg a).length + (dg b).length + 1 := by
  apply dg_length_le
  rw [pow_succ32, Nat.pow_add]
  have h1 := lt_dg_length a
  have h2 := lt_dg_length b
  have h3 := pow_pos32 (dg a).length
  have h4 := pow_pos32 (dg b).length
  generalize 4294967296 ^ (dg a).length = p at *
  generalize 4294967296 ^ (dg b).length = q at *
  have h5 : p ≤ p * q := Nat.le_mul_of_pos_right _ h4
  have h6 : q ≤ p * q := Nat.le_mul_of_pos_left _ h3
  omega

end Go.Proofs.Ytipcgehcineblaa
