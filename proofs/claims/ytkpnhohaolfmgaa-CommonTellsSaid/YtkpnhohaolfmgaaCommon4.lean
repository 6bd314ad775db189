/-
  The contracts of package common (layer 6) at this seat: many steps of Euclid's way at once.
-/
import Derived.Test.YtkpnhohaolfmgaaCommon3
import Derived.Test.YtkpnhohaolfmgaaQuot4
namespace Go.Proofs.Ytkpnhohaolfmgaa
open Go.RowKit

/-- Two numbers that follow on Euclid's way. -/
def LehmerPost (X Y : Nat) (w : World) (e : Ending) (w' : World) : Prop :=
  ∃ (a : Option Addr) (n cap : Nat) (b : Option Addr) (m cap' : Nat) (X' Y' : Nat), e = .returned (.tuple #[.slice a n cap, .slice b m cap']) ∧ Wd w' a n cap (dg X') ∧ Wd w' b m cap' (dg Y') ∧ Hid (X' ≤ Y ∧ Y' < Y ∧ Y' ≤ X' ∧ Nat.gcd X' Y' = Nat.gcd X Y) ∧ Below w.heap.size w w'
theorem lehmer_of {X Y xa xb ya yb : Nat} (hxb : xb ≠ 0) (h : Good X Y xa xb ya yb) : gapOf X Y xa xb ≤ Y ∧ gapOf X Y ya yb < Y ∧ gapOf X Y ya yb ≤ gapOf X Y xa xb ∧ Nat.gcd (gapOf X Y xa xb) (gapOf X Y ya yb) = Nat.gcd X Y := by
  have h1 := h.first
  have h2 := h.lt
  rcases h1 with h1 | h1
  · exact absurd h1 hxb
  · exact ⟨h1, by omega, by omega, h.gcd⟩
theorem box_pair (w : World) (x y z u : Value) (t : TypeId) :
    ((w.alloc (.cells #[x, y] t)).alloc (.cells #[z, u] t)).heap[w.heap.size]? = some (.cells #[x, y] t (0, 0)) ∧ ((w.alloc (.cells #[x, y] t)).alloc (.cells #[z, u] t)).heap[w.heap.size + 1]? = some (.cells #[z, u] t (0, 0)) := by
  refine ⟨blk_later (blk_new w #[x, y] t) (below_alloc _ _), ?_⟩
  have h2 := blk_new (w.alloc (.cells #[x, y] t)) #[z, u] t
  rw [blk_size] at h2
  exact h2
theorem four_at {w : World} {A B : Nat} {x y z u : Value} {t : TypeId} (h1 : w.heap[A]? = some (.cells #[x, y] t (0, 0))) (h2 : w.heap[B]? = some (.cells #[z, u] t (0, 0))) :
    w.cell? ⟨A, 0, none⟩ = some x ∧ w.cell? ⟨A, 1, none⟩ = some y ∧ w.cell? ⟨B, 0, none⟩ = some z ∧ w.cell? ⟨B, 1, none⟩ = some u := ⟨blk_cell h1 0, blk_cell h1 1, blk_cell h2 0, blk_cell h2 1⟩
theorem common_head_at (a : Option Addr) (n cap k s n3 p : Nat) (l : List Nat) (w : World) (h : Wd w a n cap l) (hn : Hid (n3 = k + 3)) (hp : Hid (p = val l / 2 ^ (32 * k + (32 - s)))) (hk : k ≤ 1000000) (hs : s ≤ 31) (hv : Hid (val l < 2 ^ (32 * (k + 3) - s))) :
    Calls Try.prog 43 #[.slice a n cap, .int .i64 (n3 : Int), .int .i64 (s : Int)] w fun e w' => e = .returned (.int .u64 (p : Int)) ∧ ∃ q, w' = w.drewN q := by
  rw [hn.out, hp.out]
  exact common_head a n cap k s l w h hk hs hv
set_option maxHeartbeats 4000000 in
theorem common_lessen (a : Option Addr) (k cap : Nat) (b : Option Addr) (m cap' : Nat) (X Y : Nat) (w : World) (ha : Wd w a (k + 3) cap (dg X)) (hb : Wd w b m cap' (dg Y)) (hk : k ≤ 90000) (hm : m ≤ 90000) (hYX : Hid (Y ≤ X)) (hY : Hid (Y ≠ 0)) :
    Calls Try.prog 30 #[.slice a (k + 3) cap, .slice b m cap'] w (LehmerPost X Y w) := by
  obtain ⟨hb1, hb2⟩ := ha.bound
  obtain ⟨n3, hn3⟩ : ∃ n3 : Nat, n3 = k + 3 := ⟨_, rfl⟩
  have Hn3 := Lib.hid hn3
  obtain ⟨p1, e1⟩ : ∃ p1 : Nat, (n3 : Int) - 1 = (p1 : Int) := ⟨k + 2, by omega⟩
  have hp1 : p1 = n3 - 1 := by omega
  have hp1n : p1 < n3 := by omega
  have h0 : atw (dg X) (n3 - 1) ≠ 0 := by
    have h1 := atw_dg (l := dg X) (okw_dg X)
    rw [val_dg, ha.len, ← hn3] at h1
    rcases h1 with h1 | h1
    · omega
    · exact h1
  have hroom := head_room (l := dg X) (n := n3) (okw_dg X) (by rw [ha.len, hn3]) (by omega) h0
  rw [← hp1] at h0 hroom
  have hxw := atw_lt (okw_dg X) p1
  rw [← hn3] at ha hb1 ⊢
  obtain ⟨ba, oa, rfl, hca⟩ := ha.at (by omega)
  have hck := hca p1 hp1n
  obtain ⟨x, hx⟩ : ∃ x, x = atw (dg X) p1 := ⟨_, rfl⟩
  rw [← hx] at h0 hroom hxw hck
  have hbl : blen x ≤ 32 := blen_le.2 (by omega)
  have hbl1 : 0 < blen x := blen_pos h0
  obtain ⟨s, hs⟩ : ∃ s, s = 32 - blen x := ⟨_, rfl⟩
  have Hs := Lib.hid hs
  have hs31 : s ≤ 31 := by omega
  rw [← hs, hn3, val_dg] at hroom
  have HrA : Hid (val (dg X) < 2 ^ (32 * (k + 3) - s)) := Lib.hid (by rw [val_dg]; exact hroom)
  have HrB : Hid (val (dg Y) < 2 ^ (32 * (k + 3) - s)) := Lib.hid (by rw [val_dg]; exact Nat.lt_of_le_of_lt hYX.out hroom)
  have Hp : Hid (X / 2 ^ (32 * k + (32 - s)) < 18446744073709551616) := Lib.hid (by
    rw [Nat.div_lt_iff_lt_mul (Nat.two_pow_pos _), show (18446744073709551616 : Nat) = 2 ^ 64 by decide, ← Nat.pow_add, show 64 + (32 * k + (32 - s)) = 32 * (k + 3) - s by omega]
    exact hroom)
  have Ha := Lib.hid ha
  have Hb := Lib.hid hb
  have HvX : Hid (val (dg X) = X) := Lib.hid (val_dg X)
  have HvY : Hid (val (dg Y) = Y) := Lib.hid (val_dg Y)
  have hn3b : n3 ≤ 90003 := by omega
  obtain ⟨M, hM⟩ : ∃ M, M = 2 ^ (32 * k + (32 - s)) := ⟨_, rfl⟩
  obtain ⟨p, hp⟩ : ∃ p, p = X / M := ⟨_, rfl⟩
  obtain ⟨q, hq⟩ : ∃ q, q = Y / M := ⟨_, rfl⟩
  have HPM := Lib.hid hp
  have HQM := Lib.hid hq
  have HP : Hid (p = val (dg X) / 2 ^ (32 * k + (32 - s))) := Lib.hid (by rw [val_dg, ← hM]; exact hp)
  have HQ : Hid (q = val (dg Y) / 2 ^ (32 * k + (32 - s))) := Lib.hid (by rw [val_dg, ← hM]; exact hq)
  have HM := Lib.hid hM
  have HM0 : Hid (0 < M) := Lib.hid (by rw [hM]; exact Nat.two_pow_pos _)
  have hp64 : p < 18446744073709551616 := by rw [hp, hM]; exact Hp.out
  clear Hp hp hq
  clear hca ha hb hroom hbl hbl1 hs hp1 hx h0 hM hn3
  go_enter Try.func30, Try.ntmps30
  go_wp2_with fail
  refine (bits_lz32 x _ hxw).mono ?_
  rintro e w' ⟨rfl, rfl⟩
  rw [← Hs.out]
  go_wp2_with fail
  refine (common_head_at _ _ _ k s n3 p (dg X) _ Ha.out Hn3 HP (by omega) hs31 HrA).mono ?_
  rintro e w1 ⟨rfl, q1, rfl⟩
  go_wp2_with fail
  refine (common_head_at _ _ _ k s n3 q (dg Y) _ (Hb.out.later (below_draws _ _)) Hn3 HQ (by omega) hs31 HrB).mono ?_
  rintro e w1 ⟨rfl, q2, rfl⟩
  go_wp2_with fail
  refine (common_surely X Y M p q _ HM0 hYX HPM HQM hp64).mono ?_
  rintro e w2 ⟨xa, xb, ya, yb, rfl, hxa, hxb, hya, hyb, HG, hB2⟩
  have hB2' : Below w.heap.size w w2 := below_then (below_draws w (q1 + q2)) hB2
  have hBW := below_then hB2' (below_then (below_alloc w2 (.cells #[.int .u64 (xa : Int), .int .u64 (xb : Int)] 56)) (below_alloc _ (.cells #[.int .u64 (ya : Int), .int .u64 (yb : Int)] 56)))
  have HA2 := Lib.hid (Ha.out.later hBW)
  have HC2 := Lib.hid (Hb.out.later hBW)
  have HB2 := Lib.hid hBW
  obtain ⟨hN1, hN2⟩ := box_pair w2 (.int .u64 (xa : Int)) (.int .u64 (xb : Int)) (.int .u64 (ya : Int)) (.int .u64 (yb : Int)) 56
  clear hB2 hB2' hBW Ha Hb HrA HrB HP HQ HPM HQM HM HM0 hck e1 hp1n hxw Hs
  unfold cntV
  by_cases h0 : xb = 0
  · have hx0 : ((xb : Int) == 0) = true := by rw [h0]; rfl
    clear hN1 hN2 h0 HG
    go_wp2_with fail
    refine (quot_div _ _ _ _ _ _ _ _ _ HA2.out HC2.out (by omega) (by omega) (by rw [HvY.out]; exact hY)).mono ?_
    rintro e w3 ⟨a3, n4, c3, b3, m3, d3, rfl, h3, k3, hB3⟩
    rw [HvX.out, HvY.out] at k3
    have K3 := Lib.hid k3
    have C3 := Lib.hid (HC2.out.later hB3)
    clear h3 k3
    go_wp2
    go_ret2
    exact ⟨b, m, cap', b3, m3, d3, Y, X % Y, rfl, C3.out, K3.out, Lib.hid ⟨Nat.le_refl _, (gcd_rest hY.out).2, Nat.le_of_lt (gcd_rest hY.out).2, (gcd_rest hY.out).1⟩, below_then HB2.out hB3⟩
  · have hx0 : ((xb : Int) == 0) = false := by simp [h0]
    have HL := Lib.hid (lehmer_of h0 (HG.out.resolve_left h0))
    clear h0 HG
    go_wp2
    generalize (w2.alloc (.cells #[.int .u64 (xa : Int), .int .u64 (xb : Int)] 56)).alloc (.cells #[.int .u64 (ya : Int), .int .u64 (yb : Int)] 56) = W at *
    generalize w2.heap.size = g at *
    have hNd1 : W.drew.heap[g]? = some (.cells #[.int .u64 (xa : Int), .int .u64 (xb : Int)] 56 (0, 0)) := hN1
    have hNd2 : W.drew.heap[g + 1]? = some (.cells #[.int .u64 (ya : Int), .int .u64 (yb : Int)] 56 (0, 0)) := hN2
    have Hd : Below W.heap.size W W.drew := (Below.refl _ _).drew
    have HN1 := Lib.hid hNd1
    have HN2 := Lib.hid hNd2
    have Sd := four_at hNd1 hNd2
    have hnb : n3 ≤ 100000 := by omega
    have hmb : m ≤ 100000 := by omega
    clear hN1 hN2 hNd1 hNd2 hx0
    go_region_held3 (fun w' => w'.cell? ⟨g, 0, none⟩ = some (.int .u64 (xa : Int)) ∧ w'.cell? ⟨g, 1, none⟩ = some (.int .u64 (xb : Int)) ∧ w'.cell? ⟨g + 1, 0, none⟩ = some (.int .u64 (ya : Int)) ∧ w'.cell? ⟨g + 1, 1, none⟩ = some (.int .u64 (yb : Int))) (first | exact Sd | exact S1 | exact S2)
      (first
      | (go_at_call 44; (first
        | (have S0 := S1; (refine (common_of ya yb _ n3 cap (dg X) b m cap' (dg Y) _ ((HA2.out.later Hd).later b1) ((HC2.out.later Hd).later b1) hnb hmb hya hyb).mono ?_); rintro e w4 ⟨a2, n2, c2, rfl, h2, b2⟩; have S2 := four_at (blk_later (blk_later HN1.out b1) b2) (blk_later (blk_later HN2.out b1) b2))
        | ((refine (common_of xa xb _ n3 cap (dg X) b m cap' (dg Y) _ (HA2.out.later Hd) (HC2.out.later Hd) hnb hmb hxa hxb).mono ?_); rintro e w3 ⟨a1, n1, c1, rfl, h1, b1⟩; have S1 := four_at (blk_later HN1.out b1) (blk_later HN2.out b1)))))
    rw [HvX.out, HvY.out] at h1 h2
    have H1 := Lib.hid (h1.later b2)
    have H2 := Lib.hid h2
    clear h1 h2
    go_wp2
    go_ret2
    exact ⟨_, _, _, _, _, _, _, _, rfl, H1.out, H2.out, HL, below_then HB2.out (below_then Hd (below_then b1 b2))⟩
end Go.Proofs.Ytkpnhohaolfmgaa
