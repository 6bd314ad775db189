/-
  Several texts of this claim as one, group 17.
-/
import Derived.Test.YtipcgehcineblaaGreatG16
import Derived.Deep.RegionHeld3
import Derived.Test.YtipcgehcineblaaGreatG14
import Derived.Test.YtipcgehcineblaaGreatG9
import Derived.Test.YtipcgehcineblaaGreatG7
import Derived.Test.YtipcgehcineblaaGreatG10
import Derived.Test.YtipcgehcineblaaGreatG11
import Derived.Test.YtipcgehcineblaaGreatG15
import Derived.Test.YtipcgehcineblaaGreatG13
/-
  Package row at this seat: Size, Same.
-/
namespace Go.Proofs.YtipcgehcineblaaGreat
open Go.RowKit

theorem fqs_take_more {L : List Fx} {k : Nat} (h : k < L.length) : fqs (L.take (k + 1)) = fqs (L.take k) ++ [(L.getD k Fx.zero).q] := by
  rw [fx_more h]; unfold fqs; rw [List.map_append]; rfl
theorem q_ne_of_at {L M : List Fx} {k : Nat} (h : k < L.length) (h' : k < M.length) (hq : (L.getD k Fx.zero).q ≠ (M.getD k Fx.zero).q) : fqs L ≠ fqs M := fun e => by
  refine hq ?_
  rw [← fqs_getD h, ← fqs_getD h', e]
set_option maxRecDepth 4096 in
set_option maxHeartbeats 4000000 in
theorem row_equalfunc (a0 : Option Addr) (n0 c0 : Nat) (L0 : List Fx) (a1 : Option Addr) (n1 c1 : Nat) (L1 : List Fx) (w : World) (h0 : Fxs w a0 n0 c0 L0) (h1 : Fxs w a1 n1 c1 L1) (hn : n0 ≤ 300) (ht0 : thin 2000000000 L0) (ht1 : thin 2000000000 L1) : Calls Tryz.prog 75 #[.slice a0 n0 c0, .slice a1 n1 c1, .func (.func 76) #[] #[]] w (Gives (.bool (decide (fqs L0 = fqs L1))) w) := by
  have HK0 := Lib.hid h0
  have HLl0 := Lib.hid h0.len
  have hbd0 := h0.bound
  have HTh0 := Lib.hid ht0
  clear h0 ht0
  have HK1 := Lib.hid h1
  have HLl1 := Lib.hid h1.len
  have hbd1 := h1.bound
  have HTh1 := Lib.hid ht1
  clear h1 ht1
  by_cases hnm : n0 = n1
  · subst hnm
    obtain ⟨rr, hrr⟩ : ∃ rr, decide (fqs L0 = fqs L1) = rr := ⟨_, rfl⟩
    have HRR := Lib.hid hrr
    rw [hrr]
    clear hrr
    go_enter Tryz.func75, Tryz.ntmps75
    go_wp2
    go_loopw [17] (fun iv wr => ∃ k : Nat, k ≤ n0 ∧ iv = .int .i64 (k : Int) ∧ Hid (fqs (L0.take k) = fqs (L1.take k)) ∧ Hid (Below w.heap.size w wr)) (fun iv _ => n0 - (intOf iv).toNat)
    case atStart => exact ⟨0, by omega, rfl, Lib.hid rfl, Lib.hid (Below.refl _ _)⟩
    case round =>
      obtain ⟨k, hk, rfl, HS, HB⟩ := hrel
      by_cases hlt : k < n0
      · have HT0 := Lib.hid (fqs_take_more (show k < L0.length by rw [HLl0.out]; exact hlt))
        have HT1 := Lib.hid (fqs_take_more (show k < L1.length by rw [HLl1.out]; exact hlt))
        have HNE := Lib.hid (q_ne_of_at (show k < L0.length by rw [HLl0.out]; exact hlt) (show k < L1.length by rw [HLl1.out]; exact hlt))
        obtain ⟨bb0, off0, rfl, e00, e10, e20, hok0⟩ := HK0.out.at hlt
        have hth0 := HTh0.out _ (fx_mem (L := L0) (k := k) (by rw [HLl0.out]; exact hlt))
        generalize L0.getD k Fx.zero = xk0 at *
        obtain ⟨sk0, ak0, nk0, ck0, lak0, bk0, mk0, dk0, lbk0⟩ := xk0
        obtain ⟨hA0, hB0⟩ := hok0
        simp only at e00 e10 e20 hA0 hB0 hth0
        obtain ⟨hth0, htj0⟩ := hth0
        have HE0 : Hid (w.cell? ⟨bb0, off0 + k * 3, none⟩ = some (.bool sk0) ∧ w.cell? ⟨bb0, off0 + k * 3 + 1, none⟩ = some (.slice ak0 nk0 ck0) ∧ w.cell? ⟨bb0, off0 + k * 3 + 2, none⟩ = some (.slice bk0 mk0 dk0)) := Lib.hid ⟨e00, e10, e20⟩
        have AK0 := Lib.hid hA0
        have BK0 := Lib.hid hB0
        clear hA0 hB0 e00 e10 e20
        obtain ⟨bb1, off1, rfl, e01, e11, e21, hok1⟩ := HK1.out.at hlt
        have hth1 := HTh1.out _ (fx_mem (L := L1) (k := k) (by rw [HLl1.out]; exact hlt))
        generalize L1.getD k Fx.zero = xk1 at *
        obtain ⟨sk1, ak1, nk1, ck1, lak1, bk1, mk1, dk1, lbk1⟩ := xk1
        obtain ⟨hA1, hB1⟩ := hok1
        simp only at e01 e11 e21 hA1 hB1 hth1
        obtain ⟨hth1, htj1⟩ := hth1
        have HE1 : Hid (w.cell? ⟨bb1, off1 + k * 3, none⟩ = some (.bool sk1) ∧ w.cell? ⟨bb1, off1 + k * 3 + 1, none⟩ = some (.slice ak1 nk1 ck1) ∧ w.cell? ⟨bb1, off1 + k * 3 + 2, none⟩ = some (.slice bk1 mk1 dk1)) := Lib.hid ⟨e01, e11, e21⟩
        have AK1 := Lib.hid hA1
        have BK1 := Lib.hid hB1
        clear hA1 hB1 e01 e11 e21
        have hki : (k : Int) < (n0 : Int) := by omega
        have hk0 : (0 : Int) ≤ (k : Int) := by omega
        replace HT0 : Hid (fqs (L0.take (k + 1)) = fqs (L0.take k) ++ [qval sk0 (val lak0) (val lbk0)]) := HT0
        replace HT1 : Hid (fqs (L1.take (k + 1)) = fqs (L1.take k) ++ [qval sk1 (val lak1) (val lbk1)]) := HT1
        replace HNE : Hid (qval sk0 (val lak0) (val lbk0) ≠ qval sk1 (val lak1) (val lbk1) → fqs L0 ≠ fqs L1) := HNE
        obtain ⟨e00, e10, e20⟩ := three_on HE0.out HB.out
        have ba := below_alloc wr (.cells #[.bool sk0, .slice ak0 nk0 ck0, .slice bk0 mk0 dk0] 36)
        have HB1 := Lib.hid (below_then HB.out ba)
        obtain ⟨e01, e11, e21⟩ := three_on HE1.out HB1.out
        have bb := below_alloc (wr.alloc (.cells #[.bool sk0, .slice ak0 nk0 ck0, .slice bk0 mk0 dk0] 36)) (.cells #[.bool sk1, .slice ak1 nk1 ck1, .slice bk1 mk1 dk1] 36)
        have HB2 := Lib.hid (below_then HB1.out bb)
        obtain ⟨x0, x1, x2⟩ := fcells_3 (blk_later (blk_new wr #[.bool sk0, .slice ak0 nk0 ck0, .slice bk0 mk0 dk0] 36) bb)
        have hy := blk_new (wr.alloc (.cells #[.bool sk0, .slice ak0 nk0 ck0, .slice bk0 mk0 dk0] 36)) #[.bool sk1, .slice ak1 nk1 ck1, .slice bk1 mk1 dk1] 36
        rw [blk_size] at hy
        obtain ⟨y0, y1, y2⟩ := fcells_3 hy
        clear ba bb HB1 hy
        go_wp2_with fail
        refine (fracSaid.same (frV sk0 ak0 nk0 ck0 bk0 mk0 dk0) (frV sk1 ak1 nk1 ck1 bk1 mk1 dk1) (qval sk0 (val lak0) (val lbk0)) (qval sk1 (val lak1) (val lbk1)) _ (Fr.of (AK0.out.later HB2.out) (BK0.out.later HB2.out) (by omega) (by omega) rfl) (Fr.of (AK1.out.later HB2.out) (BK1.out.later HB2.out) (by omega) (by omega) rfl)).mono ?_
        rintro e w4 ⟨rfl, bw⟩
        clear e00 e10 e20 e01 e11 e21 x0 x1 x2 y0 y1 y2
        replace HB := Lib.hid (below_then HB2.out bw)
        clear bw HB2
        by_cases hqq : qval sk0 (val lak0) (val lbk0) = qval sk1 (val lak1) (val lbk1)
        · have HS9 : Hid (fqs (L0.take (k + 1)) = fqs (L1.take (k + 1))) := Lib.hid (by rw [HT0.out, HT1.out, HS.out, hqq])
          rw [decide_eq_true hqq]
          clear hqq HS HT0 HT1 HNE
          go_wp2
          go_roundw
          case rel => exact ⟨k + 1, by omega, by go_num, HS9, HB⟩
          case measure => simp [intOf]; omega
        · have hrf : rr = false := by rw [← HRR.out]; exact decide_eq_false (HNE.out hqq)
          subst hrf
          rw [decide_eq_false hqq]
          clear hqq HS HT0 HT1 HNE
          go_wp2
          go_ret
          exact ⟨rfl, HB.out⟩
      · obtain rfl : k = n0 := by omega
        have hrt : rr = true := by
          rw [← HRR.out]
          have h9 := HS.out
          rw [List.take_of_length_le (by rw [HLl0.out]; exact Nat.le_refl _), List.take_of_length_le (by rw [HLl1.out]; exact Nat.le_refl _)] at h9
          exact decide_eq_true h9
        subst hrt
        go_wp2
        go_ret
        exact ⟨rfl, HB.out⟩
  · have hq : ((n0 : Int) == (n1 : Int)) = false := by simp; omega
    have hne : fqs L0 ≠ fqs L1 := fun e => hnm (by
      have h9 := congrArg List.length e
      rwa [fqs_length, fqs_length, HLl0.out, HLl1.out] at h9)
    rw [decide_eq_false hne]
    clear hnm hne
    go_enter Tryz.func75, Tryz.ntmps75
    go_wp2
    go_ret
    exact ⟨rfl, Below.refl _ _⟩
set_option maxRecDepth 4096 in
set_option maxHeartbeats 4000000 in
theorem row_same (a0 : Option Addr) (n0 c0 : Nat) (L0 : List Fx) (a1 : Option Addr) (n1 c1 : Nat) (L1 : List Fx) (w : World) (h0 : Fxs w a0 n0 c0 L0) (h1 : Fxs w a1 n1 c1 L1) (hn : n0 ≤ 300) (ht0 : thin 2000000000 L0) (ht1 : thin 2000000000 L1) : Calls Tryz.prog 45 #[.slice a0 n0 c0, .slice a1 n1 c1] w (Gives (.bool (decide (fqs L0 = fqs L1))) w) := by
  have HC := Lib.hid (show ∀ w' : World, Below w.heap.size w w' → Calls Tryz.prog 75 #[.slice a0 n0 c0, .slice a1 n1 c1, .func (.func 76) #[] #[]] w' (Gives (.bool (decide (fqs L0 = fqs L1))) w') from fun w' hw => row_equalfunc a0 n0 c0 L0 a1 n1 c1 L1 w' (h0.later hw) (h1.later hw) hn ht0 ht1)
  clear h0 h1 ht0 ht1
  go_enter Tryz.func45, Tryz.ntmps45
  go_wp2_with fail
  refine (HC.out _ (Below.refl _ _)).mono ?_
  rintro e w1 ⟨rfl, bw⟩
  go_wp2
  go_ret
  exact ⟨rfl, bw⟩
end Go.Proofs.YtipcgehcineblaaGreat

/-
  Package poly at this seat: Degree, used, Norm, Same.
-/
namespace Go.Proofs.YtipcgehcineblaaGreat
open Go.RowKit

theorem fqs_take (L : List Fx) (k : Nat) : fqs (L.take k) = (fqs L).take k := by unfold fqs; rw [List.map_take]
theorem fqs_used (L : List Fx) : fqs (L.take (plen (fqs L))) = pnorm (fqs L) := by
  rw [fqs_take]; exact (pnorm_take (fqs L)).symm
theorem thin_take {N : Nat} {L : List Fx} (h : thin N L) (k : Nat) : thin N (L.take k) := fun x hx => h x (List.mem_of_mem_take hx)
theorem plen_fqs_le {w : World} {a : Option Addr} {n c : Nat} {L : List Fx} (h : Fxs w a n c L) : plen (fqs L) ≤ n := by
  rw [← h.len, ← fqs_length]; exact plen_le_length _
theorem co_fqs {L : List Fx} {j : Nat} (h : j < L.length) : co (fqs L) j = (L.getD j Fx.zero).q := fqs_getD h
theorem sgn_zero {z : Int} : sgn z = 0 ↔ z = 0 := by
  unfold sgn
  constructor
  · intro h
    split at h
    · assumption
    · split at h <;> omega
  · intro h
    rw [if_pos h]
theorem sgn_num {q : Rat} : sgn q.num = 0 ↔ q = 0 := by
  rw [sgn_zero]
  exact ⟨fun h => Rat.num_eq_zero.1 h, fun h => by rw [h]; rfl⟩
set_option maxRecDepth 4096 in
set_option maxHeartbeats 4000000 in
theorem poly_degree (a : Option Addr) (n c : Nat) (L : List Fx) (w : World) (h : Fxs w a n c L) (hn : n ≤ 1000) (ht : thin 2097152000 L) : Calls Tryz.prog 15 #[.slice a n c] w (Gives (.int .i64 ((plen (fqs L) : Int) - 1)) w) := by
  have hbd := h.bound
  have HK := Lib.hid h
  have HT := Lib.hid ht
  have HLl := Lib.hid h.len
  obtain ⟨D, hD⟩ : ∃ D : Int, ((plen (fqs L) : Int) - 1) = D := ⟨_, rfl⟩
  rw [hD]
  have HDE : Hid (∀ z : Int, -1 ≤ z → (∀ j : Nat, z < (j : Int) → co (fqs L) j = 0) → (z < 0 ∨ co (fqs L) z.toNat ≠ 0) → z = D) := Lib.hid (fun z h1 h2 h3 => by
    rw [← hD]
    have h4 : plen (fqs L) ≤ (z + 1).toNat := plen_le fun i hi => h2 i (by omega)
    rcases h3 with h3 | h3
    · omega
    · have := plen_ge h3
      omega)
  have HZ0 : Hid (∀ j : Nat, ((n : Int) - 1) < (j : Int) → co (fqs L) j = 0) := Lib.hid (fun j hj => co_far (by rw [fqs_length, HLl.out]; omega))
  clear h ht hD
  go_enter Tryz.func15, Tryz.ntmps15
  go_wp2
  go_loopw [3] (fun iv wr => ∃ z : Int, -1 ≤ z ∧ z < (n : Int) ∧ iv = .int .i64 z ∧ Hid (∀ j : Nat, z < (j : Int) → co (fqs L) j = 0) ∧ Hid (Below w.heap.size w wr)) (fun iv _ => (intOf iv + 1).toNat)
  case atStart => exact ⟨(n : Int) - 1, by omega, by omega, rfl, HZ0, Lib.hid (Below.refl _ _)⟩
  case round =>
    clear HZ0
    obtain ⟨z, hz1, hz2, rfl, HZ, HB⟩ := hrel
    by_cases hz : 0 ≤ z
    · obtain ⟨j, rfl⟩ : ∃ j : Nat, z = (j : Int) := ⟨z.toNat, by omega⟩
      have hjn : j < n := by omega
      obtain ⟨b, off, rfl, e0, e1, e2, hok⟩ := (HK.out.later HB.out).at hjn
      have hth := HT.out _ (fx_mem (L := L) (k := j) (by rw [HLl.out]; exact hjn))
      have hco : co (fqs L) j = (L.getD j Fx.zero).q := co_fqs (by rw [HLl.out]; exact hjn)
      have hfr := hok.fr hth.1 hth.2
      generalize L.getD j Fx.zero = x at *
      obtain ⟨s, a1, n1, c1, la, b1, m1, d1, lb⟩ := x
      obtain ⟨q, hq⟩ : ∃ q, (⟨s, a1, n1, c1, la, b1, m1, d1, lb⟩ : Fx).q = q := ⟨_, rfl⟩
      rw [hq] at hco hfr
      have HS := fracSaid.sign _ q wr hfr
      obtain ⟨s0, hs0⟩ : ∃ s0, sgn q.num = s0 := ⟨_, rfl⟩
      rw [hs0] at HS
      simp only at e0 e1 e2 hfr HS
      unfold frV at HS
      by_cases hq0 : q = 0
      · have h0 : s0 = 0 := by rw [← hs0]; exact sgn_num.2 hq0
        subst h0
        have HZ2 : Hid (∀ i : Nat, (j : Int) - 1 < (i : Int) → co (fqs L) i = 0) := Lib.hid (fun i hi => by
          by_cases hij : i = j
          · rw [hij, hco, hq0]
          · exact HZ.out i (by omega))
        clear hs0 hq0 hq hco hfr hok hth HZ hz1
        go_wp2_with fail
        refine HS.mono ?_
        rintro e w1 ⟨rfl, b1⟩
        have HB1 := Lib.hid (below_then HB.out b1)
        clear b1 e0 e1 e2 HS HB
        go_wp2
        go_roundw
        case rel => exact ⟨(j : Int) - 1, by omega, by omega, rfl, HZ2, HB1⟩
        case measure => simp [intOf]
      · have h0 : (s0 == 0) = false := by
          have h9 : ¬ s0 = 0 := fun e => hq0 (sgn_num.1 (hs0.trans e))
          simpa using h9
        obtain rfl : (j : Int) = D := HDE.out (j : Int) (by omega) HZ.out (.inr (by rw [Int.toNat_natCast, hco]; exact hq0))
        clear hs0 hq0 hq hco hfr hok hth HZ hz1 HDE
        go_wp2_with fail
        refine HS.mono ?_
        rintro e w1 ⟨rfl, b1⟩
        have HB1 := Lib.hid (below_then HB.out b1)
        clear b1 e0 e1 e2 HS HB
        go_wp2
        go_ret
        exact ⟨rfl, HB1.out⟩
    · obtain rfl : z = D := HDE.out z hz1 HZ.out (.inl (by omega))
      clear HDE HZ
      go_wp2
      go_ret
      exact ⟨rfl, HB.out⟩
set_option maxRecDepth 4096 in
set_option maxHeartbeats 4000000 in
theorem poly_used (a : Option Addr) (n c : Nat) (L : List Fx) (w : World) (h : Fxs w a n c L) (hn : n ≤ 1000) (ht : thin 2097152000 L) : Calls Tryz.prog 43 #[.slice a n c] w (Gives (.slice a (plen (fqs L)) c) w) := by
  have hbd := h.bound
  have hk := plen_fqs_le h
  have hnil := h.2.2.2.1
  have HD := Lib.hid (poly_degree a n c L w h hn ht)
  obtain ⟨k, hke⟩ : ∃ k, plen (fqs L) = k := ⟨_, rfl⟩
  rw [hke] at hk HD ⊢
  have hw : IntKind.i64.wrap (k : Int) = (k : Int) := by rw [IntKind.wrap_i64]; omega
  have hkc : (k : Int) ≤ (c : Int) := by omega
  clear h ht hke
  have hkk : (k : Int) - 1 + 1 = (k : Int) := by omega
  go_enter Tryz.func43, Tryz.ntmps43
  go_wp2_with fail
  refine HD.out.mono ?_
  rintro e w1 ⟨rfl, b1⟩
  have HB1 := Lib.hid b1
  clear b1 HD
  cases a with
  | none =>
    have hc0 : c = 0 := hnil rfl
    subst hc0
    obtain rfl : k = 0 := by omega
    clear hnil
    go_wp2
    go_ret
    exact ⟨rfl, HB1.out⟩
  | some ad =>
    clear hnil
    go_wp2
    go_ret
    exact ⟨rfl, HB1.out⟩
set_option maxRecDepth 4096 in
set_option maxHeartbeats 4000000 in
theorem poly_norm_row (a : Option Addr) (n c : Nat) (L : List Fx) (w : World) (h : Fxs w a n c L) (hn : n ≤ 300) (ht : thin 2097152000 L) : Calls Tryz.prog 14 #[.slice a n c] w (LstRow 36 (pnorm (fqs L)) w) := by
  have hbd := h.bound
  have hk := plen_fqs_le h
  obtain ⟨q, hq⟩ : ∃ q : Rat, ((1 : Int) : Rat) = q := ⟨_, rfl⟩
  have hq1 : q = 1 := by rw [← hq]; rfl
  have hql : qlen q ≤ 2 := by rw [← hq]; exact qlen_int (by decide)
  have HO : ∀ w' : World, Calls Tryz.prog 35 #[.int .i64 1] w' (LstQ q w') := fun w' => hq ▸ frac_of 1 w' (by decide)
  have HU : ∀ w' : World, Below w.heap.size w w' → Calls Tryz.prog 43 #[.slice a n c] w' (Gives (.slice a (plen (fqs L)) c) w') := fun w' hb => poly_used a n c L w' (h.later hb) (by omega) ht
  have HS : ∀ (w' : World) (v : Value), Below w.heap.size w w' → Fr w' v q 2097152000 → Calls Tryz.prog 42 #[v, .slice a (plen (fqs L)) c] w' (LstRow 36 (pnorm (fqs L)) w') := fun w' v hb hv => by
    have h9 := row_scale_row v q a (plen (fqs L)) c (L.take (plen (fqs L))) w' hv ((h.later hb).take hk) (by omega) (thin_take ht _)
    rw [fqs_used, hq1] at h9
    rwa [show rscale 1 (pnorm (fqs L)) = pnorm (fqs L) from by unfold rscale; rw [show (fun x : Rat => 1 * x) = id from funext fun x => Rat.one_mul x, List.map_id]] at h9
  generalize pnorm (fqs L) = T at *
  generalize plen (fqs L) = k at *
  have HL := Lib.hid hql
  clear h ht hq hq1 hql
  go_enter Tryz.func14, Tryz.ntmps14
  go_wp2_with fail
  refine (HO _).mono ?_
  rintro e w1 ⟨a1, n1, c1, b1, m1, d1, rfl, h1, g1, bw⟩
  have ln : n1 ≤ 2097152000 := Nat.le_trans (Nat.le_of_eq h1.len.symm) (Nat.le_trans (qlen_num _) (Nat.le_trans HL.out (by decide)))
  have lm : m1 ≤ 2097152000 := Nat.le_trans (Nat.le_of_eq g1.len.symm) (Nat.le_trans (qlen_den _) (Nat.le_trans HL.out (by decide)))
  have HB := Lib.hid bw
  have A1 := Lib.hid h1
  have D1 := Lib.hid g1
  clear bw h1 g1 HO
  go_wp2_with fail
  refine (HU _ HB.out).mono ?_
  rintro e w2 ⟨rfl, bw⟩
  replace HB := Lib.hid (below_then HB.out bw)
  replace A1 := Lib.hid (A1.out.later bw)
  replace D1 := Lib.hid (D1.out.later bw)
  clear bw HU
  go_wp2_with fail
  refine (HS _ _ HB.out (Fr.right A1.out D1.out ln lm)).mono ?_
  rintro e w3 ⟨v, rfl, h3, bw⟩
  have R3 := Lib.hid (row_weak h3 HB.out.size)
  replace HB := Lib.hid (below_then HB.out bw)
  clear bw h3 HS A1 D1
  go_wp2
  go_ret
  exact ⟨v, rfl, R3.out, HB.out⟩
theorem poly_norm (a : Option Addr) (n c : Nat) (L : List Fx) (w : World) (h : Fxs w a n c L) (hn : n ≤ 300) (ht : thin 2097152000 L) : Calls Tryz.prog 14 #[.slice a n c] w (LstRw (pnorm (fqs L)) w) := (poly_norm_row a n c L w h hn ht).mono fun _ _ h9 => h9.out
set_option maxRecDepth 4096 in
set_option maxHeartbeats 4000000 in
theorem poly_same (a : Option Addr) (n c : Nat) (L : List Fx) (b : Option Addr) (m d : Nat) (M : List Fx) (w : World) (h : Fxs w a n c L) (k : Fxs w b m d M) (hn : n ≤ 300) (hm : m ≤ 300) (ht : thin 2000000000 L) (hu : thin 2000000000 M) : Calls Tryz.prog 16 #[.slice a n c, .slice b m d] w (Gives (.bool (decide (pnorm (fqs L) = pnorm (fqs M)))) w) := by
  have hbd := h.bound
  have hbd2 := k.bound
  have hk1 := plen_fqs_le h
  have hk2 := plen_fqs_le k
  have HU1 : ∀ w' : World, Below w.heap.size w w' → Calls Tryz.prog 43 #[.slice a n c] w' (Gives (.slice a (plen (fqs L)) c) w') := fun w' hb => poly_used a n c L w' (h.later hb) (by omega) (ht.mono (by decide))
  have HU2 : ∀ w' : World, Below w.heap.size w w' → Calls Tryz.prog 43 #[.slice b m d] w' (Gives (.slice b (plen (fqs M)) d) w') := fun w' hb => poly_used b m d M w' (k.later hb) (by omega) (hu.mono (by decide))
  have HS : ∀ (w' : World), Below w.heap.size w w' → Calls Tryz.prog 45 #[.slice a (plen (fqs L)) c, .slice b (plen (fqs M)) d] w' (Gives (.bool (decide (pnorm (fqs L) = pnorm (fqs M)))) w') := fun w' hb => by
    have h9 := row_same a (plen (fqs L)) c (L.take (plen (fqs L))) b (plen (fqs M)) d (M.take (plen (fqs M))) w' ((h.later hb).take hk1) ((k.later hb).take hk2) (by omega) (thin_take ht _) (thin_take hu _)
    rwa [fqs_used, fqs_used] at h9
  generalize decide (pnorm (fqs L) = pnorm (fqs M)) = R at *
  generalize plen (fqs L) = k1 at *
  generalize plen (fqs M) = k2 at *
  have HB := Lib.hid (Below.refl w.heap.size w)
  clear h k ht hu
  go_enter Tryz.func16, Tryz.ntmps16
  go_wp2_with fail
  refine (HU1 _ HB.out).mono ?_
  rintro e w1 ⟨rfl, bw⟩
  replace HB := Lib.hid (below_then HB.out bw)
  clear bw HU1
  go_wp2_with fail
  refine (HU2 _ HB.out).mono ?_
  rintro e w2 ⟨rfl, bw⟩
  replace HB := Lib.hid (below_then HB.out bw)
  clear bw HU2
  go_wp2_with fail
  refine (HS _ HB.out).mono ?_
  rintro e w3 ⟨rfl, bw⟩
  replace HB := Lib.hid (below_then HB.out bw)
  clear bw HS
  go_wp2
  go_ret
  exact ⟨rfl, HB.out⟩
end Go.Proofs.YtipcgehcineblaaGreat

/-
  What some boxes hold, cell by cell: those of faults, too. Of no program.
-/
namespace Go.Proofs.YtipcgehcineblaaGreat
open Go.RowKit

end Go.Proofs.YtipcgehcineblaaGreat

/-
  Package poly at this seat: Scale.
-/
namespace Go.Proofs.YtipcgehcineblaaGreat
open Go.RowKit

theorem Rw.part {w : World} {a : Option Addr} {n cap : Nat} {qs : List Rat} (h : Rw w a n cap qs) {k : Nat} (hk : k ≤ n) : Rw w a k cap (qs.take k) := by
  obtain ⟨L, h1, h2, h3⟩ := h
  exact ⟨L.take k, h1.take hk, by rw [List.map_take, h2], fun x hx => h3 x (List.mem_of_mem_take hx)⟩
theorem Rw.used {w : World} {a : Option Addr} {n cap : Nat} {qs : List Rat} (h : Rw w a n cap qs) : Rw w a (plen qs) cap (pnorm qs) := by
  have h1 := h.part (k := plen qs) (by rw [← h.len]; exact plen_le_length qs)
  rwa [show qs.take (plen qs) = pnorm qs from (pnorm_take qs).symm] at h1
theorem poly_used_rw (a : Option Addr) (n c : Nat) (qs : List Rat) (w : World) (h : Rw w a n c qs) (hn : n ≤ 1000) (hq : ∀ q ∈ qs, qlen q ≤ 2097152000) : Calls Tryz.prog 43 #[.slice a n c] w (fun e w' => e = .returned (.slice a (plen qs) c) ∧ Rw w' a (plen qs) c (pnorm qs) ∧ Below w.heap.size w w') := by
  obtain ⟨L, h1, h2, h3⟩ := h.thin hq
  have h4 := poly_used a n c L w h1 hn h3
  rw [h2] at h4
  exact h4.mono fun e w' h9 => ⟨h9.1, h.used.later h9.2, h9.2⟩
theorem poly_used_fx (a : Option Addr) (n c : Nat) (L : List Fx) (w : World) (h : Fxs w a n c L) (hn : n ≤ 1000) (ht : thin 2097152000 L) : Calls Tryz.prog 43 #[.slice a n c] w (fun e w' => e = .returned (.slice a (plen (fqs L)) c) ∧ Fxs w' a (plen (fqs L)) c (L.take (plen (fqs L))) ∧ Below w.heap.size w w') :=
  (poly_used a n c L w h hn ht).mono fun _ _ h9 => ⟨h9.1, (h.take (plen_fqs_le h)).later h9.2, h9.2⟩
set_option maxRecDepth 4096 in
set_option maxHeartbeats 8000000 in
theorem poly_scale (v : Value) (z : Rat) (a : Option Addr) (n c : Nat) (L : List Fx) (w : World) (hv : Fr w v z 900000000) (h : Fxs w a n c L) (hn : n ≤ 300) (ht : thin 900000000 L) : Calls Tryz.prog 27 #[v, .slice a n c] w (LstRw (pnorm (rscale z (fqs L))) w) := by
  have hbd := h.bound
  have hk := plen_fqs_le h
  have hzl : qlen z ≤ 900000001 := hv.len
  have hT9 : ∀ q ∈ rscale z (pnorm (fqs L)), qlen q ≤ 2097152000 := fun q hq => Nat.le_trans (qlen_rscale (A := 900000001) hzl (fun x hx => ht.qs h.oks x (pnorm_mem hx)) q hq) (by decide)
  obtain ⟨vs, va, vn, vc, vla, vb, vm, vd, vlb, rfl, hv1, hv2, hvn, hvm, hvq⟩ := hv
  have HVQ := Lib.hid hvq
  have HU : ∀ w' : World, Fxs w' a n c L → Calls Tryz.prog 43 #[.slice a n c] w' (fun e w'' => e = .returned (.slice a (plen (fqs L)) c) ∧ Fxs w'' a (plen (fqs L)) c (L.take (plen (fqs L))) ∧ Below w'.heap.size w' w'') := fun w' h9 => poly_used_fx a n c L w' h9 (by omega) (ht.mono (by decide))
  have hT : ∃ T, rscale z (pnorm (fqs L)) = T := ⟨_, rfl⟩
  have HS : ∀ w' : World, Fxs w' a (plen (fqs L)) c (L.take (plen (fqs L))) → Wd w' va vn vc vla → Wd w' vb vm vd vlb → Calls Tryz.prog 42 #[.agg #[.bool vs, .slice va vn vc, .slice vb vm vd], .slice a (plen (fqs L)) c] w' (LstRw (rscale z (pnorm (fqs L))) w') := fun w' h9 h8 h7 => by
    have h6 := row_scale (frV vs va vn vc vb vm vd) z a (plen (fqs L)) c (L.take (plen (fqs L))) w' (Fr.of h8 h7 (by omega) (by omega) HVQ.out) h9 (by omega) (thin_take (ht.mono (by decide)) _)
    rwa [fqs_used] at h6
  have HNL : Hid ((rscale z (pnorm (fqs L))).length ≤ 1000) := Lib.hid (by rw [rscale_length]; have : (pnorm (fqs L)).length = plen (fqs L) := rfl; omega)
  have HPN : Hid (pnorm (rscale z (fqs L)) = pnorm (rscale z (pnorm (fqs L)))) := Lib.hid (pnorm_congr (rscale_congr z (pnorm_co _).symm))
  rw [HPN.out]
  clear HPN
  obtain ⟨T, hT⟩ := hT
  rw [hT] at HNL hT9 ⊢
  simp only [hT] at HS
  have HUR : ∀ (w' : World) (a' : Option Addr) (n' c' : Nat), Rw w' a' n' c' T → Calls Tryz.prog 43 #[.slice a' n' c'] w' (fun e w'' => e = .returned (.slice a' (plen T) c') ∧ Rw w'' a' (plen T) c' (pnorm T) ∧ Below w'.heap.size w' w'') := fun w' a' n' c' h9 => poly_used_rw a' n' c' T w' h9 (by rw [← h9.len]; exact HNL.out) hT9
  obtain ⟨k, hke⟩ : ∃ k, plen (fqs L) = k := ⟨_, rfl⟩
  obtain ⟨M, hM⟩ : ∃ M, L.take k = M := ⟨_, rfl⟩
  rw [hke] at hk
  simp only [hke, hM] at HU HS
  obtain ⟨k2, hk2⟩ : ∃ k, plen T = k := ⟨_, rfl⟩
  obtain ⟨U, hU⟩ : ∃ U, pnorm T = U := ⟨_, rfl⟩
  simp only [hk2, hU] at HUR ⊢
  have HB := Lib.hid (below_alloc w (.cells #[.bool vs, .slice va vn vc, .slice vb vm vd] 36))
  have X0 : Hid ((w.alloc (.cells #[.bool vs, .slice va vn vc, .slice vb vm vd] 36)).heap[w.heap.size]? = some (.cells #[.bool vs, .slice va vn vc, .slice vb vm vd] 36 (0, 0))) := Lib.hid (blk_new w _ _)
  have HK := Lib.hid (h.later HB.out)
  have V1 := Lib.hid (hv1.later HB.out)
  have V2 := Lib.hid (hv2.later HB.out)
  clear h ht hv1 hv2 hvq hke hM hT hk2 hU hT9 hzl HVQ HNL hvn hvm
  go_enter Tryz.func27, Tryz.ntmps27
  unfold frV
  go_wp2
  replace HB := Lib.hid (below_then HB.out ((Below.refl _ _).drew : Below (w.alloc (.cells #[.bool vs, .slice va vn vc, .slice vb vm vd] 36)).heap.size (w.alloc (.cells #[.bool vs, .slice va vn vc, .slice vb vm vd] 36)) (w.alloc (.cells #[.bool vs, .slice va vn vc, .slice vb vm vd] 36)).drew))
  replace X0 : Hid ((w.alloc (.cells #[.bool vs, .slice va vn vc, .slice vb vm vd] 36)).drew.heap[w.heap.size]? = _) := Lib.hid X0.out
  replace HK := Lib.hid (HK.out.later ((Below.refl _ _).drew : Below (w.alloc (.cells #[.bool vs, .slice va vn vc, .slice vb vm vd] 36)).heap.size (w.alloc (.cells #[.bool vs, .slice va vn vc, .slice vb vm vd] 36)) (w.alloc (.cells #[.bool vs, .slice va vn vc, .slice vb vm vd] 36)).drew))
  replace V1 := Lib.hid (V1.out.later ((Below.refl _ _).drew : Below (w.alloc (.cells #[.bool vs, .slice va vn vc, .slice vb vm vd] 36)).heap.size (w.alloc (.cells #[.bool vs, .slice va vn vc, .slice vb vm vd] 36)) (w.alloc (.cells #[.bool vs, .slice va vn vc, .slice vb vm vd] 36)).drew))
  replace V2 := Lib.hid (V2.out.later ((Below.refl _ _).drew : Below (w.alloc (.cells #[.bool vs, .slice va vn vc, .slice vb vm vd] 36)).heap.size (w.alloc (.cells #[.bool vs, .slice va vn vc, .slice vb vm vd] 36)) (w.alloc (.cells #[.bool vs, .slice va vn vc, .slice vb vm vd] 36)).drew))
  have pSn := fcells_3 X0.out
  go_region_held3 (fun w' => w'.cell? ⟨w.heap.size, 0, none⟩ = some (.bool vs) ∧ w'.cell? ⟨w.heap.size, 1, none⟩ = some (.slice va vn vc) ∧ w'.cell? ⟨w.heap.size, 2, none⟩ = some (.slice vb vm vd)) (exact pSn)
    (first
    | (go_at_call 43; (first
      | (have pm2 := pM2; refine (HUR _ a1 n1 c1 R1.out).mono ?_; rintro e wp3 ⟨rfl, h, b⟩; replace HB := Lib.hid (below_then HB.out b); replace X0 := Lib.hid (blk_later X0.out b); replace HK := Lib.hid (HK.out.later b); replace V1 := Lib.hid (V1.out.later b); replace V2 := Lib.hid (V2.out.later b); clear R1; have R2 := Lib.hid h; clear h; clear b; clear pSn; have pSn := fcells_3 X0.out; clear pM2 pm2; have pM3 := True.intro)
      | (refine (HU _ HK.out).mono ?_; rintro e wp1 ⟨rfl, h, b⟩; replace HB := Lib.hid (below_then HB.out b); replace X0 := Lib.hid (blk_later X0.out b); replace HK := Lib.hid (HK.out.later b); replace V1 := Lib.hid (V1.out.later b); replace V2 := Lib.hid (V2.out.later b); have M1 := Lib.hid h; clear h; clear b; clear pSn; have pSn := fcells_3 X0.out; have pM1 := True.intro)))
    | (go_at_call 42; (first
      | (have pm1 := pM1; refine (HS _ M1.out V1.out V2.out).mono ?_; rintro e wp2 ⟨a1, n1, c1, rfl, h, b⟩; replace HB := Lib.hid (below_then HB.out b); replace X0 := Lib.hid (blk_later X0.out b); replace HK := Lib.hid (HK.out.later b); replace V1 := Lib.hid (V1.out.later b); replace V2 := Lib.hid (V2.out.later b); clear M1; have R1 := Lib.hid h; clear h; clear b; clear pSn; have pSn := fcells_3 X0.out; clear pM1 pm1; have pM2 := True.intro))))
  all_goals (
    go_wp2
    go_ret
    exact ⟨a1, k2, c1, rfl, R2.out, HB.out⟩)
end Go.Proofs.YtipcgehcineblaaGreat

/-
  Package poly at this seat: Diff.
-/
namespace Go.Proofs.YtipcgehcineblaaGreat
open Go.RowKit

set_option maxRecDepth 4096 in
set_option maxHeartbeats 8000000 in
theorem poly_diff (a : Option Addr) (n c : Nat) (L : List Fx) (w : World) (h : Fxs w a n c L) (hn : n ≤ 300) (ht : thin 2000000000 L) : Calls Tryz.prog 30 #[.slice a n c] w (LstRw (pnorm (pdiff (fqs L))) w) := by
  have hbd := h.bound
  have hk := plen_fqs_le h
  have HK := Lib.hid h
  have HLl := Lib.hid h.len
  have HTh := Lib.hid ht
  obtain ⟨N, hN⟩ : ∃ N, plen (fqs L) - 1 = N := ⟨_, rfl⟩
  obtain ⟨T, hT⟩ : ∃ T, tab N (fun i => ((i + 1 : Nat) : Rat) * co (fqs L) (i + 1)) = T := ⟨_, rfl⟩
  have HTL : Hid (T.length = N) := Lib.hid (by rw [← hT, tab_length])
  have HTV : Hid (∀ k, k < N → T.getD k 0 = ((k + 1 : Nat) : Rat) * co (fqs L) (k + 1)) := Lib.hid (fun k hk => by rw [← hT, tab_at hk])
  have HPN : Hid (pnorm (pdiff (fqs L)) = T) := Lib.hid (by
    have h1 : peq (pdiff (fqs L)) T := fun i => by
      rw [← hT, co_tab, co_pdiff]
      split
      · rfl
      · rw [co_beyond (a := fqs L) (by omega), Rat.mul_zero]
    rw [pnorm_congr h1]
    by_cases h0 : N = 0
    · have e0 : T = [] := List.eq_nil_of_length_eq_zero (by rw [HTL.out, h0])
      rw [e0]; rfl
    · have h2 : co T (N - 1) ≠ 0 := by
        rw [← h1 (N - 1), co_pdiff]
        intro e
        rcases Rat.mul_eq_zero.1 e with e | e
        · have := Rat.natCast_inj.1 (e.trans (show (0 : Rat) = ((0 : Nat) : Rat) from rfl)); omega
        · exact plen_top (a := fqs L) (n := N - 1 + 1) (by omega) e
      have h3 := plen_ge h2
      have h4 : T.length = N := HTL.out
      rw [pnorm_take, List.take_of_length_le]
      show T.length ≤ plen T
      omega)
  rw [HPN.out]
  have HD := Lib.hid (fun w' (hb : Below w.heap.size w w') => poly_degree a n c L w' (h.later hb) (by omega) (ht.mono (by decide)))
  obtain ⟨k, hke⟩ : ∃ k, plen (fqs L) = k := ⟨_, rfl⟩
  rw [hke] at HD hk hN
  have hmax : max ((k : Int) - 1) 0 = (N : Int) := by omega
  have hNn : N + 1 ≤ n ∨ N = 0 := by omega
  clear hT h ht HPN hke hN
  obtain ⟨i0, hi, hz0, hz1, hz2⟩ := info_parts infoFracR
  go_enter Tryz.func30, Tryz.ntmps30
  go_wp2_with fail
  refine (HD.out _ (Below.refl _ _)).mono ?_
  rintro e w1 ⟨rfl, bw⟩
  have HB1 := Lib.hid bw
  clear bw HD
  go_wp2_with (at_make; refine wpList_make_fracs _ rfl _ _ 31 rfl w1.heap.size 36 i0 Tryz.underlying31 hi hz0 hz1 hz2 _ _ _ _ N rfl rfl (by omega) (by omega) (by omega) (by simp) ?_; intro wm hmade hgm hszm)
  have HO0 := Lib.hid (Half.start hmade)
  have HB0 : Hid (Below w.heap.size w wm) := Lib.hid (below_then HB1.out ((Below.refl _ _).grown hgm (Nat.le_refl _) (fun k hk => by cases hk)))
  have hsz1 := HB1.out.size
  clear hmade hgm HB1
  go_loopw [11] (fun iv wr => ∃ k r : Nat, k + r = N ∧ iv = .int .i64 (k : Int) ∧ Hid (Half wr w1.heap.size 36 (.slice (some ⟨w1.heap.size, 0, none⟩) N N) (T.take k) r) ∧ Hid (Below w.heap.size w wr) ∧ w1.heap.size < wr.heap.size) (fun iv _ => N - (intOf iv).toNat)
  case atStart => exact ⟨0, N, by omega, rfl, HO0, HB0, by omega⟩
  case round =>
    clear HO0 HB0
    obtain ⟨k, r, hk, rfl, HO, HB, hsz⟩ := hrel
    by_cases hlt : k < N
    · have hkT : k < T.length := by rw [HTL.out]; exact hlt
      obtain ⟨r, rfl⟩ : ∃ r', r = r' + 1 := ⟨r - 1, by omega⟩
      have HT : Hid (T.take (k + 1) = T.take k ++ [T.getD k 0]) := Lib.hid (q_more hkT)
      have HTv := Lib.hid (HTV.out k hlt)
      obtain ⟨j, hj⟩ : ∃ j, k + 1 = j := ⟨_, rfl⟩
      have hjn : j < n := by omega
      obtain ⟨bb0, off0, rfl, e00, e10, e20, hok0⟩ := HK.out.at hjn
      have hth0 := HTh.out _ (fx_mem (L := L) (k := j) (by rw [HLl.out]; exact hjn))
      have hco : co (fqs L) j = (L.getD j Fx.zero).q := co_fqs (by rw [HLl.out]; exact hjn)
      obtain ⟨z, hz⟩ : ∃ z : Rat, ((j : Nat) : Rat) = z := ⟨_, rfl⟩
      have hlz : qlen z ≤ 2 := hz ▸ qlen_int (z := ((j : Nat) : Int)) (by unfold isInt; omega)
      have HI : ∀ w' : World, Calls Tryz.prog 35 #[.int .i64 (j : Int)] w' (LstQ z w') := fun w' => hz ▸ frac_of (j : Int) w' (by unfold isInt; omega)
      rw [hj, hco, hz] at HTv
      generalize L.getD j Fx.zero = xk0 at *
      obtain ⟨sk0, ak0, nk0, ck0, lak0, bk0, mk0, dk0, lbk0⟩ := xk0
      obtain ⟨hA0, hB0⟩ := hok0
      simp only at e00 e10 e20 hA0 hB0 hth0
      obtain ⟨hth0, htj0⟩ := hth0
      have HE0 : Hid (w.cell? ⟨bb0, off0 + j * 3, none⟩ = some (.bool sk0) ∧ w.cell? ⟨bb0, off0 + j * 3 + 1, none⟩ = some (.slice ak0 nk0 ck0) ∧ w.cell? ⟨bb0, off0 + j * 3 + 2, none⟩ = some (.slice bk0 mk0 dk0)) := Lib.hid ⟨e00, e10, e20⟩
      have AK0 := Lib.hid hA0
      have BK0 := Lib.hid hB0
      clear hA0 hB0 e00 e10 e20 hz hco
      generalize T.getD k 0 = tk at *
      replace HTv : Hid (tk = z * qval sk0 (val lak0) (val lbk0)) := HTv
      have hki : (k : Int) < (N : Int) := by omega
      have hji : (j : Int) < (n : Int) := by omega
      have hkj : (k : Int) + 1 = (j : Int) := by omega
      have hwj : IntKind.i64.wrap (j : Int) = (j : Int) := by rw [IntKind.wrap_i64]; omega
      obtain ⟨e00, e10, e20⟩ := three_on HE0.out HB.out
      have HJ := Lib.hid hj
      clear hj
      go_wp2
      have b0 : Below wr.heap.size wr wr.drew := (Below.refl _ _).drew
      replace HB := Lib.hid (below_then HB.out b0)
      replace HO := Lib.hid (HO.out.later b0)
      replace hsz := Nat.lt_of_lt_of_le hsz b0.size
      clear e00 e10 e20 b0
      obtain ⟨e00, e10, e20⟩ := three_on HE0.out HB.out
      go_region_law (first
        | (go_simp; go_at_call 35; refine (HI _).mono ?_; rintro e w3 ⟨a3, n3, c3, b3, m3, d3, rfl, h3, g3, bw⟩; clear e00 e10 e20; replace HB := Lib.hid (below_then HB.out bw); replace HO := Lib.hid (HO.out.later bw); have hsz3 := Nat.lt_of_lt_of_le hsz bw.size; clear hsz; have hn3 : n3 ≤ 2 := Nat.le_trans (Nat.le_of_eq h3.len.symm) (Nat.le_trans (qlen_num _) hlz); have hm3 : m3 ≤ 2 := Nat.le_trans (Nat.le_of_eq g3.len.symm) (Nat.le_trans (qlen_den _) hlz); have A3 := Lib.hid h3; have D3 := Lib.hid g3; clear bw h3 g3; unfold frV; obtain ⟨e00, e10, e20⟩ := three_on HE0.out HB.out)
        | (go_simp; go_at_call 49; refine (fracSaid.mul _ _ z (qval sk0 (val lak0) (val lbk0)) _ (Fr.right A3.out D3.out (by omega) (by omega)) (Fr.of (AK0.out.later HB.out) (BK0.out.later HB.out) (by omega) (by omega) rfl)).mono ?_; rintro e w4 ⟨a4, n4, c4, b4, m4, d4, rfl, h4, g4, bw⟩; rw [← HTv.out] at h4 g4 ⊢; clear e00 e10 e20; replace HB := Lib.hid (below_then HB.out bw); replace HO := Lib.hid (HO.out.later bw); have hsz4 := Nat.lt_of_lt_of_le hsz3 bw.size; have HA4 := Lib.hid h4; have HB4 := Lib.hid g4; clear bw hsz3 h4 g4 A3 D3; unfold frV; obtain ⟨⟨p0, p1, p2⟩, f0, f1, f2⟩ := HO.out.cell (k := k) (by rw [take_len (Nat.le_of_lt hkT)])))
      all_goals (
        obtain ⟨hst, hgr⟩ := HO.out.stored (k := k) (by rw [take_len (Nat.le_of_lt hkT)]) tk a4 n4 c4 b4 m4 d4 HA4.out HB4.out
        rw [← HT.out] at hst
        have HS := Lib.hid hst
        have HB5 := Lib.hid (HB.out.grown hgr HB.out.size (fun g' hg' => by simp at hg'; omega))
        have hsz5 := Nat.lt_of_lt_of_le hsz4 hgr.size
        clear hst hgr HA4 HB4 HO HB HT HTv p0 p1 p2 f0 f1 f2
        go_wp2
        go_roundw
        case rel => exact ⟨k + 1, r, by omega, by go_num, HS, HB5, hsz5⟩
        case measure => simp [intOf]; omega)
    · obtain rfl : k = N := by omega
      have HF := Lib.hid (HO.out.whole HTL.out (by omega))
      obtain ⟨a9, c9, e9, h9⟩ := HF.out.out
      rw [HTL.out] at e9 h9
      cases e9
      have HF9 := Lib.hid h9
      clear HO h9 HF
      go_wp2
      go_ret
      exact ⟨_, _, _, rfl, HF9.out, HB.out⟩
end Go.Proofs.YtipcgehcineblaaGreat

/-
  Package poly at this seat: Eval.
-/
namespace Go.Proofs.YtipcgehcineblaaGreat
open Go.RowKit

set_option maxRecDepth 4096 in
set_option maxHeartbeats 8000000 in
theorem poly_eval (a : Option Addr) (n c : Nat) (L : List Fx) (v : Value) (x : Rat) (N X : Nat) (w : World) (h : Fxs w a n c L) (hv : Fr w v x X) (hn : n ≤ 100) (ht : thin N L) (hb : (n + 1) * ((n + 1) * (X + 8) + N + 8) ≤ 1900000000) : Calls Tryz.prog 19 #[.slice a n c, v] w (LstQ (peval x (fqs L)) w) := by
  have hbd := h.bound
  have hk := plen_fqs_le h
  have hlx : qlen x ≤ X + 1 := hv.len
  have hN9 : N ≤ 1900000000 := Nat.le_trans (Nat.le_trans (by omega) (Nat.le_mul_of_pos_left _ (by omega) : (n + 1) * (X + 8) + N + 8 ≤ (n + 1) * ((n + 1) * (X + 8) + N + 8))) hb
  have hX9 : X + 8 ≤ 1900000000 := Nat.le_trans (Nat.le_trans (Nat.le_mul_of_pos_left _ (by omega) : X + 8 ≤ (n + 1) * (X + 8)) (Nat.le_trans (by omega) (Nat.le_mul_of_pos_left _ (by omega) : (n + 1) * (X + 8) + N + 8 ≤ (n + 1) * ((n + 1) * (X + 8) + N + 8)))) hb
  obtain ⟨C, hC⟩ : ∃ C, X + N + 6 = C := ⟨_, rfl⟩
  have hLC : ∀ k, k ≤ n → 2 + k * C + X + 3 ≤ 1900000000 := fun k hk => by
    have h1 : k * C ≤ n * C := Nat.mul_le_mul_right C hk
    have h2 : n * C ≤ n * ((n + 1) * (X + 8) + N + 8) := Nat.mul_le_mul_left n (by
      have : X + 8 ≤ (n + 1) * (X + 8) := Nat.le_mul_of_pos_left _ (by omega)
      omega)
    have h3 : X + 8 ≤ (n + 1) * (X + 8) := Nat.le_mul_of_pos_left _ (by omega)
    have h4 : (n + 1) * ((n + 1) * (X + 8) + N + 8) = n * ((n + 1) * (X + 8) + N + 8) + 1 * ((n + 1) * (X + 8) + N + 8) := Nat.add_mul n 1 _
    omega
  have HLC := Lib.hid hLC
  obtain ⟨T, hT⟩ : ∃ T, pnorm (fqs L) = T := ⟨_, rfl⟩
  have HTL : Hid (T.length = plen (fqs L)) := Lib.hid (by rw [← hT]; rfl)
  have HTV : Hid (∀ j, j < plen (fqs L) → T.getD j 0 = (L.getD j Fx.zero).q) := Lib.hid (fun j hj => by
    have h1 : co T j = co (fqs L) j := by rw [← hT]; exact pnorm_co _ j
    rw [co_fqs (by rw [h.len]; omega)] at h1
    exact h1)
  obtain ⟨V, hV⟩ : ∃ V, peval x (fqs L) = V := ⟨_, rfl⟩
  have HVE : Hid (peval x T = V) := Lib.hid (by rw [← hV, ← hT]; exact peval_congr x (pnorm_co _))
  rw [hV]
  have HD := Lib.hid (fun w' (hb : Fxs w' a n c L) => poly_degree a n c L w' hb (by omega) (ht.mono (by omega)))
  obtain ⟨k, hke⟩ : ∃ k, plen (fqs L) = k := ⟨_, rfl⟩
  simp only [hke] at HD hk HTL HTV
  obtain ⟨vs, va, vn, vc, vla, vb, vm, vd, vlb, rfl, hv1, hv2, hvn, hvm, hvq⟩ := hv
  have HVQ := Lib.hid hvq
  have HTh := Lib.hid ht
  have HLl := Lib.hid h.len
  have HLX := Lib.hid hlx
  obtain ⟨z0, hz0⟩ : ∃ z : Rat, ((0 : Int) : Rat) = z := ⟨_, rfl⟩
  have HI0 : ∀ w' : World, Calls Tryz.prog 35 #[.int .i64 0] w' (LstQ z0 w') := fun w' => hz0 ▸ frac_of 0 w' isInt_nought
  have HS0 : Hid (z0 = 0) := Lib.hid (by rw [← hz0]; rfl)
  have HB := Lib.hid (below_then (below_alloc w (.cells #[.bool vs, .slice va vn vc, .slice vb vm vd] 36)) (below_alloc _ (.cells #[.bool false, .slice none 0 0, .slice none 0 0] 36)))
  have X0 : Hid (((w.alloc (.cells #[.bool vs, .slice va vn vc, .slice vb vm vd] 36)).alloc (.cells #[.bool false, .slice none 0 0, .slice none 0 0] 36)).heap[w.heap.size]? = some (.cells #[.bool vs, .slice va vn vc, .slice vb vm vd] 36 (0, 0))) := Lib.hid (blk_later (blk_new w #[.bool vs, .slice va vn vc, .slice vb vm vd] 36) (below_alloc _ (.cells #[.bool false, .slice none 0 0, .slice none 0 0] 36)))
  have R0 : Hid (((w.alloc (.cells #[.bool vs, .slice va vn vc, .slice vb vm vd] 36)).alloc (.cells #[.bool false, .slice none 0 0, .slice none 0 0] 36)).heap[w.heap.size + 1]? = some (.cells #[.bool false, .slice none 0 0, .slice none 0 0] 36 (0, 0))) := Lib.hid (by have h9 := blk_new (w.alloc (.cells #[.bool vs, .slice va vn vc, .slice vb vm vd] 36)) #[.bool false, .slice none 0 0, .slice none 0 0] 36; rwa [blk_size] at h9)
  have HK := Lib.hid h
  have W1 := Lib.hid hv1
  have W2 := Lib.hid hv2
  clear h ht hv1 hv2 hvq hT hV hz0 hb hlx hke
  go_enter Tryz.func19, Tryz.ntmps19
  unfold frV
  go_wp2_with fail
  refine (HI0 _).mono ?_
  rintro e w1 ⟨a1, n1, c1, b1, m1, d1, rfl, h1, g1, bw⟩
  replace HB := Lib.hid (below_then HB.out bw)
  replace X0 := Lib.hid (blk_later X0.out bw)
  replace R0 := Lib.hid (blk_later R0.out bw)
  have hsz1 : w.heap.size + 1 < w1.heap.size := (Array.getElem?_eq_some_iff.1 R0.out).1
  unfold frV
  have ba := below_alloc w1 (.cells #[.bool (zneg z0.num), .slice a1 n1 c1, .slice b1 m1 d1] 36)
  have S0 := Lib.hid (blk_new w1 #[.bool (zneg z0.num), .slice a1 n1 c1, .slice b1 m1 d1] 36)
  have SA := Lib.hid (h1.later ba)
  have SD := Lib.hid (g1.later ba)
  replace HB := Lib.hid (below_then HB.out ba)
  replace X0 := Lib.hid (blk_later X0.out ba)
  replace R0 := Lib.hid (blk_later R0.out ba)
  clear bw ba h1 g1 HI0
  go_wp2_with fail
  refine (HD.out _ (HK.out.later HB.out)).mono ?_
  rintro e w2 ⟨rfl, bw⟩
  replace HB := Lib.hid (below_then HB.out bw)
  replace X0 := Lib.hid (blk_later X0.out bw)
  replace R0 := Lib.hid (blk_later R0.out bw)
  replace S0 := Lib.hid (blk_later S0.out bw)
  replace SA := Lib.hid (SA.out.later bw)
  replace SD := Lib.hid (SD.out.later bw)
  clear bw HD
  have HQ0 : Hid (qlen z0 ≤ 2 + (k - k) * C) := Lib.hid (by rw [HS0.out, qlen_nought]; omega)
  have HE0 : Hid (z0 = peval x (T.drop k)) := Lib.hid (by rw [List.drop_eq_nil_of_le (by rw [HTL.out]; exact Nat.le_refl _), HS0.out]; rfl)
  go_wp2
  go_loopw [6] (fun iv wr => ∃ (j : Nat) (s : Rat) (a1 : Option Addr) (n1 c1 : Nat) (b1 : Option Addr) (m1 d1 : Nat), j ≤ k ∧ iv = .int .i64 ((j : Int) - 1) ∧ Hid (s = peval x (T.drop j)) ∧ Hid (qlen s ≤ 2 + (k - j) * C) ∧
    Hid (wr.heap[w1.heap.size]? = some (.cells #[.bool (zneg s.num), .slice a1 n1 c1, .slice b1 m1 d1] 36 (0, 0))) ∧ Hid (Wd wr a1 n1 c1 (dg s.num.natAbs)) ∧ Hid (Wd wr b1 m1 d1 (dg s.den)) ∧
    Hid (wr.heap[w.heap.size]? = some (.cells #[.bool vs, .slice va vn vc, .slice vb vm vd] 36 (0, 0))) ∧ Hid (wr.heap[w.heap.size + 1]? = some (.cells #[.bool false, .slice none 0 0, .slice none 0 0] 36 (0, 0))) ∧ Hid (Below w.heap.size w wr)) (fun iv _ => (intOf iv + 1).toNat)
  case atStart => exact ⟨k, z0, a1, n1, c1, b1, m1, d1, Nat.le_refl _, rfl, HE0, HQ0, S0, SA, SD, X0, R0, HB⟩
  case round =>
    clear S0 SA SD X0 R0 HB HS0 HE0 HQ0
    obtain ⟨j, s, a1, n1, c1, b1, m1, d1, hj, rfl, HE, HQ, S0, SA, SD, X0, R0, HB⟩ := hrel
    by_cases hlt : 0 < j
    · obtain ⟨i, rfl⟩ : ∃ i, j = i + 1 := ⟨j - 1, by omega⟩
      have hin : i < n := by omega
      obtain ⟨bb, off, rfl, e0, e1, e2, hok⟩ := HK.out.at hin
      have hth := HTh.out _ (fx_mem (L := L) (k := i) (by rw [HLl.out]; exact hin))
      have htv := HTV.out i (by omega)
      have hfr := hok.fr hth.1 hth.2
      have hcl := hfr.len
      have hdr : T.drop i = T.getD i 0 :: T.drop (i + 1) := by
        have hk' : i < T.length := by rw [HTL.out]; omega
        rw [List.drop_eq_getElem_cons hk', List.getD_eq_getElem?_getD, List.getElem?_eq_getElem hk']; rfl
      rw [htv] at hdr
      generalize L.getD i Fx.zero = y at *
      obtain ⟨ys, ya, yn, yc, yla, yb, ym, yd, ylb⟩ := y
      obtain ⟨q, hq⟩ : ∃ q, (⟨ys, ya, yn, yc, yla, yb, ym, yd, ylb⟩ : Fx).q = q := ⟨_, rfl⟩
      have hyq : qval ys (val yla) (val ylb) = q := hq
      rw [hq] at hdr hcl
      obtain ⟨hA, hD⟩ := hok
      simp only at e0 e1 e2 hA hD hth
      obtain ⟨s1, hs1⟩ : ∃ z, s * x = z := ⟨_, rfl⟩
      obtain ⟨s2, hs2⟩ : ∃ z, s1 + q = z := ⟨_, rfl⟩
      have hls := HQ.out
      have hl1 := HLC.out (k - (i + 1)) (by omega)
      have hl2 := HLC.out (k - i) (by omega)
      have hlx := HLX.out
      have hms := qlen_mul s x
      have has := qlen_add s1 q
      have hki : k - i = k - (i + 1) + 1 := by omega
      rw [hs1] at hms
      rw [hs2] at has
      have hq2 : qlen s2 ≤ 2 + (k - i) * C := by
        rw [hki, Nat.add_mul, Nat.one_mul]; omega
      have HQ2 := Lib.hid hq2
      have HE2 : Hid (s2 = peval x (T.drop i)) := Lib.hid (by
        rw [hdr, peval, ← HE.out, ← hs2, ← hs1]; grind)
      have E1 := Lib.hid hs1
      have E2 := Lib.hid hs2
      have L1 : Hid (qlen s1 ≤ 1900000000) := Lib.hid (by omega)
      have ls1 : n1 ≤ 1900000000 := by rw [← SA.out.len]; exact Nat.le_trans (qlen_num _) (by omega)
      have ls2 : m1 ≤ 1900000000 := by rw [← SD.out.len]; exact Nat.le_trans (qlen_den _) (by omega)
      have QA := Lib.hid hA
      have QD := Lib.hid hD
      have HEE := Lib.hid (show w.cell? ⟨bb, off + i * 3, none⟩ = some (.bool ys) ∧ w.cell? ⟨bb, off + i * 3 + 1, none⟩ = some (.slice ya yn yc) ∧ w.cell? ⟨bb, off + i * 3 + 2, none⟩ = some (.slice yb ym yd) from ⟨e0, e1, e2⟩)
      have YQ := Lib.hid hyq
      obtain ⟨hyn, hym⟩ := hth
      have hji : ((i + 1 : Nat) : Int) - 1 = (i : Int) := by omega
      have hii : (i : Int) < (n : Int) := by omega
      have hi0 : (0 : Int) ≤ (i : Int) := by omega
      rw [hji]
      clear e0 e1 e2 hA hD hq hyq hdr hs1 hs2 hls hl1 hl2 hlx hms has hki hq2 HE HQ hcl hfr htv hji
      obtain ⟨e0, e1, e2⟩ := three_on HEE.out HB.out; obtain ⟨x0, x1, x2⟩ := fcells_3 S0.out; obtain ⟨y0, y1, y2⟩ := fcells_3 X0.out
      go_wp2
      have b0 : Below wr.heap.size wr wr.drew := (Below.refl _ _).drew
      replace HB := Lib.hid (below_then HB.out b0)
      replace S0 := Lib.hid (blk_later S0.out b0)
      replace X0 := Lib.hid (blk_later X0.out b0)
      replace R0 := Lib.hid (blk_later R0.out b0)
      replace SA := Lib.hid (SA.out.later b0)
      replace SD := Lib.hid (SD.out.later b0)
      clear e0 e1 e2 x0 x1 x2 y0 y1 y2 b0
      obtain ⟨e0, e1, e2⟩ := three_on HEE.out HB.out; obtain ⟨x0, x1, x2⟩ := fcells_3 S0.out; obtain ⟨y0, y1, y2⟩ := fcells_3 X0.out
      go_region_law (first
        | (go_simp; go_at_call 49; refine (fracSaid.mul _ _ s x _ (Fr.right SA.out SD.out (by omega) (by omega)) (Fr.of (W1.out.later HB.out) (W2.out.later HB.out) (by omega) (by omega) HVQ.out)).mono ?_; rintro e w4 ⟨a4, n4, c4, b4, m4, d4, rfl, h4, g4, bw⟩; rw [E1.out] at h4 g4 ⊢; clear e0 e1 e2 x0 x1 x2 y0 y1 y2; replace HB := Lib.hid (below_then HB.out bw); replace S0 := Lib.hid (blk_later S0.out bw); replace X0 := Lib.hid (blk_later X0.out bw); replace R0 := Lib.hid (blk_later R0.out bw); have A4 := Lib.hid h4; have D4 := Lib.hid g4; have hn4 : n4 ≤ 1900000000 := Nat.le_trans (Nat.le_of_eq h4.len.symm) (Nat.le_trans (qlen_num _) L1.out); have hm4 : m4 ≤ 1900000000 := Nat.le_trans (Nat.le_of_eq g4.len.symm) (Nat.le_trans (qlen_den _) L1.out); clear bw h4 g4; unfold frV; obtain ⟨e0, e1, e2⟩ := three_on HEE.out HB.out; obtain ⟨x0, x1, x2⟩ := fcells_3 S0.out; obtain ⟨y0, y1, y2⟩ := fcells_3 X0.out)
        | (go_simp; go_at_call 48; refine (fracSaid.add _ _ s1 q _ (Fr.right A4.out D4.out (by omega) (by omega)) (Fr.of (QA.out.later HB.out) (QD.out.later HB.out) (by omega) (by omega) YQ.out)).mono ?_; rintro e w5 ⟨a5, n5, c5, b5, m5, d5, rfl, h5, g5, bw⟩; rw [E2.out] at h5 g5 ⊢; clear e0 e1 e2 x0 x1 x2 y0 y1 y2; replace HB := Lib.hid (below_then HB.out bw); replace S0 := Lib.hid (blk_later S0.out bw); replace X0 := Lib.hid (blk_later X0.out bw); replace R0 := Lib.hid (blk_later R0.out bw); have A5 := Lib.hid h5; have D5 := Lib.hid g5; clear bw h5 g5 A4 D4; unfold frV; obtain ⟨x0, x1, x2⟩ := fcells_3 S0.out; have f0 := blk_free S0.out 0; have f1 := blk_free S0.out 1; have f2 := blk_free S0.out 2))
      all_goals (
        have S9 := Lib.hid (blk_set3 S0.out (.bool (zneg s2.num)) (.slice a5 n5 c5) (.slice b5 m5 d5))
        have SA9 := Lib.hid (A5.out.stored3 S0.out (zneg s2.num) a5 n5 c5 (.slice b5 m5 d5))
        have SD9 := Lib.hid (D5.out.stored3 S0.out (zneg s2.num) a5 n5 c5 (.slice b5 m5 d5))
        have X9 := Lib.hid (blk_far3 X0.out (show w.heap.size ≠ w1.heap.size by omega) (.bool (zneg s2.num)) (.slice a5 n5 c5) (.slice b5 m5 d5))
        have R9 := Lib.hid (blk_far3 R0.out (show w.heap.size + 1 ≠ w1.heap.size by omega) (.bool (zneg s2.num)) (.slice a5 n5 c5) (.slice b5 m5 d5))
        have B9 := Lib.hid (below_set3 HB.out (show w.heap.size ≤ w1.heap.size by omega) (.bool (zneg s2.num)) (.slice a5 n5 c5) (.slice b5 m5 d5))
        clear S0 X0 R0 HB A5 D5 SA SD
        go_wp2
        go_roundw
        case rel => exact ⟨i, s2, a5, n5, c5, b5, m5, d5, by omega, rfl, HE2, HQ2, S9, SA9, SD9, X9, R9, B9⟩
        case measure => simp [intOf])
    · have hj0 : j = 0 := by omega
      subst hj0
      have HFV : Hid (s = V) := Lib.hid (by rw [HE.out, List.drop_zero]; exact HVE.out)
      obtain rfl : s = V := HFV.out
      obtain ⟨x0, x1, x2⟩ := fcells_3 S0.out
      obtain ⟨y0, y1, y2⟩ := fcells_3 R0.out
      have f0 := blk_free R0.out 0
      have f1 := blk_free R0.out 1
      have f2 := blk_free R0.out 2
      have R9 := Lib.hid (blk_set3 R0.out (.bool (zneg s.num)) (.slice a1 n1 c1) (.slice b1 m1 d1))
      have S9 := Lib.hid (SA.out.stored3 R0.out (zneg s.num) a1 n1 c1 (.slice b1 m1 d1))
      have T9 := Lib.hid (SD.out.stored3 R0.out (zneg s.num) a1 n1 c1 (.slice b1 m1 d1))
      have G9 := Lib.hid (below_set3 HB.out (show w.heap.size ≤ w.heap.size + 1 by omega) (.bool (zneg s.num)) (.slice a1 n1 c1) (.slice b1 m1 d1))
      clear S0 SA SD X0 R0 HB HE HQ HFV HVE
      go_wp2
      refine bodyPost_ret (results_cell_row Tryz.results19 _ _ (w.heap.size + 1) 36 #[.bool (zneg s.num), .slice a1 n1 c1, .slice b1 m1 d1] (0, 0) _ rfl R9.out Tryz.underlying36 rfl (by kernel_rfl)) rfl ?_
      exact ⟨a1, n1, c1, b1, m1, d1, rfl, S9.out, T9.out, G9.out⟩
end Go.Proofs.YtipcgehcineblaaGreat

/-
  Rows of rows of fractions in a row of the call's own: a row behind the others. Of no program.
-/
namespace Go.Proofs.YtipcgehcineblaaGreat
open Go.ChangeShapes Go.WideShapes Go.ChangeAt Go.RowKit Go.Deep

def slicesOnly (l : List Value) : Prop := ∀ u ∈ l, ∃ (a : Option Addr) (n c : Nat), u = .slice a n c
/-- The block that a value leads to holds nothing but slices. -/
def holdsSlices (w : World) (v : Value) : Prop := ∀ g, v.ownBlock = some g → ∀ (j : Nat) u, w.cell? ⟨g, j, none⟩ = some u → ∃ (a : Option Addr) (n c : Nat), u = .slice a n c
theorem holdsSlices_nil (w : World) : holdsSlices w (.slice none 0 0) := fun g h => by simp [Value.ownBlock] at h
theorem holdsSlices.clean {w : World} {v : Value} (h : holdsSlices w v) : Go.Proofs.YtipcgehcineblaaGreat.clean w v := fun g hg j k hc => by
  obtain ⟨a, n, c, e⟩ := h g hg j _ hc
  cases e
theorem holdsSlices_block {w : World} {g : Nat} {n c : Nat} {cur : Array Value} {e : TypeId} {fr : Nat × Nat} (hg : w.heap[g]? = some (.cells cur e fr)) (h : slicesOnly cur.toList) : holdsSlices w (.slice (some ⟨g, 0, none⟩) n c) := by
  intro g' hg' j u hc
  simp [Value.ownBlock] at hg'
  subst hg'
  rw [cell_of_row w g j cur e fr hg] at hc
  have hm : u ∈ cur := Array.mem_of_getElem? hc
  exact h _ (by simpa using hm)
/-- What a value leads to is what another one led to, or new. -/
def anew (w : World) (v v' : Value) : Prop := ∀ j, v'.ownBlock = some j → v.ownBlock = some j ∨ w.heap.size ≤ j
structure Fresh (w : World) (v v' : Value) : Prop where
  held : holdsSlices w v
  new : anew w v v'
/-- A row of fractions isn't touched by what grows in a block that holds but slices. -/
theorem Fxs.aside {w w' : World} {v : Value} {a : Option Addr} {n c : Nat} {L : List Fx} (h : Fxs w a n c L) (hc : holdsSlices w v) (hg : w.grownBy w' v.ownBlock) : Fxs w' a n c L := by
  refine ⟨h.1, h.2.1, h.2.2.1, h.2.2.2.1, fun x hx => Fx.aside (h.ok hx) hc.clean hg, h.2.2.2.2.2.imp id fun ⟨b, off, e, hcl⟩ => ⟨b, off, e, fun j hj => ?_⟩⟩
  obtain ⟨h1, h2, h3⟩ := hcl j hj
  have hlt : b < w.heap.size := by
    rcases Nat.lt_or_ge b w.heap.size with h9 | h9
    · exact h9
    · rw [World.cell?, Array.getElem?_eq_none h9] at h1; cases h1
  have hne : some b ≠ v.ownBlock := fun e2 => by
    obtain ⟨_, _, _, e3⟩ := hc b e2.symm _ _ h1
    cases e3
  have hk := hg.block b hlt hne
  exact ⟨(World.cell?_of_block hk).trans h1, (World.cell?_of_block hk).trans h2, (World.cell?_of_block hk).trans h3⟩
/-- A slice as it stands in memory. -/
structure Sx where
  a : Option Addr
  n : Nat
  c : Nat
def Sx.val (x : Sx) : Value := .slice x.a x.n x.c
def Sx.zero : Sx := ⟨none, 0, 0⟩
/-- Rows of fractions, side by side in a row of the call's own. -/
def OwnF (w : World) (base : Nat) (e : TypeId) (v : Value) (LL : List (List Fx)) : Prop :=
  ∃ XS : List Sx, w.ownsRow base e 1 v XS.length (XS.map Sx.val) ∧ holdsSlices w v ∧ XS.length = LL.length ∧ ∀ j, j < LL.length → Fxs w (XS.getD j Sx.zero).a (XS.getD j Sx.zero).n (XS.getD j Sx.zero).c (LL.getD j [])
theorem OwnF.nil (w : World) (base : Nat) (e : TypeId) : OwnF w base e (.slice none 0 0) [] := ⟨[], World.ownsRow_nil _ _ _ _, holdsSlices_nil _, rfl, fun j hj => by simp at hj⟩
theorem OwnF.later {w w' : World} {base : Nat} {e : TypeId} {v : Value} {LL : List (List Fx)} (h : OwnF w base e v LL) (hb : Below w.heap.size w w') : OwnF w' base e v LL := by
  obtain ⟨XS, ⟨h1, h2⟩, h3, h4, h5⟩ := h
  refine ⟨XS, ?_, ?_, h4, fun j hj => (h5 j hj).later hb⟩
  · rcases h2 with ⟨rfl, h0⟩ | ⟨g, cap, cur, rfl, hbg, hg, q4, q5, q6, q7⟩
    · exact ⟨h1, .inl ⟨rfl, h0⟩⟩
    · exact ⟨h1, .inr ⟨g, cap, cur, rfl, hbg, blk_later hg hb, q4, q5, q6, q7⟩⟩
  · rcases h2 with ⟨rfl, h0⟩ | ⟨g, cap, cur, rfl, hbg, hg, q4, q5, q6, q7⟩
    · exact holdsSlices_nil _
    · intro g2 hg2 j u hu
      simp [Value.ownBlock] at hg2
      subst hg2
      rw [World.cell?_of_block (a := ⟨g, j, none⟩) (hb.block g (Array.getElem?_eq_some_iff.1 hg).1)] at hu
      exact h3 g rfl j u hu
theorem OwnF.base {w : World} {base : Nat} {e : TypeId} {v : Value} {LL : List (List Fx)} (h : OwnF w base e v LL) (k : Nat) (hk : v.ownBlock = some k) : base ≤ k := by
  obtain ⟨XS, h1, _⟩ := h
  rcases h1.2 with ⟨rfl, _⟩ | ⟨g, cap, cur, rfl, hbg, _⟩
  · simp [Value.ownBlock] at hk
  · simp [Value.ownBlock] at hk
    omega
theorem OwnF.out {w : World} {base : Nat} {e : TypeId} {v : Value} {LL : List (List Fx)} (h : OwnF w base e v LL) : ∃ (a : Option Addr) (cap : Nat), v = .slice a LL.length cap ∧ Fxss w a LL.length cap LL := by
  obtain ⟨XS, h1, _, h4, h5⟩ := h
  rcases h1.2 with ⟨rfl, h0⟩ | ⟨g, cap, cur, rfl, hbg, hg, hnc, hcm, hcs, htake⟩
  · have h0' : LL.length = 0 := by omega
    refine ⟨none, 0, by rw [h0'], rfl, by omega, by omega, fun _ => rfl, .inl h0'⟩
  · refine ⟨_, cap, by rw [h4], rfl, by omega, by unfold maxLen at hcm; omega, fun e => (by cases e), .inr ⟨g, 0, rfl, fun j hj => ⟨_, _, _, ?_, h5 j hj⟩⟩⟩
    have hj' : j < XS.length := by omega
    have h9 := h1.cells (g := g) rfl j (XS.getD j Sx.zero).val (by rw [List.getElem?_map, List.getElem?_eq_getElem hj', List.getD_eq_getElem?_getD, List.getElem?_eq_getElem hj']; rfl)
    rw [add_plain] at h9
    exact h9
end Go.Proofs.YtipcgehcineblaaGreat

/-
  Rows of right rows in memory (matrices): what layer 12's functions are handed and give. Of no program.
-/
namespace Go.Proofs.YtipcgehcineblaaGreat
open Go.RowKit

/-- In the world w the slice ⟨a, n, cap⟩ of slices holds just the right fractions of these values. -/
def Rwss (w : World) (a : Option Addr) (n cap : Nat) (Q : List (List Rat)) : Prop := ∃ LL, Fxss w a n cap LL ∧ LL.map fqs = Q ∧ ∀ L ∈ LL, ∀ x ∈ L, x.right
theorem Rwss.later {w w' : World} {a : Option Addr} {n cap : Nat} {Q : List (List Rat)} (h : Rwss w a n cap Q) (hb : Below w.heap.size w w') : Rwss w' a n cap Q := by
  obtain ⟨LL, h1, h2, h3⟩ := h
  exact ⟨LL, h1.later hb, h2, h3⟩
theorem Rwss.len {w : World} {a : Option Addr} {n cap : Nat} {Q : List (List Rat)} (h : Rwss w a n cap Q) : Q.length = n := by
  obtain ⟨LL, h1, h2, _⟩ := h
  rw [← h2, List.length_map, h1.len]
theorem Rwss.bound {w : World} {a : Option Addr} {n cap : Nat} {Q : List (List Rat)} (h : Rwss w a n cap Q) : n ≤ cap ∧ cap ≤ 9223372036854775807 := by
  obtain ⟨LL, h1, _, _⟩ := h
  exact h1.bound
theorem ll_getD_mem {α : Type} {LL : List (List α)} {k : Nat} (h : k < LL.length) : LL.getD k [] ∈ LL := by
  rw [List.getD_eq_getElem?_getD, List.getElem?_eq_getElem h]; exact List.getElem_mem h
theorem fqs_row {LL : List (List Fx)} {k : Nat} (h : k < LL.length) : fqs (LL.getD k []) = (LL.map fqs).getD k [] := by
  rw [List.getD_eq_getElem?_getD, List.getD_eq_getElem?_getD, List.getElem?_map, List.getElem?_eq_getElem h]; rfl
theorem Rwss.at {w : World} {a : Option Addr} {n cap : Nat} {Q : List (List Rat)} (h : Rwss w a n cap Q) {j : Nat} (hj : j < n) : ∃ b off, a = some ⟨b, off, none⟩ ∧ ∃ a' n' c', w.cell? ⟨b, off + j, none⟩ = some (.slice a' n' c') ∧ Rw w a' n' c' (Q.getD j []) := by
  obtain ⟨LL, h1, h2, h3⟩ := h
  obtain ⟨b, off, e, a', n', c', h4, h5⟩ := h1.at hj
  have hl : j < LL.length := by rw [h1.len]; exact hj
  exact ⟨b, off, e, a', n', c', h4, LL.getD j [], h5, by rw [← h2]; exact fqs_row hl, h3 _ (ll_getD_mem hl)⟩
theorem Rwss.thin {w : World} {a : Option Addr} {n cap : Nat} {Q : List (List Rat)} (h : Rwss w a n cap Q) {N : Nat} (hq : ∀ r ∈ Q, ∀ q ∈ r, qlen q ≤ N) : ∃ LL, Fxss w a n cap LL ∧ LL.map fqs = Q ∧ ∀ L ∈ LL, Go.Proofs.YtipcgehcineblaaGreat.thin N L := by
  obtain ⟨LL, h1, h2, h3⟩ := h
  refine ⟨LL, h1, h2, fun L hL x hx => ?_⟩
  obtain ⟨i, hi, rfl⟩ := List.getElem_of_mem hL
  obtain ⟨_, _, _, a', n', c', _, h5⟩ := h1.at (j := i) (by rw [← h1.len]; exact hi)
  rw [List.getD_eq_getElem?_getD, List.getElem?_eq_getElem hi] at h5
  have hr : Rw w a' n' c' (fqs LL[i]) := ⟨LL[i], h5, rfl, h3 _ (List.getElem_mem hi)⟩
  obtain ⟨q1, q2, q3⟩ := h3 _ (List.getElem_mem hi) x hx
  have h7 := hq (fqs LL[i]) (h2 ▸ List.mem_map.2 ⟨LL[i], List.getElem_mem hi, rfl⟩) x.q (List.mem_map.2 ⟨x, hx, rfl⟩)
  obtain ⟨h8, h9⟩ := h5.ok hx
  have := h8.len
  have := h9.len
  have := qlen_num x.q
  have := qlen_den x.q
  rw [q2] at *
  rw [q3] at *
  constructor <;> omega
theorem Rwss.nil (w : World) : Rwss w none 0 0 [] := ⟨[], Fxss.ofNil w, rfl, fun L hL => by simp at hL⟩
/-- Right rows side by side in a row of the call's own. -/
def OwnR (w : World) (base : Nat) (e : TypeId) (v : Value) (Q : List (List Rat)) : Prop := ∃ LL, OwnF w base e v LL ∧ LL.map fqs = Q ∧ ∀ L ∈ LL, ∀ x ∈ L, x.right
theorem OwnR.nil (w : World) (base : Nat) (e : TypeId) : OwnR w base e (.slice none 0 0) [] := ⟨[], OwnF.nil _ _ _, rfl, fun L hL => by simp at hL⟩
theorem OwnR.later {w w' : World} {base : Nat} {e : TypeId} {v : Value} {Q : List (List Rat)} (h : OwnR w base e v Q) (hb : Below w.heap.size w w') : OwnR w' base e v Q := by
  obtain ⟨LL, h1, h2, h3⟩ := h
  exact ⟨LL, h1.later hb, h2, h3⟩
theorem OwnR.out {w : World} {base : Nat} {e : TypeId} {v : Value} {Q : List (List Rat)} (h : OwnR w base e v Q) : ∃ (a : Option Addr) (cap : Nat), v = .slice a Q.length cap ∧ Rwss w a Q.length cap Q := by
  obtain ⟨LL, h1, h2, h3⟩ := h
  obtain ⟨a, cap, e1, h4⟩ := h1.out
  have hl : LL.length = Q.length := by rw [← h2, List.length_map]
  rw [hl] at e1 h4
  exact ⟨a, cap, e1, LL, h4, h2, h3⟩
/-- Have they all the first one's length? How wide? -/
def rect {α : Type} (m : List (List α)) : Prop := ∀ r ∈ m, r.length = (m.getD 0 []).length
instance {α : Type} (m : List (List α)) : Decidable (rect m) := by unfold rect; infer_instance
end Go.Proofs.YtipcgehcineblaaGreat
