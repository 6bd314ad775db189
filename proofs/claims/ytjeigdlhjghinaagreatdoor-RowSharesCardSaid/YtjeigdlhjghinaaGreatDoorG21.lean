/-
  Several texts of this claim as one, group 21.
-/
import Derived.Test.YtjeigdlhjghinaaGreatDoorG20
import Derived.Deep.RegionHeld3
import Derived.Test.YtjeigdlhjghinaaGreatDoorG17
import Derived.Test.YtjeigdlhjghinaaGreatDoorG4
import Derived.Test.YtjeigdlhjghinaaGreatDoorG15
import Derived.Shelf.Strings.OnBuilder
import Derived.Test.YtjeigdlhjghinaaGreatDoorG18
import Derived.RangeFuncOwn
import Derived.RangeFuncCalls
import Derived.RangeFuncLeaves
/-
  Package row at this seat: Norm, Size, Same.
-/
namespace Go.Proofs.YtjeigdlhjghinaaGreatDoor
open Go.RowKit

theorem rnormFrom_fold (m : Rat) (l : List Rat) : rnormFrom m l = (l.map qabs).foldl (fun b y => if b < y then y else b) m := by
  induction l generalizing m with
  | nil => rfl
  | cons x l ih => rw [rnormFrom, ih]; rfl
theorem rnorm_qmax (l : List Rat) : rnorm l = qmax (l.map qabs) := by
  cases l with
  | nil => rfl
  | cons x r =>
    show rnormFrom 0 (x :: r) = (r.map qabs).foldl _ (qabs x)
    rw [rnormFrom, rnormFrom_fold]
    have h : (if (0 : Rat) < qabs x then qabs x else 0) = qabs x := by
      split
      · rfl
      · rename_i h
        exact Rat.le_antisymm (qabs_nonneg x) (Rat.not_lt.1 h)
    rw [h]
def rabs (l : List Rat) : List Rat := l.map qabs
theorem rabs_length (l : List Rat) : (rabs l).length = l.length := List.length_map _
theorem rabs_getD {l : List Rat} {k : Nat} (h : k < l.length) : (rabs l).getD k 0 = qabs (l.getD k 0) := by
  unfold rabs
  rw [List.getD_eq_getElem?_getD, List.getElem?_map, List.getD_eq_getElem?_getD, List.getElem?_eq_getElem h]; rfl
theorem rabs_qlen {N : Nat} {l : List Rat} (h : ∀ q ∈ l, qlen q ≤ N) : ∀ q ∈ rabs l, qlen q ≤ N := fun q hq => by
  obtain ⟨x, hx, rfl⟩ := List.mem_map.1 hq
  rw [qlen_abs]; exact h x hx
theorem max_rw {a : Option Addr} {n cap : Nat} {qs : List Rat} {N : Nat} (w : World) (h : Rw w a n cap qs) (hq : ∀ q ∈ qs, qlen q ≤ N) (hn : n ≤ 1000) (hN : N ≤ 2000) : Calls Tryz.prog 52 #[.slice a n cap] w (LstQ (qmax qs) w) := by
  obtain ⟨L, h1, rfl, h3⟩ := h
  refine fracSaid.max a n cap L w h1 hn (fun x hx => ?_)
  obtain ⟨h4, h5, h6⟩ := h3 x hx
  have h9 := right_len (h1.ok hx) ⟨h4, h5, h6⟩ (hq _ (List.mem_map.2 ⟨x, hx, rfl⟩))
  omega
set_option maxRecDepth 4096 in
set_option maxHeartbeats 4000000 in
theorem row_norm (a0 : Option Addr) (n0 c0 : Nat) (L0 : List Fx) (w : World) (h0 : Fxs w a0 n0 c0 L0) (hn : n0 ≤ 300) (ht0 : thin 1000 L0) : Calls Tryz.prog 21 #[.slice a0 n0 c0] w (LstQ (rnorm (fqs L0)) w) := by
  have HQ9 : Hid (∀ q ∈ rabs (fqs L0), qlen q ≤ 1001) := Lib.hid (rabs_qlen (ht0.qs h0.oks))
  have HK0 := Lib.hid h0
  have HLl0 := Lib.hid h0.len
  have hbd0 := h0.bound
  have HTh0 := Lib.hid ht0
  clear h0 ht0
  obtain ⟨q, hq9⟩ : ∃ q, rnorm (fqs L0) = q := ⟨_, rfl⟩
  rw [hq9]
  have HSM0 : Hid (qmax (rabs (fqs L0)) = q) := Lib.hid (by rw [← hq9, rnorm_qmax]; rfl)
  clear hq9
  have HTL : Hid ((rabs (fqs L0)).length = n0) := Lib.hid (by rw [rabs_length, fqs_length, HLl0.out])
  obtain ⟨T, hTe⟩ : ∃ T, rabs (fqs L0) = T := ⟨_, rfl⟩
  have ET := Lib.hid hTe
  have HQL : Hid (∀ q ∈ T, qlen q ≤ 1001) := Lib.hid (hTe ▸ HQ9.out)
  have HSM : Hid (qmax T = q) := Lib.hid (hTe ▸ HSM0.out)
  clear HQ9 HSM0
  rw [hTe] at HTL
  try rw [hTe]
  clear hTe
  obtain ⟨i0, hi, hz0, hz1, hz2⟩ := info_parts infoFracR
  go_enter Tryz.func21, Tryz.ntmps21
  try unfold frV
  go_wp2_with (at_make; refine wpList_make_fracs _ rfl _ _ 28 rfl (w.heap.size + 1) 41 i0 Tryz.underlying28 hi hz0 hz1 hz2 _ _ _ _ n0 rfl rfl (by omega) (by omega) (by omega) (by simp) ?_; intro wm hmade hgm hszm)
  have HO0 := Lib.hid (Half.start hmade)
  have HB0 : Hid (Below w.heap.size w wm) := Lib.hid (below_then (below_alloc _ _) ((Below.refl _ _).grown hgm (Nat.le_refl _) (fun k hk => by cases hk)))
  have X00 : Hid (wm.heap[w.heap.size]? = some (.cells #[.bool false, .slice none 0 0, .slice none 0 0] 41 (0, 0))) := Lib.hid (blk_later (blk_new _ _ _) ((Below.refl _ _).grown hgm (Nat.le_refl _) (fun k hk => by cases hk)))
  clear hmade hgm
  try simp only [World.size_alloc] at hszm HO0
  go_loopw [10] (fun iv wr => ∃ k r : Nat, k + r = n0 ∧ iv = .int .i64 (k : Int) ∧ Hid (Half wr (w.heap.size + 1) 41 (.slice (some ⟨w.heap.size + 1, 0, none⟩) n0 n0) (T.take k) r) ∧ Hid (Below w.heap.size w wr) ∧ w.heap.size + 1 < wr.heap.size ∧ Hid (wr.heap[w.heap.size]? = some (.cells #[.bool false, .slice none 0 0, .slice none 0 0] 41 (0, 0)))) (fun iv _ => n0 - (intOf iv).toNat)
  case atStart => exact ⟨0, n0, by omega, rfl, HO0, HB0, by omega, X00⟩
  case round =>
    clear HO0 HB0 X00
    obtain ⟨k, r, hk, rfl, HO, HB, hsz, X0⟩ := hrel
    by_cases hlt : k < n0
    · have hkT : k < T.length := by rw [HTL.out]; exact hlt
      obtain ⟨r, rfl⟩ : ∃ r', r = r' + 1 := ⟨r - 1, by omega⟩
      have HT : Hid (T.take (k + 1) = T.take k ++ [T.getD k 0]) := Lib.hid (q_more hkT)
      have HTv : Hid (T.getD k 0 = qabs (L0.getD k Fx.zero).q) := Lib.hid (by rw [← ET.out]; rw [rabs_getD (by rw [fqs_length, HLl0.out]; exact hlt), fqs_getD (by rw [HLl0.out]; exact hlt)])
      obtain ⟨bb0, off0, rfl, e00, e10, e20, hok0⟩ := HK0.out.at hlt
      have hth0 := HTh0.out _ (fx_mem (L := L0) (k := k) (by rw [HLl0.out]; exact hlt))
      generalize L0.getD k Fx.zero = xk0 at *
      obtain ⟨sk0, ak0, nk0, ck0, lak0, bk0, mk0, dk0, lbk0⟩ := xk0
      obtain ⟨hA0, hB0⟩ := hok0
      simp only at e00 e10 e20 hA0 hB0 hth0
      obtain ⟨hth0, htj0⟩ := hth0
      have HE0 : Hid (w.cell? ⟨bb0, off0 + k * 3, none⟩ = some (.bool sk0) ∧ w.cell? ⟨bb0, off0 + k * 3 + 1, none⟩ = some (.slice ak0 nk0 ck0) ∧ w.cell? ⟨bb0, off0 + k * 3 + 2, none⟩ = some (.slice bk0 mk0 dk0)) := Lib.hid ⟨e00, e10, e20⟩
      have AK0 := Lib.hid hA0
      have BK0 := Lib.hid hB0
      clear hA0 hB0 e00 e10 e20
      generalize T.getD k 0 = tk at *
      replace HTv : Hid (tk = qabs (qval sk0 (val lak0) (val lbk0))) := HTv
      have hki : (k : Int) < (n0 : Int) := by omega
      have hk0 : (0 : Int) ≤ (k : Int) := by omega
      obtain ⟨e00, e10, e20⟩ := three_on HE0.out HB.out
      go_wp2_with fail
      refine (fracSaid.abs _ (qval sk0 (val lak0) (val lbk0)) _ (Fr.of (AK0.out.later HB.out) (BK0.out.later HB.out) (by omega) (by omega) rfl)).mono ?_
      rintro e w4 ⟨a4, n4, c4, b4, m4, d4, rfl, h4, g4, bw⟩
      rw [← HTv.out] at h4 g4 ⊢
      clear e00 e10 e20
      replace HB := Lib.hid (below_then HB.out bw)
      replace HO := Lib.hid (HO.out.later bw)
      replace X0 := Lib.hid (blk_later X0.out bw)
      have hsz4 : w.heap.size + 1 < w4.heap.size := Nat.lt_of_lt_of_le hsz bw.size
      have HA4 := Lib.hid h4
      have HB4 := Lib.hid g4
      clear bw hsz h4 g4
      unfold frV
      obtain ⟨⟨p0, p1, p2⟩, f0, f1, f2⟩ := HO.out.cell (k := k) (by rw [take_len (Nat.le_of_lt hkT)])
      all_goals (
        obtain ⟨hst, hgr⟩ := HO.out.stored (k := k) (by rw [take_len (Nat.le_of_lt hkT)]) tk a4 n4 c4 b4 m4 d4 HA4.out HB4.out
        rw [← HT.out] at hst
        have HS := Lib.hid hst
        have HB5 := Lib.hid (HB.out.grown hgr HB.out.size (fun g' hg' => by simp at hg'; omega))
        have hsz5 := Nat.lt_of_lt_of_le hsz4 hgr.size
        have X5 := Lib.hid ((hgr.block w.heap.size (by omega) (fun e2 => by simp at e2)).trans X0.out)
        clear X0
        clear hst hgr HA4 HB4 HO HB HT HTv
        go_wp2
        go_roundw
        case rel => exact ⟨k + 1, r, by omega, by go_num, HS, HB5, hsz5, X5⟩
        case measure => simp [intOf]; omega)
    · obtain rfl : k = n0 := by omega
      have HF := Lib.hid (HO.out.whole HTL.out (by omega))
      obtain ⟨a9, c9, e9, h9⟩ := HF.out.out
      rw [HTL.out] at e9 h9
      cases e9
      have HF9 := Lib.hid h9
      clear HO h9 HF
      go_wp2_with fail
      refine (max_rw _ HF9.out HQL.out (by omega) (by omega)).mono ?_
      rintro e w5 ⟨a1, n1, c1, b1, m1, d1, rfl, h1, g1, bw⟩
      replace HB := Lib.hid (below_then HB.out bw)
      have HR := Lib.hid (blk_later X0.out bw)
      clear bw HF9 X0
      rw [HSM.out] at h1 g1 ⊢
      have R1 := Lib.hid h1
      have T1 := Lib.hid g1
      clear h1 g1
      unfold frV
      have q0 := blk_cell HR.out 0
      have q1 := blk_cell HR.out 1
      have q2 := blk_cell HR.out 2
      simp only [List.getElem?_toArray, List.getElem?_cons_zero, List.getElem?_cons_succ] at q0 q1 q2
      have f0 := blk_free HR.out 0
      have f1 := blk_free HR.out 1
      have f2 := blk_free HR.out 2
      replace R1 := Lib.hid (R1.out.stored3 HR.out ((zneg q.num)) a1 n1 c1 (.slice b1 m1 d1))
      replace T1 := Lib.hid (T1.out.stored3 HR.out ((zneg q.num)) a1 n1 c1 (.slice b1 m1 d1))
      replace HB := Lib.hid (below_set3 HB.out (show w.heap.size ≤ w.heap.size by omega) (.bool (zneg q.num)) (.slice a1 n1 c1) (.slice b1 m1 d1))
      replace HR := Lib.hid (blk_set3 HR.out (.bool (zneg q.num)) (.slice a1 n1 c1) (.slice b1 m1 d1))
      go_wp2
      refine bodyPost_ret (results_cell_row Tryz.results21 _ _ (w.heap.size) 41 #[.bool (zneg q.num), .slice a1 n1 c1, .slice b1 m1 d1] (0, 0) _ rfl HR.out Tryz.underlying41 rfl (by kernel_rfl)) rfl ?_
      exact ⟨a1, n1, c1, b1, m1, d1, rfl, R1.out, T1.out, HB.out⟩
end Go.Proofs.YtjeigdlhjghinaaGreatDoor

/-
  Package row at this seat: Size, Same.
-/
namespace Go.Proofs.YtjeigdlhjghinaaGreatDoor
open Go.RowKit

theorem rsizeFrom_append : ∀ (m : Nat) (L M : List Fx), rsizeFrom m (L ++ M) = rsizeFrom (rsizeFrom m L) M
  | _, [], _ => rfl
  | m, x :: r, M => by
    show rsizeFrom (max m (fsize x)) (r ++ M) = rsizeFrom (rsizeFrom (max m (fsize x)) r) M
    exact rsizeFrom_append _ r M
theorem rsize_more {L : List Fx} {k : Nat} (h : k < L.length) : rsizeFrom 0 (L.take (k + 1)) = max (rsizeFrom 0 (L.take k)) (fsize (L.getD k Fx.zero)) := by
  rw [fx_more h, rsizeFrom_append]; rfl
theorem fsize_le {w : World} {x : Fx} (h : x.ok w) (hn : x.n ≤ 1000) (hm : x.m ≤ 1000) : fsize x ≤ 64000 := by
  have h1 := blen_words h.1
  have h2 := blen_words h.2
  unfold fsize
  omega
set_option maxRecDepth 4096 in
set_option maxHeartbeats 4000000 in
theorem row_size (a0 : Option Addr) (n0 c0 : Nat) (L0 : List Fx) (w : World) (h0 : Fxs w a0 n0 c0 L0) (hn : n0 ≤ 300) (ht0 : thin 1000 L0) : Calls Tryz.prog 23 #[.slice a0 n0 c0] w (Gives (.int .i64 ((rsizeFrom 0 L0 : Nat) : Int)) w) := by
  have HFS := Lib.hid (show ∀ x ∈ L0, fsize x ≤ 64000 from fun x hx => fsize_le (h0.ok hx) (ht0 x hx).1 (ht0 x hx).2)
  have HK0 := Lib.hid h0
  have HLl0 := Lib.hid h0.len
  have hbd0 := h0.bound
  have HTh0 := Lib.hid ht0
  clear h0 ht0
  go_enter Tryz.func23, Tryz.ntmps23
  go_wp2
  go_loopw [3, 7] (fun sv iv wr => ∃ k s : Nat, k ≤ n0 ∧ iv = .int .i64 (k : Int) ∧ sv = .int .i64 (s : Int) ∧ s ≤ 64000 ∧ Hid (s = rsizeFrom 0 (L0.take k)) ∧ Hid (Below w.heap.size w wr)) (fun _ iv _ => n0 - (intOf iv).toNat)
  case atStart => exact ⟨0, 0, by omega, rfl, rfl, by omega, Lib.hid rfl, Lib.hid (Below.refl _ _)⟩
  case round =>
    obtain ⟨k, s, hk, rfl, rfl, hs6, HS, HB⟩ := hrel
    by_cases hlt : k < n0
    · have HT := Lib.hid (rsize_more (show k < L0.length by rw [HLl0.out]; exact hlt))
      have hfs := HFS.out _ (fx_mem (L := L0) (k := k) (by rw [HLl0.out]; exact hlt))
      obtain ⟨bb0, off0, rfl, e00, e10, e20, hok0⟩ := HK0.out.at hlt
      have hth0 := HTh0.out _ (fx_mem (L := L0) (k := k) (by rw [HLl0.out]; exact hlt))
      generalize L0.getD k Fx.zero = xk0 at *
      obtain ⟨sk0, ak0, nk0, ck0, lak0, bk0, mk0, dk0, lbk0⟩ := xk0
      obtain ⟨hA0, hB0⟩ := hok0
      simp only at e00 e10 e20 hA0 hB0 hth0
      obtain ⟨hth0, htj0⟩ := hth0
      have HE0 : Hid (w.cell? ⟨bb0, off0 + k * 3, none⟩ = some (.bool sk0) ∧ w.cell? ⟨bb0, off0 + k * 3 + 1, none⟩ = some (.slice ak0 nk0 ck0) ∧ w.cell? ⟨bb0, off0 + k * 3 + 2, none⟩ = some (.slice bk0 mk0 dk0)) := Lib.hid ⟨e00, e10, e20⟩
      have AK0 := Lib.hid hA0
      have BK0 := Lib.hid hB0
      clear hA0 hB0 e00 e10 e20
      obtain ⟨z, hz⟩ : ∃ z, blen (val lak0) + blen (val lbk0) = z := ⟨_, rfl⟩
      have HZ := Lib.hid hz
      have hz6 : z ≤ 64000 := hz ▸ hfs
      replace HT : Hid (rsizeFrom 0 (L0.take (k + 1)) = max (rsizeFrom 0 (L0.take k)) z) := Lib.hid (hz ▸ HT.out)
      have hki : (k : Int) < (n0 : Int) := by omega
      have hk0 : (0 : Int) ≤ (k : Int) := by omega
      obtain ⟨M, hM9⟩ : ∃ M, max s z = M := ⟨_, rfl⟩
      have hMM : (max (s : Int) (z : Int) : Int) = (M : Int) := by omega
      have hM6 : M ≤ 64000 := by omega
      have HM := Lib.hid hM9
      clear hz hfs hM9
      obtain ⟨e00, e10, e20⟩ := three_on HE0.out HB.out
      go_wp2_with fail
      refine (fracSaid.size sk0 ak0 nk0 ck0 lak0 bk0 mk0 dk0 lbk0 _ (AK0.out.later HB.out) (BK0.out.later HB.out) (by omega) (by omega)).mono ?_
      rintro e w4 ⟨rfl, bw⟩
      rw [HZ.out]
      clear e00 e10 e20
      replace HB := Lib.hid (below_then HB.out bw)
      have HS9 : Hid (M = rsizeFrom 0 (L0.take (k + 1))) := Lib.hid (by rw [HT.out, ← HS.out]; exact HM.out.symm)
      clear bw HS HT HZ HM
      go_wp2
      go_roundw
      case rel => exact ⟨k + 1, M, by omega, by go_num, by first | rfl | exact congrArg _ hMM, hM6, HS9, HB⟩
      case measure => simp [intOf]; omega
    · obtain rfl : k = n0 := by omega
      have HF : Hid (s = rsizeFrom 0 L0) := Lib.hid (by
        have h9 := HS.out
        rwa [List.take_of_length_le (by rw [HLl0.out]; exact Nat.le_refl _)] at h9)
      go_wp2
      go_ret
      exact ⟨by rw [HF.out]; rfl, HB.out⟩
theorem fqs_take_more {L : List Fx} {k : Nat} (h : k < L.length) : fqs (L.take (k + 1)) = fqs (L.take k) ++ [(L.getD k Fx.zero).q] := by
  rw [fx_more h]; unfold fqs; rw [List.map_append]; rfl
theorem q_ne_of_at {L M : List Fx} {k : Nat} (h : k < L.length) (h' : k < M.length) (hq : (L.getD k Fx.zero).q ≠ (M.getD k Fx.zero).q) : fqs L ≠ fqs M := fun e => by
  refine hq ?_
  rw [← fqs_getD h, ← fqs_getD h', e]
set_option maxRecDepth 4096 in
set_option maxHeartbeats 4000000 in
theorem row_equalfunc (a0 : Option Addr) (n0 c0 : Nat) (L0 : List Fx) (a1 : Option Addr) (n1 c1 : Nat) (L1 : List Fx) (w : World) (h0 : Fxs w a0 n0 c0 L0) (h1 : Fxs w a1 n1 c1 L1) (hn : n0 ≤ 300) (ht0 : thin 1000 L0) (ht1 : thin 1000 L1) : Calls Tryz.prog 48 #[.slice a0 n0 c0, .slice a1 n1 c1, .func (.func 42) #[] #[]] w (Gives (.bool (decide (fqs L0 = fqs L1))) w) := by
  have HK0 := Lib.hid h0
  have HLl0 := Lib.hid h0.len
  have hbd0 := h0.bound
  have HTh0 := Lib.hid ht0
  clear h0 ht0
  have HK1 := Lib.hid h1
  have HLl1 := Lib.hid h1.len
  have hbd1 := h1.bound
  have HTh1 := Lib.hid ht1
  clear h1 ht1
  by_cases hnm : n0 = n1
  · subst hnm
    obtain ⟨rr, hrr⟩ : ∃ rr, decide (fqs L0 = fqs L1) = rr := ⟨_, rfl⟩
    have HRR := Lib.hid hrr
    rw [hrr]
    clear hrr
    go_enter Tryz.func48, Tryz.ntmps48
    go_wp2
    go_loopw [17] (fun iv wr => ∃ k : Nat, k ≤ n0 ∧ iv = .int .i64 (k : Int) ∧ Hid (fqs (L0.take k) = fqs (L1.take k)) ∧ Hid (Below w.heap.size w wr)) (fun iv _ => n0 - (intOf iv).toNat)
    case atStart => exact ⟨0, by omega, rfl, Lib.hid rfl, Lib.hid (Below.refl _ _)⟩
    case round =>
      obtain ⟨k, hk, rfl, HS, HB⟩ := hrel
      by_cases hlt : k < n0
      · have HT0 := Lib.hid (fqs_take_more (show k < L0.length by rw [HLl0.out]; exact hlt))
        have HT1 := Lib.hid (fqs_take_more (show k < L1.length by rw [HLl1.out]; exact hlt))
        have HNE := Lib.hid (q_ne_of_at (show k < L0.length by rw [HLl0.out]; exact hlt) (show k < L1.length by rw [HLl1.out]; exact hlt))
        obtain ⟨bb0, off0, rfl, e00, e10, e20, hok0⟩ := HK0.out.at hlt
        have hth0 := HTh0.out _ (fx_mem (L := L0) (k := k) (by rw [HLl0.out]; exact hlt))
        generalize L0.getD k Fx.zero = xk0 at *
        obtain ⟨sk0, ak0, nk0, ck0, lak0, bk0, mk0, dk0, lbk0⟩ := xk0
        obtain ⟨hA0, hB0⟩ := hok0
        simp only at e00 e10 e20 hA0 hB0 hth0
        obtain ⟨hth0, htj0⟩ := hth0
        have HE0 : Hid (w.cell? ⟨bb0, off0 + k * 3, none⟩ = some (.bool sk0) ∧ w.cell? ⟨bb0, off0 + k * 3 + 1, none⟩ = some (.slice ak0 nk0 ck0) ∧ w.cell? ⟨bb0, off0 + k * 3 + 2, none⟩ = some (.slice bk0 mk0 dk0)) := Lib.hid ⟨e00, e10, e20⟩
        have AK0 := Lib.hid hA0
        have BK0 := Lib.hid hB0
        clear hA0 hB0 e00 e10 e20
        obtain ⟨bb1, off1, rfl, e01, e11, e21, hok1⟩ := HK1.out.at hlt
        have hth1 := HTh1.out _ (fx_mem (L := L1) (k := k) (by rw [HLl1.out]; exact hlt))
        generalize L1.getD k Fx.zero = xk1 at *
        obtain ⟨sk1, ak1, nk1, ck1, lak1, bk1, mk1, dk1, lbk1⟩ := xk1
        obtain ⟨hA1, hB1⟩ := hok1
        simp only at e01 e11 e21 hA1 hB1 hth1
        obtain ⟨hth1, htj1⟩ := hth1
        have HE1 : Hid (w.cell? ⟨bb1, off1 + k * 3, none⟩ = some (.bool sk1) ∧ w.cell? ⟨bb1, off1 + k * 3 + 1, none⟩ = some (.slice ak1 nk1 ck1) ∧ w.cell? ⟨bb1, off1 + k * 3 + 2, none⟩ = some (.slice bk1 mk1 dk1)) := Lib.hid ⟨e01, e11, e21⟩
        have AK1 := Lib.hid hA1
        have BK1 := Lib.hid hB1
        clear hA1 hB1 e01 e11 e21
        have hki : (k : Int) < (n0 : Int) := by omega
        have hk0 : (0 : Int) ≤ (k : Int) := by omega
        replace HT0 : Hid (fqs (L0.take (k + 1)) = fqs (L0.take k) ++ [qval sk0 (val lak0) (val lbk0)]) := HT0
        replace HT1 : Hid (fqs (L1.take (k + 1)) = fqs (L1.take k) ++ [qval sk1 (val lak1) (val lbk1)]) := HT1
        replace HNE : Hid (qval sk0 (val lak0) (val lbk0) ≠ qval sk1 (val lak1) (val lbk1) → fqs L0 ≠ fqs L1) := HNE
        obtain ⟨e00, e10, e20⟩ := three_on HE0.out HB.out
        have ba := below_alloc wr (.cells #[.bool sk0, .slice ak0 nk0 ck0, .slice bk0 mk0 dk0] 41)
        have HB1 := Lib.hid (below_then HB.out ba)
        obtain ⟨e01, e11, e21⟩ := three_on HE1.out HB1.out
        have bb := below_alloc (wr.alloc (.cells #[.bool sk0, .slice ak0 nk0 ck0, .slice bk0 mk0 dk0] 41)) (.cells #[.bool sk1, .slice ak1 nk1 ck1, .slice bk1 mk1 dk1] 41)
        have HB2 := Lib.hid (below_then HB1.out bb)
        obtain ⟨x0, x1, x2⟩ := fcells_3 (blk_later (blk_new wr #[.bool sk0, .slice ak0 nk0 ck0, .slice bk0 mk0 dk0] 41) bb)
        have hy := blk_new (wr.alloc (.cells #[.bool sk0, .slice ak0 nk0 ck0, .slice bk0 mk0 dk0] 41)) #[.bool sk1, .slice ak1 nk1 ck1, .slice bk1 mk1 dk1] 41
        rw [blk_size] at hy
        obtain ⟨y0, y1, y2⟩ := fcells_3 hy
        clear ba bb HB1 hy
        go_wp2_with fail
        refine (fracSaid.same (frV sk0 ak0 nk0 ck0 bk0 mk0 dk0) (frV sk1 ak1 nk1 ck1 bk1 mk1 dk1) (qval sk0 (val lak0) (val lbk0)) (qval sk1 (val lak1) (val lbk1)) _ (Fr.of (AK0.out.later HB2.out) (BK0.out.later HB2.out) (by omega) (by omega) rfl) (Fr.of (AK1.out.later HB2.out) (BK1.out.later HB2.out) (by omega) (by omega) rfl)).mono ?_
        rintro e w4 ⟨rfl, bw⟩
        clear e00 e10 e20 e01 e11 e21 x0 x1 x2 y0 y1 y2
        replace HB := Lib.hid (below_then HB2.out bw)
        clear bw HB2
        by_cases hqq : qval sk0 (val lak0) (val lbk0) = qval sk1 (val lak1) (val lbk1)
        · have HS9 : Hid (fqs (L0.take (k + 1)) = fqs (L1.take (k + 1))) := Lib.hid (by rw [HT0.out, HT1.out, HS.out, hqq])
          rw [decide_eq_true hqq]
          clear hqq HS HT0 HT1 HNE
          go_wp2
          go_roundw
          case rel => exact ⟨k + 1, by omega, by go_num, HS9, HB⟩
          case measure => simp [intOf]; omega
        · have hrf : rr = false := by rw [← HRR.out]; exact decide_eq_false (HNE.out hqq)
          subst hrf
          rw [decide_eq_false hqq]
          clear hqq HS HT0 HT1 HNE
          go_wp2
          go_ret
          exact ⟨rfl, HB.out⟩
      · obtain rfl : k = n0 := by omega
        have hrt : rr = true := by
          rw [← HRR.out]
          have h9 := HS.out
          rw [List.take_of_length_le (by rw [HLl0.out]; exact Nat.le_refl _), List.take_of_length_le (by rw [HLl1.out]; exact Nat.le_refl _)] at h9
          exact decide_eq_true h9
        subst hrt
        go_wp2
        go_ret
        exact ⟨rfl, HB.out⟩
  · have hq : ((n0 : Int) == (n1 : Int)) = false := by simp; omega
    have hne : fqs L0 ≠ fqs L1 := fun e => hnm (by
      have h9 := congrArg List.length e
      rwa [fqs_length, fqs_length, HLl0.out, HLl1.out] at h9)
    rw [decide_eq_false hne]
    clear hnm hne
    go_enter Tryz.func48, Tryz.ntmps48
    go_wp2
    go_ret
    exact ⟨rfl, Below.refl _ _⟩
set_option maxRecDepth 4096 in
set_option maxHeartbeats 4000000 in
theorem row_same (a0 : Option Addr) (n0 c0 : Nat) (L0 : List Fx) (a1 : Option Addr) (n1 c1 : Nat) (L1 : List Fx) (w : World) (h0 : Fxs w a0 n0 c0 L0) (h1 : Fxs w a1 n1 c1 L1) (hn : n0 ≤ 300) (ht0 : thin 1000 L0) (ht1 : thin 1000 L1) : Calls Tryz.prog 17 #[.slice a0 n0 c0, .slice a1 n1 c1] w (Gives (.bool (decide (fqs L0 = fqs L1))) w) := by
  have HC := Lib.hid (show ∀ w' : World, Below w.heap.size w w' → Calls Tryz.prog 48 #[.slice a0 n0 c0, .slice a1 n1 c1, .func (.func 42) #[] #[]] w' (Gives (.bool (decide (fqs L0 = fqs L1))) w') from fun w' hw => row_equalfunc a0 n0 c0 L0 a1 n1 c1 L1 w' (h0.later hw) (h1.later hw) hn ht0 ht1)
  clear h0 h1 ht0 ht1
  go_enter Tryz.func17, Tryz.ntmps17
  go_wp2_with fail
  refine (HC.out _ (Below.refl _ _)).mono ?_
  rintro e w1 ⟨rfl, bw⟩
  go_wp2
  go_ret
  exact ⟨rfl, bw⟩
end Go.Proofs.YtjeigdlhjghinaaGreatDoor

/-
  Package row at this seat: Text.
-/
namespace Go.Proofs.YtjeigdlhjghinaaGreatDoor
open Go.RowKit

def row_join_ren : Go.Shelf.Ren := ⟨fun | 156 => 75 | 165 => 119 | 166 => 120 | 169 => 121 | 240 => 160 | 241 => 161 | 276 => 181 | 277 => 182 | n => n, fun | 0 => 0 | 3 => 3 | 4 => 4 | 5 => 5 | 80 => 154 | 9 => 9 | 20 => 20 | 31 => 107 | 37 => 146 | 70 => 145 | 72 => 148 | 75 => 151 | 76 => 152 | 127 => 189 | 164 => 204 | n => n, fun | n => n⟩
theorem row_join : Go.Proofs.Lays.n156 Tryz.prog row_join_ren := {
  mixed := by kernel_rfl
  f156 := Tryz.func75.trans (congrArg some (by kernel_rfl))
  f165 := Tryz.func119.trans (congrArg some (by kernel_rfl))
  f166 := Tryz.func120.trans (congrArg some (by kernel_rfl))
  f169 := Tryz.func121.trans (congrArg some (by kernel_rfl))
  f240 := Tryz.func160.trans (congrArg some (by kernel_rfl))
  f241 := Tryz.func161.trans (congrArg some (by kernel_rfl))
  f276 := Tryz.func181.trans (congrArg some (by kernel_rfl))
  f277 := Tryz.func182.trans (congrArg some (by kernel_rfl))
  t0 := Tryz.underlying0
  a0 := Tryz.isAgg0
  z0 := Tryz.sizeOf0
  v0 := Tryz.zeroValue0
  t3 := Tryz.underlying3
  a3 := Tryz.isAgg3
  z3 := Tryz.sizeOf3
  v3 := Tryz.zeroValue3
  t4 := Tryz.underlying4
  a4 := Tryz.isAgg4
  z4 := Tryz.sizeOf4
  v4 := Tryz.zeroValue4
  t9 := Tryz.underlying9
  a9 := Tryz.isAgg9
  z9 := Tryz.sizeOf9
  v9 := Tryz.zeroValue9
  t20 := Tryz.underlying20
  a20 := Tryz.isAgg20
  z20 := Tryz.sizeOf20
  v20 := Tryz.zeroValue20
  t31 := Tryz.underlying107
  a31 := Tryz.isAgg107
  z31 := Tryz.sizeOf107
  v31 := Tryz.zeroValue107
  t37 := Tryz.underlying146
  a37 := Tryz.isAgg146
  z37 := Tryz.sizeOf146
  v37 := Tryz.zeroValue146
  t70 := Tryz.underlying145
  a70 := Tryz.isAgg145
  z70 := Tryz.sizeOf145
  v70 := Tryz.zeroValue145
  t72 := Tryz.underlying148
  a72 := Tryz.isAgg148
  z72 := Tryz.sizeOf148
  v72 := Tryz.zeroValue148
  t75 := Tryz.underlying151
  a75 := Tryz.isAgg151
  z75 := Tryz.sizeOf151
  v75 := Tryz.zeroValue151
  t76 := Tryz.underlying152
  a76 := Tryz.isAgg152
  z76 := Tryz.sizeOf152
  v76 := Tryz.zeroValue152
  t127 := Tryz.underlying189
  a127 := Tryz.isAgg189
  z127 := Tryz.sizeOf189
  v127 := Tryz.zeroValue189
  t164 := Tryz.underlying204
  a164 := Tryz.isAgg204
  z164 := Tryz.sizeOf204
  v164 := Tryz.zeroValue204 }
theorem row_extra : Builder.Extra Tryz.prog row_join_ren where
  sizeBuilder := by kernel_rfl
  liesBuilder := by kernel_rfl
  t5 := Tryz.underlying5
  a5 := Tryz.isAgg5
  z5 := Tryz.sizeOf5
  v5 := Tryz.zeroValue5
  infoByte := by kernel_rfl
  cellsByte := by kernel_rfl
  sizeByte := by kernel_rfl
  neB5 := by decide
def texts (qs : List Rat) : List ByteArray := qs.map (fun q => bs (ftxt q))
theorem texts_length (qs : List Rat) : (texts qs).length = qs.length := List.length_map _
theorem texts_lists (qs : List Rat) : (texts qs).map (fun x => x.data.toList) = qs.map ftxt := by
  unfold texts
  rw [List.map_map]
  refine List.map_congr_left (fun q _ => ?_)
  show (bs (ftxt q)).data.toList = ftxt q
  rfl
theorem join_rowTxt : ∀ qs : List Rat, Lib.join (qs.map ftxt) [44] = rowTxt qs
  | [] => rfl
  | [q] => by
    show Lib.join [ftxt q] [44] = ftxt q
    rw [Lib.join_one]
  | q :: p :: r => by
    have h := join_rowTxt (p :: r)
    show Lib.join (ftxt q :: ftxt p :: r.map ftxt) [44] = ftxt q ++ 44 :: rowTxt (p :: r)
    rw [← h]
    show _ = ftxt q ++ 44 :: Lib.join (ftxt p :: r.map ftxt) [44]
    rw [Lib.join_cons, Lib.join_cons]
    simp [Lib.joinTail]
theorem txt_words {n K : Nat} (h : (dg n).length ≤ K) : (txt n).length ≤ 32 * K + 1 := by
  have h1 := val_lt (okw_dg n)
  rw [val_dg, pow32] at h1
  exact txt_length_le (Nat.lt_of_lt_of_le h1 (Nat.pow_le_pow_right (by decide) (by omega)))
theorem ftxt_words {q : Rat} {K : Nat} (h : qlen q ≤ K) : (ftxt q).length ≤ 64 * K + 4 := by
  have h1 := txt_words (Nat.le_trans (qlen_num q) h)
  have h2 := txt_words (Nat.le_trans (qlen_den q) h)
  have h3 : (ztxt q.num).length ≤ 32 * K + 2 := by unfold ztxt; split <;> (try rw [List.length_cons]) <;> omega
  unfold ftxt
  split <;> simp only [List.length_append, List.length_cons, List.length_nil] <;> omega
theorem rowTxt_words {K : Nat} : ∀ {qs : List Rat}, (∀ q ∈ qs, qlen q ≤ K) → (rowTxt qs).length ≤ qs.length * (64 * K + 5)
  | [], _ => by rw [rowTxt]; exact Nat.zero_le _
  | [q], h => by
    have h1 := ftxt_words (h q (by simp))
    show (ftxt q).length ≤ (0 + 1) * (64 * K + 5)
    omega
  | q :: p :: r, h => by
    have h1 := ftxt_words (h q (by simp))
    have h2 := rowTxt_words (qs := p :: r) (fun x hx => h x (List.mem_cons_of_mem _ hx))
    show (ftxt q ++ 44 :: rowTxt (p :: r)).length ≤ _
    have h3 : (q :: p :: r).length * (64 * K + 5) = (p :: r).length * (64 * K + 5) + (64 * K + 5) := by rw [List.length_cons (a := q), Nat.add_mul, Nat.one_mul]
    rw [h3]
    simp only [List.length_append, List.length_cons] at h2 ⊢; omega
theorem row_joined (qs : List Rat) (g n : Nat) (w : World) (hc : ∀ (j : Nat) x, (texts qs)[j]? = some x → w.cell? ⟨g, 0 + j, none⟩ = some (.string x)) (hg : g < w.heap.size) (hl : qs.length = n) (hn : n ≤ 300) (hq : ∀ q ∈ qs, qlen q ≤ 101) :
    Calls Tryz.prog 75 #[.slice (some ⟨g, 0, none⟩) n n, .string ⟨#[44]⟩] w (Gives (.string (bs (rowTxt qs))) w) := by
  have hx : (texts qs).length = n := (texts_length qs).trans hl
  have hlen : (Lib.join ((texts qs).map (·.data.toList)) (⟨#[44]⟩ : ByteArray).data.toList).length ≤ 140737488355328 := by
    rw [texts_lists]
    show (Lib.join (qs.map ftxt) [44]).length ≤ _
    rw [join_rowTxt]
    have h1 := rowTxt_words hq
    have h2 : qs.length * (64 * 101 + 5) ≤ 300 * (64 * 101 + 5) := Nat.mul_le_mul_right _ (by omega)
    omega
  have h := Any.strings_Join row_join row_extra g 0 n (texts qs) ⟨#[44]⟩ w hc hg (by rw [hx]; omega) (by rw [hx]; exact Nat.le_refl _) hlen
  rw [hx] at h
  refine h.mono fun e w' ⟨he, hb⟩ => ⟨?_, hb⟩
  rw [he, texts_lists]
  show Ending.returned (.string ⟨(Lib.join (qs.map ftxt) [44]).toArray⟩) = _
  rw [join_rowTxt]; rfl
theorem infoStr : (Tryz.prog.info? 9).map (fun i => (i.zero, i.size, i.bytes)) = some (some (.string ⟨#[]⟩), 1, 16) := by kernel_rfl
theorem owns_later {w w' : World} {base : Nat} {e : TypeId} {size : Nat} {v : Value} {n : Nat} {xs : List Value} (h : w.ownsRow base e size v n xs) (hb : Below w.heap.size w w') : w'.ownsRow base e size v n xs := by
  refine ⟨h.1, ?_⟩
  rcases h.2 with hn | ⟨g, cap, cur, rfl, hbg, hgg, rest⟩
  · exact .inl hn
  · exact .inr ⟨g, cap, cur, rfl, hbg, (hb.block g (Array.getElem?_eq_some_iff.1 hgg).1).trans hgg, rest⟩
def strs (S : List ByteArray) (r : Nat) : List Value := S.map Value.string ++ List.replicate r (.string ⟨#[]⟩)
theorem strs_set (S : List ByteArray) (r : Nat) (x : ByteArray) : (strs S (r + 1)).set S.length (.string x) = strs (S ++ [x]) r := by
  unfold strs
  rw [List.set_append_right _ _ (by rw [List.length_map]; exact Nat.le_refl _), List.length_map, Nat.sub_self, List.replicate_succ, List.set_cons_zero, List.map_append, List.append_assoc]; rfl
theorem strs_at (S : List ByteArray) (r : Nat) : (strs S (r + 1))[S.length]? = some (.string ⟨#[]⟩) := by
  unfold strs
  rw [List.getElem?_append_right (by rw [List.length_map]; exact Nat.le_refl _), List.length_map, Nat.sub_self, List.replicate_succ, List.getElem?_cons_zero]
theorem strs_get {S : List ByteArray} {j : Nat} {x : ByteArray} (h : S[j]? = some x) : (strs S 0)[j]? = some (.string x) := by
  unfold strs
  rw [List.replicate_zero, List.append_nil, List.getElem?_map, h]; rfl
theorem bs_more {S : List ByteArray} {k : Nat} (h : k < S.length) : S.take (k + 1) = S.take k ++ [S.getD k (bs [])] := by
  rw [List.take_succ_eq_append_getElem h, List.getD_eq_getElem?_getD, List.getElem?_eq_getElem h]; rfl
set_option maxRecDepth 4096 in
set_option maxHeartbeats 4000000 in
theorem row_text (a0 : Option Addr) (n0 c0 : Nat) (L0 : List Fx) (w : World) (h0 : Fxs w a0 n0 c0 L0) (hn : n0 ≤ 300) (ht0 : thin 100 L0) (hT : Hid (Dec10 w)) : Calls Tryz.prog 40 #[.slice a0 n0 c0] w (Gives (.string (bs (rowTxt (fqs L0)))) w) := by
  have HQ9 := Lib.hid (ht0.qs h0.oks)
  have HK0 := Lib.hid h0
  have HLl0 := Lib.hid h0.len
  have hbd0 := h0.bound
  have HTh0 := Lib.hid ht0
  clear h0 ht0
  have HJ := Lib.hid (show ∀ (g : Nat) (w' : World), (∀ (j : Nat) x, (texts (fqs L0))[j]? = some x → w'.cell? ⟨g, 0 + j, none⟩ = some (.string x)) → g < w'.heap.size → Calls Tryz.prog 75 #[.slice (some ⟨g, 0, none⟩) n0 n0, .string ⟨#[44]⟩] w' (Gives (.string (bs (rowTxt (fqs L0)))) w') from fun g w' hc hg => row_joined (fqs L0) g n0 w' hc hg (by rw [fqs_length, HLl0.out]) hn HQ9.out)
  have HTL0 : (texts (fqs L0)).length = n0 := by rw [texts_length, fqs_length, HLl0.out]
  have HTV0 : ∀ k, k < n0 → (texts (fqs L0)).getD k (bs []) = bs (ftxt (L0.getD k Fx.zero).q) := fun k hk => by
    have h9 : k < L0.length := by rw [HLl0.out]; exact hk
    unfold texts
    rw [List.getD_eq_getElem?_getD, List.getElem?_map, fqs_at L0 k h9]; rfl
  obtain ⟨T, hTe⟩ : ∃ T, texts (fqs L0) = T := ⟨_, rfl⟩
  rw [hTe] at HTL0 HTV0 HJ
  obtain ⟨rr, hrr⟩ : ∃ rr, bs (rowTxt (fqs L0)) = rr := ⟨_, rfl⟩
  rw [hrr] at HJ ⊢
  have HTL := Lib.hid HTL0
  have HTV := Lib.hid HTV0
  clear HTL0 HTV0 hTe hrr HQ9
  obtain ⟨i0, hi, hz0, hz1, hz2⟩ := info_parts infoStr
  go_enter Tryz.func40, Tryz.ntmps40
  go_wp2_with (at_make; refine wpList_make_words _ rfl _ _ 107 rfl w.heap.size 9 i0 (.string ⟨#[]⟩) Tryz.underlying107 hi hz0 hz1 rfl .i64 .i64 _ _ n0 n0 rfl rfl rfl rfl (Nat.le_refl _) (by rw [hz2]; omega) (by unfold maxLen; omega) (Nat.le_refl _) ?_; intro wm hown1 hgm)
  have HO0 : Hid (wm.ownsRow w.heap.size 9 1 (.slice (some ⟨w.heap.size, 0, none⟩) n0 n0) n0 (strs [] n0)) := Lib.hid hown1
  have HB0 : Hid (Below w.heap.size w wm) := Lib.hid ((Below.refl _ _).grown hgm (Nat.le_refl _) (fun k hk => by cases hk))
  have hszm : w.heap.size < wm.heap.size := (hown1.lt _ rfl).2
  clear hown1 hgm
  go_loopw [10] (fun iv wr => ∃ k r : Nat, k + r = n0 ∧ iv = .int .i64 (k : Int) ∧ Hid (wr.ownsRow w.heap.size 9 1 (.slice (some ⟨w.heap.size, 0, none⟩) n0 n0) n0 (strs (T.take k) r)) ∧ Hid (Below w.heap.size w wr) ∧ w.heap.size < wr.heap.size) (fun iv _ => n0 - (intOf iv).toNat)
  case atStart => exact ⟨0, n0, by omega, rfl, HO0, HB0, hszm⟩
  case round =>
    clear HO0 HB0
    obtain ⟨k, r, hk, rfl, HO, HB, hsz⟩ := hrel
    by_cases hlt : k < n0
    · have hkT : k < T.length := by rw [HTL.out]; exact hlt
      obtain ⟨r, rfl⟩ : ∃ r', r = r' + 1 := ⟨r - 1, by omega⟩
      have HT : Hid (T.take (k + 1) = T.take k ++ [T.getD k (bs [])]) := Lib.hid (bs_more hkT)
      have HTv := Lib.hid (HTV.out k hlt)
      obtain ⟨bb0, off0, rfl, e00, e10, e20, hok0⟩ := HK0.out.at hlt
      have hth0 := HTh0.out _ (fx_mem (L := L0) (k := k) (by rw [HLl0.out]; exact hlt))
      generalize L0.getD k Fx.zero = xk0 at *
      obtain ⟨sk0, ak0, nk0, ck0, lak0, bk0, mk0, dk0, lbk0⟩ := xk0
      obtain ⟨hA0, hB0⟩ := hok0
      simp only at e00 e10 e20 hA0 hB0 hth0
      obtain ⟨hth0, htj0⟩ := hth0
      have HE0 : Hid (w.cell? ⟨bb0, off0 + k * 3, none⟩ = some (.bool sk0) ∧ w.cell? ⟨bb0, off0 + k * 3 + 1, none⟩ = some (.slice ak0 nk0 ck0) ∧ w.cell? ⟨bb0, off0 + k * 3 + 2, none⟩ = some (.slice bk0 mk0 dk0)) := Lib.hid ⟨e00, e10, e20⟩
      have AK0 := Lib.hid hA0
      have BK0 := Lib.hid hB0
      clear hA0 hB0 e00 e10 e20
      generalize T.getD k (bs []) = tk at *
      replace HTv : Hid (tk = bs (ftxt (qval sk0 (val lak0) (val lbk0)))) := HTv
      have hki : (k : Int) < (n0 : Int) := by omega
      have hk0 : (0 : Int) ≤ (k : Int) := by omega
      obtain ⟨e00, e10, e20⟩ := three_on HE0.out HB.out
      go_wp2_with fail
      refine (figureSaid.text (frV sk0 ak0 nk0 ck0 bk0 mk0 dk0) (qval sk0 (val lak0) (val lbk0)) _ (Fr.of (AK0.out.later HB.out) (BK0.out.later HB.out) (by omega) (by omega) rfl) (Lib.hid (hT.out.later HB.out))).mono ?_
      rintro e w4 ⟨rfl, bw⟩
      rw [← HTv.out]
      clear e00 e10 e20
      replace HB := Lib.hid (below_then HB.out bw)
      have hO4 := owns_later HO.out bw
      have hsz4 : w.heap.size < w4.heap.size := Nat.lt_of_lt_of_le hsz bw.size
      clear bw hsz HO
      have htl : (T.take k).length = k := take_len (Nat.le_of_lt hkT)
      have p0 := hO4.cellAt k (by omega)
      rw [show (strs (T.take k) (r + 1))[k]? = some (.string ⟨#[]⟩) by have h9 := strs_at (T.take k) r; rwa [htl] at h9] at p0
      have f0 := hO4.frozenAt k
      obtain ⟨hst, hgr⟩ := hO4.stored k (.string tk)
      rw [show (strs (T.take k) (r + 1)).set k (.string tk) = strs (T.take (k + 1)) r by have h9 := strs_set (T.take k) r tk; rw [htl] at h9; rw [h9, HT.out]] at hst
      have HS := Lib.hid hst
      have HB5 := Lib.hid (HB.out.grown hgr HB.out.size (fun g' hg' => by simp at hg'; omega))
      have hsz5 := Nat.lt_of_lt_of_le hsz4 hgr.size
      clear hst hgr hO4 HB HT HTv htl
      go_wp2
      go_roundw
      case rel => exact ⟨k + 1, r, by omega, by go_num, HS, HB5, hsz5⟩
      case measure => simp [intOf]; omega
    · obtain rfl : k = n0 := by omega
      obtain rfl : r = 0 := by omega
      have hF := HO.out
      rw [List.take_of_length_le (Nat.le_of_eq HTL.out)] at hF
      have HF := Lib.hid (show ∀ (j : Nat) x, T[j]? = some x → wr.cell? ⟨w.heap.size, 0 + j, none⟩ = some (.string x) from fun j x hx => by
        have h9 := hF.cellAt j (by have := (List.getElem?_eq_some_iff.1 hx).1; rw [HTL.out] at this; omega)
        rw [strs_get hx] at h9
        rw [Nat.zero_add]; exact h9)
      clear HO hF
      go_wp2_with fail
      refine (HJ.out _ _ HF.out hsz).mono ?_
      rintro e w5 ⟨rfl, bw⟩
      have HB9 := Lib.hid (below_then HB.out bw)
      clear bw HF
      go_wp2
      go_ret
      exact ⟨rfl, HB9.out⟩
end Go.Proofs.YtjeigdlhjghinaaGreatDoor

/-
  A row read piece by piece: what is so far read, at a place of the text. Of no program.
-/
namespace Go.Proofs.YtjeigdlhjghinaaGreatDoor
open Go.RowKit

/-- At the place i of the text l, behind the last comma at f, with the values V so far read. -/
def ReadAt (l : List UInt8) (f i : Nat) (V : List Rat) : Prop :=
  (f ≤ i ∧ i ≤ l.length ∧ i - f ≤ commaAt (l.drop f) ∧ kindOf (pieces l) = kindOf (pieces (l.drop f)) ∧ placeOf 0 (pieces l) = placeOf f (pieces (l.drop f)) ∧ (pieces l).map figVal = V ++ (pieces (l.drop f)).map figVal) ∨
  (i = l.length + 1 ∧ f = i ∧ kindOf (pieces l) = 0 ∧ (pieces l).map figVal = V)
theorem place_none : ∀ (P : List (List UInt8)) (off : Nat), kindOf P = 0 → placeOf off P = 0
  | [], _, _ => rfl
  | p :: P, off, h => by
    rw [kindOf] at h
    split at h
    · rename_i h2; exact absurd h h2
    · rename_i h2
      rw [placeOf, if_neg h2]
      exact place_none P _ h
theorem ReadAt.start (l : List UInt8) : ReadAt l 0 0 [] := .inl ⟨Nat.le_refl _, Nat.zero_le _, Nat.zero_le _, rfl, rfl, rfl⟩
theorem ReadAt.bound {l : List UInt8} {f i : Nat} {V : List Rat} (h : ReadAt l f i V) : f ≤ i ∧ i ≤ l.length + 1 := by
  rcases h with h | h
  · exact ⟨h.1, Nat.le_succ_of_le h.2.1⟩
  · exact ⟨Nat.le_of_eq h.2.1, Nat.le_of_eq h.1⟩
theorem drop_getD (l : List UInt8) (f k : Nat) : (l.drop f).getD k 0 = l.getD (f + k) 0 := by
  rw [List.getD_eq_getElem?_getD, List.getD_eq_getElem?_getD, List.getElem?_drop]
theorem ReadAt.skip {l : List UInt8} {f i : Nat} {V : List Rat} (h : ReadAt l f i V) (hi : i < l.length) (hx : (l.getD i 0).toNat ≠ 44) : ReadAt l f (i + 1) V := by
  rcases h with ⟨h1, h2, h3, h4⟩ | h
  · refine .inl ⟨by omega, by omega, ?_, h4⟩
    have h5 := commaAt_more h3 (by rw [List.length_drop]; omega) (by rw [drop_getD, show f + (i - f) = i by omega]; exact hx)
    omega
  · omega
theorem ReadAt.piece {l : List UInt8} {f i : Nat} {V : List Rat} (h : ReadAt l f i V) (hi : i ≤ l.length) (hx : i < l.length → (l.getD i 0).toNat = 44) (hk : figKind ((l.drop f).take (i - f)) = 0) : ReadAt l (i + 1) (i + 1) (V ++ [figVal ((l.drop f).take (i - f))]) := by
  rcases h with ⟨h1, h2, h3, h4, h5, h6⟩ | h
  · by_cases hlt : i < l.length
    · have hc := commaAt_here h3 (by rw [List.length_drop]; omega) (by rw [drop_getD, show f + (i - f) = i by omega]; exact hx hlt)
      have hp := pieces_more (l := l.drop f) (by rw [hc, List.length_drop]; omega)
      rw [hc, List.drop_drop, show f + (i - f + 1) = i + 1 by omega] at hp
      rw [hp] at h4 h5 h6
      rw [kindOf, if_neg (by rw [hk]; exact fun e => e rfl)] at h4
      rw [placeOf, if_neg (by rw [hk]; exact fun e => e rfl), List.length_take, List.length_drop, show f + min (i - f) (l.length - f) + 1 = i + 1 by omega] at h5
      refine .inl ⟨Nat.le_refl _, hlt, by omega, h4, h5, ?_⟩
      rw [h6, List.map_cons]; simp
    · have hil : i = l.length := by omega
      have hc : commaAt (l.drop f) = (l.drop f).length := by
        have := commaAt_le (l.drop f)
        rw [List.length_drop] at this ⊢
        omega
      have hp := pieces_one hc
      rw [hp] at h4 h6
      have ht : (l.drop f).take (i - f) = l.drop f := List.take_of_length_le (by rw [List.length_drop]; omega)
      rw [ht] at hk ⊢
      rw [kindOf, if_neg (by rw [hk]; exact fun e => e rfl)] at h4
      exact .inr ⟨by omega, rfl, h4, h6⟩
  · omega
theorem ReadAt.bad {l : List UInt8} {f i : Nat} {V : List Rat} (h : ReadAt l f i V) (hl : l ≠ []) (hi : i ≤ l.length) (hx : i < l.length → (l.getD i 0).toNat = 44) (hk : figKind ((l.drop f).take (i - f)) ≠ 0) :
    rowKind l = figKind ((l.drop f).take (i - f)) ∧ rowPlace l = (f : Int) + figPlace ((l.drop f).take (i - f)) ∧ rowVals l = [] := by
  rcases h with ⟨h1, h2, h3, h4, h5, h6⟩ | h
  · have hp : ∃ r, pieces (l.drop f) = (l.drop f).take (i - f) :: r := by
      by_cases hlt : i < l.length
      · have hc := commaAt_here h3 (by rw [List.length_drop]; omega) (by rw [drop_getD, show f + (i - f) = i by omega]; exact hx hlt)
        have hp := pieces_more (l := l.drop f) (by rw [hc, List.length_drop]; omega)
        rw [hc] at hp
        exact ⟨_, hp⟩
      · have hc : commaAt (l.drop f) = (l.drop f).length := by
          have := commaAt_le (l.drop f)
          rw [List.length_drop] at this ⊢
          omega
        refine ⟨[], ?_⟩
        rw [pieces_one hc, List.take_of_length_le (by rw [List.length_drop]; omega)]
    obtain ⟨r, hp⟩ := hp
    rw [hp, kindOf, if_pos hk] at h4
    rw [hp, placeOf, if_pos hk] at h5
    refine ⟨?_, ?_, ?_⟩
    · unfold rowKind; rw [if_neg hl]; exact h4
    · unfold rowPlace; rw [if_neg hl]; exact h5
    · unfold rowVals; rw [if_pos (.inr (by rw [h4]; exact hk))]
  · omega
theorem ReadAt.done {l : List UInt8} {f i : Nat} {V : List Rat} (h : ReadAt l f i V) (hl : l ≠ []) (hi : l.length < i) : rowKind l = 0 ∧ rowPlace l = 0 ∧ rowVals l = V := by
  rcases h with h | ⟨_, _, h1, h2⟩
  · omega
  · refine ⟨?_, ?_, ?_⟩
    · unfold rowKind; rw [if_neg hl]; exact h1
    · unfold rowPlace; rw [if_neg hl]; exact place_none _ _ h1
    · unfold rowVals; rw [if_neg (by rintro (h | h); exact hl h; exact h h1)]; exact h2
theorem pieces_le : ∀ {l : List UInt8} {p : List UInt8}, p ∈ pieces l → p.length ≤ l.length := by
  intro l
  induction hn : l.length using Nat.strongRecOn generalizing l with
  | ind n ih =>
    intro p hp
    by_cases hc : commaAt l < l.length
    · rw [pieces_more hc] at hp
      rcases List.mem_cons.1 hp with rfl | hp
      · rw [List.length_take]; omega
      · have := ih (l.drop (commaAt l + 1)).length (by rw [List.length_drop]; omega) rfl hp
        rw [List.length_drop] at this; omega
    · have := commaAt_le l
      rw [pieces_one (by omega)] at hp
      rw [List.mem_singleton.1 hp]; omega
theorem wrongFrom_bound : ∀ (l : List UInt8) (i : Nat), -1 ≤ wrongFrom l i ∧ wrongFrom l i ≤ (i : Int) + l.length
  | [], i => by rw [wrongFrom]; simp only [List.length_nil]; omega
  | x :: r, i => by
    have h := wrongFrom_bound r (i + 1)
    rw [wrongFrom]
    simp only [List.length_cons]
    split <;> omega
theorem wrongI_bound (l : List UInt8) : -1 ≤ wrongI l ∧ wrongI l ≤ (l.length : Int) := by
  have h := wrongFrom_bound l 0
  unfold wrongI
  split <;> omega
theorem zwrong_bound (l : List UInt8) : -1 ≤ zwrong l ∧ zwrong l ≤ (l.length : Int) := by
  cases l with
  | nil => rw [zwrong]; simp
  | cons x r =>
    have h1 := wrongI_bound r
    have h2 := wrongI_bound (x :: r)
    rw [zwrong]
    simp only [List.length_cons] at h2 ⊢
    split
    · split <;> omega
    · omega
theorem figPlace_bound (l : List UInt8) : -3 ≤ figPlace l ∧ figPlace l ≤ 2 * (l.length : Int) + 3 := by
  have h1 := zwrong_bound (fhead l)
  have h2 := wrongI_bound (frest l)
  have h3 := cutAt_le l
  have h4 : (fhead l).length ≤ l.length := by unfold fhead; rw [List.length_take]; omega
  have h5 : (frest l).length ≤ l.length := by unfold frest; rw [List.length_drop]; omega
  unfold figPlace
  split
  · omega
  · split
    · omega
    · split
      · omega
      · split <;> omega
theorem bs_between (l : List UInt8) (f i : Nat) : (bs l).extract f i = bs ((l.drop f).take (i - f)) := by
  unfold bs
  rw [ByteArray.extract_mk]
theorem rw_nil_any (w : World) (a : Option Addr) : Rw w a 0 0 [] := ⟨[], ⟨rfl, Nat.le_refl _, by omega, fun _ => rfl, fun x hx => by (simp at hx), .inl rfl⟩, rfl, fun x hx => by simp at hx⟩
end Go.Proofs.YtjeigdlhjghinaaGreatDoor

/-
  A range over strings.SplitSeq, whose function writes a box of its own: what the caller owes is an invariant that stands such writes, and one walk of its body. Of no program.
-/
namespace Go.Proofs.YtjeigdlhjghinaaGreatDoor
open Go.RowKit

/-- What a round keeps: whatever is no cells from block N on, and what the box B holds. -/
def Rounds (N B : Nat) (W W' : World) : Prop := (∀ k o, N ≤ k → W.heap[k]? = some o → o.isCells = false → W'.heap[k]? = some o) ∧ W'.cell? ⟨B, 0, none⟩ = W.cell? ⟨B, 0, none⟩
/-- How a round may be left. -/
def roundEnd (N B : Nat) (I : List (List UInt8) → World → Prop) (Ix : World → Prop) (pre : List (List UInt8)) (W : World) : Exit → Act → World → Prop
  | .normal, _, W' => Rounds N B W W' ∧ I pre W'
  | .ret, _, W' => Rounds N B W W' ∧ Ix W'
  | .exit _, _, _ => False
  | .goto _, _, _ => False
  | .panic _, _, _ => False
  | .outgrown, _, _ => False
/-- What the function that is ranged over owes its rounds. -/
def Splits (P : Program) (gf : FuncId) (lb : Array Value) (B : Nat) (ll : List UInt8) : Prop :=
  ∀ (l : Nat) (J : List (List UInt8) → World → Prop) (Jx : World → Prop) (W0 : World),
    (∀ pre A x, J pre A → J pre (A.setCell ⟨B, 0, none⟩ (.string x))) →
    (∀ pre A, J pre A → A.cell? ⟨B + 1, 0, none⟩ = some (.string ⟨#[44]⟩) ∧ A.cell? ⟨B + 1 + 1, 0, none⟩ = some (.int .i64 0) ∧ A.frozen? ⟨B, 0, none⟩ = false) →
    (∀ pre p A, J pre A → pre ++ [p] <+: pieces ll → YieldAt Fence.wide 1 P l #[.string (bs p)] A (fun e A' => (e = .returned (.bool true) ∧ J (pre ++ [p]) A' ∧ A'.cell? ⟨B, 0, none⟩ = A.cell? ⟨B, 0, none⟩) ∨ (e = .returned (.bool false) ∧ Jx A'))) →
    J [] W0 → W0.cell? ⟨B, 0, none⟩ = some (.string (bs ll)) →
    CallsIn Fence.wide 2 P gf (#[.func (.yield l) #[] #[]] ++ lb) W0 (fun e W' => (∃ v, e = .returned v) ∧ (J (pieces ll) W' ∨ Jx W'))
theorem cell_put {W : World} {r : Nat} {o o' : Obj} (h : W.heap[r]? = some o) (ho : o.isCells = false) (p : Addr) (hp : W.cell? p ≠ none) : (W.putObj r o').cell? p = W.cell? p := by
  refine World.cell?_of_block (World.putObj_heap_other ?_)
  intro e
  cases hc : W.cell? p with
  | none => exact hp hc
  | some v =>
    obtain ⟨o2, h2, h3⟩ := cells_of_cell hc
    rw [e, h] at h2
    cases h2
    rw [ho] at h3
    cases h3
theorem range_split {P : Program} {g : Operand} {ps : Array Tmp} {assign body : Code} {Q : Exit → Act → World → Prop} {a : Act} {w : World} {gf : FuncId} {lb : Array Value} {B : Nat} {ll : List UInt8}
    (hg : a.eval g = .func (.func gf) #[] lb) (eg : ∀ args w, (callFunc gf args).run P w = .ok (.enter gf args) w) (hsp : Splits P gf lb B ll) (hps : ps.size = 1) (hB : B < w.heap.size) (hs : w.cell? ⟨B, 0, none⟩ = some (.string (bs ll)))
    (I : List (List UInt8) → World → Prop) (Ix : World → Prop)
    (h0 : ∀ r, I [] ((w.alloc (.deferred (some []))).alloc (.loop r)))
    (hput : ∀ pre A o o', I pre A → A.heap[w.heap.size + 1]? = some o → o.isCells = false → I pre (A.putObj (w.heap.size + 1) o'))
    (hputx : ∀ A o o', Ix A → A.heap[w.heap.size + 1]? = some o → o.isCells = false → Ix (A.putObj (w.heap.size + 1) o'))
    (hset : ∀ pre A x, I pre A → I pre (A.setCell ⟨B, 0, none⟩ (.string x)))
    (hbox : ∀ pre A, I pre A → (∃ x, A.cell? ⟨B, 0, none⟩ = some (.string x)) ∧ A.cell? ⟨B + 1, 0, none⟩ = some (.string ⟨#[44]⟩) ∧ A.cell? ⟨B + 1 + 1, 0, none⟩ = some (.int .i64 0) ∧ A.frozen? ⟨B, 0, none⟩ = false)
    (a₁ : List UInt8 → Act)
    (hassign : ∀ (l : Nat) (x : List UInt8) (W : World) (K : Act → World → Prop), K (a₁ x) W → assign.wpIn (Fence.wide.inRound l) 1 P (Exit.then K (fun _ _ _ => False)) { tmps := (ps.zip #[.string (bs x)]).foldl (fun t (p, v) => t.setIfInBounds p v) a.tmps, defers := [] } W)
    (hbody : ∀ (l : Nat) (pre : List (List UInt8)) (p : List UInt8) (W : World), I pre W → pre ++ [p] <+: pieces ll → body.wpIn (Fence.wide.inRound l) 1 P (roundEnd w.heap.size B I Ix (pre ++ [p]) W) (a₁ p) W)
    (hdone : ∀ (W : World), I (pieces ll) W → W.heap[w.heap.size]? = some (.deferred (some [])) → Q .normal { a with defers := { target := .collected w.heap.size, args := #[] } :: a.defers } W)
    (hstop : ∀ (W : World), Ix W → W.heap[w.heap.size]? = some (.deferred (some [])) → Code.ret.wpIn Fence.wide 3 P Q { a with defers := { target := .collected w.heap.size, args := #[] } :: a.defers } W) :
    (Code.rangeFunc g ps assign body).wpIn Fence.wide 3 P Q a w := by
  refine wpIn_rangeFunc fun fn _ => ?_
  obtain ⟨R, hR⟩ : ∃ R : LoopState → Option Code → Loop, R = fun s j => { state := s, pending := j, fn := fn, tmps := a.tmps, params := ps, assign := assign, body := body, defers := w.heap.size } := ⟨_, rfl⟩
  have hent : (Instr.enterLoop fn a.tmps ps assign body Fence.wide.round).run P w = .ok (w.heap.size + 1, [{ target := .collected w.heap.size, args := #[] }]) ((w.alloc (.deferred (some []))).alloc (.loop (R .ready none))) := by
    rw [hR]; exact run_enterLoop_outer _ _ _ _ _
  have hdl : ((w.alloc (.deferred (some []))).alloc (.loop (R .ready none))).heap[w.heap.size]? = some (.deferred (some [])) :=
    (Below.heap_alloc (w.alloc (.deferred (some []))) (.loop (R .ready none)) w.heap.size (by rw [World.size_alloc]; omega)).trans (World.alloc_heap_new w _)
  have hlp : ((w.alloc (.deferred (some []))).alloc (.loop (R .ready none))).heap[w.heap.size + 1]? = some (.loop (R .ready none)) := by
    have h := World.alloc_heap_new (w.alloc (.deferred (some []))) (.loop (R .ready none))
    rwa [World.size_alloc] at h
  have hsB : ((w.alloc (.deferred (some []))).alloc (.loop (R .ready none))).cell? ⟨B, 0, none⟩ = some (.string (bs ll)) := by
    refine Eq.trans (World.cell?_of_block ?_) hs
    show ((w.alloc (.deferred (some []))).alloc (.loop (R .ready none))).heap[B]? = w.heap[B]?
    rw [Below.heap_alloc _ _ _ (by rw [World.size_alloc]; omega), Below.heap_alloc _ _ _ hB]
  have hI0 := h0 (R .ready none)
  refine ⟨_, _, _, { target := .fn (.func gf) lb, args := #[.func (.yield (w.heap.size + 1)) #[] #[]] }, (w.alloc (.deferred (some []))).alloc (.loop (R .ready none)), gf, #[.func (.yield (w.heap.size + 1)) #[] #[]] ++ lb, (w.alloc (.deferred (some []))).alloc (.loop (R .ready none)), hent, ?_, fun _ _ => trivial, ?_, fun _ => by omega, ?_⟩
  · simp only [resolve, hg]
    simp [go_sem]
  · simp [invoke, go_sem, eg]
  refine (hsp (w.heap.size + 1) (fun pre A => I pre A ∧ A.heap[w.heap.size + 1]? = some (.loop (R .ready none)) ∧ A.heap[w.heap.size]? = some (.deferred (some [])))
    (fun A => Ix A ∧ A.heap[w.heap.size + 1]? = some (.loop (R .done (some .ret))) ∧ A.heap[w.heap.size]? = some (.deferred (some []))) _ ?_ ?_ ?_ ⟨hI0, hlp, hdl⟩ hsB).mono ?_
  · rintro pre A x ⟨h1, h2, h3⟩
    exact ⟨hset pre A x h1, (Below.heap_setCell A ⟨B, 0, none⟩ _ _ (show w.heap.size + 1 ≠ B by omega)).trans h2, (Below.heap_setCell A ⟨B, 0, none⟩ _ _ (show w.heap.size ≠ B by omega)).trans h3⟩
  · rintro pre A ⟨h1, _, _⟩
    exact (hbox pre A h1).2
  · rintro pre p A ⟨h1, h2, h3⟩ hpre
    have hlt : w.heap.size + 1 < A.heap.size := (Array.getElem?_eq_some_iff.1 h2).1
    have hy := run_yield (P := P) (args := #[.string (bs p)]) h2 (by rw [hR]; exact hps.symm)
    rw [hR] at hy
    refine ⟨fn, _, assign, body, hy, roundIn_of_wpIn trivial (hassign _ p A _ ⟨_, run_beginRound h2 (by rw [hR]), ?_⟩)⟩
    obtain ⟨A1, hA1⟩ : ∃ A1, A.putObj (w.heap.size + 1) (.loop { R .ready none with state := .busy }) = A1 := ⟨_, rfl⟩
    have h2b : A1.heap[w.heap.size + 1]? = some (.loop { R .ready none with state := .busy }) := by rw [← hA1]; exact World.putObj_heap_same hlt
    have h3b : A1.heap[w.heap.size]? = some (.deferred (some [])) := by rw [← hA1]; exact (World.putObj_heap_other (by omega)).trans h3
    have h1b : I pre A1 := by rw [← hA1]; exact hput pre A _ _ h1 h2 rfl
    have hcb : A1.cell? ⟨B, 0, none⟩ = A.cell? ⟨B, 0, none⟩ := by
      rw [← hA1]
      obtain ⟨x, hx⟩ := (hbox pre A h1).1
      exact cell_put h2 rfl _ (by rw [hx]; exact fun e => by cases e)
    rw [hA1]
    refine wpIn_mono (hbody _ pre p A1 h1b hpre) ?_
    have hend : ∀ (j : Option Code) (A2 : World), Rounds w.heap.size B A1 A2 →
        (Instr.endRound (w.heap.size + 1) j).run P A2 = .ok (.bool j.isNone) (A2.putObj (w.heap.size + 1) (.loop (R (if j.isNone then .ready else .done) j))) ∧
        A2.heap[w.heap.size + 1]? = some (.loop { R .ready none with state := .busy }) ∧
        (A2.putObj (w.heap.size + 1) (.loop (R (if j.isNone then .ready else .done) j))).heap[w.heap.size + 1]? = some (.loop (R (if j.isNone then .ready else .done) j)) ∧
        (A2.putObj (w.heap.size + 1) (.loop (R (if j.isNone then .ready else .done) j))).heap[w.heap.size]? = some (.deferred (some [])) := fun j A2 hk => by
      have k2 := hk.1 _ _ (by omega) h2b rfl
      have k3 := hk.1 _ _ (Nat.le_refl _) h3b rfl
      have k4 := run_endRound (P := P) j k2
      rw [hR] at k4 ⊢
      exact ⟨k4, by rw [hR] at k2; exact k2, World.putObj_heap_same (Array.getElem?_eq_some_iff.1 k2).1, (World.putObj_heap_other (by omega)).trans k3⟩
    intro e a3 A2 hpst
    cases e with
    | normal =>
      obtain ⟨hk, hi⟩ := hpst
      obtain ⟨e1, e2, e3, e4⟩ := hend none A2 hk
      refine ⟨_, _, e1, .inl ⟨rfl, ⟨hput _ A2 _ _ hi e2 rfl, e3, e4⟩, ?_⟩⟩
      obtain ⟨x, hx⟩ := (hbox _ A2 hi).1
      exact (cell_put e2 rfl _ (by rw [hx]; exact fun e => by cases e)).trans (hk.2.trans hcb)
    | ret =>
      obtain ⟨hk, hi⟩ := hpst
      obtain ⟨e1, e2, e3, e4⟩ := hend (some .ret) A2 hk
      exact ⟨_, _, e1, .inr ⟨rfl, hputx A2 _ _ hi e2 rfl, e3, e4⟩⟩
    | exit id => exact hpst.elim
    | goto t => exact hpst.elim
    | panic ch => exact hpst.elim
    | outgrown => exact hpst.elim
  · rintro e A ⟨⟨v, rfl⟩, ⟨h1, h2, h3⟩ | ⟨h1, h2, h3⟩⟩
    · refine ⟨none, A.putObj (w.heap.size + 1) (.loop { R .ready none with state := .exhausted }), ?_, hdone _ (hput _ A _ _ h1 h2 rfl) ((World.putObj_heap_other (by omega)).trans h3)⟩
      have h9 := run_endLoop (P := P) h2 (by rw [hR]; simp)
      rw [hR] at h9 ⊢
      exact h9
    · refine ⟨some .ret, A.putObj (w.heap.size + 1) (.loop { R .done (some .ret) with state := .exhausted }), ?_, hstop _ (hputx A _ _ h1 h2 rfl) ((World.putObj_heap_other (by omega)).trans h3)⟩
      have h9 := run_endLoop (P := P) h2 (by rw [hR]; simp)
      rw [hR] at h9 ⊢
      exact h9
end Go.Proofs.YtjeigdlhjghinaaGreatDoor
