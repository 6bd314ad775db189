/-
  Several texts of this claim as one, group 13.
-/
import Derived.Test.YtipcgehcineblaaG12
import Derived.Deep.RegionHeld3
import Derived.Test.YtipcgehcineblaaG11
import Derived.Test.YtipcgehcineblaaG7
import Derived.Test.YtipcgehcineblaaG5
import Derived.Test.YtipcgehcineblaaG8
/-
  Package row at this seat: Scale, Sub.
-/
namespace Go.Proofs.Ytipcgehcineblaa
open Go.RowKit

set_option maxRecDepth 4096 in
set_option maxHeartbeats 4000000 in
theorem row_scale_row (v : Value) (z : Rat) (a0 : Option Addr) (n0 c0 : Nat) (L0 : List Fx) (w : World) (hv : Fr w v z 2097152000) (h0 : Fxs w a0 n0 c0 L0) (hn : n0 ≤ 300) (ht0 : thin 2097152000 L0) : Calls Try.prog 41 #[v, .slice a0 n0 c0] w (LstRow 34 (rscale z (fqs L0)) w) := by
  have HK0 := Lib.hid h0
  have HLl0 := Lib.hid h0.len
  have hbd0 := h0.bound
  have HTh0 := Lib.hid ht0
  clear h0 ht0
  obtain ⟨vs, va, vn, vc, vla, vb, vm, vd, vlb, rfl, hv1, hv2, hvn, hvm, hvq⟩ := hv
  have HV1 := Lib.hid hv1
  have HV2 := Lib.hid hv2
  have HVQ := Lib.hid hvq
  clear hv1 hv2 hvq
  have HTL : Hid ((rscale z (fqs L0)).length = n0) := Lib.hid (by rw [rscale_length, fqs_length, HLl0.out])
  obtain ⟨T, hTe⟩ : ∃ T, rscale z (fqs L0) = T := ⟨_, rfl⟩
  have ET := Lib.hid hTe
  rw [hTe] at HTL
  try rw [hTe]
  clear hTe
  obtain ⟨i0, hi, hz0, hz1, hz2⟩ := info_parts infoFracR
  go_enter Try.func41, Try.ntmps41
  try unfold frV
  go_wp2_with (at_make; refine wpList_make_fracs _ rfl _ _ 29 rfl (w.heap.size + 1) 34 i0 Try.underlying29 hi hz0 hz1 hz2 _ _ _ _ n0 rfl rfl (by omega) (by omega) (by omega) (by simp) ?_; intro wm hmade hgm hszm)
  have HO0 := Lib.hid (Half.start hmade)
  have HB0 : Hid (Below w.heap.size w wm) := Lib.hid (below_then (below_alloc _ _) ((Below.refl _ _).grown hgm (Nat.le_refl _) (fun k hk => by cases hk)))
  have X00 : Hid (wm.heap[w.heap.size]? = some (.cells #[.bool vs, .slice va vn vc, .slice vb vm vd] 34 (0, 0))) := Lib.hid (blk_later (blk_new _ _ _) ((Below.refl _ _).grown hgm (Nat.le_refl _) (fun k hk => by cases hk)))
  clear hmade hgm
  try simp only [World.size_alloc] at hszm HO0
  go_loopw [12] (fun iv wr => ∃ k r : Nat, k + r = n0 ∧ iv = .int .i64 (k : Int) ∧ Hid (Half wr (w.heap.size + 1) 34 (.slice (some ⟨w.heap.size + 1, 0, none⟩) n0 n0) (T.take k) r) ∧ Hid (Below w.heap.size w wr) ∧ w.heap.size + 1 < wr.heap.size ∧ Hid (wr.heap[w.heap.size]? = some (.cells #[.bool vs, .slice va vn vc, .slice vb vm vd] 34 (0, 0)))) (fun iv _ => n0 - (intOf iv).toNat)
  case atStart => exact ⟨0, n0, by omega, rfl, HO0, HB0, by omega, X00⟩
  case round =>
    clear HO0 HB0 X00
    obtain ⟨k, r, hk, rfl, HO, HB, hsz, X0⟩ := hrel
    by_cases hlt : k < n0
    · have hkT : k < T.length := by rw [HTL.out]; exact hlt
      obtain ⟨r, rfl⟩ : ∃ r', r = r' + 1 := ⟨r - 1, by omega⟩
      have HT : Hid (T.take (k + 1) = T.take k ++ [T.getD k 0]) := Lib.hid (q_more hkT)
      have HTv : Hid (T.getD k 0 = z * (L0.getD k Fx.zero).q) := Lib.hid (by rw [← ET.out]; rw [rscale_getD (by rw [fqs_length, HLl0.out]; exact hlt), fqs_getD (by rw [HLl0.out]; exact hlt)])
      obtain ⟨bb0, off0, rfl, e00, e10, e20, hok0⟩ := HK0.out.at hlt
      have hth0 := HTh0.out _ (fx_mem (L := L0) (k := k) (by rw [HLl0.out]; exact hlt))
      generalize L0.getD k Fx.zero = xk0 at *
      obtain ⟨sk0, ak0, nk0, ck0, lak0, bk0, mk0, dk0, lbk0⟩ := xk0
      obtain ⟨hA0, hB0⟩ := hok0
      simp only at e00 e10 e20 hA0 hB0 hth0
      obtain ⟨hth0, htj0⟩ := hth0
      have HE0 : Hid (w.cell? ⟨bb0, off0 + k * 3, none⟩ = some (.bool sk0) ∧ w.cell? ⟨bb0, off0 + k * 3 + 1, none⟩ = some (.slice ak0 nk0 ck0) ∧ w.cell? ⟨bb0, off0 + k * 3 + 2, none⟩ = some (.slice bk0 mk0 dk0)) := Lib.hid ⟨e00, e10, e20⟩
      have AK0 := Lib.hid hA0
      have BK0 := Lib.hid hB0
      clear hA0 hB0 e00 e10 e20
      generalize T.getD k 0 = tk at *
      replace HTv : Hid (tk = z * qval sk0 (val lak0) (val lbk0)) := HTv
      have hki : (k : Int) < (n0 : Int) := by omega
      have hk0 : (0 : Int) ≤ (k : Int) := by omega
      obtain ⟨e00, e10, e20⟩ := three_on HE0.out HB.out
      obtain ⟨x0, x1, x2⟩ := fcells_3 X0.out
      go_wp2
      have b0 : Below wr.heap.size wr wr.drew := (Below.refl _ _).drew
      replace HB := Lib.hid (below_then HB.out b0)
      replace HO := Lib.hid (HO.out.later b0)
      replace X0 := Lib.hid (blk_later X0.out b0)
      replace hsz := Nat.lt_of_lt_of_le hsz b0.size
      clear e00 e10 e20 x0 x1 x2 b0
      obtain ⟨e00, e10, e20⟩ := three_on HE0.out HB.out
      obtain ⟨x0, x1, x2⟩ := fcells_3 X0.out
      first | go_region_with (first
        | (go_at_call 13; refine (fracSaid.mul _ _ z (qval sk0 (val lak0) (val lbk0)) _ (Fr.of (HV1.out.later HB.out) (HV2.out.later HB.out) (by omega) (by omega) HVQ.out) (Fr.of (AK0.out.later HB.out) (BK0.out.later HB.out) (by omega) (by omega) rfl)).mono ?_; rintro e w4 ⟨a4, n4, c4, b4, m4, d4, rfl, h4, g4, bw⟩; rw [← HTv.out] at h4 g4 ⊢; clear e00 e10 e20 x0 x1 x2; replace HB := Lib.hid (below_then HB.out bw); replace HO := Lib.hid (HO.out.later bw); replace X0 := Lib.hid (blk_later X0.out bw); have hsz4 : w.heap.size + 1 < w4.heap.size := Nat.lt_of_lt_of_le hsz bw.size; have HA4 := Lib.hid h4; have HB4 := Lib.hid g4; clear bw hsz h4 g4; unfold frV; obtain ⟨⟨p0, p1, p2⟩, f0, f1, f2⟩ := HO.out.cell (k := k) (by rw [take_len (Nat.le_of_lt hkT)]))) | fail
      all_goals (
        obtain ⟨hst, hgr⟩ := HO.out.stored (k := k) (by rw [take_len (Nat.le_of_lt hkT)]) tk a4 n4 c4 b4 m4 d4 HA4.out HB4.out
        rw [← HT.out] at hst
        have HS := Lib.hid hst
        have HB5 := Lib.hid (HB.out.grown hgr HB.out.size (fun g' hg' => by simp at hg'; omega))
        have hsz5 := Nat.lt_of_lt_of_le hsz4 hgr.size
        have X5 := Lib.hid ((hgr.block w.heap.size (by omega) (fun e2 => by simp at e2)).trans X0.out)
        clear X0
        clear hst hgr HA4 HB4 HO HB HT HTv p0 p1 p2 f0 f1 f2
        go_wp2
        go_roundw
        case rel => exact ⟨k + 1, r, by omega, by go_num, HS, HB5, hsz5, X5⟩
        case measure => simp [intOf]; omega)
    · obtain rfl : k = n0 := by omega
      have HF := Lib.hid (HO.out.whole HTL.out (by omega))
      obtain ⟨a9, c9, e9, h9⟩ := HF.out.out
      rw [HTL.out] at e9 h9
      cases e9
      clear HO h9
      go_wp2
      go_ret
      exact ⟨_, rfl, row_weak HF.out (by omega), HB.out⟩
theorem row_scale (v : Value) (z : Rat) (a0 : Option Addr) (n0 c0 : Nat) (L0 : List Fx) (w : World) (hv : Fr w v z 2097152000) (h0 : Fxs w a0 n0 c0 L0) (hn : n0 ≤ 300) (ht0 : thin 2097152000 L0) : Calls Try.prog 41 #[v, .slice a0 n0 c0] w (LstRw (rscale z (fqs L0)) w) :=
  (row_scale_row v z a0 n0 c0 L0 w hv h0 hn ht0).mono fun _ _ h9 => h9.out
theorem radd_opp_getD {l m : List Rat} {k : Nat} (h : k < l.length) (h' : k < m.length) : (radd l (rscale (-1) m)).getD k 0 = l.getD k 0 - m.getD k 0 := by
  rw [radd_getD h (by rw [rscale_length]; exact h'), rscale_getD h']; grind
set_option maxRecDepth 4096 in
set_option maxHeartbeats 4000000 in
theorem row_sub_yes (a0 : Option Addr) (n0 c0 : Nat) (L0 : List Fx) (a1 : Option Addr) (n1 c1 : Nat) (L1 : List Fx) (w : World) (h0 : Fxs w a0 n0 c0 L0) (h1 : Fxs w a1 n1 c1 L1) (hn : n0 ≤ 300) (ht0 : thin 2097152000 L0) (ht1 : thin 2097152000 L1) (hs : Hid (n0 = n1)) : Calls Try.prog 42 #[.slice a0 n0 c0, .slice a1 n1 c1] w (LstRwV (radd (fqs L0) (rscale (-1) (fqs L1))) (.bool true) w) := by
  have HK0 := Lib.hid h0
  have HLl0 := Lib.hid h0.len
  have hbd0 := h0.bound
  have HTh0 := Lib.hid ht0
  clear h0 ht0
  have HK1 := Lib.hid h1
  have HLl1 := Lib.hid h1.len
  have hbd1 := h1.bound
  have HTh1 := Lib.hid ht1
  clear h1 ht1
  obtain rfl := hs.out
  clear hs
  have HTL : Hid ((radd (fqs L0) (rscale (-1) (fqs L1))).length = n0) := Lib.hid (by rw [radd_length _ _ (by rw [rscale_length, fqs_length, fqs_length, HLl0.out, HLl1.out]), fqs_length, HLl0.out])
  obtain ⟨T, hTe⟩ : ∃ T, radd (fqs L0) (rscale (-1) (fqs L1)) = T := ⟨_, rfl⟩
  have ET := Lib.hid hTe
  rw [hTe] at HTL
  try rw [hTe]
  clear hTe
  obtain ⟨i0, hi, hz0, hz1, hz2⟩ := info_parts infoFracR
  go_enter Try.func42, Try.ntmps42
  go_wp2_with (at_make; refine wpList_make_fracs _ rfl _ _ 29 rfl (w.heap.size) 34 i0 Try.underlying29 hi hz0 hz1 hz2 _ _ _ _ n0 rfl rfl (by omega) (by omega) (by omega) (by simp) ?_; intro wm hmade hgm hszm)
  have HO0 := Lib.hid (Half.start hmade)
  have HB0 : Hid (Below w.heap.size w wm) := Lib.hid ((Below.refl _ _).grown hgm (Nat.le_refl _) (fun k hk => by cases hk))
  clear hmade hgm
  try simp only [World.size_alloc] at hszm HO0
  go_loopw [18] (fun iv wr => ∃ k r : Nat, k + r = n0 ∧ iv = .int .i64 (k : Int) ∧ Hid (Half wr (w.heap.size) 34 (.slice (some ⟨w.heap.size, 0, none⟩) n0 n0) (T.take k) r) ∧ Hid (Below w.heap.size w wr) ∧ w.heap.size < wr.heap.size) (fun iv _ => n0 - (intOf iv).toNat)
  case atStart => exact ⟨0, n0, by omega, rfl, HO0, HB0, by omega⟩
  case round =>
    clear HO0 HB0
    obtain ⟨k, r, hk, rfl, HO, HB, hsz⟩ := hrel
    by_cases hlt : k < n0
    · have hkT : k < T.length := by rw [HTL.out]; exact hlt
      obtain ⟨r, rfl⟩ : ∃ r', r = r' + 1 := ⟨r - 1, by omega⟩
      have HT : Hid (T.take (k + 1) = T.take k ++ [T.getD k 0]) := Lib.hid (q_more hkT)
      have HTv : Hid (T.getD k 0 = (L0.getD k Fx.zero).q - (L1.getD k Fx.zero).q) := Lib.hid (by rw [← ET.out]; rw [radd_opp_getD (by rw [fqs_length, HLl0.out]; exact hlt) (by rw [fqs_length, HLl1.out]; exact hlt), fqs_getD (by rw [HLl0.out]; exact hlt), fqs_getD (by rw [HLl1.out]; exact hlt)])
      obtain ⟨bb0, off0, rfl, e00, e10, e20, hok0⟩ := HK0.out.at hlt
      have hth0 := HTh0.out _ (fx_mem (L := L0) (k := k) (by rw [HLl0.out]; exact hlt))
      generalize L0.getD k Fx.zero = xk0 at *
      obtain ⟨sk0, ak0, nk0, ck0, lak0, bk0, mk0, dk0, lbk0⟩ := xk0
      obtain ⟨hA0, hB0⟩ := hok0
      simp only at e00 e10 e20 hA0 hB0 hth0
      obtain ⟨hth0, htj0⟩ := hth0
      have HE0 : Hid (w.cell? ⟨bb0, off0 + k * 3, none⟩ = some (.bool sk0) ∧ w.cell? ⟨bb0, off0 + k * 3 + 1, none⟩ = some (.slice ak0 nk0 ck0) ∧ w.cell? ⟨bb0, off0 + k * 3 + 2, none⟩ = some (.slice bk0 mk0 dk0)) := Lib.hid ⟨e00, e10, e20⟩
      have AK0 := Lib.hid hA0
      have BK0 := Lib.hid hB0
      clear hA0 hB0 e00 e10 e20
      obtain ⟨bb1, off1, rfl, e01, e11, e21, hok1⟩ := HK1.out.at hlt
      have hth1 := HTh1.out _ (fx_mem (L := L1) (k := k) (by rw [HLl1.out]; exact hlt))
      generalize L1.getD k Fx.zero = xk1 at *
      obtain ⟨sk1, ak1, nk1, ck1, lak1, bk1, mk1, dk1, lbk1⟩ := xk1
      obtain ⟨hA1, hB1⟩ := hok1
      simp only at e01 e11 e21 hA1 hB1 hth1
      obtain ⟨hth1, htj1⟩ := hth1
      have HE1 : Hid (w.cell? ⟨bb1, off1 + k * 3, none⟩ = some (.bool sk1) ∧ w.cell? ⟨bb1, off1 + k * 3 + 1, none⟩ = some (.slice ak1 nk1 ck1) ∧ w.cell? ⟨bb1, off1 + k * 3 + 2, none⟩ = some (.slice bk1 mk1 dk1)) := Lib.hid ⟨e01, e11, e21⟩
      have AK1 := Lib.hid hA1
      have BK1 := Lib.hid hB1
      clear hA1 hB1 e01 e11 e21
      generalize T.getD k 0 = tk at *
      replace HTv : Hid (tk = qval sk0 (val lak0) (val lbk0) - qval sk1 (val lak1) (val lbk1)) := HTv
      have hki : (k : Int) < (n0 : Int) := by omega
      have hk0 : (0 : Int) ≤ (k : Int) := by omega
      obtain ⟨e00, e10, e20⟩ := three_on HE0.out HB.out
      obtain ⟨e01, e11, e21⟩ := three_on HE1.out HB.out
      go_wp2
      have b0 : Below wr.heap.size wr wr.drew := (Below.refl _ _).drew
      replace HB := Lib.hid (below_then HB.out b0)
      replace HO := Lib.hid (HO.out.later b0)
      replace hsz := Nat.lt_of_lt_of_le hsz b0.size
      clear e00 e10 e20 e01 e11 e21 b0
      obtain ⟨e00, e10, e20⟩ := three_on HE0.out HB.out
      obtain ⟨e01, e11, e21⟩ := three_on HE1.out HB.out
      first | go_region_with (first
        | (go_at_call 64; refine (fracSaid.sub _ _ (qval sk0 (val lak0) (val lbk0)) (qval sk1 (val lak1) (val lbk1)) _ (Fr.of (AK0.out.later HB.out) (BK0.out.later HB.out) (by omega) (by omega) rfl) (Fr.of (AK1.out.later HB.out) (BK1.out.later HB.out) (by omega) (by omega) rfl)).mono ?_; rintro e w4 ⟨a4, n4, c4, b4, m4, d4, rfl, h4, g4, bw⟩; rw [← HTv.out] at h4 g4 ⊢; clear e00 e10 e20 e01 e11 e21; replace HB := Lib.hid (below_then HB.out bw); replace HO := Lib.hid (HO.out.later bw); have hsz4 : w.heap.size < w4.heap.size := Nat.lt_of_lt_of_le hsz bw.size; have HA4 := Lib.hid h4; have HB4 := Lib.hid g4; clear bw hsz h4 g4; unfold frV; obtain ⟨⟨p0, p1, p2⟩, f0, f1, f2⟩ := HO.out.cell (k := k) (by rw [take_len (Nat.le_of_lt hkT)]))) | fail
      all_goals (
        obtain ⟨hst, hgr⟩ := HO.out.stored (k := k) (by rw [take_len (Nat.le_of_lt hkT)]) tk a4 n4 c4 b4 m4 d4 HA4.out HB4.out
        rw [← HT.out] at hst
        have HS := Lib.hid hst
        have HB5 := Lib.hid (HB.out.grown hgr HB.out.size (fun g' hg' => by simp at hg'; omega))
        have hsz5 := Nat.lt_of_lt_of_le hsz4 hgr.size
        clear hst hgr HA4 HB4 HO HB HT HTv p0 p1 p2 f0 f1 f2
        go_wp2
        go_roundw
        case rel => exact ⟨k + 1, r, by omega, by go_num, HS, HB5, hsz5⟩
        case measure => simp [intOf]; omega)
    · obtain rfl : k = n0 := by omega
      have HF := Lib.hid (HO.out.whole HTL.out (by omega))
      obtain ⟨a9, c9, e9, h9⟩ := HF.out.out
      rw [HTL.out] at e9 h9
      cases e9
      have HF9 := Lib.hid h9
      clear HO h9 HF
      go_wp2
      go_ret2
      exact ⟨_, _, _, rfl, HF9.out, HB.out⟩
end Go.Proofs.Ytipcgehcineblaa

/-
  Package row at this seat: total.
-/
namespace Go.Proofs.Ytipcgehcineblaa
open Go.RowKit

def rsum : List Rat → Rat
  | [] => 0
  | q :: l => q + rsum l
theorem rsum_append : ∀ l m : List Rat, rsum (l ++ m) = rsum l + rsum m
  | [], m => by
    show rsum m = 0 + rsum m
    grind
  | q :: l, m => by
    show q + rsum (l ++ m) = (q + rsum l) + rsum m
    rw [rsum_append l m]; grind
theorem qlen_rsum {K : Nat} : ∀ {l : List Rat}, (∀ q ∈ l, qlen q ≤ K) → qlen (rsum l) ≤ 1 + l.length * (K + 2)
  | [], _ => by
    show qlen 0 ≤ 1 + 0 * (K + 2)
    rw [qlen_nought]; omega
  | q :: l, h => by
    have h1 := qlen_rsum (l := l) (fun x hx => h x (List.mem_cons_of_mem _ hx))
    have h2 := h q (List.mem_cons_self ..)
    have h3 := qlen_add q (rsum l)
    have h4 : (q :: l).length * (K + 2) = l.length * (K + 2) + (K + 2) := by rw [List.length_cons, Nat.add_mul, Nat.one_mul]
    show qlen (q + rsum l) ≤ _
    omega
theorem Fxs.take {w : World} {a : Option Addr} {n cap : Nat} {L : List Fx} (h : Fxs w a n cap L) {k : Nat} (hk : k ≤ n) : Fxs w a k cap (L.take k) := by
  obtain ⟨h1, h2, h3, h4, h6, h5⟩ := h
  refine ⟨by rw [List.length_take]; omega, by omega, h3, h4, fun x hx => h6 x (List.mem_of_mem_take hx), ?_⟩
  rcases h5 with h0 | ⟨b, off, e, hc⟩
  · exact .inl (by omega)
  · refine .inr ⟨b, off, e, fun j hj => ?_⟩
    have h7 := hc j (by omega)
    have e2 : (L.take k).getD j Fx.zero = L.getD j Fx.zero := by
      rw [List.getD_eq_getElem?_getD, List.getElem?_take, if_pos hj, ← List.getD_eq_getElem?_getD]
    rw [e2]
    exact h7
theorem Fxs.drop {w : World} {b off m cap q : Nat} {L : List Fx} (h : Fxs w (some ⟨b, off, none⟩) (q + m) cap L) : Fxs w (some ⟨b, off + q * 3, none⟩) m (cap - q) (L.drop q) := by
  have h1 := h.bound
  have h2 := h.len
  refine ⟨by rw [List.length_drop]; omega, by omega, by omega, fun e => (by cases e), fun x hx => h.ok (List.mem_of_mem_drop hx), ?_⟩
  rcases h.2.2.2.2.2 with h0 | ⟨b', off', e, hc⟩
  · exact .inl (by omega)
  · simp only [Option.some.injEq, Addr.mk.injEq, and_true] at e
    obtain ⟨rfl, rfl⟩ := e
    refine .inr ⟨b, off + q * 3, rfl, fun j hj => ?_⟩
    have h7 := hc (q + j) (by omega)
    have e2 : (L.drop q).getD j Fx.zero = L.getD (q + j) Fx.zero := by
      rw [List.getD_eq_getElem?_getD, List.getElem?_drop, ← List.getD_eq_getElem?_getD]
    have e3 : off + q * 3 + j * 3 = off + (q + j) * 3 := by omega
    rw [e2, e3]
    exact h7
theorem thin.qs {N : Nat} {L : List Fx} {w : World} (h : thin N L) (hok : ∀ x ∈ L, x.ok w) : ∀ q ∈ fqs L, qlen q ≤ N + 1 := fun q hq => by
  obtain ⟨x, hx, rfl⟩ := List.mem_map.1 hq
  exact ((hok x hx).fr (h x hx).1 (h x hx).2).len
theorem Fxs.oks {w : World} {a : Option Addr} {n cap : Nat} {L : List Fx} (h : Fxs w a n cap L) : ∀ x ∈ L, x.ok w := h.2.2.2.2.1
/-- What total hands back: a fraction of the sum's value; a right one, but where it is the row's only one. -/
def LstT (L : List Fx) (w : World) (e : Ending) (w' : World) : Prop := ∃ (s : Bool) (a : Option Addr) (n c : Nat) (la : List Nat) (b : Option Addr) (m d : Nat) (lb : List Nat), e = .returned (frV s a n c b m d) ∧ Wd w' a n c la ∧ Wd w' b m d lb ∧ qval s (val la) (val lb) = rsum (fqs L) ∧
  ((⟨s, a, n, c, la, b, m, d, lb⟩ : Fx) ∈ L ∨ (⟨s, a, n, c, la, b, m, d, lb⟩ : Fx).right) ∧ (L.length ≠ 1 → (⟨s, a, n, c, la, b, m, d, lb⟩ : Fx).right) ∧ Below w.heap.size w w'
theorem right_len {w : World} {x : Fx} (h : x.ok w) (hr : x.right) {K : Nat} (hK : qlen x.q ≤ K) : x.n ≤ K ∧ x.m ≤ K := by
  obtain ⟨h1, h2⟩ := h
  obtain ⟨-, h4, h5⟩ := hr
  have e1 := h1.len
  have e2 := h2.len
  rw [h4] at e1
  rw [h5] at e2
  have := qlen_num x.q
  have := qlen_den x.q
  omega
theorem lstT_bound {w : World} {x : Fx} {L : List Fx} {N : Nat} (hx : x.ok w) (hq : x.q = rsum (fqs L)) (hm : x ∈ L ∨ x.right) (ht : thin N L) (hl : qlen (rsum (fqs L)) ≤ 2097152000) (hN : N ≤ 2097152000) : x.n ≤ 2097152000 ∧ x.m ≤ 2097152000 := by
  rcases hm with hm | hm
  · have := ht x hm
    omega
  · exact right_len hx hm (by rw [hq]; exact hl)
set_option maxRecDepth 4096 in
set_option maxHeartbeats 4000000 in
theorem row_total (n : Nat) : ∀ (a : Option Addr) (cap : Nat) (L : List Fx) (N : Nat) (w : World), Fxs w a n cap L → thin N L → 1 + (n - 1) * (N + 3) ≤ 2097152000 → N ≤ 2097152000 → Calls Try.prog 45 #[.slice a n cap] w (LstT L w) := by
  induction n using Nat.strongRecOn with
  | _ n ih =>
  intro a cap L N w h ht hb hN
  obtain ⟨hb1, hb2⟩ := h.bound
  have HTh := Lib.hid ht
  have HBd := Lib.hid hb
  have HB := Lib.hid (below_alloc w (.cells #[.bool false, .slice none 0 0, .slice none 0 0] 34))
  have HR := Lib.hid (blk_new w #[.bool false, .slice none 0 0, .slice none 0 0] 34)
  have HKw := Lib.hid h
  have HK := Lib.hid (h.later HB.out)
  have HLl := Lib.hid h.len
  clear h ht hb
  by_cases h0 : n = 0
  · subst h0
    have hQ0 : ((0 : Int) : Rat) = rsum (fqs L) := by rw [List.eq_nil_of_length_eq_zero HLl.out]; rfl
    obtain ⟨q, htq⟩ : ∃ q, rsum (fqs L) = q := ⟨_, rfl⟩
    have HTQ := Lib.hid htq
    have HQ0 : Hid (((0 : Int) : Rat) = q) := Lib.hid (hQ0.trans htq)
    clear ih HK HKw hQ0 htq
    go_enter Try.func45, Try.ntmps45
    obtain ⟨vk0, vk1, vk2⟩ := fcells_3 HR.out
    go_wp2_with fail
    refine (frac_of 0 _ isInt_nought).mono ?_
    rintro e wv1 ⟨a1, n1, c1, b1, m1, d1, rfl, h1, g1, b⟩
    clear vk0 vk1 vk2
    replace HB := Lib.hid (below_then HB.out b)
    replace HR := Lib.hid (blk_later HR.out b)
    clear b
    rw [HQ0.out] at h1 g1 ⊢
    have R1 := Lib.hid h1
    have T1 := Lib.hid g1
    clear h1 g1
    unfold frV
    have q0 := blk_cell HR.out 0
    have q1 := blk_cell HR.out 1
    have q2 := blk_cell HR.out 2
    simp only [List.getElem?_toArray, List.getElem?_cons_zero, List.getElem?_cons_succ] at q0 q1 q2
    have f0 := blk_free HR.out 0
    have f1 := blk_free HR.out 1
    have f2 := blk_free HR.out 2
    replace R1 := Lib.hid (R1.out.stored3 HR.out ((zneg q.num)) a1 n1 c1 (.slice b1 m1 d1))
    replace T1 := Lib.hid (T1.out.stored3 HR.out ((zneg q.num)) a1 n1 c1 (.slice b1 m1 d1))
    replace HB := Lib.hid (below_set3 HB.out (show w.heap.size ≤ w.heap.size by omega) (.bool (zneg q.num)) (.slice a1 n1 c1) (.slice b1 m1 d1))
    replace HR := Lib.hid (blk_set3 HR.out (.bool (zneg q.num)) (.slice a1 n1 c1) (.slice b1 m1 d1))
    go_wp2
    refine bodyPost_ret (results_cell_row Try.results45 _ _ (w.heap.size) 34 #[.bool (zneg q.num), .slice a1 n1 c1, .slice b1 m1 d1] (0, 0) _ rfl HR.out Try.underlying34 rfl (by kernel_rfl)) rfl ?_
    exact ⟨_, a1, n1, c1, _, b1, m1, d1, _, rfl, R1.out, T1.out, (qval_dg q).trans HTQ.out.symm, .inr (rx_right q a1 n1 c1 b1 m1 d1), fun _ => rx_right q a1 n1 c1 b1 m1 d1, HB.out⟩
  · by_cases h1 : n = 1
    · subst h1
      obtain ⟨bb, off, rfl, e0, e1, e2, hok⟩ := HK.out.at (j := 0) (by omega)
      have hm0 : L.getD 0 Fx.zero ∈ L := fx_mem (by rw [HLl.out]; omega)
      have hs0 : rsum (fqs L) = (L.getD 0 Fx.zero).q := by
        match L, HLl.out with
        | [x], _ =>
          show x.q + 0 = x.q
          grind
      have HN1 : Hid (L.length = 1) := Lib.hid HLl.out
      have hok9 := HKw.out.oks _ hm0
      generalize L.getD 0 Fx.zero = x at *
      obtain ⟨sx, ax, nx, cx, lax, bx, mx, dx, lbx⟩ := x
      simp only [Nat.zero_mul, Nat.add_zero] at e0 e1 e2
      replace HR := Lib.hid (blk_new w #[.bool sx, .slice ax nx cx, .slice bx mx dx] 34)
      replace HB := Lib.hid (below_alloc w (.cells #[.bool sx, .slice ax nx cx, .slice bx mx dx] 34))
      have R1 := Lib.hid (hok9.1.later HB.out)
      have T1 := Lib.hid (hok9.2.later HB.out)
      have HM := Lib.hid hm0
      have HS := Lib.hid hs0
      simp only at R1 T1
      clear ih hok hok9 hm0 hs0 HK HKw
      go_enter Try.func45, Try.ntmps45
      go_wp2
      refine bodyPost_ret (results_cell_row Try.results45 _ _ (w.heap.size) 34 #[.bool sx, .slice ax nx cx, .slice bx mx dx] (0, 0) _ rfl HR.out Try.underlying34 rfl (by kernel_rfl)) rfl ?_
      exact ⟨_, ax, nx, cx, lax, bx, mx, dx, lbx, rfl, R1.out, T1.out, HS.out.symm, .inl HM.out, fun h => absurd HN1.out h, HB.out⟩
    · obtain ⟨hh, hhh⟩ : ∃ hh, hh = n / 2 := ⟨_, rfl⟩
      obtain ⟨m, rfl⟩ : ∃ m, n = hh + m := ⟨n - hh, by omega⟩
      have hhp : 0 < hh := by omega
      have hmp : 0 < m := by omega
      have hq : ((hh : Int) + (m : Int)) / 2 = (hh : Int) := by omega
      obtain ⟨b, off, rfl, -, -, -, -⟩ := HK.out.at (j := 0) (by omega)
      have HA := Lib.hid (HKw.out.take (k := hh) (by omega))
      have HC := Lib.hid HKw.out.drop
      have HtA : Hid (thin N (L.take hh)) := Lib.hid (fun x hx => HTh.out x (List.mem_of_mem_take hx))
      have HtC : Hid (thin N (L.drop hh)) := Lib.hid (fun x hx => HTh.out x (List.mem_of_mem_drop hx))
      have hbA : 1 + (hh - 1) * (N + 3) ≤ 2097152000 := Nat.le_trans (Nat.add_le_add_left (Nat.mul_le_mul_right _ (by omega)) 1) HBd.out
      have hbC : 1 + (m - 1) * (N + 3) ≤ 2097152000 := Nat.le_trans (Nat.add_le_add_left (Nat.mul_le_mul_right _ (by omega)) 1) HBd.out
      have HsA : Hid (qlen (rsum (fqs (L.take hh))) ≤ 2097152000) := Lib.hid (by
        have h9 := qlen_rsum (HtA.out.qs HA.out.oks)
        rw [fqs_length, HA.out.len] at h9
        exact Nat.le_trans h9 (Nat.le_trans (Nat.add_le_add_left (Nat.mul_le_mul_right _ (by omega)) 1) HBd.out))
      have HsC : Hid (qlen (rsum (fqs (L.drop hh))) ≤ 2097152000) := Lib.hid (by
        have h9 := qlen_rsum (HtC.out.qs HC.out.oks)
        rw [fqs_length, HC.out.len] at h9
        exact Nat.le_trans h9 (Nat.le_trans (Nat.add_le_add_left (Nat.mul_le_mul_right _ (by omega)) 1) HBd.out))
      obtain ⟨tq, htq⟩ : ∃ tq, rsum (fqs L) = tq := ⟨_, rfl⟩
      have HS : Hid (rsum (fqs (L.take hh)) + rsum (fqs (L.drop hh)) = tq) := Lib.hid (by
        rw [← htq, ← rsum_append]
        unfold fqs
        rw [← List.map_append, List.take_append_drop])
      have HTQ := Lib.hid htq
      have ihA := Lib.hid (fun wz (hz : Below w.heap.size w wz) => ih hh (by omega) (some ⟨b, off, none⟩) cap (L.take hh) N wz (HA.out.later hz) HtA.out hbA hN)
      have ihC := Lib.hid (fun wz (hz : Below w.heap.size w wz) => ih m (by omega) (some ⟨b, off + hh * 3, none⟩) (cap - hh) (L.drop hh) N wz (HC.out.later hz) HtC.out hbC hN)
      have hi2 : (hh : Int) ≤ (cap : Int) := by omega
      have hi3 : (hh : Int) ≤ (hh : Int) + (m : Int) := by omega
      have hi4 : (2 : Int) ≤ (hh : Int) + (m : Int) := by omega
      have hne : ¬ cap = hh := by omega
      have HN1 : Hid (L.length ≠ 1) := Lib.hid (by rw [HLl.out]; omega)
      clear ih hhh HK HKw hbA hbC htq HA HC
      go_enter Try.func45, Try.ntmps45
      go_wp2
      have HB0 : Hid (Below w.heap.size w (w.alloc (.cells #[.bool false, .slice none 0 0, .slice none 0 0] 34)).drew) := Lib.hid (below_then HB.out (Below.refl _ _).drew)
      have HR0 : Hid ((w.alloc (.cells #[.bool false, .slice none 0 0, .slice none 0 0] 34)).drew.heap[w.heap.size]? = some (.cells #[.bool false, .slice none 0 0, .slice none 0 0] 34 (0, 0))) := Lib.hid HR.out
      clear HB HR
      first | go_region_with (first
        | (go_at_call 45; (first
          | ((with_reducible refine (ihA.out _ ?hz).mono ?_); (case hz => exact HB0.out); rintro e w1 ⟨s1, a1, n1, c1, la1, b1, m1, d1, lb1, rfl, h1, g1, q1, o1, -, bw1⟩; have HB1 := Lib.hid (below_then HB0.out bw1); have HR1 := Lib.hid (blk_later HR0.out bw1); have R1 := Lib.hid h1; have T1 := Lib.hid g1; have Q1 := Lib.hid q1; have O1 := Lib.hid o1; clear h1 g1 q1 o1 bw1 HB0 HR0)
          | ((refine (ihC.out _ ?hz).mono ?_); (case hz => exact HB1.out); rintro e w2 ⟨s2, a2, n2, c2, la2, b2, m2, d2, lb2, rfl, h2, g2, q2, o2, -, bw2⟩; have HB2 := Lib.hid (below_then HB1.out bw2); have HR2 := Lib.hid (blk_later HR1.out bw2); replace R1 := Lib.hid (R1.out.later bw2); replace T1 := Lib.hid (T1.out.later bw2); have R2 := Lib.hid h2; have T2 := Lib.hid g2; have Q2 := Lib.hid q2; have O2 := Lib.hid o2; clear h2 g2 q2 o2 bw2 HB1 HR1; obtain ⟨lx1, ly1⟩ := lstT_bound (x := ⟨s1, a1, n1, c1, la1, b1, m1, d1, lb1⟩) ⟨R1.out, T1.out⟩ Q1.out O1.out HtA.out HsA.out hN; obtain ⟨lx2, ly2⟩ := lstT_bound (x := ⟨s2, a2, n2, c2, la2, b2, m2, d2, lb2⟩) ⟨R2.out, T2.out⟩ Q2.out O2.out HtC.out HsC.out hN; simp only at lx1 ly1 lx2 ly2)))
        | (go_at_call 15; (refine (fracSaid.add (frV s1 a1 n1 c1 b1 m1 d1) (frV s2 a2 n2 c2 b2 m2 d2) (qval s1 (val la1) (val lb1)) (qval s2 (val la2) (val lb2)) _ (Fr.of R1.out T1.out lx1 ly1 rfl) (Fr.of R2.out T2.out lx2 ly2 rfl)).mono ?_); rintro e w3 ⟨a3, n3, c3, b3, m3, d3, rfl, h3, g3, bw3⟩; rw [Q1.out, Q2.out, HS.out] at h3 g3 ⊢; have HB := Lib.hid (below_then HB2.out bw3); have HR := Lib.hid (blk_later HR2.out bw3); have R3 := Lib.hid h3; have T3 := Lib.hid g3; clear bw3 h3 g3 HB2 HR2 R1 T1 R2 T2; unfold frV; have q0 := blk_cell HR.out 0; have q1 := blk_cell HR.out 1; have q2 := blk_cell HR.out 2; simp only [List.getElem?_toArray, List.getElem?_cons_zero, List.getElem?_cons_succ] at q0 q1 q2; have f0 := blk_free HR.out 0; have f1 := blk_free HR.out 1; have f2 := blk_free HR.out 2; replace R3 := Lib.hid (R3.out.stored3 HR.out ((zneg tq.num)) a3 n3 c3 (.slice b3 m3 d3)); replace T3 := Lib.hid (T3.out.stored3 HR.out ((zneg tq.num)) a3 n3 c3 (.slice b3 m3 d3)); replace HB := Lib.hid (below_set3 HB.out (show w.heap.size ≤ w.heap.size by omega) (.bool (zneg tq.num)) (.slice a3 n3 c3) (.slice b3 m3 d3)); replace HR := Lib.hid (blk_set3 HR.out (.bool (zneg tq.num)) (.slice a3 n3 c3) (.slice b3 m3 d3)))) | fail
      all_goals (
        go_wp2
        refine bodyPost_ret (results_cell_row Try.results45 _ _ (w.heap.size) 34 #[.bool (zneg tq.num), .slice a3 n3 c3, .slice b3 m3 d3] (0, 0) _ rfl HR.out Try.underlying34 rfl (by kernel_rfl)) rfl ?_
        exact ⟨_, a3, n3, c3, _, b3, m3, d3, _, rfl, R3.out, T3.out, (qval_dg tq).trans HTQ.out.symm, .inr (rx_right tq a3 n3 c3 b3 m3 d3), fun _ => rx_right tq a3 n3 c3 b3 m3 d3, HB.out⟩)
end Go.Proofs.Ytipcgehcineblaa

/-
  Package row at this seat: Dot, Norm, Size.
-/
namespace Go.Proofs.Ytipcgehcineblaa
open Go.RowKit

theorem rdot_eq_rsum : ∀ l m : List Rat, rdot l m = rsum (List.zipWith (fun x y => x * y) l m)
  | [], [] => rfl
  | [], _ :: _ => rfl
  | _ :: _, [] => rfl
  | x :: l, y :: m => by
    show x * y + rdot l m = x * y + rsum (List.zipWith (fun x y => x * y) l m)
    rw [rdot_eq_rsum l m]
def rprods (l m : List Rat) : List Rat := List.zipWith (fun x y => x * y) l m
theorem rprods_length {l m : List Rat} (h : l.length = m.length) : (rprods l m).length = l.length := by
  unfold rprods
  rw [List.length_zipWith, ← h, Nat.min_self]
theorem rprods_getD {l m : List Rat} {k : Nat} (h : k < l.length) (h' : k < m.length) : (rprods l m).getD k 0 = l.getD k 0 * m.getD k 0 := by
  unfold rprods
  rw [List.getD_eq_getElem?_getD, List.getElem?_zipWith, List.getElem?_eq_getElem h, List.getElem?_eq_getElem h', List.getD_eq_getElem?_getD, List.getD_eq_getElem?_getD, List.getElem?_eq_getElem h, List.getElem?_eq_getElem h']; rfl
theorem rprods_qlen {N K : Nat} {l m : List Rat} (hl : ∀ q ∈ l, qlen q ≤ N) (hm : ∀ q ∈ m, qlen q ≤ K) : ∀ q ∈ rprods l m, qlen q ≤ N + K + 1 := fun q hq => by
  obtain ⟨i, hi, rfl⟩ := List.getElem_of_mem hq
  unfold rprods at hi
  rw [List.length_zipWith] at hi
  have h1 := hl _ (List.getElem_mem (show i < l.length by omega))
  have h2 := hm _ (List.getElem_mem (show i < m.length by omega))
  have h3 := qlen_mul (l[i]'(by omega)) (m[i]'(by omega))
  unfold rprods
  rw [List.getElem_zipWith]
  omega
/-- A sum of right fractions handed back by total. -/
theorem LstT.right {L : List Fx} {w w' : World} {e : Ending} (h : LstT L w e w') (hr : ∀ x ∈ L, x.right) : LstQ (rsum (fqs L)) w e w' := by
  obtain ⟨s, a, n, c, la, b, m, d, lb, rfl, h1, h2, h3, h4, -, h6⟩ := h
  have h5 : (⟨s, a, n, c, la, b, m, d, lb⟩ : Fx).right := h4.elim (hr _) id
  obtain ⟨r1, r2, r3⟩ := h5
  have h3' : (⟨s, a, n, c, la, b, m, d, lb⟩ : Fx).q = rsum (fqs L) := h3
  rw [h3'] at r1 r2 r3
  simp only at r1 r2 r3
  rw [r2] at h1
  rw [r3] at h2
  rw [r1]
  exact ⟨a, n, c, b, m, d, rfl, h1, h2, h6⟩
theorem LstT.many {L : List Fx} {w w' : World} {e : Ending} (h : LstT L w e w') (hr : L.length ≠ 1) : LstQ (rsum (fqs L)) w e w' := by
  obtain ⟨s, a, n, c, la, b, m, d, lb, rfl, h1, h2, h3, -, h4, h6⟩ := h
  obtain ⟨r1, r2, r3⟩ := h4 hr
  have h3' : (⟨s, a, n, c, la, b, m, d, lb⟩ : Fx).q = rsum (fqs L) := h3
  rw [h3'] at r1 r2 r3
  simp only at r1 r2 r3
  rw [r2] at h1
  rw [r3] at h2
  rw [r1]
  exact ⟨a, n, c, b, m, d, rfl, h1, h2, h6⟩
theorem total_rw {a : Option Addr} {n cap : Nat} {qs : List Rat} {N : Nat} (w : World) (h : Rw w a n cap qs) (hq : ∀ q ∈ qs, qlen q ≤ N) (hb : 1 + (n - 1) * (N + 3) ≤ 2097152000) (hN : N ≤ 2097152000) : Calls Try.prog 45 #[.slice a n cap] w (LstQ (rsum qs) w) := by
  obtain ⟨L, h1, h2, h3⟩ := h
  have ht : thin N L := fun x hx => by
    obtain ⟨h4, h5, h6⟩ := h3 x hx
    exact right_len (h1.ok hx) ⟨h4, h5, h6⟩ (hq _ (h2 ▸ List.mem_map.2 ⟨x, hx, rfl⟩))
  refine (row_total n a cap L N w h1 ht hb hN).mono fun e w' h9 => ?_
  have h8 := h9.right h3
  unfold fqs at h8
  rwa [h2] at h8
set_option maxRecDepth 4096 in
set_option maxHeartbeats 4000000 in
theorem row_dot_two (a0 : Option Addr) (n0 c0 : Nat) (L0 : List Fx) (a1 : Option Addr) (n1 c1 : Nat) (L1 : List Fx) (N K : Nat) (w : World) (h0 : Fxs w a0 n0 c0 L0) (h1 : Fxs w a1 n1 c1 L1) (hn : n0 ≤ 300) (ht0 : thin N L0) (ht1 : thin K L1) (hs : Hid (n0 = n1)) (hb9 : 1 + n0 * (N + K + 6) ≤ 2097152000) (hN9 : N + K + 3 ≤ 2097152000) : Calls Try.prog 25 #[.slice a0 n0 c0, .slice a1 n1 c1] w (LstQV (rdot (fqs L0) (fqs L1)) (.bool true) w) := by
  obtain ⟨K9, hK9⟩ : ∃ K9, N + 1 + (K + 1) + 1 = K9 := ⟨_, rfl⟩
  have HK9 : Hid (K9 + 3 = N + K + 6) := Lib.hid (by omega)
  have hK8 : K9 ≤ 2097152000 := by omega
  have HQ9 : Hid (∀ q ∈ rprods (fqs L0) (fqs L1), qlen q ≤ K9) := Lib.hid (by rw [← hK9]; exact rprods_qlen (ht0.qs h0.oks) (ht1.qs h1.oks))
  clear hK9
  have HK0 := Lib.hid h0
  have HLl0 := Lib.hid h0.len
  have hbd0 := h0.bound
  have HTh0 := Lib.hid ht0
  clear h0 ht0
  have HK1 := Lib.hid h1
  have HLl1 := Lib.hid h1.len
  have hbd1 := h1.bound
  have HTh1 := Lib.hid ht1
  clear h1 ht1
  obtain rfl := hs.out
  clear hs
  obtain ⟨q, hq9⟩ : ∃ q, rdot (fqs L0) (fqs L1) = q := ⟨_, rfl⟩
  rw [hq9]
  have HSM0 : Hid (rsum (rprods (fqs L0) (fqs L1)) = q) := Lib.hid (by rw [← hq9, rdot_eq_rsum]; rfl)
  clear hq9
  have HTL : Hid ((rprods (fqs L0) (fqs L1)).length = n0) := Lib.hid (by rw [rprods_length (by rw [fqs_length, fqs_length, HLl0.out, HLl1.out]), fqs_length, HLl0.out])
  obtain ⟨T, hTe⟩ : ∃ T, rprods (fqs L0) (fqs L1) = T := ⟨_, rfl⟩
  have ET := Lib.hid hTe
  have HQL : Hid (∀ q ∈ T, qlen q ≤ K9) := Lib.hid (hTe ▸ HQ9.out)
  have HSM : Hid (rsum T = q) := Lib.hid (hTe ▸ HSM0.out)
  clear HQ9 HSM0
  rw [hTe] at HTL
  try rw [hTe]
  clear hTe
  obtain ⟨i0, hi, hz0, hz1, hz2⟩ := info_parts infoFracR
  go_enter Try.func25, Try.ntmps25
  try unfold frV
  go_wp2_with (at_make; refine wpList_make_fracs _ rfl _ _ 29 rfl (w.heap.size + 1) 34 i0 Try.underlying29 hi hz0 hz1 hz2 _ _ _ _ n0 rfl rfl (by omega) (by omega) (by omega) (by simp) ?_; intro wm hmade hgm hszm)
  have HO0 := Lib.hid (Half.start hmade)
  have HB0 : Hid (Below w.heap.size w wm) := Lib.hid (below_then (below_alloc _ _) ((Below.refl _ _).grown hgm (Nat.le_refl _) (fun k hk => by cases hk)))
  have X00 : Hid (wm.heap[w.heap.size]? = some (.cells #[.bool false, .slice none 0 0, .slice none 0 0] 34 (0, 0))) := Lib.hid (blk_later (blk_new _ _ _) ((Below.refl _ _).grown hgm (Nat.le_refl _) (fun k hk => by cases hk)))
  clear hmade hgm
  try simp only [World.size_alloc] at hszm HO0
  go_loopw [19] (fun iv wr => ∃ k r : Nat, k + r = n0 ∧ iv = .int .i64 (k : Int) ∧ Hid (Half wr (w.heap.size + 1) 34 (.slice (some ⟨w.heap.size + 1, 0, none⟩) n0 n0) (T.take k) r) ∧ Hid (Below w.heap.size w wr) ∧ w.heap.size + 1 < wr.heap.size ∧ Hid (wr.heap[w.heap.size]? = some (.cells #[.bool false, .slice none 0 0, .slice none 0 0] 34 (0, 0)))) (fun iv _ => n0 - (intOf iv).toNat)
  case atStart => exact ⟨0, n0, by omega, rfl, HO0, HB0, by omega, X00⟩
  case round =>
    clear HO0 HB0 X00
    obtain ⟨k, r, hk, rfl, HO, HB, hsz, X0⟩ := hrel
    by_cases hlt : k < n0
    · have hkT : k < T.length := by rw [HTL.out]; exact hlt
      obtain ⟨r, rfl⟩ : ∃ r', r = r' + 1 := ⟨r - 1, by omega⟩
      have HT : Hid (T.take (k + 1) = T.take k ++ [T.getD k 0]) := Lib.hid (q_more hkT)
      have HTv : Hid (T.getD k 0 = (L0.getD k Fx.zero).q * (L1.getD k Fx.zero).q) := Lib.hid (by rw [← ET.out]; rw [rprods_getD (by rw [fqs_length, HLl0.out]; exact hlt) (by rw [fqs_length, HLl1.out]; exact hlt), fqs_getD (by rw [HLl0.out]; exact hlt), fqs_getD (by rw [HLl1.out]; exact hlt)])
      obtain ⟨bb0, off0, rfl, e00, e10, e20, hok0⟩ := HK0.out.at hlt
      have hth0 := HTh0.out _ (fx_mem (L := L0) (k := k) (by rw [HLl0.out]; exact hlt))
      generalize L0.getD k Fx.zero = xk0 at *
      obtain ⟨sk0, ak0, nk0, ck0, lak0, bk0, mk0, dk0, lbk0⟩ := xk0
      obtain ⟨hA0, hB0⟩ := hok0
      simp only at e00 e10 e20 hA0 hB0 hth0
      obtain ⟨hth0, htj0⟩ := hth0
      have HE0 : Hid (w.cell? ⟨bb0, off0 + k * 3, none⟩ = some (.bool sk0) ∧ w.cell? ⟨bb0, off0 + k * 3 + 1, none⟩ = some (.slice ak0 nk0 ck0) ∧ w.cell? ⟨bb0, off0 + k * 3 + 2, none⟩ = some (.slice bk0 mk0 dk0)) := Lib.hid ⟨e00, e10, e20⟩
      have AK0 := Lib.hid hA0
      have BK0 := Lib.hid hB0
      clear hA0 hB0 e00 e10 e20
      obtain ⟨bb1, off1, rfl, e01, e11, e21, hok1⟩ := HK1.out.at hlt
      have hth1 := HTh1.out _ (fx_mem (L := L1) (k := k) (by rw [HLl1.out]; exact hlt))
      generalize L1.getD k Fx.zero = xk1 at *
      obtain ⟨sk1, ak1, nk1, ck1, lak1, bk1, mk1, dk1, lbk1⟩ := xk1
      obtain ⟨hA1, hB1⟩ := hok1
      simp only at e01 e11 e21 hA1 hB1 hth1
      obtain ⟨hth1, htj1⟩ := hth1
      have HE1 : Hid (w.cell? ⟨bb1, off1 + k * 3, none⟩ = some (.bool sk1) ∧ w.cell? ⟨bb1, off1 + k * 3 + 1, none⟩ = some (.slice ak1 nk1 ck1) ∧ w.cell? ⟨bb1, off1 + k * 3 + 2, none⟩ = some (.slice bk1 mk1 dk1)) := Lib.hid ⟨e01, e11, e21⟩
      have AK1 := Lib.hid hA1
      have BK1 := Lib.hid hB1
      clear hA1 hB1 e01 e11 e21
      generalize T.getD k 0 = tk at *
      replace HTv : Hid (tk = qval sk0 (val lak0) (val lbk0) * qval sk1 (val lak1) (val lbk1)) := HTv
      have hki : (k : Int) < (n0 : Int) := by omega
      have hk0 : (0 : Int) ≤ (k : Int) := by omega
      obtain ⟨e00, e10, e20⟩ := three_on HE0.out HB.out
      obtain ⟨e01, e11, e21⟩ := three_on HE1.out HB.out
      obtain ⟨x0, x1, x2⟩ := fcells_3 X0.out
      go_wp2
      have b0 : Below wr.heap.size wr wr.drew := (Below.refl _ _).drew
      replace HB := Lib.hid (below_then HB.out b0)
      replace HO := Lib.hid (HO.out.later b0)
      replace X0 := Lib.hid (blk_later X0.out b0)
      replace hsz := Nat.lt_of_lt_of_le hsz b0.size
      clear e00 e10 e20 e01 e11 e21 x0 x1 x2 b0
      obtain ⟨e00, e10, e20⟩ := three_on HE0.out HB.out
      obtain ⟨e01, e11, e21⟩ := three_on HE1.out HB.out
      obtain ⟨x0, x1, x2⟩ := fcells_3 X0.out
      first | go_region_with (first
        | (go_at_call 13; refine (fracSaid.mul _ _ (qval sk0 (val lak0) (val lbk0)) (qval sk1 (val lak1) (val lbk1)) _ (Fr.of (AK0.out.later HB.out) (BK0.out.later HB.out) (by omega) (by omega) rfl) (Fr.of (AK1.out.later HB.out) (BK1.out.later HB.out) (by omega) (by omega) rfl)).mono ?_; rintro e w4 ⟨a4, n4, c4, b4, m4, d4, rfl, h4, g4, bw⟩; rw [← HTv.out] at h4 g4 ⊢; clear e00 e10 e20 e01 e11 e21 x0 x1 x2; replace HB := Lib.hid (below_then HB.out bw); replace HO := Lib.hid (HO.out.later bw); replace X0 := Lib.hid (blk_later X0.out bw); have hsz4 : w.heap.size + 1 < w4.heap.size := Nat.lt_of_lt_of_le hsz bw.size; have HA4 := Lib.hid h4; have HB4 := Lib.hid g4; clear bw hsz h4 g4; unfold frV; obtain ⟨⟨p0, p1, p2⟩, f0, f1, f2⟩ := HO.out.cell (k := k) (by rw [take_len (Nat.le_of_lt hkT)]))) | fail
      all_goals (
        obtain ⟨hst, hgr⟩ := HO.out.stored (k := k) (by rw [take_len (Nat.le_of_lt hkT)]) tk a4 n4 c4 b4 m4 d4 HA4.out HB4.out
        rw [← HT.out] at hst
        have HS := Lib.hid hst
        have HB5 := Lib.hid (HB.out.grown hgr HB.out.size (fun g' hg' => by simp at hg'; omega))
        have hsz5 := Nat.lt_of_lt_of_le hsz4 hgr.size
        have X5 := Lib.hid ((hgr.block w.heap.size (by omega) (fun e2 => by simp at e2)).trans X0.out)
        clear X0
        clear hst hgr HA4 HB4 HO HB HT HTv p0 p1 p2 f0 f1 f2
        go_wp2
        go_roundw
        case rel => exact ⟨k + 1, r, by omega, by go_num, HS, HB5, hsz5, X5⟩
        case measure => simp [intOf]; omega)
    · obtain rfl : k = n0 := by omega
      have HF := Lib.hid (HO.out.whole HTL.out (by omega))
      obtain ⟨a9, c9, e9, h9⟩ := HF.out.out
      rw [HTL.out] at e9 h9
      cases e9
      have HF9 := Lib.hid h9
      clear HO h9 HF
      have hqn : 1 + (k - 1) * (K9 + 3) ≤ 2097152000 := by rw [HK9.out]; exact Nat.le_trans (Nat.add_le_add_left (Nat.mul_le_mul_right _ (Nat.sub_le k 1)) 1) hb9
      go_wp2_with fail
      refine (total_rw _ HF9.out HQL.out hqn (by omega)).mono ?_
      rintro e w5 ⟨a1, n1, c1, b1, m1, d1, rfl, h1, g1, bw⟩
      replace HB := Lib.hid (below_then HB.out bw)
      have HR := Lib.hid (blk_later X0.out bw)
      clear bw HF9 X0
      rw [HSM.out] at h1 g1 ⊢
      have R1 := Lib.hid h1
      have T1 := Lib.hid g1
      clear h1 g1
      unfold frV
      have q0 := blk_cell HR.out 0
      have q1 := blk_cell HR.out 1
      have q2 := blk_cell HR.out 2
      simp only [List.getElem?_toArray, List.getElem?_cons_zero, List.getElem?_cons_succ] at q0 q1 q2
      have f0 := blk_free HR.out 0
      have f1 := blk_free HR.out 1
      have f2 := blk_free HR.out 2
      replace R1 := Lib.hid (R1.out.stored3 HR.out ((zneg q.num)) a1 n1 c1 (.slice b1 m1 d1))
      replace T1 := Lib.hid (T1.out.stored3 HR.out ((zneg q.num)) a1 n1 c1 (.slice b1 m1 d1))
      replace HB := Lib.hid (below_set3 HB.out (show w.heap.size ≤ w.heap.size by omega) (.bool (zneg q.num)) (.slice a1 n1 c1) (.slice b1 m1 d1))
      replace HR := Lib.hid (blk_set3 HR.out (.bool (zneg q.num)) (.slice a1 n1 c1) (.slice b1 m1 d1))
      go_wp2
      refine bodyPost_ret (results_row_tmp Try.results25 _ _ (w.heap.size) 34 #[.bool (zneg q.num), .slice a1 n1 c1, .slice b1 m1 d1] (0, 0) _ rfl HR.out Try.underlying34 rfl (by kernel_rfl)) rfl ?_
      exact ⟨a1, n1, c1, b1, m1, d1, rfl, R1.out, T1.out, HB.out⟩
end Go.Proofs.Ytipcgehcineblaa

/-
  Package row at this seat: Size, Same.
-/
namespace Go.Proofs.Ytipcgehcineblaa
open Go.RowKit

theorem fqs_take_more {L : List Fx} {k : Nat} (h : k < L.length) : fqs (L.take (k + 1)) = fqs (L.take k) ++ [(L.getD k Fx.zero).q] := by
  rw [fx_more h]; unfold fqs; rw [List.map_append]; rfl
theorem q_ne_of_at {L M : List Fx} {k : Nat} (h : k < L.length) (h' : k < M.length) (hq : (L.getD k Fx.zero).q ≠ (M.getD k Fx.zero).q) : fqs L ≠ fqs M := fun e => by
  refine hq ?_
  rw [← fqs_getD h, ← fqs_getD h', e]
set_option maxRecDepth 4096 in
set_option maxHeartbeats 4000000 in
theorem row_equalfunc (a0 : Option Addr) (n0 c0 : Nat) (L0 : List Fx) (a1 : Option Addr) (n1 c1 : Nat) (L1 : List Fx) (w : World) (h0 : Fxs w a0 n0 c0 L0) (h1 : Fxs w a1 n1 c1 L1) (hn : n0 ≤ 300) (ht0 : thin 2000000000 L0) (ht1 : thin 2000000000 L1) : Calls Try.prog 62 #[.slice a0 n0 c0, .slice a1 n1 c1, .func (.func 11) #[] #[]] w (Gives (.bool (decide (fqs L0 = fqs L1))) w) := by
  have HK0 := Lib.hid h0
  have HLl0 := Lib.hid h0.len
  have hbd0 := h0.bound
  have HTh0 := Lib.hid ht0
  clear h0 ht0
  have HK1 := Lib.hid h1
  have HLl1 := Lib.hid h1.len
  have hbd1 := h1.bound
  have HTh1 := Lib.hid ht1
  clear h1 ht1
  by_cases hnm : n0 = n1
  · subst hnm
    obtain ⟨rr, hrr⟩ : ∃ rr, decide (fqs L0 = fqs L1) = rr := ⟨_, rfl⟩
    have HRR := Lib.hid hrr
    rw [hrr]
    clear hrr
    go_enter Try.func62, Try.ntmps62
    go_wp2
    go_loopw [17] (fun iv wr => ∃ k : Nat, k ≤ n0 ∧ iv = .int .i64 (k : Int) ∧ Hid (fqs (L0.take k) = fqs (L1.take k)) ∧ Hid (Below w.heap.size w wr)) (fun iv _ => n0 - (intOf iv).toNat)
    case atStart => exact ⟨0, by omega, rfl, Lib.hid rfl, Lib.hid (Below.refl _ _)⟩
    case round =>
      obtain ⟨k, hk, rfl, HS, HB⟩ := hrel
      by_cases hlt : k < n0
      · have HT0 := Lib.hid (fqs_take_more (show k < L0.length by rw [HLl0.out]; exact hlt))
        have HT1 := Lib.hid (fqs_take_more (show k < L1.length by rw [HLl1.out]; exact hlt))
        have HNE := Lib.hid (q_ne_of_at (show k < L0.length by rw [HLl0.out]; exact hlt) (show k < L1.length by rw [HLl1.out]; exact hlt))
        obtain ⟨bb0, off0, rfl, e00, e10, e20, hok0⟩ := HK0.out.at hlt
        have hth0 := HTh0.out _ (fx_mem (L := L0) (k := k) (by rw [HLl0.out]; exact hlt))
        generalize L0.getD k Fx.zero = xk0 at *
        obtain ⟨sk0, ak0, nk0, ck0, lak0, bk0, mk0, dk0, lbk0⟩ := xk0
        obtain ⟨hA0, hB0⟩ := hok0
        simp only at e00 e10 e20 hA0 hB0 hth0
        obtain ⟨hth0, htj0⟩ := hth0
        have HE0 : Hid (w.cell? ⟨bb0, off0 + k * 3, none⟩ = some (.bool sk0) ∧ w.cell? ⟨bb0, off0 + k * 3 + 1, none⟩ = some (.slice ak0 nk0 ck0) ∧ w.cell? ⟨bb0, off0 + k * 3 + 2, none⟩ = some (.slice bk0 mk0 dk0)) := Lib.hid ⟨e00, e10, e20⟩
        have AK0 := Lib.hid hA0
        have BK0 := Lib.hid hB0
        clear hA0 hB0 e00 e10 e20
        obtain ⟨bb1, off1, rfl, e01, e11, e21, hok1⟩ := HK1.out.at hlt
        have hth1 := HTh1.out _ (fx_mem (L := L1) (k := k) (by rw [HLl1.out]; exact hlt))
        generalize L1.getD k Fx.zero = xk1 at *
        obtain ⟨sk1, ak1, nk1, ck1, lak1, bk1, mk1, dk1, lbk1⟩ := xk1
        obtain ⟨hA1, hB1⟩ := hok1
        simp only at e01 e11 e21 hA1 hB1 hth1
        obtain ⟨hth1, htj1⟩ := hth1
        have HE1 : Hid (w.cell? ⟨bb1, off1 + k * 3, none⟩ = some (.bool sk1) ∧ w.cell? ⟨bb1, off1 + k * 3 + 1, none⟩ = some (.slice ak1 nk1 ck1) ∧ w.cell? ⟨bb1, off1 + k * 3 + 2, none⟩ = some (.slice bk1 mk1 dk1)) := Lib.hid ⟨e01, e11, e21⟩
        have AK1 := Lib.hid hA1
        have BK1 := Lib.hid hB1
        clear hA1 hB1 e01 e11 e21
        have hki : (k : Int) < (n0 : Int) := by omega
        have hk0 : (0 : Int) ≤ (k : Int) := by omega
        replace HT0 : Hid (fqs (L0.take (k + 1)) = fqs (L0.take k) ++ [qval sk0 (val lak0) (val lbk0)]) := HT0
        replace HT1 : Hid (fqs (L1.take (k + 1)) = fqs (L1.take k) ++ [qval sk1 (val lak1) (val lbk1)]) := HT1
        replace HNE : Hid (qval sk0 (val lak0) (val lbk0) ≠ qval sk1 (val lak1) (val lbk1) → fqs L0 ≠ fqs L1) := HNE
        obtain ⟨e00, e10, e20⟩ := three_on HE0.out HB.out
        have ba := below_alloc wr (.cells #[.bool sk0, .slice ak0 nk0 ck0, .slice bk0 mk0 dk0] 34)
        have HB1 := Lib.hid (below_then HB.out ba)
        obtain ⟨e01, e11, e21⟩ := three_on HE1.out HB1.out
        have bb := below_alloc (wr.alloc (.cells #[.bool sk0, .slice ak0 nk0 ck0, .slice bk0 mk0 dk0] 34)) (.cells #[.bool sk1, .slice ak1 nk1 ck1, .slice bk1 mk1 dk1] 34)
        have HB2 := Lib.hid (below_then HB1.out bb)
        obtain ⟨x0, x1, x2⟩ := fcells_3 (blk_later (blk_new wr #[.bool sk0, .slice ak0 nk0 ck0, .slice bk0 mk0 dk0] 34) bb)
        have hy := blk_new (wr.alloc (.cells #[.bool sk0, .slice ak0 nk0 ck0, .slice bk0 mk0 dk0] 34)) #[.bool sk1, .slice ak1 nk1 ck1, .slice bk1 mk1 dk1] 34
        rw [blk_size] at hy
        obtain ⟨y0, y1, y2⟩ := fcells_3 hy
        clear ba bb HB1 hy
        go_wp2_with fail
        refine (fracSaid.same (frV sk0 ak0 nk0 ck0 bk0 mk0 dk0) (frV sk1 ak1 nk1 ck1 bk1 mk1 dk1) (qval sk0 (val lak0) (val lbk0)) (qval sk1 (val lak1) (val lbk1)) _ (Fr.of (AK0.out.later HB2.out) (BK0.out.later HB2.out) (by omega) (by omega) rfl) (Fr.of (AK1.out.later HB2.out) (BK1.out.later HB2.out) (by omega) (by omega) rfl)).mono ?_
        rintro e w4 ⟨rfl, bw⟩
        clear e00 e10 e20 e01 e11 e21 x0 x1 x2 y0 y1 y2
        replace HB := Lib.hid (below_then HB2.out bw)
        clear bw HB2
        by_cases hqq : qval sk0 (val lak0) (val lbk0) = qval sk1 (val lak1) (val lbk1)
        · have HS9 : Hid (fqs (L0.take (k + 1)) = fqs (L1.take (k + 1))) := Lib.hid (by rw [HT0.out, HT1.out, HS.out, hqq])
          rw [decide_eq_true hqq]
          clear hqq HS HT0 HT1 HNE
          go_wp2
          go_roundw
          case rel => exact ⟨k + 1, by omega, by go_num, HS9, HB⟩
          case measure => simp [intOf]; omega
        · have hrf : rr = false := by rw [← HRR.out]; exact decide_eq_false (HNE.out hqq)
          subst hrf
          rw [decide_eq_false hqq]
          clear hqq HS HT0 HT1 HNE
          go_wp2
          go_ret
          exact ⟨rfl, HB.out⟩
      · obtain rfl : k = n0 := by omega
        have hrt : rr = true := by
          rw [← HRR.out]
          have h9 := HS.out
          rw [List.take_of_length_le (by rw [HLl0.out]; exact Nat.le_refl _), List.take_of_length_le (by rw [HLl1.out]; exact Nat.le_refl _)] at h9
          exact decide_eq_true h9
        subst hrt
        go_wp2
        go_ret
        exact ⟨rfl, HB.out⟩
  · have hq : ((n0 : Int) == (n1 : Int)) = false := by simp; omega
    have hne : fqs L0 ≠ fqs L1 := fun e => hnm (by
      have h9 := congrArg List.length e
      rwa [fqs_length, fqs_length, HLl0.out, HLl1.out] at h9)
    rw [decide_eq_false hne]
    clear hnm hne
    go_enter Try.func62, Try.ntmps62
    go_wp2
    go_ret
    exact ⟨rfl, Below.refl _ _⟩
set_option maxRecDepth 4096 in
set_option maxHeartbeats 4000000 in
theorem row_same (a0 : Option Addr) (n0 c0 : Nat) (L0 : List Fx) (a1 : Option Addr) (n1 c1 : Nat) (L1 : List Fx) (w : World) (h0 : Fxs w a0 n0 c0 L0) (h1 : Fxs w a1 n1 c1 L1) (hn : n0 ≤ 300) (ht0 : thin 2000000000 L0) (ht1 : thin 2000000000 L1) : Calls Try.prog 37 #[.slice a0 n0 c0, .slice a1 n1 c1] w (Gives (.bool (decide (fqs L0 = fqs L1))) w) := by
  have HC := Lib.hid (show ∀ w' : World, Below w.heap.size w w' → Calls Try.prog 62 #[.slice a0 n0 c0, .slice a1 n1 c1, .func (.func 11) #[] #[]] w' (Gives (.bool (decide (fqs L0 = fqs L1))) w') from fun w' hw => row_equalfunc a0 n0 c0 L0 a1 n1 c1 L1 w' (h0.later hw) (h1.later hw) hn ht0 ht1)
  clear h0 h1 ht0 ht1
  go_enter Try.func37, Try.ntmps37
  go_wp2_with fail
  refine (HC.out _ (Below.refl _ _)).mono ?_
  rintro e w1 ⟨rfl, bw⟩
  go_wp2
  go_ret
  exact ⟨rfl, bw⟩
end Go.Proofs.Ytipcgehcineblaa

/-
  Package poly at this seat: Degree, used, Norm, Same.
-/
namespace Go.Proofs.Ytipcgehcineblaa
open Go.RowKit

theorem fqs_take (L : List Fx) (k : Nat) : fqs (L.take k) = (fqs L).take k := by unfold fqs; rw [List.map_take]
theorem fqs_used (L : List Fx) : fqs (L.take (plen (fqs L))) = pnorm (fqs L) := by
  rw [fqs_take]; exact (pnorm_take (fqs L)).symm
theorem thin_take {N : Nat} {L : List Fx} (h : thin N L) (k : Nat) : thin N (L.take k) := fun x hx => h x (List.mem_of_mem_take hx)
theorem plen_fqs_le {w : World} {a : Option Addr} {n c : Nat} {L : List Fx} (h : Fxs w a n c L) : plen (fqs L) ≤ n := by
  rw [← h.len, ← fqs_length]; exact plen_le_length _
theorem co_fqs {L : List Fx} {j : Nat} (h : j < L.length) : co (fqs L) j = (L.getD j Fx.zero).q := fqs_getD h
theorem sgn_zero {z : Int} : sgn z = 0 ↔ z = 0 := by
  unfold sgn
  constructor
  · intro h
    split at h
    · assumption
    · split at h <;> omega
  · intro h
    rw [if_pos h]
theorem sgn_num {q : Rat} : sgn q.num = 0 ↔ q = 0 := by
  rw [sgn_zero]
  exact ⟨fun h => Rat.num_eq_zero.1 h, fun h => by rw [h]; rfl⟩
set_option maxRecDepth 4096 in
set_option maxHeartbeats 4000000 in
theorem poly_degree (a : Option Addr) (n c : Nat) (L : List Fx) (w : World) (h : Fxs w a n c L) (hn : n ≤ 1000) (ht : thin 2097152000 L) : Calls Try.prog 19 #[.slice a n c] w (Gives (.int .i64 ((plen (fqs L) : Int) - 1)) w) := by
  have hbd := h.bound
  have HK := Lib.hid h
  have HT := Lib.hid ht
  have HLl := Lib.hid h.len
  obtain ⟨D, hD⟩ : ∃ D : Int, ((plen (fqs L) : Int) - 1) = D := ⟨_, rfl⟩
  rw [hD]
  have HDE : Hid (∀ z : Int, -1 ≤ z → (∀ j : Nat, z < (j : Int) → co (fqs L) j = 0) → (z < 0 ∨ co (fqs L) z.toNat ≠ 0) → z = D) := Lib.hid (fun z h1 h2 h3 => by
    rw [← hD]
    have h4 : plen (fqs L) ≤ (z + 1).toNat := plen_le fun i hi => h2 i (by omega)
    rcases h3 with h3 | h3
    · omega
    · have := plen_ge h3
      omega)
  have HZ0 : Hid (∀ j : Nat, ((n : Int) - 1) < (j : Int) → co (fqs L) j = 0) := Lib.hid (fun j hj => co_far (by rw [fqs_length, HLl.out]; omega))
  clear h ht hD
  go_enter Try.func19, Try.ntmps19
  go_wp2
  go_loopw [3] (fun iv wr => ∃ z : Int, -1 ≤ z ∧ z < (n : Int) ∧ iv = .int .i64 z ∧ Hid (∀ j : Nat, z < (j : Int) → co (fqs L) j = 0) ∧ Hid (Below w.heap.size w wr)) (fun iv _ => (intOf iv + 1).toNat)
  case atStart => exact ⟨(n : Int) - 1, by omega, by omega, rfl, HZ0, Lib.hid (Below.refl _ _)⟩
  case round =>
    clear HZ0
    obtain ⟨z, hz1, hz2, rfl, HZ, HB⟩ := hrel
    by_cases hz : 0 ≤ z
    · obtain ⟨j, rfl⟩ : ∃ j : Nat, z = (j : Int) := ⟨z.toNat, by omega⟩
      have hjn : j < n := by omega
      obtain ⟨b, off, rfl, e0, e1, e2, hok⟩ := (HK.out.later HB.out).at hjn
      have hth := HT.out _ (fx_mem (L := L) (k := j) (by rw [HLl.out]; exact hjn))
      have hco : co (fqs L) j = (L.getD j Fx.zero).q := co_fqs (by rw [HLl.out]; exact hjn)
      have hfr := hok.fr hth.1 hth.2
      generalize L.getD j Fx.zero = x at *
      obtain ⟨s, a1, n1, c1, la, b1, m1, d1, lb⟩ := x
      obtain ⟨q, hq⟩ : ∃ q, (⟨s, a1, n1, c1, la, b1, m1, d1, lb⟩ : Fx).q = q := ⟨_, rfl⟩
      rw [hq] at hco hfr
      have HS := fracSaid.sign _ q wr hfr
      obtain ⟨s0, hs0⟩ : ∃ s0, sgn q.num = s0 := ⟨_, rfl⟩
      rw [hs0] at HS
      simp only at e0 e1 e2 hfr HS
      unfold frV at HS
      by_cases hq0 : q = 0
      · have h0 : s0 = 0 := by rw [← hs0]; exact sgn_num.2 hq0
        subst h0
        have HZ2 : Hid (∀ i : Nat, (j : Int) - 1 < (i : Int) → co (fqs L) i = 0) := Lib.hid (fun i hi => by
          by_cases hij : i = j
          · rw [hij, hco, hq0]
          · exact HZ.out i (by omega))
        clear hs0 hq0 hq hco hfr hok hth HZ hz1
        go_wp2_with fail
        refine HS.mono ?_
        rintro e w1 ⟨rfl, b1⟩
        have HB1 := Lib.hid (below_then HB.out b1)
        clear b1 e0 e1 e2 HS HB
        go_wp2
        go_roundw
        case rel => exact ⟨(j : Int) - 1, by omega, by omega, rfl, HZ2, HB1⟩
        case measure => simp [intOf]
      · have h0 : (s0 == 0) = false := by
          have h9 : ¬ s0 = 0 := fun e => hq0 (sgn_num.1 (hs0.trans e))
          simpa using h9
        obtain rfl : (j : Int) = D := HDE.out (j : Int) (by omega) HZ.out (.inr (by rw [Int.toNat_natCast, hco]; exact hq0))
        clear hs0 hq0 hq hco hfr hok hth HZ hz1 HDE
        go_wp2_with fail
        refine HS.mono ?_
        rintro e w1 ⟨rfl, b1⟩
        have HB1 := Lib.hid (below_then HB.out b1)
        clear b1 e0 e1 e2 HS HB
        go_wp2
        go_ret
        exact ⟨rfl, HB1.out⟩
    · obtain rfl : z = D := HDE.out z hz1 HZ.out (.inl (by omega))
      clear HDE HZ
      go_wp2
      go_ret
      exact ⟨rfl, HB.out⟩
set_option maxRecDepth 4096 in
set_option maxHeartbeats 4000000 in
theorem poly_used (a : Option Addr) (n c : Nat) (L : List Fx) (w : World) (h : Fxs w a n c L) (hn : n ≤ 1000) (ht : thin 2097152000 L) : Calls Try.prog 22 #[.slice a n c] w (Gives (.slice a (plen (fqs L)) c) w) := by
  have hbd := h.bound
  have hk := plen_fqs_le h
  have hnil := h.2.2.2.1
  have HD := Lib.hid (poly_degree a n c L w h hn ht)
  obtain ⟨k, hke⟩ : ∃ k, plen (fqs L) = k := ⟨_, rfl⟩
  rw [hke] at hk HD ⊢
  have hw : IntKind.i64.wrap (k : Int) = (k : Int) := by rw [IntKind.wrap_i64]; omega
  have hkc : (k : Int) ≤ (c : Int) := by omega
  clear h ht hke
  have hkk : (k : Int) - 1 + 1 = (k : Int) := by omega
  go_enter Try.func22, Try.ntmps22
  go_wp2_with fail
  refine HD.out.mono ?_
  rintro e w1 ⟨rfl, b1⟩
  have HB1 := Lib.hid b1
  clear b1 HD
  cases a with
  | none =>
    have hc0 : c = 0 := hnil rfl
    subst hc0
    obtain rfl : k = 0 := by omega
    clear hnil
    go_wp2
    go_ret
    exact ⟨rfl, HB1.out⟩
  | some ad =>
    clear hnil
    go_wp2
    go_ret
    exact ⟨rfl, HB1.out⟩
set_option maxRecDepth 4096 in
set_option maxHeartbeats 4000000 in
theorem poly_norm_row (a : Option Addr) (n c : Nat) (L : List Fx) (w : World) (h : Fxs w a n c L) (hn : n ≤ 300) (ht : thin 2097152000 L) : Calls Try.prog 31 #[.slice a n c] w (LstRow 34 (pnorm (fqs L)) w) := by
  have hbd := h.bound
  have hk := plen_fqs_le h
  obtain ⟨q, hq⟩ : ∃ q : Rat, ((1 : Int) : Rat) = q := ⟨_, rfl⟩
  have hq1 : q = 1 := by rw [← hq]; rfl
  have hql : qlen q ≤ 2 := by rw [← hq]; exact qlen_int (by decide)
  have HO : ∀ w' : World, Calls Try.prog 21 #[.int .i64 1] w' (LstQ q w') := fun w' => hq ▸ frac_of 1 w' (by decide)
  have HU : ∀ w' : World, Below w.heap.size w w' → Calls Try.prog 22 #[.slice a n c] w' (Gives (.slice a (plen (fqs L)) c) w') := fun w' hb => poly_used a n c L w' (h.later hb) (by omega) ht
  have HS : ∀ (w' : World) (v : Value), Below w.heap.size w w' → Fr w' v q 2097152000 → Calls Try.prog 41 #[v, .slice a (plen (fqs L)) c] w' (LstRow 34 (pnorm (fqs L)) w') := fun w' v hb hv => by
    have h9 := row_scale_row v q a (plen (fqs L)) c (L.take (plen (fqs L))) w' hv ((h.later hb).take hk) (by omega) (thin_take ht _)
    rw [fqs_used, hq1] at h9
    rwa [show rscale 1 (pnorm (fqs L)) = pnorm (fqs L) from by unfold rscale; rw [show (fun x : Rat => 1 * x) = id from funext fun x => Rat.one_mul x, List.map_id]] at h9
  generalize pnorm (fqs L) = T at *
  generalize plen (fqs L) = k at *
  have HL := Lib.hid hql
  clear h ht hq hq1 hql
  go_enter Try.func31, Try.ntmps31
  go_wp2_with fail
  refine (HO _).mono ?_
  rintro e w1 ⟨a1, n1, c1, b1, m1, d1, rfl, h1, g1, bw⟩
  have ln : n1 ≤ 2097152000 := Nat.le_trans (Nat.le_of_eq h1.len.symm) (Nat.le_trans (qlen_num _) (Nat.le_trans HL.out (by decide)))
  have lm : m1 ≤ 2097152000 := Nat.le_trans (Nat.le_of_eq g1.len.symm) (Nat.le_trans (qlen_den _) (Nat.le_trans HL.out (by decide)))
  have HB := Lib.hid bw
  have A1 := Lib.hid h1
  have D1 := Lib.hid g1
  clear bw h1 g1 HO
  go_wp2_with fail
  refine (HU _ HB.out).mono ?_
  rintro e w2 ⟨rfl, bw⟩
  replace HB := Lib.hid (below_then HB.out bw)
  replace A1 := Lib.hid (A1.out.later bw)
  replace D1 := Lib.hid (D1.out.later bw)
  clear bw HU
  go_wp2_with fail
  refine (HS _ _ HB.out (Fr.right A1.out D1.out ln lm)).mono ?_
  rintro e w3 ⟨v, rfl, h3, bw⟩
  have R3 := Lib.hid (row_weak h3 HB.out.size)
  replace HB := Lib.hid (below_then HB.out bw)
  clear bw h3 HS A1 D1
  go_wp2
  go_ret
  exact ⟨v, rfl, R3.out, HB.out⟩
theorem poly_norm (a : Option Addr) (n c : Nat) (L : List Fx) (w : World) (h : Fxs w a n c L) (hn : n ≤ 300) (ht : thin 2097152000 L) : Calls Try.prog 31 #[.slice a n c] w (LstRw (pnorm (fqs L)) w) := (poly_norm_row a n c L w h hn ht).mono fun _ _ h9 => h9.out
set_option maxRecDepth 4096 in
set_option maxHeartbeats 4000000 in
theorem poly_same (a : Option Addr) (n c : Nat) (L : List Fx) (b : Option Addr) (m d : Nat) (M : List Fx) (w : World) (h : Fxs w a n c L) (k : Fxs w b m d M) (hn : n ≤ 300) (hm : m ≤ 300) (ht : thin 2000000000 L) (hu : thin 2000000000 M) : Calls Try.prog 16 #[.slice a n c, .slice b m d] w (Gives (.bool (decide (pnorm (fqs L) = pnorm (fqs M)))) w) := by
  have hbd := h.bound
  have hbd2 := k.bound
  have hk1 := plen_fqs_le h
  have hk2 := plen_fqs_le k
  have HU1 : ∀ w' : World, Below w.heap.size w w' → Calls Try.prog 22 #[.slice a n c] w' (Gives (.slice a (plen (fqs L)) c) w') := fun w' hb => poly_used a n c L w' (h.later hb) (by omega) (ht.mono (by decide))
  have HU2 : ∀ w' : World, Below w.heap.size w w' → Calls Try.prog 22 #[.slice b m d] w' (Gives (.slice b (plen (fqs M)) d) w') := fun w' hb => poly_used b m d M w' (k.later hb) (by omega) (hu.mono (by decide))
  have HS : ∀ (w' : World), Below w.heap.size w w' → Calls Try.prog 37 #[.slice a (plen (fqs L)) c, .slice b (plen (fqs M)) d] w' (Gives (.bool (decide (pnorm (fqs L) = pnorm (fqs M)))) w') := fun w' hb => by
    have h9 := row_same a (plen (fqs L)) c (L.take (plen (fqs L))) b (plen (fqs M)) d (M.take (plen (fqs M))) w' ((h.later hb).take hk1) ((k.later hb).take hk2) (by omega) (thin_take ht _) (thin_take hu _)
    rwa [fqs_used, fqs_used] at h9
  generalize decide (pnorm (fqs L) = pnorm (fqs M)) = R at *
  generalize plen (fqs L) = k1 at *
  generalize plen (fqs M) = k2 at *
  have HB := Lib.hid (Below.refl w.heap.size w)
  clear h k ht hu
  go_enter Try.func16, Try.ntmps16
  go_wp2_with fail
  refine (HU1 _ HB.out).mono ?_
  rintro e w1 ⟨rfl, bw⟩
  replace HB := Lib.hid (below_then HB.out bw)
  clear bw HU1
  go_wp2_with fail
  refine (HU2 _ HB.out).mono ?_
  rintro e w2 ⟨rfl, bw⟩
  replace HB := Lib.hid (below_then HB.out bw)
  clear bw HU2
  go_wp2_with fail
  refine (HS _ HB.out).mono ?_
  rintro e w3 ⟨rfl, bw⟩
  replace HB := Lib.hid (below_then HB.out bw)
  clear bw HS
  go_wp2
  go_ret
  exact ⟨rfl, HB.out⟩
end Go.Proofs.Ytipcgehcineblaa

/-
  What some boxes hold, cell by cell: those of faults, too. Of no program.
-/
namespace Go.Proofs.Ytipcgehcineblaa
open Go.RowKit

end Go.Proofs.Ytipcgehcineblaa

/-
  Package poly at this seat: Scale.
-/
namespace Go.Proofs.Ytipcgehcineblaa
open Go.RowKit

theorem Rw.part {w : World} {a : Option Addr} {n cap : Nat} {qs : List Rat} (h : Rw w a n cap qs) {k : Nat} (hk : k ≤ n) : Rw w a k cap (qs.take k) := by
  obtain ⟨L, h1, h2, h3⟩ := h
  exact ⟨L.take k, h1.take hk, by rw [List.map_take, h2], fun x hx => h3 x (List.mem_of_mem_take hx)⟩
theorem Rw.used {w : World} {a : Option Addr} {n cap : Nat} {qs : List Rat} (h : Rw w a n cap qs) : Rw w a (plen qs) cap (pnorm qs) := by
  have h1 := h.part (k := plen qs) (by rw [← h.len]; exact plen_le_length qs)
  rwa [show qs.take (plen qs) = pnorm qs from (pnorm_take qs).symm] at h1
theorem poly_used_rw (a : Option Addr) (n c : Nat) (qs : List Rat) (w : World) (h : Rw w a n c qs) (hn : n ≤ 1000) (hq : ∀ q ∈ qs, qlen q ≤ 2097152000) : Calls Try.prog 22 #[.slice a n c] w (fun e w' => e = .returned (.slice a (plen qs) c) ∧ Rw w' a (plen qs) c (pnorm qs) ∧ Below w.heap.size w w') := by
  obtain ⟨L, h1, h2, h3⟩ := h.thin hq
  have h4 := poly_used a n c L w h1 hn h3
  rw [h2] at h4
  exact h4.mono fun e w' h9 => ⟨h9.1, h.used.later h9.2, h9.2⟩
end Go.Proofs.Ytipcgehcineblaa
