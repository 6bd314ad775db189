/-
  The document's answer of layer 14: Norm, At.
-/
import Derived.Test.YtipcgehcineblaaGreatG14
import Derived.Test.YtipcgehcineblaaGreatG16
import Derived.Test.YtipcgehcineblaaGreatRef11bM
import Derived.Test.YtipcgehcineblaaGreatG4
namespace Go.Proofs.YtipcgehcineblaaGreat
open Go.RowKit

theorem fxs_cells {w : World} {b off n cap : Nat} {L : List Fx} (h : Fxs w (some ⟨b, off, none⟩) n cap L) : ∀ j u, (L.flatMap Fx.cells)[j]? = some u → w.cell? ((⟨b, off, none⟩ : Addr).add j) = some u := by
  intro j u hu
  have hj : j < (L.flatMap Fx.cells).length := (List.getElem?_eq_some_iff.1 hu).1
  rw [flat_length] at hj
  have hl := h.len
  rcases h.2.2.2.2.2 with h0 | ⟨b', off', e, hc⟩
  · omega
  · simp only [Option.some.injEq, Addr.mk.injEq, and_true] at e
    obtain ⟨rfl, rfl⟩ := e
    rw [Go.WideShapes.add_plain]
    obtain ⟨i, hi⟩ : ∃ i, j / 3 = i := ⟨_, rfl⟩
    have hil : i < L.length := by omega
    obtain ⟨f0, f1, f2⟩ := flat_at L i hil
    obtain ⟨c0, c1, c2⟩ := hc i (by omega)
    have h3 : j = i * 3 ∨ j = i * 3 + 1 ∨ j = i * 3 + 2 := by omega
    rcases h3 with e | e | e
    · rw [e] at hu ⊢; rw [f0] at hu; rw [← hu]; exact c0
    · rw [e] at hu ⊢; rw [f1] at hu; rw [← hu, ← Nat.add_assoc]; exact c1
    · rw [e] at hu ⊢; rw [f2] at hu; rw [← hu, ← Nat.add_assoc]; exact c2
theorem fxs_take {w : World} {a : Option Addr} {n cap : Nat} {L : List Fx} (h : Fxs w a n cap L) {k : Nat} (hk : k ≤ n) : Fxs w a k cap (L.take k) := by
  obtain ⟨h1, h2, h3, h4, h6, h5⟩ := h
  refine ⟨by rw [List.length_take]; omega, by omega, h3, h4, fun x hx => h6 x (List.mem_of_mem_take hx), ?_⟩
  rcases h5 with h0 | ⟨b, off, e, hc⟩
  · exact .inl (by omega)
  · refine .inr ⟨b, off, e, fun j hj => ?_⟩
    have h7 := hc j (by omega)
    have e2 : (L.take k).getD j Fx.zero = L.getD j Fx.zero := by
      rw [List.getD_eq_getElem?_getD, List.getElem?_take, if_pos hj, ← List.getD_eq_getElem?_getD]
    rw [e2]
    exact h7
theorem rw_take {w : World} {a : Option Addr} {n cap : Nat} {qs : List Rat} (h : Rw w a n cap qs) {k : Nat} (hk : k ≤ n) : Rw w a k cap (qs.take k) := by
  obtain ⟨L, h1, h2, h3⟩ := h
  exact ⟨L.take k, fxs_take h1 hk, by rw [List.map_take, h2], fun x hx => h3 x (List.mem_of_mem_take hx)⟩
theorem flat_one (L : List Fx) : ∀ u ∈ L.flatMap Fx.cells, u.oneCell' = true := fun u hu => by
  obtain ⟨x, _, hx⟩ := List.mem_flatMap.1 hu
  exact cells_one x u hx
/-- A row of one's own that holds nothing but these cells, read as right fractions. -/
theorem rw_own {w : World} {base : Nat} {e : TypeId} {v : Value} {n : Nat} {L : List Fx} (h : w.ownsRow base e 3 v n (L.flatMap Fx.cells)) (hn : n = L.length) (hok : ∀ x ∈ L, x.ok w) (hr : ∀ x ∈ L, x.right) : ∃ (a : Option Addr) (c : Nat), v = .slice a n c ∧ Rw w a n c (L.map Fx.q) := by
  subst hn
  rcases h.2 with ⟨rfl, h0⟩ | ⟨g, cap, cur, rfl, hbg, hg⟩
  · exact ⟨none, 0, by rw [h0], L, Fxs.own (by rw [h0]; exact h0 ▸ h) rfl hok, rfl, hr⟩
  · exact ⟨_, cap, rfl, L, Fxs.own h rfl hok, rfl, hr⟩
set_option maxRecDepth 4096 in
set_option maxHeartbeats 4000000 in
theorem ref14_norm (a : Option Addr) (n c : Nat) (qs : List Rat) (w : World) (h : Rw w a n c qs) (hn : n ≤ 1000) (hq : ∀ q ∈ qs, qlen q ≤ 15728640000) :
    Calls Tryz.prog 8 #[.slice a n c] w (LstRw (pnorm qs) w) := by
  have hbd := h.bound
  have H := Lib.hid h
  have HQ := Lib.hid hq
  have HL := Lib.hid h.len
  clear h hq
  go_enter Tryz.func8, Tryz.ntmps8
  go_wp2
  go_loopw [3] (fun iv wr => ∃ k : Nat, k ≤ n ∧ iv = .int .i64 (k : Int) ∧ Hid (pnorm (qs.take k) = pnorm qs) ∧ Hid (Below w.heap.size w wr)) (fun iv _ => (intOf iv).toNat)
  case atStart => exact ⟨n, by omega, rfl, Lib.hid (by rw [List.take_of_length_le (by rw [HL.out]; exact Nat.le_refl _)]), Lib.hid (Below.refl _ _)⟩
  case round =>
    obtain ⟨k, hk, rfl, HN, HB⟩ := hrel
    cases k with
    | zero =>
      have HE : Hid (pnorm qs = []) := Lib.hid (by rw [← HN.out]; rfl)
      clear HN
      obtain ⟨i0, hi, hz0, hz1, hz2⟩ := info_parts infoFrac11
      cases a with
      | none =>
        have hc0 : c = 0 := by
          obtain ⟨L, h1, _⟩ := H.out
          exact h1.2.2.2.1 rfl
        have hn0 : n = 0 := by omega
        subst hc0
        subst hn0
        go_wp2_with (at_builtin; refine wpList_append_own_none rfl _ _ 22 rfl w.heap.size 25 i0 3 Tryz.underlying22 hi _ 0 [] rfl (World.ownsRow_lit _ #[] 0 HB.out.size (by decide) rfl) rfl ?_)
        go_ret
        refine ⟨_, 0, _, rfl, ?_, below_then HB.out (below_alloc _ _)⟩
        rw [HE.out]
        exact ⟨[], ⟨rfl, Nat.le_refl _, by omega, fun e => (by first | rfl | cases e), fun x hx => by simp at hx, .inl rfl⟩, rfl, fun x hx => by simp at hx⟩
      | some ad =>
        go_wp2
        go_ret
        refine ⟨_, 0, _, rfl, ?_, below_then HB.out (below_alloc _ _)⟩
        rw [HE.out]
        exact ⟨[], ⟨rfl, Nat.le_refl _, by omega, fun e => (by first | rfl | cases e), fun x hx => by simp at hx, .inl rfl⟩, rfl, fun x hx => by simp at hx⟩
    | succ k =>
      obtain ⟨b, off, rfl, a1, n1, c1, b1, m1, d1, ⟨e0, e1, e2⟩, hA, hD⟩ := (H.out.later HB.out).at (j := k) (by omega)
      have hqk := HQ.out _ (q_mem (L := qs) (k := k) (by rw [HL.out]; omega))
      have hn1 : n1 ≤ 15728640000 := by rw [← hA.len]; exact Nat.le_trans (qlen_num _) hqk
      have hm1 : m1 ≤ 15728640000 := by rw [← hD.len]; exact Nat.le_trans (qlen_den _) hqk
      have hki : (k : Int) < (n : Int) := by omega
      obtain ⟨qk, hqe⟩ : ∃ q, qs.getD k 0 = q := ⟨_, rfl⟩
      rw [hqe] at hA hD e0
      have HZ := ref09_zero_q _ qk wr (Rt.of hA hD hn1 hm1)
      by_cases hz : qk = 0
      · rw [decide_eq_true hz] at HZ
        have HN2 : Hid (pnorm (qs.take k) = pnorm qs) := Lib.hid (by rw [← HN.out]; exact (pnorm_cut (by rw [hqe]; exact hz)).symm)
        clear hz hqe hA hD hqk HN
        go_wp2_with fail
        refine HZ.mono ?_
        rintro e w1 ⟨rfl, b1⟩
        have HB1 := Lib.hid (below_then HB.out b1)
        clear b1 e0 e1 e2 HZ HB
        go_wp2
        go_roundw
        case rel => exact ⟨k, by omega, by go_num, HN2, HB1⟩
        case measure => simp [intOf]
      · rw [decide_eq_false hz] at HZ
        have HN2 : Hid (pnorm qs = qs.take (k + 1)) := Lib.hid (by rw [← HN.out]; exact pnorm_full (by rw [HL.out]; omega) (by rw [hqe]; exact hz))
        clear hz hqe hA hD hqk HN
        obtain ⟨i0, hi, hz0, hz1, hz2⟩ := info_parts infoFrac11
        go_wp2_with fail
        refine HZ.mono ?_
        rintro e w1 ⟨rfl, b1⟩
        have HB1 := Lib.hid (below_then HB.out b1)
        have hT := rw_take (H.out.later HB1.out) (k := k + 1) hk
        obtain ⟨L, hL, hLq, hLr⟩ := hT
        have hLl : L.length = k + 1 := hL.len
        have HLL := Lib.hid hL
        have HLQ := Lib.hid hLq
        have HLR := Lib.hid hLr
        have HLN := Lib.hid hLl
        clear b1 e0 e1 e2 HZ HB hL hLq hLr hLl
        have hzw : noWords (Value.agg #[.bool false, .slice none 0 0, .slice none 0 0]).cells.toList := by
          intro u hu k
          simp [Value.cells] at hu
          rcases hu with rfl | rfl <;> simp
        have HZW := Lib.hid hzw
        clear hzw
        go_wp2_with (at_builtin; refine wpList_append_clean _ rfl _ _ 22 rfl w.heap.size 25 i0 (.agg #[.bool false, .slice none 0 0, .slice none 0 0]) 3 56 Tryz.underlying22 hi hz0 hz1 hz2 rfl (by decide) _ 0 [] rfl (World.ownsRow_lit _ #[] 0 HB1.out.size (by decide) rfl) ⟨b, off, none⟩ (k + 1) c (L.flatMap Fx.cells) rfl (by rw [flat_length, HLN.out]) (fxs_cells (HLL.out.later (below_alloc _ _))) (flat_one L) (by unfold maxLen; omega) (by omega) (by rw [blk_size]; exact Nat.le_succ_of_le HB1.out.size) (by omega) (clean_block (blk_new _ #[] _) (fun u hu => by simp at hu)) HZW.out (noWords_flat _) (fun u hu => by simp at hu) ?_)
        intro v' w2 hown hgrow hcl
        have HBa := Lib.hid ((below_then HB1.out (below_alloc _ _)).grown hgrow (by rw [blk_size]; exact Nat.le_succ_of_le HB1.out.size) (by intro k hk; simp [Value.ownBlock] at hk; have := HB1.out.size; omega))
        have hok : ∀ x ∈ L, x.ok w2 := fun x hx => Fx.aside ((HLL.out.ok hx).later (below_alloc _ _)) (clean_block (blk_new _ #[] _) (fun u hu => by simp at hu)) hgrow
        obtain ⟨a', c', rfl, hrw⟩ := rw_own hown (by rw [HLN.out]) hok HLR.out
        have HR := Lib.hid hrw
        clear hown hgrow hcl hok hrw
        go_wp2
        go_ret
        refine ⟨a', k + 1, c', rfl, ?_, HBa.out⟩
        rw [HN2.out, ← HLQ.out]
        exact HR.out
end Go.Proofs.YtipcgehcineblaaGreat
