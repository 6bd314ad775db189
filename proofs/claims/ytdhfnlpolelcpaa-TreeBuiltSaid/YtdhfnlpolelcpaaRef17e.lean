/-
  The document's answer of layer 17: SameField.
-/
import Derived.Test.YtdhfnlpolelcpaaRef17d
import Derived.WalkKit
import Derived.Deep.RegionHeld3
import Derived.Deep.CutRange
namespace Go.Proofs.Ytdhfnlpolelcpaa
open Go.RowKit

/-- Are two fields the same? -/
def tSame (K : List Lt) (O : List Sn) (K' : List Lt) (O' : List Sn) : Prop := K.map Lt.t = K'.map Lt.t ∧ O.length = O'.length ∧ (tCodes K O).map Sn.sem = (tCodes K' O').map Sn.sem
instance (K : List Lt) (O : List Sn) (K' : List Lt) (O' : List Sn) : Decidable (tSame K O K' O') := by unfold tSame; infer_instance
theorem map_drop {α β : Type} {f : α → β} {L : List α} {k : Nat} {x : α} (h : L[k]? = some x) : (L.map f).drop k = f x :: (L.map f).drop (k + 1) := by
  have hl : k < L.length := by
    rcases Nat.lt_or_ge k L.length with h9 | h9
    · exact h9
    · rw [List.getElem?_eq_none h9] at h; cases h
  rw [List.getElem?_eq_getElem hl] at h
  rw [List.drop_eq_getElem_cons (by rw [List.length_map]; exact hl), List.getElem_map, Option.some.inj h]
theorem sn_cells {w : World} {a : Option Addr} {n c : Nat} {X : List Sn} {k : Nat} {x : Sn} {b : Nat} {o : Nat} (h : Sns w a n c X) (hx : X[k]? = some x) (ha : a = some ⟨b, o, none⟩) : w.cell? ⟨b, o + k, none⟩ = some (.slice x.a x.n x.c) ∧ Nds w x.a x.n x.c x.L := by
  obtain ⟨b', o', e, h1, h2⟩ := h.get hx
  rw [ha] at e
  simp only [Option.some.injEq, Addr.mk.injEq, and_true] at e
  obtain ⟨rfl, rfl⟩ := e
  exact ⟨h1, h2⟩
set_option maxRecDepth 4096 in
set_option maxHeartbeats 16000000 in
theorem ref17_sameField (a : Option Addr) (n c : Nat) (K : List Lt) (b : Option Addr) (m d : Nat) (O : List Sn) (a' : Option Addr) (n' c' : Nat) (K' : List Lt) (b' : Option Addr) (m' d' : Nat) (O' : List Sn) (w : World)
    (h : Lts w a n c K) (h2 : Sns w b m d O) (g : Lts w a' n' c' K') (g2 : Sns w b' m' d' O') (hn : n ≤ 5000) (hm : m ≤ 5000) (hs : ∀ x ∈ tCodes K O, thinN 1000000 x.L) (hs' : ∀ x ∈ tCodes K' O', thinN 1000000 x.L) :
    Calls Try.prog 29 #[fiV a n c b m d, fiV a' n' c' b' m' d'] w (Gives (.bool (decide (tSame K O K' O'))) w) := by
  have hl1 := h.len
  have hl2 := h2.len
  have hl3 := g.len
  have hl4 := g2.len
  have hbd := h.bound
  have hbd2 := h2.bound
  have hbd3 := g.bound
  have hbd4 := g2.bound
  have HB := Lib.hid (below_then (below_alloc w (.cells #[.slice a n c, .slice b m d] 41)) (below_alloc _ (.cells #[.slice a' n' c', .slice b' m' d'] 41)))
  obtain ⟨hx1, hx2⟩ := boxes_at w ((w.alloc (.cells #[.slice a n c, .slice b m d] 41)).alloc (.cells #[.slice a' n' c', .slice b' m' d'] 41)) #[.slice a n c, .slice b m d] #[.slice a' n' c', .slice b' m' d'] 41 41 (Below.refl _ _)
  have HR1 := Lib.hid hx1
  have HR2 := Lib.hid hx2
  have HK := Lib.hid (Kin.All.later h HB.out)
  have HO := Lib.hid (Kin.All.later h2 HB.out)
  have HK' := Lib.hid (Kin.All.later g HB.out)
  have HO' := Lib.hid (Kin.All.later g2 HB.out)
  obtain ⟨f0, f1⟩ := cells2 hx1
  obtain ⟨g0, g1⟩ := cells2 hx2
  have HSa := Lib.hid hs
  have HSb := Lib.hid hs'
  clear hx1 hx2 h h2 g g2 hs hs'
  obtain ⟨R, hR⟩ : ∃ R, decide (tSame K O K' O') = R := ⟨_, rfl⟩
  rw [hR]
  have HR := Lib.hid hR
  clear hR
  unfold fiV
  by_cases hnn : n = n'
  · subst hnn
    have q0 : ((n : Int) != (n : Int)) = false := by simp
    by_cases hmm : m = m'
    · subst hmm
      have q1 : ((m : Int) != (m : Int)) = false := by simp
      have HL1 := Lib.hid hl1
      have HL2 := Lib.hid hl2
      have HL3 := Lib.hid hl3
      have HL4 := Lib.hid hl4
      have HRn : Hid (R = decide (K.map Lt.t = K'.map Lt.t ∧ (tCodes K O).map Sn.sem = (tCodes K' O').map Sn.sem)) := Lib.hid (by
        rw [← HR.out]
        refine decide_eq_decide.2 ?_
        unfold tSame
        rw [hl2, hl4]
        simp)
      clear hl1 hl2 hl3 hl4 HR
      go_enter Try.func29, Try.ntmps29
      go_wp2
      have hs1 : w.heap.size < ((w.alloc (.cells #[.slice a n c, .slice b m d] 41)).alloc (.cells #[.slice a' n c', .slice b' m d'] 41)).heap.size := by simp; omega
      generalize ((w.alloc (.cells #[.slice a n c, .slice b m d] 41)).alloc (.cells #[.slice a' n c', .slice b' m d'] 41)) = w0 at *
      clear f0 f1 g0 g1
      go_loopw [5] (fun iv wr => ∃ k : Nat, k ≤ n ∧ iv = .int .i64 (k : Int) ∧ Hid (R = decide ((K.map Lt.t).drop k = (K'.map Lt.t).drop k ∧ (tCodes K O).map Sn.sem = (tCodes K' O').map Sn.sem)) ∧ Hid (Below w0.heap.size w0 wr)) (fun iv _ => n - (intOf iv).toNat)
      case atStart => exact ⟨0, by omega, by go_num, Lib.hid HRn.out, Lib.hid (Below.refl _ _)⟩
      case round =>
        obtain ⟨k, hk, rfl, HG, HW⟩ := hrel
        obtain ⟨f0, f1⟩ := cells2 (blk_later HR1.out HW.out)
        obtain ⟨g0, g1⟩ := cells2 (blk_later HR2.out HW.out)
        by_cases hlt : k < n
        · have hki : (k : Int) < (n : Int) := by omega
          obtain ⟨x, hx⟩ := at_some HL1.out hlt
          obtain ⟨y, hy⟩ := at_some HL3.out hlt
          obtain ⟨b0, o0, rfl, e0, -, -⟩ := Lts.get (Kin.All.later HK.out HW.out) hx
          obtain ⟨b1, o1, rfl, e1, -, -⟩ := Lts.get (Kin.All.later HK'.out HW.out) hy
          have HG2 : Hid (R = decide (x.t :: (K.map Lt.t).drop (k + 1) = y.t :: (K'.map Lt.t).drop (k + 1) ∧ (tCodes K O).map Sn.sem = (tCodes K' O').map Sn.sem)) := Lib.hid (by rw [← map_drop (f := Lt.t) hx, ← map_drop (f := Lt.t) hy]; exact HG.out)
          clear hx hy HG
          obtain ⟨xt, xa, xn, xc, xL⟩ := x
          obtain ⟨yt, ya, yn, yc, yL⟩ := y
          dsimp only at e0 e1 HG2
          by_cases ht : xt = yt
          · subst ht
            have q2 : ((bs xt).toList == (bs xt).toList) = true := by simp
            have HG3 : Hid (R = decide ((K.map Lt.t).drop (k + 1) = (K'.map Lt.t).drop (k + 1) ∧ (tCodes K O).map Sn.sem = (tCodes K' O').map Sn.sem)) := Lib.hid (by rw [HG2.out]; simp)
            clear HG2
            go_wp2
            go_region
            go_wp2
            go_roundw
            case rel => exact ⟨k + 1, by omega, by go_num, HG3, Lib.hid (below_then HW.out (below_draws _ _))⟩
            case measure => simp [intOf]; omega
          · have q2 : ((bs xt).toList == (bs yt).toList) = false := by rw [bs_list, bs_list]; simp [ht]
            obtain rfl : R = false := by rw [HG2.out]; simp [ht]
            clear HG2 ht
            go_wp2
            go_region
            go_wp2
            go_ret
            exact ⟨rfl, below_then HB.out (below_then HW.out (below_draws _ _))⟩
        · obtain rfl : k = n := by omega
          have HG2 : Hid (R = decide ((tCodes K O).map Sn.sem = (tCodes K' O').map Sn.sem)) := Lib.hid (by
            rw [HG.out, List.drop_of_length_le (by rw [List.length_map, HL1.out]; exact Nat.le_refl _), List.drop_of_length_le (by rw [List.length_map, HL3.out]; exact Nat.le_refl _)]
            simp)
          have HC := Lib.hid fun w1 (hb : Below w0.heap.size w0 w1) => ref17_codes a k c K b m d O w1 (Kin.All.later HK.out hb) (Kin.All.later HO.out hb) (by omega) (by omega)
          have HC' := Lib.hid fun w1 (hb : Below w0.heap.size w0 w1) => ref17_codes a' k c' K' b' m d' O' w1 (Kin.All.later HK'.out hb) (Kin.All.later HO'.out hb) (by omega) (by omega)
          have hlen : (tCodes K O).length = k + m := by unfold tCodes; rw [List.length_append, List.length_map, HL1.out, HL2.out]
          have hlen' : (tCodes K' O').length = k + m := by unfold tCodes; rw [List.length_append, List.length_map, HL3.out, HL4.out]
          clear HG HL1 HL2 HL3 HL4 HRn HK HO HK' HO'
          generalize tCodes K O = X at *
          generalize tCodes K' O' = Y at *
          unfold fiV at HC HC'
          go_wp2_with fail
          refine (HC.out _ HW.out).mono ?_
          rintro e w1 ⟨a1, n1, c1, rfl, h1, b1⟩
          have HW1 := Lib.hid (below_then HW.out b1)
          have HX1 := Lib.hid h1
          obtain rfl : n1 = k + m := h1.len.symm.trans hlen
          have hbx := h1.bound
          obtain ⟨g0, g1⟩ := cells2 (blk_later HR2.out HW1.out)
          clear h1 b1 f0 f1
          go_wp2_with fail
          refine (HC'.out _ HW1.out).mono ?_
          rintro e w2 ⟨a2, n2, c2, rfl, h2, b2⟩
          have HW2 := Lib.hid (below_then HW1.out b2)
          have HX2 := Lib.hid (Kin.All.later HX1.out b2)
          have HY2 := Lib.hid h2
          obtain rfl : n2 = k + m := h2.len.symm.trans hlen'
          have hby := h2.bound
          have HLx := Lib.hid hlen
          have HLy := Lib.hid hlen'
          clear h2 b2 HC HC' HX1 HW1 hlen hlen' g0 g1
          generalize k + m = s at *
          go_wp2
          go_loopw [8] (fun iv wr => ∃ j : Nat, j ≤ s ∧ iv = .int .i64 (j : Int) ∧ Hid (R = decide ((X.map Sn.sem).drop j = (Y.map Sn.sem).drop j)) ∧ Hid (Below w2.heap.size w2 wr)) (fun iv _ => s - (intOf iv).toNat)
          case atStart => exact ⟨0, by omega, by go_num, Lib.hid HG2.out, Lib.hid (Below.refl _ _)⟩
          case round =>
            obtain ⟨j, hj, rfl, HG3, HV⟩ := hrel
            by_cases hjt : j < s
            · have hji : (j : Int) < (s : Int) := by omega
              obtain ⟨x, hx⟩ := at_some HLx.out hjt
              obtain ⟨y, hy⟩ := at_some HLy.out hjt
              obtain ⟨b0, o0, rfl, -, -⟩ := Sns.get HX2.out hx
              obtain ⟨b1, o1, rfl, -, -⟩ := Sns.get HY2.out hy
              have HG4 : Hid (R = decide (x.sem :: (X.map Sn.sem).drop (j + 1) = y.sem :: (Y.map Sn.sem).drop (j + 1))) := Lib.hid (by rw [← map_drop (f := Sn.sem) hx, ← map_drop (f := Sn.sem) hy]; exact HG3.out)
              have HP := Lib.hid fun w1 (hb : Below w2.heap.size w2 w1) => ref17_same x.a x.n x.c x.L y.a y.n y.c y.L w1 (sn_cells (Kin.All.later HX2.out hb) hx rfl).2 (sn_cells (Kin.All.later HY2.out hb) hy rfl).2 (HSa.out x (List.mem_of_getElem? hx)) (HSb.out y (List.mem_of_getElem? hy))
              have HQ := Lib.hid fun w1 (hb : Below w2.heap.size w2 w1) => (show w1.cell? ⟨b0, o0 + j, none⟩ = some (.slice x.a x.n x.c) ∧ w1.cell? ⟨b1, o1 + j, none⟩ = some (.slice y.a y.n y.c) from ⟨(sn_cells (Kin.All.later HX2.out hb) hx rfl).1, (sn_cells (Kin.All.later HY2.out hb) hy rfl).1⟩)
              obtain ⟨e, he⟩ : ∃ e, decide (x.L.map Nd.sem = y.L.map Nd.sem) = e := ⟨_, rfl⟩
              rw [he] at HP
              have HE := Lib.hid he
              have HD := Lib.hid (show (x.sem = y.sem) = (x.L.map Nd.sem = y.L.map Nd.sem) from rfl)
              clear hx hy he HG3
              go_upto_region 13 with fail
              have HV9 := Lib.hid (below_then HV.out ((Below.refl _ _).drew : Below wr.heap.size wr wr.drew))
              clear HV
              have pSn := HQ.out _ HV9.out
              go_region_held3 (fun w' => w'.cell? ⟨b0, o0 + j, none⟩ = some (.slice x.a x.n x.c) ∧ w'.cell? ⟨b1, o1 + j, none⟩ = some (.slice y.a y.n y.c)) (exact pSn)
                (first
                | (go_at_call 20; refine (HP.out _ HV9.out).mono ?_; rintro e9 wp1 ⟨rfl, b9⟩; replace HV9 := Lib.hid (below_then HV9.out b9); clear b9; clear pSn; have pSn := HQ.out _ HV9.out))
              clear pSn
              cases e
              · obtain rfl : R = false := by
                  have hne : ¬ x.sem = y.sem := by rw [HD.out]; exact of_decide_eq_false HE.out
                  rw [HG4.out]; simp [hne]
                go_wp2
                go_ret
                exact ⟨rfl, below_then HB.out (below_then HW2.out HV9.out)⟩
              · have HG5 : Hid (R = decide ((X.map Sn.sem).drop (j + 1) = (Y.map Sn.sem).drop (j + 1))) := Lib.hid (by
                  have heq : x.sem = y.sem := by rw [HD.out]; exact of_decide_eq_true HE.out
                  rw [HG4.out, heq]; simp)
                go_wp2
                go_roundw
                case rel => exact ⟨j + 1, by omega, by go_num, HG5, HV9⟩
                case measure => simp [intOf]; omega
            · obtain rfl : j = s := by omega
              obtain rfl : R = true := by
                rw [HG3.out, List.drop_of_length_le (by rw [List.length_map, HLx.out]; exact Nat.le_refl _), List.drop_of_length_le (by rw [List.length_map, HLy.out]; exact Nat.le_refl _)]; simp
              go_wp2
              go_ret
              exact ⟨rfl, below_then HB.out (below_then HW2.out HV.out)⟩
    · have q1 : ((m : Int) != (m' : Int)) = true := by simp; omega
      obtain rfl : R = false := by
        rw [← HR.out, decide_eq_false_iff_not]
        rintro ⟨-, h9, -⟩
        omega
      go_enter Try.func29, Try.ntmps29
      go_wp2
      go_ret
      exact ⟨by first | rfl | simp, HB.out⟩
  · have q0 : ((n : Int) != (n' : Int)) = true := by simp; omega
    obtain rfl : R = false := by
      rw [← HR.out, decide_eq_false_iff_not]
      rintro ⟨h9, -, -⟩
      have := congrArg List.length h9
      simp only [List.length_map] at this
      omega
    go_enter Try.func29, Try.ntmps29
    go_wp2
    go_ret
    exact ⟨by first | rfl | simp, HB.out⟩
end Go.Proofs.Ytdhfnlpolelcpaa
