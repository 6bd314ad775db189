/-
  Several texts of this claim as one, group 7.
-/
import Derived.Test.YthblmpkdcahmkaaG6
import Derived.WalkKit
import Derived.Deep.RegionHeld3
import Derived.Deep.CutRange
import Derived.Deep.RegionLaw
import Derived.Test.YthblmpkdcahmkaaG1
import Derived.OwnWalk
import Derived.Laws.OwnMore
import Derived.Laws.MakeOwn
import Derived.Test.YthblmpkdcahmkaaG5
import Derived.Test.YthblmpkdcahmkaaRows
import Derived.WalkSpells
import Derived.WalkLawsBesides
import Derived.IntWalk
import Derived.Deep.QuietTactic
import Derived.BigQuiet
import Derived.Lib.BitFns
import Derived.Lib.Strings
import Derived.Lib.Slices
import Derived.Lib.Small
import Derived.Lib.Walk
/-
  The document's answer of layer 17: SameField.
-/
namespace Go.Proofs.Ythblmpkdcahmkaa
open Go.RowKit

/-- Are two fields the same? -/
def tSame (K : List Lt) (O : List Sn) (K' : List Lt) (O' : List Sn) : Prop := K.map Lt.t = K'.map Lt.t ∧ O.length = O'.length ∧ (tCodes K O).map Sn.sem = (tCodes K' O').map Sn.sem
instance (K : List Lt) (O : List Sn) (K' : List Lt) (O' : List Sn) : Decidable (tSame K O K' O') := by unfold tSame; infer_instance
theorem map_drop {α β : Type} {f : α → β} {L : List α} {k : Nat} {x : α} (h : L[k]? = some x) : (L.map f).drop k = f x :: (L.map f).drop (k + 1) := by
  have hl : k < L.length := by
    rcases Nat.lt_or_ge k L.length with h9 | h9
    · exact h9
    · rw [List.getElem?_eq_none h9] at h; cases h
  rw [List.getElem?_eq_getElem hl] at h
  rw [List.drop_eq_getElem_cons (by rw [List.length_map]; exact hl), List.getElem_map, Option.some.inj h]
theorem sn_cells {w : World} {a : Option Addr} {n c : Nat} {X : List Sn} {k : Nat} {x : Sn} {b : Nat} {o : Nat} (h : Sns w a n c X) (hx : X[k]? = some x) (ha : a = some ⟨b, o, none⟩) : w.cell? ⟨b, o + k, none⟩ = some (.slice x.a x.n x.c) ∧ Nds w x.a x.n x.c x.L := by
  obtain ⟨b', o', e, h1, h2⟩ := h.get hx
  rw [ha] at e
  simp only [Option.some.injEq, Addr.mk.injEq, and_true] at e
  obtain ⟨rfl, rfl⟩ := e
  exact ⟨h1, h2⟩
set_option maxRecDepth 4096 in
set_option maxHeartbeats 16000000 in
theorem ref17_sameField (a : Option Addr) (n c : Nat) (K : List Lt) (b : Option Addr) (m d : Nat) (O : List Sn) (a' : Option Addr) (n' c' : Nat) (K' : List Lt) (b' : Option Addr) (m' d' : Nat) (O' : List Sn) (w : World)
    (h : Lts w a n c K) (h2 : Sns w b m d O) (g : Lts w a' n' c' K') (g2 : Sns w b' m' d' O') (hn : n ≤ 5000) (hm : m ≤ 5000) (hs : ∀ x ∈ tCodes K O, thinN 1000000 x.L) (hs' : ∀ x ∈ tCodes K' O', thinN 1000000 x.L) :
    Calls Try.prog 9 #[fiV a n c b m d, fiV a' n' c' b' m' d'] w (Gives (.bool (decide (tSame K O K' O'))) w) := by
  have hl1 := h.len
  have hl2 := h2.len
  have hl3 := g.len
  have hl4 := g2.len
  have hbd := h.bound
  have hbd2 := h2.bound
  have hbd3 := g.bound
  have hbd4 := g2.bound
  have HB := Lib.hid (below_then (below_alloc w (.cells #[.slice a n c, .slice b m d] 34)) (below_alloc _ (.cells #[.slice a' n' c', .slice b' m' d'] 34)))
  obtain ⟨hx1, hx2⟩ := boxes_at w ((w.alloc (.cells #[.slice a n c, .slice b m d] 34)).alloc (.cells #[.slice a' n' c', .slice b' m' d'] 34)) #[.slice a n c, .slice b m d] #[.slice a' n' c', .slice b' m' d'] 34 34 (Below.refl _ _)
  have HR1 := Lib.hid hx1
  have HR2 := Lib.hid hx2
  have HK := Lib.hid (Kin.All.later h HB.out)
  have HO := Lib.hid (Kin.All.later h2 HB.out)
  have HK' := Lib.hid (Kin.All.later g HB.out)
  have HO' := Lib.hid (Kin.All.later g2 HB.out)
  obtain ⟨f0, f1⟩ := cells2 hx1
  obtain ⟨g0, g1⟩ := cells2 hx2
  have HSa := Lib.hid hs
  have HSb := Lib.hid hs'
  clear hx1 hx2 h h2 g g2 hs hs'
  obtain ⟨R, hR⟩ : ∃ R, decide (tSame K O K' O') = R := ⟨_, rfl⟩
  rw [hR]
  have HR := Lib.hid hR
  clear hR
  unfold fiV
  by_cases hnn : n = n'
  · subst hnn
    have q0 : ((n : Int) != (n : Int)) = false := by simp
    by_cases hmm : m = m'
    · subst hmm
      have q1 : ((m : Int) != (m : Int)) = false := by simp
      have HL1 := Lib.hid hl1
      have HL2 := Lib.hid hl2
      have HL3 := Lib.hid hl3
      have HL4 := Lib.hid hl4
      have HRn : Hid (R = decide (K.map Lt.t = K'.map Lt.t ∧ (tCodes K O).map Sn.sem = (tCodes K' O').map Sn.sem)) := Lib.hid (by
        rw [← HR.out]
        refine decide_eq_decide.2 ?_
        unfold tSame
        rw [hl2, hl4]
        simp)
      clear hl1 hl2 hl3 hl4 HR
      go_enter Try.func9, Try.ntmps9
      go_wp2
      have hs1 : w.heap.size < ((w.alloc (.cells #[.slice a n c, .slice b m d] 34)).alloc (.cells #[.slice a' n c', .slice b' m d'] 34)).heap.size := by simp; omega
      generalize ((w.alloc (.cells #[.slice a n c, .slice b m d] 34)).alloc (.cells #[.slice a' n c', .slice b' m d'] 34)) = w0 at *
      clear f0 f1 g0 g1
      go_loopw [5] (fun iv wr => ∃ k : Nat, k ≤ n ∧ iv = .int .i64 (k : Int) ∧ Hid (R = decide ((K.map Lt.t).drop k = (K'.map Lt.t).drop k ∧ (tCodes K O).map Sn.sem = (tCodes K' O').map Sn.sem)) ∧ Hid (Below w0.heap.size w0 wr)) (fun iv _ => n - (intOf iv).toNat)
      case atStart => exact ⟨0, by omega, by go_num, Lib.hid HRn.out, Lib.hid (Below.refl _ _)⟩
      case round =>
        obtain ⟨k, hk, rfl, HG, HW⟩ := hrel
        obtain ⟨f0, f1⟩ := cells2 (blk_later HR1.out HW.out)
        obtain ⟨g0, g1⟩ := cells2 (blk_later HR2.out HW.out)
        by_cases hlt : k < n
        · have hki : (k : Int) < (n : Int) := by omega
          obtain ⟨x, hx⟩ := at_some HL1.out hlt
          obtain ⟨y, hy⟩ := at_some HL3.out hlt
          obtain ⟨b0, o0, rfl, e0, -, -⟩ := Lts.get (Kin.All.later HK.out HW.out) hx
          obtain ⟨b1, o1, rfl, e1, -, -⟩ := Lts.get (Kin.All.later HK'.out HW.out) hy
          have HG2 : Hid (R = decide (x.t :: (K.map Lt.t).drop (k + 1) = y.t :: (K'.map Lt.t).drop (k + 1) ∧ (tCodes K O).map Sn.sem = (tCodes K' O').map Sn.sem)) := Lib.hid (by rw [← map_drop (f := Lt.t) hx, ← map_drop (f := Lt.t) hy]; exact HG.out)
          clear hx hy HG
          obtain ⟨xt, xa, xn, xc, xL⟩ := x
          obtain ⟨yt, ya, yn, yc, yL⟩ := y
          dsimp only at e0 e1 HG2
          by_cases ht : xt = yt
          · subst ht
            have q2 : ((bs xt).toList == (bs xt).toList) = true := by simp
            have HG3 : Hid (R = decide ((K.map Lt.t).drop (k + 1) = (K'.map Lt.t).drop (k + 1) ∧ (tCodes K O).map Sn.sem = (tCodes K' O').map Sn.sem)) := Lib.hid (by rw [HG2.out]; simp)
            clear HG2
            go_wp2
            go_region
            go_wp2
            go_roundw
            case rel => exact ⟨k + 1, by omega, by go_num, HG3, Lib.hid (below_then HW.out (below_draws _ _))⟩
            case measure => simp [intOf]; omega
          · have q2 : ((bs xt).toList == (bs yt).toList) = false := by rw [bs_list, bs_list]; simp [ht]
            obtain rfl : R = false := by rw [HG2.out]; simp [ht]
            clear HG2 ht
            go_wp2
            go_region
            go_wp2
            go_ret
            exact ⟨rfl, below_then HB.out (below_then HW.out (below_draws _ _))⟩
        · obtain rfl : k = n := by omega
          have HG2 : Hid (R = decide ((tCodes K O).map Sn.sem = (tCodes K' O').map Sn.sem)) := Lib.hid (by
            rw [HG.out, List.drop_of_length_le (by rw [List.length_map, HL1.out]; exact Nat.le_refl _), List.drop_of_length_le (by rw [List.length_map, HL3.out]; exact Nat.le_refl _)]
            simp)
          have HC := Lib.hid fun w1 (hb : Below w0.heap.size w0 w1) => ref17_codes a k c K b m d O w1 (Kin.All.later HK.out hb) (Kin.All.later HO.out hb) (by omega) (by omega)
          have HC' := Lib.hid fun w1 (hb : Below w0.heap.size w0 w1) => ref17_codes a' k c' K' b' m d' O' w1 (Kin.All.later HK'.out hb) (Kin.All.later HO'.out hb) (by omega) (by omega)
          have hlen : (tCodes K O).length = k + m := by unfold tCodes; rw [List.length_append, List.length_map, HL1.out, HL2.out]
          have hlen' : (tCodes K' O').length = k + m := by unfold tCodes; rw [List.length_append, List.length_map, HL3.out, HL4.out]
          clear HG HL1 HL2 HL3 HL4 HRn HK HO HK' HO'
          generalize tCodes K O = X at *
          generalize tCodes K' O' = Y at *
          unfold fiV at HC HC'
          go_wp2_with fail
          refine (HC.out _ HW.out).mono ?_
          rintro e w1 ⟨a1, n1, c1, rfl, h1, b1⟩
          have HW1 := Lib.hid (below_then HW.out b1)
          have HX1 := Lib.hid h1
          obtain rfl : n1 = k + m := h1.len.symm.trans hlen
          have hbx := h1.bound
          obtain ⟨g0, g1⟩ := cells2 (blk_later HR2.out HW1.out)
          clear h1 b1 f0 f1
          go_wp2_with fail
          refine (HC'.out _ HW1.out).mono ?_
          rintro e w2 ⟨a2, n2, c2, rfl, h2, b2⟩
          have HW2 := Lib.hid (below_then HW1.out b2)
          have HX2 := Lib.hid (Kin.All.later HX1.out b2)
          have HY2 := Lib.hid h2
          obtain rfl : n2 = k + m := h2.len.symm.trans hlen'
          have hby := h2.bound
          have HLx := Lib.hid hlen
          have HLy := Lib.hid hlen'
          clear h2 b2 HC HC' HX1 HW1 hlen hlen' g0 g1
          generalize k + m = s at *
          go_wp2
          go_loopw [8] (fun iv wr => ∃ j : Nat, j ≤ s ∧ iv = .int .i64 (j : Int) ∧ Hid (R = decide ((X.map Sn.sem).drop j = (Y.map Sn.sem).drop j)) ∧ Hid (Below w2.heap.size w2 wr)) (fun iv _ => s - (intOf iv).toNat)
          case atStart => exact ⟨0, by omega, by go_num, Lib.hid HG2.out, Lib.hid (Below.refl _ _)⟩
          case round =>
            obtain ⟨j, hj, rfl, HG3, HV⟩ := hrel
            by_cases hjt : j < s
            · have hji : (j : Int) < (s : Int) := by omega
              obtain ⟨x, hx⟩ := at_some HLx.out hjt
              obtain ⟨y, hy⟩ := at_some HLy.out hjt
              obtain ⟨b0, o0, rfl, -, -⟩ := Sns.get HX2.out hx
              obtain ⟨b1, o1, rfl, -, -⟩ := Sns.get HY2.out hy
              have HG4 : Hid (R = decide (x.sem :: (X.map Sn.sem).drop (j + 1) = y.sem :: (Y.map Sn.sem).drop (j + 1))) := Lib.hid (by rw [← map_drop (f := Sn.sem) hx, ← map_drop (f := Sn.sem) hy]; exact HG3.out)
              have HP := Lib.hid fun w1 (hb : Below w2.heap.size w2 w1) => ref17_same x.a x.n x.c x.L y.a y.n y.c y.L w1 (sn_cells (Kin.All.later HX2.out hb) hx rfl).2 (sn_cells (Kin.All.later HY2.out hb) hy rfl).2 (HSa.out x (List.mem_of_getElem? hx)) (HSb.out y (List.mem_of_getElem? hy))
              have HQ := Lib.hid fun w1 (hb : Below w2.heap.size w2 w1) => (show w1.cell? ⟨b0, o0 + j, none⟩ = some (.slice x.a x.n x.c) ∧ w1.cell? ⟨b1, o1 + j, none⟩ = some (.slice y.a y.n y.c) from ⟨(sn_cells (Kin.All.later HX2.out hb) hx rfl).1, (sn_cells (Kin.All.later HY2.out hb) hy rfl).1⟩)
              obtain ⟨e, he⟩ : ∃ e, decide (x.L.map Nd.sem = y.L.map Nd.sem) = e := ⟨_, rfl⟩
              rw [he] at HP
              have HE := Lib.hid he
              have HD := Lib.hid (show (x.sem = y.sem) = (x.L.map Nd.sem = y.L.map Nd.sem) from rfl)
              clear hx hy he HG3
              go_upto_region 13 with fail
              have HV9 := Lib.hid (below_then HV.out ((Below.refl _ _).drew : Below wr.heap.size wr wr.drew))
              clear HV
              have pSn := HQ.out _ HV9.out
              go_region_held3 (fun w' => w'.cell? ⟨b0, o0 + j, none⟩ = some (.slice x.a x.n x.c) ∧ w'.cell? ⟨b1, o1 + j, none⟩ = some (.slice y.a y.n y.c)) (exact pSn)
                (first
                | (go_at_call 14; refine (HP.out _ HV9.out).mono ?_; rintro e9 wp1 ⟨rfl, b9⟩; replace HV9 := Lib.hid (below_then HV9.out b9); clear b9; clear pSn; have pSn := HQ.out _ HV9.out))
              clear pSn
              cases e
              · obtain rfl : R = false := by
                  have hne : ¬ x.sem = y.sem := by rw [HD.out]; exact of_decide_eq_false HE.out
                  rw [HG4.out]; simp [hne]
                go_wp2
                go_ret
                exact ⟨rfl, below_then HB.out (below_then HW2.out HV9.out)⟩
              · have HG5 : Hid (R = decide ((X.map Sn.sem).drop (j + 1) = (Y.map Sn.sem).drop (j + 1))) := Lib.hid (by
                  have heq : x.sem = y.sem := by rw [HD.out]; exact of_decide_eq_true HE.out
                  rw [HG4.out, heq]; simp)
                go_wp2
                go_roundw
                case rel => exact ⟨j + 1, by omega, by go_num, HG5, HV9⟩
                case measure => simp [intOf]; omega
            · obtain rfl : j = s := by omega
              obtain rfl : R = true := by
                rw [HG3.out, List.drop_of_length_le (by rw [List.length_map, HLx.out]; exact Nat.le_refl _), List.drop_of_length_le (by rw [List.length_map, HLy.out]; exact Nat.le_refl _)]; simp
              go_wp2
              go_ret
              exact ⟨rfl, below_then HB.out (below_then HW2.out HV.out)⟩
    · have q1 : ((m : Int) != (m' : Int)) = true := by simp; omega
      obtain rfl : R = false := by
        rw [← HR.out, decide_eq_false_iff_not]
        rintro ⟨-, h9, -⟩
        omega
      go_enter Try.func9, Try.ntmps9
      go_wp2
      go_ret
      exact ⟨by first | rfl | simp, HB.out⟩
  · have q0 : ((n : Int) != (n' : Int)) = true := by simp; omega
    obtain rfl : R = false := by
      rw [← HR.out, decide_eq_false_iff_not]
      rintro ⟨h9, -, -⟩
      have := congrArg List.length h9
      simp only [List.length_map] at this
      omega
    go_enter Try.func9, Try.ntmps9
    go_wp2
    go_ret
    exact ⟨by first | rfl | simp, HB.out⟩
end Go.Proofs.Ythblmpkdcahmkaa

/-
  What package tree's functions owe (layer 17), as one hypothesis: the contracts that the laws' walks lean on.
-/
namespace Go.Proofs.Ythblmpkdcahmkaa
open Go.RowKit

/-- Expressions that mean these, of at most so many nodes of at most so many words each; and a Bool. -/
def LstP (S : List (List (Int × Int × Nat))) (N M : Nat) (b : Bool) (w : World) (e : Ending) (w' : World) : Prop :=
  ∃ (a : Option Addr) (n c : Nat) (K : List Sn), e = .returned (.tuple #[.slice a n c, .bool b]) ∧ Sns w' a n c K ∧ K.map Sn.sem = S ∧ (∀ x ∈ K, x.n ≤ N ∧ thinN M x.L) ∧ Below w.heap.size w w'
def LstE (S : List (List (Int × Int × Nat))) (N M : Nat) (w : World) (e : Ending) (w' : World) : Prop :=
  ∃ (a : Option Addr) (n c : Nat) (K : List Sn), e = .returned (.slice a n c) ∧ Sns w' a n c K ∧ K.map Sn.sem = S ∧ (∀ x ∈ K, x.n ≤ N ∧ thinN M x.L) ∧ Below w.heap.size w w'
structure TreeSaid : Prop where
  arity : ∀ (op : Int) (w : World), Calls Try.prog 70 #[.int .i64 op] w (Gives (.int .i64 (tAr op)) w)
  wrong : ∀ (a : Option Addr) (n c : Nat) (L : List Nd) (w : World), Nds w a n c L → n ≤ 100000 → Calls Try.prog 48 #[.slice a n c] w (Gives (.int .i64 (tWrong (L.map Nd.op))) w)
  right : ∀ (a : Option Addr) (n c : Nat) (L : List Nd) (w : World), Nds w a n c L → n ≤ 100000 → Calls Try.prog 20 #[.slice a n c] w (Gives (.bool (decide (tWrong (L.map Nd.op) < 0))) w)
  same : ∀ (a : Option Addr) (n c : Nat) (L : List Nd) (b : Option Addr) (m d : Nat) (M : List Nd) (w : World), Nds w a n c L → Nds w b m d M → n ≤ 100000 → m ≤ 100000 → thinN 100000 L → thinN 100000 M → Calls Try.prog 19 #[.slice a n c, .slice b m d] w (Gives (.bool (decide (L.map Nd.sem = M.map Nd.sem))) w)
  sameField : ∀ (a : Option Addr) (n c : Nat) (K : List Lt) (b : Option Addr) (m d : Nat) (O : List Sn) (a' : Option Addr) (n' c' : Nat) (K' : List Lt) (b' : Option Addr) (m' d' : Nat) (O' : List Sn) (w : World), Lts w a n c K → Sns w b m d O → Lts w a' n' c' K' → Sns w b' m' d' O' → n ≤ 5000 → m ≤ 5000 → n' ≤ 5000 → m' ≤ 5000 → (∀ x ∈ tCodes K O, x.n ≤ 100000 ∧ thinN 100000 x.L) → (∀ x ∈ tCodes K' O', x.n ≤ 100000 ∧ thinN 100000 x.L) → Calls Try.prog 18 #[fiV a n c b m d, fiV a' n' c' b' m' d'] w (Gives (.bool (decide (tSame K O K' O'))) w)
end Go.Proofs.Ythblmpkdcahmkaa

/-
  The laws of layer 17: To, Of; works.
-/
namespace Go.Proofs.Ythblmpkdcahmkaa
open Go.RowKit

/-- Just these nodes, in a slice as long. -/
def LstN (L : List Nd) (w : World) (e : Ending) (w' : World) : Prop :=
  ∃ (a : Option Addr) (n c : Nat), e = .returned (.slice a n c) ∧ Nds w' a n c L ∧ Below w.heap.size w w'
theorem infoOf17 : (Try.prog.info? 80).map (fun i => (i.zero, i.size, i.bytes)) = some (some (.agg #[.int .i64 0, .int .i64 0, .slice none 0 0]), 3, 40) := by kernel_rfl
set_option maxRecDepth 4096 in
set_option maxHeartbeats 8000000 in
theorem law17_of (a0 : Option Addr) (n0 c0 : Nat) (L : List Nd) (w : World) (h0 : Nds w a0 n0 c0 L) (hn : n0 ≤ 1000000) :
    Calls Try.prog 15 #[.slice a0 n0 c0] w (LstN L w) := by
  have hA := nd_at Try.underlying45 infoOf17
  have HK0 := Lib.hid h0
  have HLl0 := Lib.hid h0.len
  have hbd0 := h0.bound
  clear h0
  go_enter Try.func15, Try.ntmps15
  go_wp2
  go_loopw [3, 4] (fun v iv wr => ∃ k : Nat, k ≤ n0 ∧ iv = .int .i64 (k : Int) ∧ Hid (ndK.Mine wr w.heap.size 80 v (L.take k)) ∧ Hid (Below w.heap.size w wr)) (fun _ iv _ => n0 - (intOf iv).toNat)
  case atStart => exact ⟨0, by omega, by go_num, Lib.hid (Kin.Mine.nil _ _ _), Lib.hid (Below.refl _ _)⟩
  case round =>
    obtain ⟨k, hk, rfl, HX, HB⟩ := hrel
    by_cases hlt : k < n0
    · obtain ⟨x, hx⟩ := at_some HLl0.out hlt
      have HT0 : Hid (L.take (k + 1) = L.take k ++ [x]) := Lib.hid (take_snoc hx)
      have HTk : Hid ((L.take k).length = k) := Lib.hid (by rw [List.length_take, HLl0.out]; omega)
      obtain ⟨bb0, off0, rfl, e00, e10, e20, hw⟩ := Nds.get (Kin.All.later HK0.out HB.out) hx
      have HN := Lib.hid hw
      clear hw hx
      have hki : (k : Int) < (n0 : Int) := by omega
      have hwb := HB.out.size
      go_wp2
      go_region_law (first
        | (refine Kin.step_append hA rfl _ _ rfl w.heap.size _ (L.take k) rfl (Kin.Mine.later HX.out ((below_draws wr 1).alloc (Nat.le_refl _) _)) ⟨_, 0, none⟩ 1 1 [x] rfl rfl (nd_news _ x _) (fun y hy => by rw [List.mem_singleton.1 hy]; exact Wd.later HN.out ((below_draws wr 1).alloc (Nat.le_refl _) _)) (by rw [HTk.out]; unfold maxLen; omega) (by rw [HTk.out]; show (k + 1) * 40 ≤ _; omega) (by simp; omega) ?_; intro v' w5 hrow hgrow hnew))
      all_goals (
        have HX5 := Lib.hid hrow
        have HB5 : Hid (Below w.heap.size w w5) := Lib.hid (((HB.out.trans ((below_draws wr 1).mono HB.out.size)).alloc (by simp; omega) _).grown hgrow (by simp; omega) (fun g hg => Kin.Mine.base HX.out g hg))
        clear hrow hgrow hnew
        go_wp2
        go_roundw
        (case rel => exact ⟨k + 1, by omega, by go_num, Lib.hid (by rw [HT0.out]; exact HX5.out), HB5⟩)
        (case measure => simp [intOf]; omega))
    · obtain rfl : k = n0 := by omega
      have htk : L.take k = L := List.take_of_length_le (by rw [HLl0.out]; exact Nat.le_refl _)
      rw [htk] at HX
      obtain ⟨a9, c9, rfl, h9⟩ := HX.out.slice
      have H9 := Lib.hid h9
      clear h9 htk
      go_wp2
      go_ret
      exact ⟨a9, L.length, c9, rfl, H9.out, HB.out⟩
end Go.Proofs.Ythblmpkdcahmkaa

/-
  Fields that say the same (layer 17). Of no program.
-/
namespace Go.Proofs.Ythblmpkdcahmkaa
open Go.RowKit

/-- What a let says: its name, its nodes. -/
def Lt.tl (x : Lt) : List UInt8 × List Nd := (x.t, x.L)
theorem tl_sem {K K' : List Lt} (h : K'.map Lt.tl = K.map Lt.tl) : K'.map Lt.t = K.map Lt.t ∧ (K'.map Lt.sn).map Sn.sem = (K.map Lt.sn).map Sn.sem := by
  have h1 := congrArg (List.map fun x : List UInt8 × List Nd => x.1) h
  have h2 := congrArg (List.map fun x : List UInt8 × List Nd => x.2.map Nd.sem) h
  simp only [List.map_map] at h1 h2 ⊢
  exact ⟨h1, h2⟩
theorem L_sem {O O' : List Sn} (h : O'.map Sn.L = O.map Sn.L) : O'.map Sn.sem = O.map Sn.sem := by
  have h2 := congrArg (List.map fun x : List Nd => x.map Nd.sem) h
  simp only [List.map_map] at h2
  exact h2
theorem codes_sem {K K' : List Lt} {O O' : List Sn} (h : K'.map Lt.tl = K.map Lt.tl) (g : O'.map Sn.L = O.map Sn.L) : (tCodes K' O').map Sn.sem = (tCodes K O).map Sn.sem := by
  unfold tCodes
  rw [List.map_append, List.map_append, (tl_sem h).2, L_sem g]
theorem codes_L {K K' : List Lt} {O O' : List Sn} (h : K'.map Lt.tl = K.map Lt.tl) (g : O'.map Sn.L = O.map Sn.L) : (tCodes K' O').map Sn.L = (tCodes K O).map Sn.L := by
  have h2 := congrArg (List.map fun x : List UInt8 × List Nd => x.2) h
  unfold tCodes
  simp only [List.map_append, List.map_map] at h2 ⊢
  rw [g]
  exact congrArg (· ++ _) h2
/-- What is said of all expressions holds of those that say the same. -/
theorem codes_all {K K' : List Lt} {O O' : List Sn} (h : K'.map Lt.tl = K.map Lt.tl) (g : O'.map Sn.L = O.map Sn.L) {p : List Nd → Prop} (hp : ∀ x ∈ tCodes K O, p x.L) : ∀ x ∈ tCodes K' O', p x.L := by
  intro x hx
  have h1 : x.L ∈ (tCodes K' O').map Sn.L := List.mem_map.2 ⟨x, hx, rfl⟩
  rw [codes_L h g] at h1
  obtain ⟨y, hy, e⟩ := List.mem_map.1 h1
  rw [← e]
  exact hp y hy
theorem same_iff {K K' J J' : List Lt} {O O' P P' : List Sn} (h : K'.map Lt.tl = K.map Lt.tl) (g : O'.map Sn.L = O.map Sn.L) (h2 : J'.map Lt.tl = J.map Lt.tl) (g2 : P'.map Sn.L = P.map Sn.L) : tSame K' O' J' P' ↔ tSame K O J P := by
  unfold tSame
  rw [codes_sem h g, codes_sem h2 g2, (tl_sem h).1, (tl_sem h2).1]
  have e1 := congrArg List.length g
  have e2 := congrArg List.length g2
  simp only [List.length_map] at e1 e2
  rw [e1, e2]
theorem tSame_self (K : List Lt) (O : List Sn) : tSame K O K O := ⟨rfl, rfl, rfl⟩
/-- The lengths are those of what is held. -/
theorem codes_n {w : World} {a : Option Addr} {n c : Nat} {K : List Lt} {b : Option Addr} {m d : Nat} {O : List Sn} (h : Lts w a n c K) (h2 : Sns w b m d O) : ∀ x ∈ tCodes K O, x.n = x.L.length := fun x hx => by
  unfold tCodes at hx
  rcases List.mem_append.1 hx with h9 | h9
  · obtain ⟨y, hy, rfl⟩ := List.mem_map.1 h9
    exact (h.2 y hy).len.symm
  · exact (h2.2 x h9).len.symm
theorem size_L {X Y : List Sn} (hx : ∀ x ∈ X, x.n = x.L.length) (hy : ∀ x ∈ Y, x.n = x.L.length) (h : X.map Sn.L = Y.map Sn.L) : tSize X = tSize Y := by
  have key : ∀ Z : List Sn, (∀ x ∈ Z, x.n = x.L.length) → tSize Z = ((Z.map Sn.L).map List.length).sum := fun Z hz => by
    unfold tSize
    rw [List.map_map]
    exact congrArg List.sum (List.map_congr_left fun x hx => hz x hx)
  rw [key X hx, key Y hy, h]
/-- What a long field isn't, of all its expressions. -/
theorem not_long {K : List Lt} {O : List Sn} {many words : Nat} (h : ∀ x ∈ K, x.t.length ≤ 100 ∧ x.n ≤ many ∧ thinN words x.L) (g : ∀ x ∈ O, x.n ≤ many ∧ thinN words x.L) : ∀ x ∈ tCodes K O, x.n ≤ many ∧ thinN words x.L := fun x hx => by
  unfold tCodes at hx
  rcases List.mem_append.1 hx with h9 | h9
  · obtain ⟨y, hy, rfl⟩ := List.mem_map.1 h9
    exact (h y hy).2
  · exact g x h9
end Go.Proofs.Ythblmpkdcahmkaa

/-
  The laws of layer 17: ToField.
-/
namespace Go.Proofs.Ythblmpkdcahmkaa
open Go.RowKit

theorem grown_set (w : World) (g i : Nat) (u : Value) : w.grownBy (w.setCell ⟨g, i, none⟩ u) (some g) :=
  ⟨rfl, rfl, rfl, ((Below.refl 0 w).setCell (p := ⟨g, i, none⟩) (Nat.zero_le _) u).size, fun k _ hk => Below.heap_setCell _ _ _ k (fun e => hk (by rw [e]))⟩
/-- A box of such cells, as what grows. -/
theorem only_box {p : Value → Prop} {w : World} {g : Nat} {cur : Array Value} {t : TypeId} (hg : w.heap[g]? = some (.cells cur t (0, 0))) (h : ∀ u ∈ cur.toList, p u) : Only p w (.slice (some ⟨g, 0, none⟩) 0 0) := only_block hg h
theorem Kin.Mine.boxed {α : Type} {K : Kin α} {w : World} {base : Nat} {e : TypeId} {v : Value} {L : List α} (h : K.Mine w base e v L) {g : Nat} {cur : Array Value} {t : TypeId} (hg : w.heap[g]? = some (.cells cur t (0, 0))) (hp : ∀ u ∈ cur.toList, K.p u) (hne : ∀ k, v.ownBlock = some k → k ≠ g) (i : Nat) (u : Value) : K.Mine (w.setCell ⟨g, i, none⟩ u) base e v L :=
  ⟨h.1.beside (grown_set w g i u) fun k hk e => hne k hk (Option.some.inj e).symm, fun x hx => K.aside (h.2 x hx) (only_box hg hp) (grown_set w g i u)⟩
theorem Lts.only {w w' : World} {v : Value} {a : Option Addr} {n c : Nat} {K : List Lt} (h : Lts w a n c K) {p : Value → Prop} (ho : Only p w v) (hg : w.grownBy w' v.ownBlock) (hno : ∀ (k : IntKind) (n : Int), ¬ p (.int k n)) (hns : ∀ s : ByteArray, ¬ p (.string s)) : Lts w' a n c K :=
  ⟨h.1.aside ho hg fun _ => ⟨0, _, rfl, hns _⟩, fun x hx => Nds.only (h.2 x hx) ho hg hno⟩
theorem slice_noInt : ∀ (k : IntKind) (n : Int), ¬ isSlice (.int k n) := fun k n ⟨_, _, _, e⟩ => by cases e
theorem slice_noStr : ∀ s : ByteArray, ¬ isSlice (.string s) := fun s ⟨_, _, _, e⟩ => by cases e
theorem two_slices {a : Option Addr} {n c : Nat} {b : Option Addr} {m d : Nat} : ∀ u ∈ (#[Value.slice a n c, .slice b m d] : Array Value).toList, isSlice u := fun u hu => by
  simp at hu
  rcases hu with rfl | rfl
  · exact ⟨_, _, _, rfl⟩
  · exact ⟨_, _, _, rfl⟩
theorem slice_let {u : Value} (h : isSlice u) : isLet u := .inr h
theorem lt_at {P : Program} {t e : TypeId} (ht : P.underlying t = some (.slice e)) (h : (P.info? e).map (fun i => (i.zero, i.size, i.bytes)) = some (some (.agg #[.string ⟨#[]⟩, .slice none 0 0]), 2, 40)) : ltK.toCls.At P t e :=
  Cls.atOf ltK.toCls ht h rfl (fun u hu => by
    simp [Value.cells] at hu
    rcases hu with rfl | rfl
    · exact .inl ⟨_, rfl⟩
    · exact .inr ⟨_, _, _, rfl⟩)
theorem lt_news (w : World) (x : Lt) (e : TypeId) : ∀ j u, ([x].flatMap ltK.cells)[j]? = some u → (w.alloc (.cells #[.string (bs x.t), .slice x.a x.n x.c] e)).cell? ((⟨w.heap.size, 0, none⟩ : Addr).add j) = some u := Cls.news_one (C := ltK.toCls) w x e
theorem lt_cells {w : World} {b off n c k : Nat} {K : List Lt} {xt : List UInt8} {xa : Option Addr} {xn xc : Nat} {xL : List Nd} (h : Lts w (some ⟨b, off, none⟩) n c K) (hx : K[k]? = some ⟨xt, xa, xn, xc, xL⟩) : w.cell? ⟨b, off + k * 2, none⟩ = some (.string (bs xt)) ∧ w.cell? ⟨b, off + k * 2 + 1, none⟩ = some (.slice xa xn xc) := by
  obtain ⟨b', o', e, h1, h2, -⟩ := h.get hx
  simp only [Option.some.injEq, Addr.mk.injEq, and_true] at e
  obtain ⟨rfl, rfl⟩ := e
  exact ⟨h1, h2⟩
theorem box_let {v : Value} (h : isSlice v) : ∀ u ∈ (#[v, .slice none 0 0] : Array Value).toList, ltK.p u := fun u hu => by
  simp at hu
  rcases hu with rfl | rfl
  · exact .inr h
  · exact .inr ⟨_, _, _, rfl⟩
theorem two_isSlice {u v : Value} (hu : isSlice u) (hv : isSlice v) : ∀ x ∈ (#[u, v] : Array Value).toList, isSlice x := fun x hx => by
  simp at hx
  rcases hx with rfl | rfl
  · exact hu
  · exact hv
/-- A field that says this. -/
def LstF (K : List Lt) (O : List Sn) (w : World) (e : Ending) (w' : World) : Prop :=
  ∃ (a : Option Addr) (n c : Nat) (K' : List Lt) (b : Option Addr) (m d : Nat) (O' : List Sn), e = .returned (fiV a n c b m d) ∧ Lts w' a n c K' ∧ Sns w' b m d O' ∧ K'.map Lt.tl = K.map Lt.tl ∧ O'.map Sn.L = O.map Sn.L ∧ Below w.heap.size w w'
end Go.Proofs.Ythblmpkdcahmkaa

/-
  The laws of layer 17: OfField (written as ToField by wip/gen17_field.py, the types in each other's place).
-/
namespace Go.Proofs.Ythblmpkdcahmkaa
open Go.RowKit

theorem infoLetOf17 : (Try.prog.info? 72).map (fun i => (i.zero, i.size, i.bytes)) = some (some (.agg #[.string ⟨#[]⟩, .slice none 0 0]), 2, 40) := by kernel_rfl
theorem infoOutOf17 : (Try.prog.info? 45).map (fun i => (i.zero, i.size, i.bytes)) = some (some (.slice none 0 0), 1, 24) := by kernel_rfl
set_option maxRecDepth 4096 in
set_option maxHeartbeats 16000000 in
theorem law17_ofField (a : Option Addr) (n c : Nat) (K : List Lt) (b : Option Addr) (m d : Nat) (O : List Sn) (w : World) (h : Lts w a n c K) (h2 : Sns w b m d O) (hn : n ≤ 10000) (hm : m ≤ 10000) (hs : ∀ x ∈ tCodes K O, x.n ≤ 1000000) :
    Calls Try.prog 10 #[fiV a n c b m d] w (LstF K O w) := by
  have hA := lt_at Try.underlying31 infoLetOf17
  have hA2 := sn_at Try.underlying32 infoOutOf17
  have HKl := Lib.hid h.len
  have HOl := Lib.hid h2.len
  have hbd := h.bound
  have hbd2 := h2.bound
  have HK := Lib.hid h
  have HO := Lib.hid h2
  have HSz := Lib.hid hs
  clear h h2 hs
  have HR0 := Lib.hid (blk_later (blk_new w #[.slice a n c, .slice b m d] 26) (below_then (below_alloc _ (.cells #[.slice none 0 0, .slice none 0 0] 34)) (below_alloc _ (.cells #[.slice none 0 0, .slice none 0 0] 34))))
  have HR1 : Hid ((((w.alloc (.cells #[.slice a n c, .slice b m d] 26)).alloc (.cells #[.slice none 0 0, .slice none 0 0] 34)).alloc (.cells #[.slice none 0 0, .slice none 0 0] 34)).heap[w.heap.size + 1]? = some (.cells #[.slice none 0 0, .slice none 0 0] 34 (0, 0))) := Lib.hid (by
    have h9 := blk_later (blk_new (w.alloc (.cells #[.slice a n c, .slice b m d] 26)) #[.slice none 0 0, .slice none 0 0] 34) (below_alloc _ (.cells #[.slice none 0 0, .slice none 0 0] 34))
    rw [blk_size] at h9; exact h9)
  have HR2 : Hid ((((w.alloc (.cells #[.slice a n c, .slice b m d] 26)).alloc (.cells #[.slice none 0 0, .slice none 0 0] 34)).alloc (.cells #[.slice none 0 0, .slice none 0 0] 34)).heap[w.heap.size + 1 + 1]? = some (.cells #[.slice none 0 0, .slice none 0 0] 34 (0, 0))) := Lib.hid (by
    have h9 := blk_new ((w.alloc (.cells #[.slice a n c, .slice b m d] 26)).alloc (.cells #[.slice none 0 0, .slice none 0 0] 34)) #[.slice none 0 0, .slice none 0 0] 34
    rw [blk_size, blk_size] at h9; exact h9)
  have HB0 := Lib.hid (below_then (below_then (below_alloc w (.cells #[.slice a n c, .slice b m d] 26)) (below_alloc _ (.cells #[.slice none 0 0, .slice none 0 0] 34))) (below_alloc _ (.cells #[.slice none 0 0, .slice none 0 0] 34)))
  go_enter Try.func10, Try.ntmps10
  unfold fiV
  go_wp2
  generalize (((w.alloc (.cells #[.slice a n c, .slice b m d] 26)).alloc (.cells #[.slice none 0 0, .slice none 0 0] 34)).alloc (.cells #[.slice none 0 0, .slice none 0 0] 34)) = w0 at *
  go_loopw [4] (fun iv wr => ∃ (k : Nat) (v : Value) (Z : List Lt), k ≤ n ∧ iv = .int .i64 (k : Int) ∧ Hid (wr.heap[w.heap.size]? = some (.cells #[.slice a n c, .slice b m d] 26 (0, 0))) ∧ Hid (wr.heap[w.heap.size + 1]? = some (.cells #[.slice none 0 0, .slice none 0 0] 34 (0, 0))) ∧ Hid (wr.heap[w.heap.size + 1 + 1]? = some (.cells #[v, .slice none 0 0] 34 (0, 0))) ∧ Hid (ltK.Mine wr (w.heap.size + 1 + 1 + 1) 72 v Z) ∧ Hid (Z.map Lt.tl = (K.take k).map Lt.tl) ∧ Hid (Below w.heap.size w wr)) (fun iv _ => n - (intOf iv).toNat)
  case atStart => exact ⟨0, _, [], by omega, by go_num, HR0, HR1, HR2, Lib.hid (Kin.Mine.nil _ _ _), Lib.hid (by simp), HB0⟩
  case round =>
    clear HR0 HR1 HR2 HB0
    obtain ⟨k, v, Z, hk, rfl, HR0, HR1, HR2, HM, HZ, HB⟩ := hrel
    obtain ⟨f0, f1⟩ := cells2 HR0.out
    obtain ⟨o0, o1⟩ := cells2 HR2.out
    have hsz : w.heap.size + 1 + 1 < wr.heap.size := (Array.getElem?_eq_some_iff.1 HR2.out).1
    have hZl : Z.length ≤ n := by rw [← List.length_map Lt.tl, HZ.out, List.length_map, List.length_take]; omega
    by_cases hlt : k < n
    · have hki : (k : Int) < (n : Int) := by omega
      obtain ⟨x, hx⟩ := at_some HKl.out hlt
      obtain ⟨bb, off, rfl, e0, e1, hw2⟩ := Lts.get (Kin.All.later HK.out HB.out) hx
      have HN := Lib.hid hw2
      have hxn : x.n ≤ 1000000 := HSz.out x.sn (by unfold tCodes; exact List.mem_append_left _ (List.mem_map.2 ⟨x, List.mem_of_getElem? hx, rfl⟩))
      have HT2 : Hid ((K.take (k + 1)).map Lt.tl = (K.take k).map Lt.tl ++ [x.tl]) := Lib.hid (by rw [take_snoc hx]; simp)
      have HTo := Lib.hid fun w (h : Nds w x.a x.n x.c x.L) => law17_of x.a x.n x.c x.L w h hxn
      clear hw2
      obtain ⟨xt, xa, xn, xc, xL⟩ := x
      dsimp only at e0 e1 HN HTo hxn
      clear hx
      have hvs : isSlice v := by
        obtain ⟨av, cv, hv, -⟩ := HM.out.slice
        exact ⟨_, _, _, hv⟩
      have HVs := Lib.hid hvs
      clear hvs o1 f1
      go_upto_region 5 with fail
      have HBd := Lib.hid (below_then HB.out ((Below.refl _ _).drew : Below wr.heap.size wr wr.drew))
      have HNd := Lib.hid (Kin.All.later HN.out ((Below.refl _ _).drew : Below wr.heap.size wr wr.drew))
      have HMd := Lib.hid (Kin.Mine.later HM.out ((Below.refl _ _).drew : Below wr.heap.size wr wr.drew))
      have HR0d := Lib.hid (blk_later HR0.out ((Below.refl _ _).drew : Below wr.heap.size wr wr.drew))
      have HR1d := Lib.hid (blk_later HR1.out ((Below.refl _ _).drew : Below wr.heap.size wr wr.drew))
      have HR2d := Lib.hid (blk_later HR2.out ((Below.refl _ _).drew : Below wr.heap.size wr wr.drew))
      clear HB HN HM HR0 HR1 HR2 HK HO HSz HKl HOl
      go_region_law (first
        | (refine Kin.step_append hA rfl _ _ rfl (w.heap.size + 1 + 1 + 1) _ Z rfl (Kin.Mine.later HM4.out (below_alloc w4 _)) ⟨_, 0, none⟩ 1 1 [⟨xt, a9, n9, c9, xL⟩] rfl rfl (lt_news _ ⟨xt, a9, n9, c9, xL⟩ _) (fun y hy => by rw [List.mem_singleton.1 hy]; exact Kin.All.later HN4.out (below_alloc w4 _)) (by unfold maxLen; omega) (by show (Z.length + 1) * 40 ≤ _; omega) (by simp; omega) ?_; intro v' w5 hrow hgrow hnew; obtain ⟨av5, cv5, rfl, -⟩ := hrow.slice; have HR25 := Lib.hid (blk_stays (blk_later HR24.out (below_alloc w4 _)) hgrow (fun g hg => by have := Kin.Mine.base HM4.out g hg; omega)); have g0 := (cells2 HR25.out).1; have g1 := blk_free HR25.out 0)
        | (go_simp; go_at_call 15; refine (HTo.out _ HNd.out).mono ?_; rintro e9 w4 ⟨a9, n9, c9, rfl, h9, b9⟩; have HN4 := Lib.hid h9; have HB4 := Lib.hid (below_then HBd.out b9); have HR04 := Lib.hid (blk_later HR0d.out b9); have HR14 := Lib.hid (blk_later HR1d.out b9); have HR24 := Lib.hid (blk_later HR2d.out b9); have HM4 := Lib.hid (Kin.Mine.later HMd.out b9); have hs4 : w.heap.size + 1 + 1 < w4.heap.size := (Array.getElem?_eq_some_iff.1 HR24.out).1; have p0 := (cells2 HR04.out).1; have p1 := (cells2 HR24.out).1; have p2 := cell_later (below_then ((Below.refl _ _).drew : Below wr.heap.size wr wr.drew) b9) e0; have p3 := cell_later (below_then ((Below.refl _ _).drew : Below wr.heap.size wr wr.drew) b9) e1; have p4 := (cells2 (blk_later HR24.out (below_alloc w4 (.cells #[.string (bs xt), .slice a9 n9 c9] 72)))).1; clear h9 b9))
      all_goals (
        have HB5 : Hid (Below w.heap.size w w5) := Lib.hid ((below_then HB4.out (below_alloc w4 _)).grown hgrow (by simp; omega) (fun g hg => by have := Kin.Mine.base HM4.out g hg; omega))
        have HR05 := Lib.hid (blk_stays (blk_later HR04.out (below_alloc w4 _)) hgrow (fun g hg => by have := Kin.Mine.base HM4.out g hg; omega))
        have HR15 := Lib.hid (blk_stays (blk_later HR14.out (below_alloc w4 _)) hgrow (fun g hg => by have := Kin.Mine.base HM4.out g hg; omega))
        have HM6 := Lib.hid (Kin.Mine.boxed hrow HR25.out (box_let HVs.out) (fun g hg e => by have := Kin.Mine.base hrow g hg; omega) 0 (.slice av5 (Z.length + 1) cv5))
        have HR26 := Lib.hid (blk_set HR25.out 0 (.slice av5 (Z.length + 1) cv5))
        have HR06 := Lib.hid (blk_apart HR05.out (show w.heap.size ≠ w.heap.size + 1 + 1 by omega) 0 (.slice av5 (Z.length + 1) cv5))
        have HR16 := Lib.hid (blk_apart HR15.out (show w.heap.size + 1 ≠ w.heap.size + 1 + 1 by omega) 0 (.slice av5 (Z.length + 1) cv5))
        have HB6 := Lib.hid (HB5.out.setCell (p := ⟨w.heap.size + 1 + 1, 0, none⟩) (show w.heap.size ≤ w.heap.size + 1 + 1 by omega) (.slice av5 (Z.length + 1) cv5))
        have HZ6 : Hid ((Z ++ [(⟨xt, a9, n9, c9, xL⟩ : Lt)]).map Lt.tl = (K.take (k + 1)).map Lt.tl) := Lib.hid (by rw [HT2.out, List.map_append, HZ.out]; rfl)
        clear hrow hgrow hnew g0 g1 p0 p1 p2 p3 p4
        go_wp2
        go_roundw
        (case rel => exact ⟨k + 1, .slice av5 (Z.length + 1) cv5, Z ++ [⟨xt, a9, n9, c9, xL⟩], by omega, by go_num, HR06, HR16, Lib.hid (by simpa using HR26.out), Lib.hid (by simpa using HM6.out), HZ6, HB6⟩)
        (case measure => simp [intOf]; omega))
    · obtain rfl : k = n := by omega
      have htk : K.take k = K := List.take_of_length_le (by rw [HKl.out]; exact Nat.le_refl _)
      rw [htk] at HZ
      obtain ⟨av, cv, rfl, hlt2⟩ := HM.out.slice
      have HLt := Lib.hid hlt2
      obtain ⟨B2, hB2⟩ : ∃ B2, wr.heap.size = B2 := ⟨_, rfl⟩
      have hg2 : w.heap.size + 1 + 1 < B2 := by omega
      clear htk hlt2 HM
      go_wp2
      go_loopw [5] (fun iv ws => B2 ≤ ws.heap.size ∧ ∃ (j : Nat) (v2 : Value) (Y : List Sn), j ≤ m ∧ iv = .int .i64 (j : Int) ∧ Hid (ws.heap[w.heap.size]? = some (.cells #[.slice a k c, .slice b m d] 26 (0, 0))) ∧ Hid (ws.heap[w.heap.size + 1]? = some (.cells #[.slice none 0 0, .slice none 0 0] 34 (0, 0))) ∧ Hid (ws.heap[w.heap.size + 1 + 1]? = some (.cells #[.slice av Z.length cv, v2] 34 (0, 0))) ∧ Hid (Lts ws av Z.length cv Z) ∧ Hid (snK.Mine ws B2 45 v2 Y) ∧ Hid (Y.map Sn.L = (O.take j).map Sn.L) ∧ Hid (Below w.heap.size w ws)) (fun iv _ => m - (intOf iv).toNat)
      case atStart => exact ⟨by omega, 0, _, [], by omega, by go_num, HR0, HR1, HR2, HLt, Lib.hid (Kin.Mine.nil _ _ _), Lib.hid (by simp), HB⟩
      case round =>
        clear HR0 HR1 HR2 HLt HB f0 f1 o0 o1 hB2 hsz
        obtain ⟨hws, j, v2, Y, hj, rfl, HR0, HR1, HR2, HLt, HM, HY, HB⟩ := hrel
        obtain ⟨f0, f1⟩ := cells2 HR0.out
        obtain ⟨o0, o1⟩ := cells2 HR2.out
        have hYl : Y.length ≤ m := by rw [← List.length_map Sn.L, HY.out, List.length_map, List.length_take]; omega
        by_cases hjt : j < m
        · have hji : (j : Int) < (m : Int) := by omega
          obtain ⟨x, hx⟩ := at_some HOl.out hjt
          obtain ⟨bb, off, rfl, e0, hw2⟩ := Sns.get (Kin.All.later HO.out HB.out) hx
          have HN := Lib.hid hw2
          have hxn : x.n ≤ 1000000 := HSz.out x (by unfold tCodes; exact List.mem_append_right _ (List.mem_of_getElem? hx))
          have HT2 : Hid ((O.take (j + 1)).map Sn.L = (O.take j).map Sn.L ++ [x.L]) := Lib.hid (by rw [take_snoc hx]; simp)
          have HTo := Lib.hid fun w (h : Nds w x.a x.n x.c x.L) => law17_of x.a x.n x.c x.L w h hxn
          obtain ⟨xa, xn, xc, xL⟩ := x
          dsimp only at e0 HN HTo hxn
          have hvs : isSlice v2 := by
            obtain ⟨ay, cy, hy, -⟩ := HM.out.slice
            exact ⟨_, _, _, hy⟩
          have HVs := Lib.hid hvs
          clear hvs o0 f0 hw2 hx
          go_upto_region 9 with fail
          have HBd := Lib.hid (below_then HB.out ((Below.refl _ _).drew : Below wr.heap.size wr wr.drew))
          have HNd := Lib.hid (Kin.All.later HN.out ((Below.refl _ _).drew : Below wr.heap.size wr wr.drew))
          have HMd := Lib.hid (Kin.Mine.later HM.out ((Below.refl _ _).drew : Below wr.heap.size wr wr.drew))
          have HLd := Lib.hid (Kin.All.later HLt.out ((Below.refl _ _).drew : Below wr.heap.size wr wr.drew))
          have HR0d := Lib.hid (blk_later HR0.out ((Below.refl _ _).drew : Below wr.heap.size wr wr.drew))
          have HR1d := Lib.hid (blk_later HR1.out ((Below.refl _ _).drew : Below wr.heap.size wr wr.drew))
          have HR2d := Lib.hid (blk_later HR2.out ((Below.refl _ _).drew : Below wr.heap.size wr wr.drew))
          clear HB HN HM HR0 HR1 HR2 HK HO HSz HKl HOl HLt
          go_region_law (first
            | (refine Kin.step_append hA2 rfl _ _ rfl B2 _ Y rfl (Kin.Mine.later HM4.out (below_alloc w4 _)) ⟨_, 0, none⟩ 1 1 [⟨a9, n9, c9, xL⟩] rfl rfl (sn_news _ ⟨a9, n9, c9, xL⟩ _) (fun y hy => by rw [List.mem_singleton.1 hy]; exact Kin.All.later HN4.out (below_alloc w4 _)) (by unfold maxLen; omega) (by show (Y.length + 1) * 24 ≤ _; omega) (by simp; omega) ?_; intro v' w5 hrow hgrow hnew; obtain ⟨av5, cv5, rfl, -⟩ := hrow.slice; have HR25 := Lib.hid (blk_stays (blk_later HR24.out (below_alloc w4 _)) hgrow (fun g hg => by have := Kin.Mine.base HM4.out g hg; omega)); have g0 := (cells2 HR25.out).2; have g1 := blk_free HR25.out 1)
            | (go_simp; go_at_call 15; refine (HTo.out _ HNd.out).mono ?_; rintro e9 w4 ⟨a9, n9, c9, rfl, h9, b9⟩; have HN4 := Lib.hid h9; have HB4 := Lib.hid (below_then HBd.out b9); have HL4 := Lib.hid (Kin.All.later HLd.out b9); have HR04 := Lib.hid (blk_later HR0d.out b9); have HR14 := Lib.hid (blk_later HR1d.out b9); have HR24 := Lib.hid (blk_later HR2d.out b9); have HM4 := Lib.hid (Kin.Mine.later HMd.out b9); have hs4 : B2 ≤ w4.heap.size := Nat.le_trans hws (show wr.heap.size ≤ w4.heap.size from b9.size); have p0 := (cells2 HR04.out).2; have p1 := (cells2 HR24.out).2; have p2 := cell_later (below_then ((Below.refl _ _).drew : Below wr.heap.size wr wr.drew) b9) e0; have p4 := (cells2 (blk_later HR24.out (below_alloc w4 (.cells #[.slice a9 n9 c9] 45)))).2; clear h9 b9))
          all_goals (
            have HB5 : Hid (Below w.heap.size w w5) := Lib.hid ((below_then HB4.out (below_alloc w4 _)).grown hgrow (by simp; omega) (fun g hg => by have := Kin.Mine.base HM4.out g hg; omega))
            have HR05 := Lib.hid (blk_stays (blk_later HR04.out (below_alloc w4 _)) hgrow (fun g hg => by have := Kin.Mine.base HM4.out g hg; omega))
            have HR15 := Lib.hid (blk_stays (blk_later HR14.out (below_alloc w4 _)) hgrow (fun g hg => by have := Kin.Mine.base HM4.out g hg; omega))
            have HL5 := Lib.hid (Lts.only (Kin.All.later HL4.out (below_alloc w4 _)) (Kin.Mine.later HM4.out (below_alloc w4 _)).1.2 hgrow slice_noInt slice_noStr)
            have HM6 := Lib.hid (Kin.Mine.boxed hrow HR25.out (two_isSlice ⟨_, _, _, rfl⟩ HVs.out) (fun g hg e => by have := Kin.Mine.base hrow g hg; omega) 1 (.slice av5 (Y.length + 1) cv5))
            have HL6 := Lib.hid (Lts.only HL5.out (only_box HR25.out (two_isSlice ⟨_, _, _, rfl⟩ HVs.out)) (grown_set w5 (w.heap.size + 1 + 1) 1 (.slice av5 (Y.length + 1) cv5)) slice_noInt slice_noStr)
            have HR26 := Lib.hid (blk_set HR25.out 1 (.slice av5 (Y.length + 1) cv5))
            have HR06 := Lib.hid (blk_apart HR05.out (show w.heap.size ≠ w.heap.size + 1 + 1 by omega) 1 (.slice av5 (Y.length + 1) cv5))
            have HR16 := Lib.hid (blk_apart HR15.out (show w.heap.size + 1 ≠ w.heap.size + 1 + 1 by omega) 1 (.slice av5 (Y.length + 1) cv5))
            have HB6 := Lib.hid (HB5.out.setCell (p := ⟨w.heap.size + 1 + 1, 1, none⟩) (show w.heap.size ≤ w.heap.size + 1 + 1 by omega) (.slice av5 (Y.length + 1) cv5))
            have HY6 : Hid ((Y ++ [(⟨a9, n9, c9, xL⟩ : Sn)]).map Sn.L = (O.take (j + 1)).map Sn.L) := Lib.hid (by rw [HT2.out, List.map_append, HY.out]; rfl)
            have hs5 : B2 ≤ w5.heap.size := by
              have h9 := hgrow.size
              simp at h9
              omega
            clear hrow hgrow hnew g0 g1 p0 p1 p2 p4
            go_wp2
            go_roundw
            (case rel => exact ⟨by simp; omega, j + 1, .slice av5 (Y.length + 1) cv5, Y ++ [⟨a9, n9, c9, xL⟩], by omega, by go_num, HR06, HR16, Lib.hid (by simpa using HR26.out), HL6, Lib.hid (by simpa using HM6.out), HY6, HB6⟩)
            (case measure => simp [intOf]; omega))
        · obtain rfl : j = m := by omega
          have htk : O.take j = O := List.take_of_length_le (by rw [HOl.out]; exact Nat.le_refl _)
          rw [htk] at HY
          obtain ⟨ay, cy, rfl, -⟩ := HM.out.slice
          obtain ⟨r0, r1⟩ := cells2 HR1.out
          have q0 := blk_free HR1.out 0
          have q1 := blk_free HR1.out 1
          have HG := Lib.hid (blk_set2 HR1.out (.slice av Z.length cv) (.slice ay Y.length cy))
          have HM1 := Kin.Mine.boxed HM.out HR1.out two_slices (fun g hg e => by have := Kin.Mine.base HM.out g hg; omega) 0 (.slice av Z.length cv)
          have HRa : (wr.setCell ⟨w.heap.size + 1, 0, none⟩ (.slice av Z.length cv)).heap[w.heap.size + 1]? = some (.cells #[.slice av Z.length cv, .slice none 0 0] 34 (0, 0)) := by simpa using blk_set HR1.out 0 (.slice av Z.length cv)
          have HM2 := Kin.Mine.boxed HM1 HRa two_slices (fun g hg e => by have := Kin.Mine.base HM.out g hg; omega) 1 (.slice ay Y.length cy)
          have HL1 := Lts.only HLt.out (only_box HR1.out two_slices) (grown_set wr (w.heap.size + 1) 0 (.slice av Z.length cv)) slice_noInt slice_noStr
          have HL2 := Lib.hid (Lts.only HL1 (only_box HRa two_slices) (grown_set _ (w.heap.size + 1) 1 (.slice ay Y.length cy)) slice_noInt slice_noStr)
          have HB2 := Lib.hid (below_set2 HB.out (show w.heap.size ≤ w.heap.size + 1 by omega) (.slice av Z.length cv) (.slice ay Y.length cy))
          obtain ⟨az, cz, hz, hS⟩ := HM2.slice
          simp only [Value.slice.injEq] at hz
          obtain ⟨rfl, -, rfl⟩ := hz
          have HS2 := Lib.hid hS
          clear HM1 HM2 HL1 HRa hS htk
          go_wp2
          refine bodyPost_ret (results_cell_row Try.results10 _ _ (w.heap.size + 1) 34 #[.slice av Z.length cv, .slice ay Y.length cy] (0, 0) _ rfl HG.out Try.underlying34 rfl (by kernel_rfl)) rfl ?_
          exact ⟨av, Z.length, cv, Z, ay, Y.length, cy, Y, rfl, HL2.out, HS2.out, HZ.out, HY.out, HB2.out⟩
end Go.Proofs.Ythblmpkdcahmkaa

/-
  make of words, with a length and a capacity that are reckoned. Of no program.
-/
namespace Go.Proofs.Ythblmpkdcahmkaa
open Go.RowKit

theorem ownsRow_made (w : World) (base : Nat) (e : TypeId) (z : Value) (q c : Nat) (hqc : q ≤ c) (hc : c ≤ maxLen) (hb : base ≤ w.heap.size) :
    (w.alloc (.cells (madeCells #[z] c) e)).ownsRow base e 1 (.slice (some ⟨w.heap.size, 0, none⟩) q c) q (List.replicate q z) := by
  refine ⟨by simp, .inr ⟨w.heap.size, c, madeCells #[z] c, rfl, hb, heap_alloc_new w _, hqc, hc, ?_, ?_⟩⟩
  · have := congrArg List.length (toList_madeCells_one z c)
    simpa using this
  · rw [toList_madeCells_one, List.take_replicate, Nat.mul_one, Nat.min_eq_left hqc]
theorem wpList_make_words {P : Program} (w : World) {ops : Array Oper} {rest : List Oper} {o : Oper} {a : Act} {Q : Exit → Act → World → Prop}
    (hg : o.guard = none) (l c : Operand) (t : TypeId) (hop : o.op = Op.makeSlice t l c)
    (base : Nat) (e : TypeId) (i : TypeInfo) (z : Value) (h1 : P.underlying t = some (.slice e)) (h2 : P.info? e = some i) (h3 : i.zero = some z) (h4 : i.size = 1) (hz : z.cells = #[z])
    (kl kc : IntKind) (L C : Int) (n m : Nat) (hl : a.eval l = .int kl L) (hc : a.eval c = .int kc C) (hL : L = (n : Int)) (hC : C = (m : Int)) (hnm : n ≤ m) (b2 : i.bytes * m ≤ 281474976710656) (b3 : m ≤ maxLen) (b4 : base ≤ w.heap.size)
    (hK : ∀ w', w'.ownsRow base e 1 (.slice (some ⟨w.heap.size, 0, none⟩) n m) n (List.replicate n z) → w.grownBy w' none → wpList P ops Q rest (a.put o.dst (.slice (some ⟨w.heap.size, 0, none⟩) n m)) w') :
    wpList P ops Q (o :: rest) a w := by
  refine wpList_plain hg fun K hK' => ?_
  have h63' : (m : Int) ≤ 9223372036854775807 := by
    have h := b3
    simp [maxLen] at h
    omega
  have hb' : (i.bytes : Int) * (m : Int) ≤ 281474976710656 := by
    have h : ((i.bytes * m : Nat) : Int) ≤ 281474976710656 := by omega
    rwa [Int.natCast_mul] at h
  have hrun := run_make (P := P) w t e i z h1 h2 h3 kl kc n m (by omega) (by omega) hb' h63'
  simp only [Int.toNat_natCast, h4, Nat.mul_one, hz] at hrun
  subst hL
  subst hC
  unfold Oper.wp
  simp [execOp, hop, hl, hc, hrun, Result.andThen]
  exact hK' _ _ (hK _ (ownsRow_made w base e z n m hnm b3 b4) (World.grownBy_alloc w _ none))
theorem zeros_cells (n : Nat) : List.replicate n (Value.int .u32 0) = wcells (List.replicate n 0) := by simp [wcells]
end Go.Proofs.Ythblmpkdcahmkaa

/-
  Rows of anything, more: a cell of an element is written, a row is made, a row's head. Of no program.
-/
namespace Go.Proofs.Ythblmpkdcahmkaa
open Go.WideShapes Go.RowKit Go.Deep

namespace Cls
variable {α : Type} {C : Cls α}
theorem flat_set (C : Cls α) {x y : α} {u : Value} {q : Nat} (hy : C.cells y = (C.cells x).set q u) (hq : q < C.size) : ∀ (L : List α) (i : Nat), L[i]? = some x → (L.set i y).flatMap C.cells = (L.flatMap C.cells).set (i * C.size + q) u
  | [], i, h => by simp at h
  | z :: r, 0, h => by
    simp only [List.getElem?_cons_zero, Option.some.injEq] at h
    subst h
    rw [List.set_cons_zero, List.flatMap_cons, List.flatMap_cons, hy, Nat.zero_mul, Nat.zero_add, List.set_append_left _ _ (by rw [C.len]; exact hq)]
  | z :: r, i + 1, h => by
    simp only [List.getElem?_cons_succ] at h
    rw [List.set_cons_succ, List.flatMap_cons, List.flatMap_cons, flat_set C hy hq r i h, List.set_append_right _ _ (by rw [C.len, Nat.add_mul]; omega), C.len, show (i + 1) * C.size + q - C.size = i * C.size + q by rw [Nat.add_mul]; omega]
theorem flat_take (C : Cls α) : ∀ (L : List α) (k : Nat), (L.take k).flatMap C.cells = (L.flatMap C.cells).take (k * C.size)
  | [], k => by simp
  | z :: r, 0 => by simp
  | z :: r, k + 1 => by
    rw [List.take_succ_cons, List.flatMap_cons, List.flatMap_cons, flat_take C r k, List.take_append, C.len, show (k + 1) * C.size - C.size = k * C.size by rw [Nat.add_mul]; omega, List.take_of_length_le (l := C.cells z) (by rw [C.len, Nat.add_mul]; omega)]
theorem Own.num {w : World} {base : Nat} {e : TypeId} {a : Option Addr} {n cap : Nat} {L : List α} (h : C.Own w base e (.slice a n cap) L) : L.length = n ∧ n ≤ cap ∧ cap ≤ maxLen := by
  rcases h.1.2 with ⟨h1, h0⟩ | ⟨g, cap', cur, h1, _, _, h4, h5, _⟩
  · simp only [Value.slice.injEq] at h1
    obtain ⟨_, rfl, rfl⟩ := h1
    exact ⟨h0, Nat.le_refl _, Nat.zero_le _⟩
  · simp only [Value.slice.injEq] at h1
    obtain ⟨_, rfl, rfl⟩ := h1
    exact ⟨rfl, h4, h5⟩
theorem Own.form {w : World} {base : Nat} {e : TypeId} {a : Option Addr} {n cap : Nat} {L : List α} (h : C.Own w base e (.slice a n cap) L) (hn : 0 < cap) : ∃ g, a = some ⟨g, 0, none⟩ ∧ base ≤ g ∧ g < w.heap.size := by
  rcases h.1.2 with ⟨h1, h0⟩ | ⟨g, cap', cur, h1, hb, hg, h4, h5, _⟩
  · simp only [Value.slice.injEq] at h1
    omega
  · simp only [Value.slice.injEq] at h1
    obtain ⟨rfl, _, _⟩ := h1
    exact ⟨g, rfl, hb, (Array.getElem?_eq_some_iff.1 hg).1⟩
theorem Own.cell {w : World} {base : Nat} {e : TypeId} {g n cap : Nat} {L : List α} (h : C.Own w base e (.slice (some ⟨g, 0, none⟩) n cap) L) {i q : Nat} {x : α} {u : Value} (hx : L[i]? = some x) (hu : (C.cells x)[q]? = some u) :
    w.cell? ⟨g, i * C.size + q, none⟩ = some u ∧ w.frozen? ⟨g, i * C.size + q, none⟩ = false := by
  obtain rfl := h.num.1
  have hq : q < C.size := by
    rcases Nat.lt_or_ge q C.size with h9 | h9
    · exact h9
    · rw [List.getElem?_eq_none (by rw [C.len]; exact h9)] at hu; cases hu
  have h9 := h.1.cells (g := g) rfl (i * C.size + q) u (by rw [C.flat_at L i q x hx hq]; exact hu)
  rw [add_plain, Nat.zero_add] at h9
  exact ⟨h9, h.1.frozenAt _⟩
/-- A cell of an element is written. -/
theorem Own.put {w : World} {base : Nat} {e : TypeId} {g n cap : Nat} {L : List α} (h : C.Own w base e (.slice (some ⟨g, 0, none⟩) n cap) L) {i q : Nat} {x y : α} {u : Value} (hx : L[i]? = some x) (hy : C.cells y = (C.cells x).set q u) (hq : q < C.size) :
    C.Own (w.setCell ⟨g, i * C.size + q, none⟩ u) base e (.slice (some ⟨g, 0, none⟩) n cap) (L.set i y) ∧ w.grownBy (w.setCell ⟨g, i * C.size + q, none⟩ u) (some g) := by
  obtain rfl := h.num.1
  obtain ⟨h1, h2⟩ := h.1.stored (i * C.size + q) u
  have hu : C.p u := by
    refine C.ok y u ?_
    rw [hy]
    have hl : q < ((C.cells x).set q u).length := by rw [List.length_set, C.len]; exact hq
    have := List.getElem_mem hl
    rwa [List.getElem_set_self] at this
  refine ⟨⟨?_, ?_⟩, h2⟩
  · rw [C.flat_set hy hq L i hx, List.length_set]
    exact h1
  · intro g2 hg2 j v hv
    simp [Value.ownBlock] at hg2
    subst hg2
    by_cases hj : j = i * C.size + q
    · subst hj
      have hq2 : q < (C.cells x).length := by rw [C.len]; exact hq
      have hc := (h.cell hx (u := (C.cells x)[q]) (List.getElem?_eq_getElem hq2)).1
      rw [World.cell?_setCell_same _ _ _ hc] at hv
      rw [← Option.some.inj hv]
      exact hu
    · rw [World.cell?_setCell_other _ ⟨g, i * C.size + q, none⟩ ⟨g, j, none⟩ _ (fun e => hj (congrArg Addr.off e).symm)] at hv
      exact h.2 g rfl j v hv
/-- The first elements of a row of one's own. -/
theorem Own.head {w : World} {base : Nat} {e : TypeId} {g n cap : Nat} {L : List α} (h : C.Own w base e (.slice (some ⟨g, 0, none⟩) n cap) L) {k : Nat} (hk : k ≤ n) : C.Own w base e (.slice (some ⟨g, 0, none⟩) k cap) (L.take k) := by
  obtain rfl := h.num.1
  have hl : (L.take k).length = k := by rw [List.length_take]; omega
  refine ⟨⟨C.flat_len _, ?_⟩, fun g2 hg2 => h.2 g2 hg2⟩
  rcases h.1.2 with ⟨h1, _⟩ | ⟨g', cap', cur, h1, hb, hg, hnc, hcm, hcs, htake⟩
  · simp at h1
  · simp only [Value.slice.injEq, Option.some.injEq, Addr.mk.injEq, and_true, true_and] at h1
    obtain ⟨rfl, rfl⟩ := h1
    refine .inr ⟨g, cap, cur, by rw [hl], hb, hg, by omega, hcm, hcs, ?_⟩
    rw [hl, C.flat_take, ← htake, List.take_take, Nat.min_eq_left (Nat.mul_le_mul_right _ hk)]
/-- A made row. -/
theorem Own.made (w : World) {base : Nat} (e : TypeId) {x0 : α} {z : Value} (hz : C.cells x0 = [z]) (hs : C.size = 1) {n c : Nat} (hnc : n ≤ c) (hc : c ≤ maxLen) (hb : base ≤ w.heap.size) :
    C.Own (w.alloc (.cells (madeCells #[z] c) e)) base e (.slice (some ⟨w.heap.size, 0, none⟩) n c) (List.replicate n x0) := by
  have h1 := ownsRow_made w base e z n c hnc hc hb
  have hp : C.p z := C.ok x0 z (by rw [hz]; simp)
  refine ⟨?_, only_block (heap_alloc_new w _) ?_⟩
  · rw [List.length_replicate, hs, List.flatMap_replicate, hz, List.flatten_replicate_singleton]
    exact h1
  · rw [toList_madeCells_one]
    intro u hu
    rw [List.eq_of_mem_replicate hu]; exact hp
end Cls
namespace Kin
variable {α : Type} {K : Kin α}
theorem Mine.cell {w : World} {base : Nat} {e : TypeId} {g n cap : Nat} {L : List α} (h : K.Mine w base e (.slice (some ⟨g, 0, none⟩) n cap) L) {i q : Nat} {x : α} {u : Value} (hx : L[i]? = some x) (hu : (K.cells x)[q]? = some u) :
    w.cell? ⟨g, i * K.size + q, none⟩ = some u ∧ w.frozen? ⟨g, i * K.size + q, none⟩ = false := h.1.cell hx hu
theorem Mine.put {w : World} {base : Nat} {e : TypeId} {g n cap : Nat} {L : List α} (h : K.Mine w base e (.slice (some ⟨g, 0, none⟩) n cap) L) {i q : Nat} {x y : α} {u : Value} (hx : L[i]? = some x) (hy : K.cells y = (K.cells x).set q u) (hq : q < K.size) (hg : K.good w y) :
    K.Mine (w.setCell ⟨g, i * K.size + q, none⟩ u) base e (.slice (some ⟨g, 0, none⟩) n cap) (L.set i y) ∧ w.grownBy (w.setCell ⟨g, i * K.size + q, none⟩ u) (some g) := by
  obtain ⟨h1, h2⟩ := h.1.put hx hy hq
  refine ⟨⟨h1, fun z hz => ?_⟩, h2⟩
  refine K.aside (v := .slice (some ⟨g, 0, none⟩) n cap) ?_ h.1.2 h2
  rcases List.mem_or_eq_of_mem_set hz with hz | rfl
  · exact h.2 z hz
  · exact hg
theorem Mine.made (w : World) {base : Nat} (e : TypeId) {x0 : α} {z : Value} (hz : K.cells x0 = [z]) (hs : K.size = 1) (hg : ∀ w, K.good w x0) {n c : Nat} (hnc : n ≤ c) (hc : c ≤ maxLen) (hb : base ≤ w.heap.size) :
    K.Mine (w.alloc (.cells (madeCells #[z] c) e)) base e (.slice (some ⟨w.heap.size, 0, none⟩) n c) (List.replicate n x0) :=
  ⟨Cls.Own.made w e hz hs hnc hc hb, fun x hx => by rw [List.eq_of_mem_replicate hx]; exact hg _⟩
theorem wpList_make {P : Program} {t e : TypeId} {w : World} {ops : Array Oper} {rest : List Oper} {o : Oper} {a : Act} {Q : Exit → Act → World → Prop}
    (hgd : o.guard = none) (l c : Operand) (hop : o.op = Op.makeSlice t l c) (ht : P.underlying t = some (.slice e)) {x0 : α} {z : Value} (hi : (P.info? e).map (fun i => (i.zero, i.size, i.bytes)) = some (some z, 1, K.bytes))
    (hz : K.cells x0 = [z]) (hzz : z.cells = #[z]) (hs : K.size = 1) (hgood : ∀ w, K.good w x0)
    (base : Nat) (kl kc : IntKind) (L C : Int) (n m : Nat) (hl : a.eval l = .int kl L) (hc : a.eval c = .int kc C) (hL : L = (n : Int)) (hC : C = (m : Int)) (hnm : n ≤ m) (b2 : K.bytes * m ≤ 281474976710656) (b3 : m ≤ maxLen) (b4 : base ≤ w.heap.size)
    (hK : ∀ w', K.Mine w' base e (.slice (some ⟨w.heap.size, 0, none⟩) n m) (List.replicate n x0) → w.grownBy w' none → w'.heap.size = w.heap.size + 1 → wpList P ops Q rest (a.put o.dst (.slice (some ⟨w.heap.size, 0, none⟩) n m)) w') :
    wpList P ops Q (o :: rest) a w := by
  cases h2 : P.info? e with
  | none => rw [h2] at hi; simp at hi
  | some i =>
    rw [h2] at hi
    simp at hi
    obtain ⟨h3, h4, h5⟩ := hi
    refine wpList_plain hgd fun K9 hK' => ?_
    have h63' : (m : Int) ≤ 9223372036854775807 := by
      have h := b3
      simp [maxLen] at h
      omega
    rw [← h5] at b2
    have hb' : (i.bytes : Int) * (m : Int) ≤ 281474976710656 := by
      have h : ((i.bytes * m : Nat) : Int) ≤ 281474976710656 := by omega
      rwa [Int.natCast_mul] at h
    have hrun := run_make (P := P) w t e i z ht h2 h3 kl kc n m (by omega) (by omega) hb' h63'
    simp only [Int.toNat_natCast, h4, Nat.mul_one, hzz] at hrun
    subst hL
    subst hC
    unfold Oper.wp
    simp [execOp, hop, hl, hc, hrun, Result.andThen]
    exact hK' _ _ (hK _ (Mine.made w e hz hs hgood hnm b3 b4) (World.grownBy_alloc w _ none) (World.size_alloc _ _))
end Kin
end Go.Proofs.Ythblmpkdcahmkaa

/-
  The contracts of package limb (layer 1) at this seat: what each call returns, for every word, and that the world is as it was.
-/
namespace Go.Proofs.Ythblmpkdcahmkaa
open Go.RowKit

theorem limb_mul (x y c d : Int) (w : World) (hx0 : 0 ≤ x) (hx : x ≤ 4294967295) (hy0 : 0 ≤ y) (hy : y ≤ 4294967295) (hc0 : 0 ≤ c) (hc : c ≤ 4294967295) (hd0 : 0 ≤ d) (hd : d ≤ 4294967295) : Calls Try.prog 107 #[.int .u32 x, .int .u32 y, .int .u32 c, .int .u32 d] w fun e w' => e = .returned (.tuple #[.int .u32 ((x * y + c + d) / 4294967296), .int .u32 ((x * y + c + d) % 4294967296)]) ∧ w = w' := by
  obtain ⟨hm0, hm⟩ := mul_words hx0 hx hy0 hy
  go_enter Try.func107, Try.ntmps107
  go_wp2
  go_ret2
  exact ⟨rfl, rfl⟩
end Go.Proofs.Ythblmpkdcahmkaa
