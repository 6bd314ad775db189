/-
  Several texts of this claim as one, group 13.
-/
import Derived.Test.YthblmpkdcahmkaaG6
import Derived.Test.YthblmpkdcahmkaaG7
import Derived.Test.YthblmpkdcahmkaaG12
import Derived.Deep.RegionHeld3
import Derived.Test.YthblmpkdcahmkaaG11
import Derived.Test.YthblmpkdcahmkaaG5
import Derived.Test.YthblmpkdcahmkaaG1
import Derived.ProofKit
import Derived.OpenShut
import Derived.Deep.Matrix
import Derived.Lib.SmallJoins
import Derived.ChangeArms
import Derived.Deep.Strs
import Derived.ChangeSame
import Derived.Deep.Fields
import Derived.Deep.Slices
import Derived.Test.YthblmpkdcahmkaaG8
/-
  The walks of the laws of layer 18: ParseFields.
-/
namespace Go.Proofs.Ythblmpkdcahmkaa
open Go.RowKit

theorem pF_len (l : List UInt8) : (pF l).1.length ≤ 4001 ∧ (pF l).2.1.length ≤ 4001 := by
  have hl := lexScan_len l
  have hs := pField_size (lexScan l).1 l.length (lexScan_wk l) (lexScan l).2
  unfold pF pParse
  split
  · exact ⟨by simp, by simp⟩
  · dsimp only
    split
    · exact ⟨by simp, by simp⟩
    · exact ⟨by have := hs.1; dsimp only; omega, by have := hs.2.1; dsimp only; omega⟩
theorem tSame_of {K K' : List Lt} {O O' : List Sn} (h1 : K.map ltP = K'.map ltP) (h2 : O.map Sn.sem = O'.map Sn.sem) : tSame K O K' O' := by
  have e1 : ∀ K : List Lt, K.map Lt.t = (K.map ltP).map Prod.fst := fun K => by simp [ltP, Function.comp_def]
  have e2 : ∀ K : List Lt, (K.map Lt.sn).map Sn.sem = (K.map ltP).map Prod.snd := fun K => by simp [ltP, Function.comp_def, Lt.sn, Sn.sem]
  unfold tSame tCodes
  rw [List.map_append, List.map_append, e1, e1, e2, e2, h1, h2]
  exact ⟨rfl, by simpa using congrArg List.length h2, rfl⟩
theorem tl_ltP {K K' : List Lt} (h : K.map Lt.tl = K'.map Lt.tl) : K.map ltP = K'.map ltP := by
  have e : ∀ K : List Lt, K.map ltP = (K.map Lt.tl).map (fun x => (x.1, x.2.map Nd.sem)) := fun K => by simp [ltP, Lt.tl, Function.comp_def]
  rw [e, e, h]
theorem snL_sem {O O' : List Sn} (h : O.map Sn.L = O'.map Sn.L) : O.map Sn.sem = O'.map Sn.sem := by
  have e : ∀ O : List Sn, O.map Sn.sem = (O.map Sn.L).map (fun x => x.map Nd.sem) := fun O => by simp [Sn.sem, Function.comp_def]
  rw [e, e, h]
theorem codes_both {K : List Lt} {O : List Sn} {p : Sn → Prop} (h : ∀ x ∈ K, p x.sn) (k : ∀ x ∈ O, p x) : ∀ x ∈ tCodes K O, p x := fun x hx => by
  unfold tCodes at hx
  rcases List.mem_append.1 hx with h9 | h9
  · obtain ⟨y, hy, rfl⟩ := List.mem_map.1 h9
    exact h y hy
  · exact k x h9
theorem thin_tl {K K' : List Lt} (h : K.map Lt.tl = K'.map Lt.tl) {N : Nat} (ht : ∀ x ∈ K', thinN N x.L) : ∀ x ∈ K, thinN N x.L := fun x hx => by
  have h1 : x.tl ∈ K'.map Lt.tl := by rw [← h]; exact List.mem_map.2 ⟨x, hx, rfl⟩
  obtain ⟨y, hy, e⟩ := List.mem_map.1 h1
  have e2 : y.L = x.L := congrArg Prod.snd e
  rw [← e2]; exact ht y hy
theorem thin_snL {O O' : List Sn} (h : O.map Sn.L = O'.map Sn.L) {N : Nat} (ht : ∀ x ∈ O', thinN N x.L) : ∀ x ∈ O, thinN N x.L := fun x hx => by
  have h1 : x.L ∈ O'.map Sn.L := by rw [← h]; exact List.mem_map.2 ⟨x, hx, rfl⟩
  obtain ⟨y, hy, e⟩ := List.mem_map.1 h1
  rw [← e]; exact ht y hy
theorem thin_up {N M : Nat} {L : List Nd} (h : thinN N L) (k : N ≤ M) : thinN M L := fun x hx => Nat.le_trans (h x hx) k
theorem fault_shape (z : Int) : ∃ x0 x3, lexFault z = faultV x0 0 0 x3 := by
  unfold lexFault
  split
  · exact ⟨_, _, rfl⟩
  · exact ⟨_, _, rfl⟩
set_option maxRecDepth 4096 in
set_option maxHeartbeats 16000000 in
theorem law18_fields (S : ParseSaid) (l : List UInt8) (w : World) (hl : l.length ≤ 9223372036854775807) : Calls Try.prog 3 #[.string (bs l)] w (Gives (.bool true) w) := by
  have hsz := bs_size l
  have HW := Lib.hid fun w => law18_works S w
  by_cases hbig : 3000 < l.length
  · have hb : (3000 : Int) < ((l.length : Nat) : Int) := by omega
    go_enter Try.func3, Try.ntmps3
    go_wp2_with fail
    refine (HW.out _).mono ?_
    rintro e w1 ⟨rfl, b1⟩
    go_wp2
    go_ret
    exact ⟨rfl, b1⟩
  · have hb : ¬ (3000 : Int) < ((l.length : Nat) : Int) := by omega
    have H1 := Lib.hid fun w => S.parse l w (by omega)
    have H2 := Lib.hid fun w => ref18_parse l w
    obtain ⟨n1, n2⟩ := pF_len l
    generalize pF l = R at *
    obtain ⟨rK, rO, at'⟩ := R
    obtain ⟨x0, x3, hfv⟩ := fault_shape at'
    have HFt := Lib.hid fun w => law18_fault at' w
    dsimp only at H1 H2 n1 n2
    rw [hfv] at HFt
    have HFv := Lib.hid hfv
    clear hbig hfv
    go_enter Try.func3, Try.ntmps3
    go_wp2_with fail
    refine (H1.out _).mono ?_
    rintro e w1 ⟨al, cl, X, ao, co, Y, rfl, hX, hY, kX, kY, tX, tY, b1⟩
    dsimp only at kX kY ⊢
    rw [HFv.out]
    unfold faultV fiV
    have hXn : X.length ≤ 4001 := by have := congrArg List.length kX; simp at this; omega
    have hYn : Y.length ≤ 4001 := by have := congrArg List.length kY; simp at this; omega
    have c1 := below_alloc w1 (.cells #[.slice al X.length cl, .slice ao Y.length co] 26)
    have c2 := below_alloc (w1.alloc (.cells #[.slice al X.length cl, .slice ao Y.length co] 26)) (.cells #[.int .i64 x0, .int .i64 0, .int .i64 0, .int .i64 x3] 28)
    have HX := Lib.hid ((hX.later c1).later c2)
    have HY := Lib.hid ((hY.later c1).later c2)
    have HB := Lib.hid (below_then (below_then b1 c1) c2)
    have HF := Lib.hid (blk_later (blk_new w1 #[.slice al X.length cl, .slice ao Y.length co] 26) c2)
    have HE : Hid (((w1.alloc (.cells #[.slice al X.length cl, .slice ao Y.length co] 26)).alloc (.cells #[.int .i64 x0, .int .i64 0, .int .i64 0, .int .i64 x3] 28)).heap[w1.heap.size + 1]? = some (.cells #[.int .i64 x0, .int .i64 0, .int .i64 0, .int .i64 x3] 28 (0, 0))) := Lib.hid (by
      have h9 := blk_new (w1.alloc (.cells #[.slice al X.length cl, .slice ao Y.length co] 26)) #[.int .i64 x0, .int .i64 0, .int .i64 0, .int .i64 x3] 28
      rw [blk_size] at h9; exact h9)
    have KX := Lib.hid kX
    have KY := Lib.hid kY
    have TX := Lib.hid tX
    have TY := Lib.hid tY
    clear hX hY kX kY tX tY b1 c1 c2
    go_wp2_with fail
    refine (H2.out _).mono ?_
    rintro e w2 ⟨ar, cr, Xr, br, dr, Yr, rfl, hX, hY, kX, kY, tX, tY, b1⟩
    dsimp only at kX kY ⊢
    unfold fiV
    have hXrn : Xr.length ≤ 4001 := by have := congrArg List.length kX; simp at this; omega
    have hYrn : Yr.length ≤ 4001 := by have := congrArg List.length kY; simp at this; omega
    have c1 := below_alloc w2 (.cells #[.slice ar Xr.length cr, .slice br Yr.length dr] 34)
    have HXr := Lib.hid (hX.later c1)
    have HYr := Lib.hid (hY.later c1)
    have HX2 := Lib.hid ((HX.out.later b1).later c1)
    have HY2 := Lib.hid ((HY.out.later b1).later c1)
    have HB2 := Lib.hid (below_then (below_then HB.out b1) c1)
    have HF2 := Lib.hid (blk_later (blk_later HF.out b1) c1)
    have HE2 := Lib.hid (blk_later (blk_later HE.out b1) c1)
    have HG2 := Lib.hid (blk_new w2 #[.slice ar Xr.length cr, .slice br Yr.length dr] 34)
    have KXr := Lib.hid kX
    have KYr := Lib.hid kY
    have TXr := Lib.hid tX
    have TYr := Lib.hid tY
    clear hX hY kX kY tX tY b1 c1 HX HY HB HF HE H1 H2
    go_upto_region 5 with fail
    generalize hw3 : w2.alloc (.cells #[.slice ar Xr.length cr, .slice br Yr.length dr] 34) = w3 at *
    clear hw3
    have HV9 : Hid (Below w3.heap.size w3 w3.drew) := Lib.hid (Below.refl _ _).drew
    have HQ := Lib.hid fun w1 (hb : Below w3.heap.size w3 w1) => (show (w1.cell? ⟨_, 0, none⟩ = some (.slice al X.length cl) ∧ w1.cell? ⟨_, 1, none⟩ = some (.slice ao Y.length co)) ∧ (w1.cell? ⟨_, 0, none⟩ = some (.slice ar Xr.length cr) ∧ w1.cell? ⟨_, 1, none⟩ = some (.slice br Yr.length dr)) ∧ (w1.cell? ⟨_, 0, none⟩ = some (.int .i64 x0) ∧ w1.cell? ⟨_, 1, none⟩ = some (.int .i64 0) ∧ w1.cell? ⟨_, 2, none⟩ = some (.int .i64 0) ∧ w1.cell? ⟨_, 3, none⟩ = some (.int .i64 x3)) from ⟨cells2 (blk_later HF2.out hb), cells2 (blk_later HG2.out hb), fault_cells18 (blk_later HE2.out hb)⟩)
    have pSn := HQ.out _ HV9.out
    have HOf := Lib.hid fun w9 (hb : Below w3.heap.size w3 w9) => law17_ofField al X.length cl X ao Y.length co Y w9 (HX2.out.later hb) (HY2.out.later hb) (by omega) (by omega) (codes_both (p := fun x => x.n ≤ 1000000) (fun x hx => Nat.le_trans (TX.out x hx).1 (by decide)) (fun x hx => Nat.le_trans (TY.out x hx).1 (by decide)))
    clear pSn
    have pSn := HQ.out _ HV9.out
    go_region_held3 (fun w' => (w'.cell? ⟨w1.heap.size, 0, none⟩ = some (.slice al X.length cl) ∧ w'.cell? ⟨w1.heap.size, 1, none⟩ = some (.slice ao Y.length co)) ∧ (w'.cell? ⟨w2.heap.size, 0, none⟩ = some (.slice ar Xr.length cr) ∧ w'.cell? ⟨w2.heap.size, 1, none⟩ = some (.slice br Yr.length dr)) ∧ (w'.cell? ⟨w1.heap.size + 1, 0, none⟩ = some (.int .i64 x0) ∧ w'.cell? ⟨w1.heap.size + 1, 1, none⟩ = some (.int .i64 0) ∧ w'.cell? ⟨w1.heap.size + 1, 2, none⟩ = some (.int .i64 0) ∧ w'.cell? ⟨w1.heap.size + 1, 3, none⟩ = some (.int .i64 x3))) (exact pSn)
      (first
      | (go_at_call 10; refine (HOf.out _ HV9.out).mono ?_; rintro e9 wp1 ⟨a5, n5, c5, K5, b5, m5, d5, O5, rfl, h5, h6, e5, e6, b9⟩; have H5 := Lib.hid h5; have H6 := Lib.hid h6; have E5 := Lib.hid e5; have E6 := Lib.hid e6; replace HV9 := Lib.hid (below_then HV9.out b9); clear h5 h6 e5 e6 b9 pSn; have pSn := HQ.out _ HV9.out)
      | (go_at_call 9; have hq := ref17_sameField a5 n5 c5 K5 b5 m5 d5 O5 ar Xr.length cr Xr br Yr.length dr Yr _ H5.out H6.out (HXr.out.later HV9.out) (HYr.out.later HV9.out) (by rw [← H5.out.len, ← List.length_map Lt.tl, E5.out, List.length_map]; omega) (by rw [← H6.out.len, ← List.length_map Sn.L, E6.out, List.length_map]; omega) (codes_both (p := fun x => thinN 1000000 x.L) (thin_tl E5.out fun x hx => thin_up (TX.out x hx).2 (by decide)) (thin_snL E6.out fun x hx => thin_up (TY.out x hx).2 (by decide))) (codes_both (p := fun x => thinN 1000000 x.L) (fun x hx => thin_up (TXr.out x hx).2 (by decide)) (fun x hx => thin_up (TYr.out x hx).2 (by decide))); rw [decide_eq_true (tSame_of ((tl_ltP E5.out).trans (KX.out.trans KXr.out.symm)) ((snL_sem E6.out).trans (KY.out.trans KYr.out.symm)))] at hq; refine hq.mono ?_; rintro e9 wp2 ⟨rfl, b9⟩; replace HV9 := Lib.hid (below_then HV9.out b9); clear hq b9 pSn; have pSn := HQ.out _ HV9.out)
      | (go_at_call 11; refine (HFt.out _).mono ?_; unfold faultV; rintro e9 wp3 ⟨rfl, b9⟩; replace HV9 := Lib.hid (below_then HV9.out b9); clear b9 pSn; have pSn := HQ.out _ HV9.out)
      | (go_at_call 6; refine (HW.out _).mono ?_; rintro e9 wp4 ⟨rfl, b9⟩; replace HV9 := Lib.hid (below_then HV9.out b9); clear b9 pSn; have pSn := HQ.out _ HV9.out))
    clear pSn
    go_wp2
    go_ret
    exact ⟨rfl, below_then HB2.out HV9.out⟩
end Go.Proofs.Ythblmpkdcahmkaa

/-
  The document's answer of layer 18: Code.
-/
namespace Go.Proofs.Ythblmpkdcahmkaa
open Go.WideShapes Go.RowKit Go.Deep

/-- An expression, and the place at which there is none. -/
def CodeOut (Nt : TypeId) (r : List Np × Int) (w : World) (e : Ending) (w' : World) : Prop :=
  ∃ v L, e = .returned (.tuple #[v, .int .i64 r.2]) ∧ ndK.Mine w' w.heap.size Nt v L ∧ L.map Nd.sem = r.1 ∧ thinN 20 L ∧ Below w.heap.size w w'
set_option maxRecDepth 4096 in
set_option maxHeartbeats 8000000 in
theorem ref18_code (l : List UInt8) (a : Option Addr) (n c : Nat) (N : List (List UInt8)) (w : World) (h : stC.Has w a n c N) (hn : n ≤ 100000) :
    Calls Try.prog 13 #[.string (bs l), .slice a n c] w (CodeOut 80 (pE N l) w) := by
  have HBg := Lib.hid (ref18_begin l a n c N w h hn)
  have hlen := lexScan_len l
  have HWk := Lib.hid (lexScan_wk l)
  obtain ⟨R, hR⟩ : ∃ R, pE N l = R := ⟨_, rfl⟩
  rw [hR]
  unfold pE pCode at hR
  try dsimp only at hR
  clear h
  go_enter Try.func13, Try.ntmps13
  go_wp2_with fail
  refine HBg.out.mono ?_
  rintro e w1 ⟨a1, n1, c1, nv, rfl, h1, hN1, b1⟩
  obtain ⟨an, cn, rfl, -⟩ := hN1.slice
  have hp := PS.init (E := l.length) 68 (at' := (lexScan l).2) h1 hN1
  have HB1 := Lib.hid (below_then b1 (below_alloc w1 (.cells (psCells a1 n1 c1 l.length (.slice an N.length cn) ⟨0, 0, (lexScan l).2⟩) 68)))
  have hg1 : w.heap.size ≤ w1.heap.size := b1.size
  unfold psCells at hp HB1 ⊢
  dsimp only at hp HB1 ⊢
  have hd := (pAll_fine (lexScan l).1 l.length N 41).2
  have d2 := hd.within ⟨0, 0, (lexScan l).2⟩ (Nat.zero_le _)
  have HEx := Lib.hid ((ref18_all (lexScan l).1 l.length N HWk.out (by omega) 41).2 _ _ _ _ _ _ _ hp ⟨rfl, fun h => absurd h (by decide), Nat.zero_le _⟩)
  generalize (pAll (lexScan l).1 l.length N 41).2 ⟨0, 0, (lexScan l).2⟩ = r at *
  obtain ⟨code, s1⟩ := r
  have HOv := Lib.hid fun w9 h9 => ref18_over w1.heap.size a1 n1 c1 (lexScan l).1 l.length (.slice an N.length cn) N s1 w9 h9
  dsimp only at hR
  generalize pOver (lexScan l).1 l.length s1 = s2 at *
  clear h1 hN1 b1 hp HBg hd d2
  go_wp2_with fail
  refine HEx.out.mono ?_
  rintro e w2 ⟨v, L, rfl, m2, sm2, th2, h2, g2⟩
  have M2 := Lib.hid (m2.low (base' := w1.heap.size + 1) (by rw [blk_size]; omega))
  have SM := Lib.hid sm2
  have TH := Lib.hid th2
  have HO9 := Lib.hid (HOv.out w2 h2)
  have HP2 := Lib.hid h2
  have B2 := Lib.hid (below_grown_new HB1.out g2 hg1)
  clear h2 g2 m2 sm2 th2 HEx HOv HB1
  go_wp2_with fail
  refine HO9.out.mono ?_
  rintro e w3 ⟨rfl, h3, g3⟩
  have M3 := Lib.hid ((mine_past M2.out HP2.out g3 (Nat.lt_succ_self _)).low (base' := w.heap.size) (by omega))
  have B3 := Lib.hid (below_grown_new B2.out g3 hg1)
  obtain ⟨e0, e1, e2, e3, e4, e5⟩ := h3.cells
  obtain ⟨-, -, -, -, -, x5⟩ := (h3.later (below_alloc w3 (.cells #[] 80))).cells
  clear h3 g3 HO9 M2 B2 HP2
  by_cases hb : 0 ≤ s2.bad
  · rw [if_pos hb] at hR
    subst hR
    go_wp2
    go_region
    go_wp2
    go_ret2
    exact ⟨_, [], rfl, ((Kin.Mine.void w3 80).later (Below.refl _ _).drew).low (base' := w.heap.size) B3.out.size, rfl, fun x hx => (by cases hx), (below_then B3.out (below_alloc w3 _)).drew⟩
  · rw [if_neg hb] at hR
    subst hR
    go_wp2
    go_ret2
    exact ⟨v, L, rfl, M3.out, SM.out, TH.out, B3.out⟩
end Go.Proofs.Ythblmpkdcahmkaa

/-
  The walks of the laws of layer 18: ParseExprs.
-/
namespace Go.Proofs.Ythblmpkdcahmkaa
open Go.RowKit

set_option maxRecDepth 4096 in
set_option maxHeartbeats 16000000 in
theorem law18_exprs (S : ParseSaid) (l : List UInt8) (a : Option Addr) (n c : Nat) (N : List (List UInt8)) (w : World) (hl : l.length ≤ 9223372036854775807) (h : stC.Has w a n c N) : Calls Try.prog 4 #[.string (bs l), .slice a n c] w (Gives (.bool true) w) := by
  have hsz := bs_size l
  have hbd := h.bound
  have HN := Lib.hid h
  have HW := Lib.hid fun w => law18_works S w
  clear h
  by_cases hbig : 1000 < l.length
  · have hb : (1000 : Int) < ((l.length : Nat) : Int) := by omega
    go_enter Try.func4, Try.ntmps4
    go_wp2_with fail
    refine (HW.out _).mono ?_
    rintro e w1 ⟨rfl, b1⟩
    go_wp2
    go_ret
    exact ⟨rfl, b1⟩
  · have hb : ¬ (1000 : Int) < ((l.length : Nat) : Int) := by omega
    by_cases hmany : 10 < n
    · have hb2 : (10 : Int) < (n : Int) := by omega
      go_enter Try.func4, Try.ntmps4
      go_wp2_with fail
      refine (HW.out _).mono ?_
      rintro e w1 ⟨rfl, b1⟩
      go_wp2
      go_ret
      exact ⟨rfl, b1⟩
    · have hb2 : ¬ (10 : Int) < (n : Int) := by omega
      have H1 := Lib.hid (S.expr l a n c N w (by omega) HN.out (by omega))
      have H2 := Lib.hid fun w1 (hb : Below w.heap.size w w1) => ref18_code l a n c N w1 (HN.out.later hb) (by omega)
      generalize pE N l = R at *
      obtain ⟨rC, at'⟩ := R
      obtain ⟨x0, x3, hfv⟩ := fault_shape at'
      have HFt := Lib.hid fun w => law18_fault at' w
      rw [hfv] at HFt
      have HFv := Lib.hid hfv
      clear hbig hfv hmany
      go_enter Try.func4, Try.ntmps4
      go_wp2_with fail
      refine H1.out.mono ?_
      rintro e w1 ⟨al, cl, X, rfl, hX, kX, tX, nX, b1⟩
      dsimp only at kX ⊢
      rw [HFv.out]
      unfold faultV
      have c1 := below_alloc w1 (.cells #[.int .i64 x0, .int .i64 0, .int .i64 0, .int .i64 x3] 28)
      have HX := Lib.hid (hX.later c1)
      have HB := Lib.hid (below_then b1 c1)
      have HE := Lib.hid (blk_new w1 #[.int .i64 x0, .int .i64 0, .int .i64 0, .int .i64 x3] 28)
      have KX := Lib.hid kX
      have TX := Lib.hid tX
      clear hX kX tX b1 c1 H1
      go_wp2_with fail
      refine (H2.out _ HB.out).mono ?_
      rintro e w2 ⟨v2, Xr, rfl, m2, kr, tr, b2⟩
      obtain ⟨ar, cr, rfl, hr⟩ := m2.slice
      dsimp only at kr ⊢
      have HXr := Lib.hid hr
      have HX2 := Lib.hid (HX.out.later b2)
      have HB2 := Lib.hid (below_then HB.out b2)
      have HE2 := Lib.hid (blk_later HE.out b2)
      have KXr := Lib.hid kr
      have TXr := Lib.hid tr
      clear m2 hr kr tr b2 HX HB HE H2
      have HV9 : Hid (Below w2.heap.size w2 w2.drew) := Lib.hid (Below.refl _ _).drew
      go_upto_region 5 with fail
      have HQ := Lib.hid fun w9 (hb : Below w2.heap.size w2 w9) => (show w9.cell? ⟨w1.heap.size, 0, none⟩ = some (.int .i64 x0) ∧ w9.cell? ⟨w1.heap.size, 1, none⟩ = some (.int .i64 0) ∧ w9.cell? ⟨w1.heap.size, 2, none⟩ = some (.int .i64 0) ∧ w9.cell? ⟨w1.heap.size, 3, none⟩ = some (.int .i64 x3) from fault_cells18 (blk_later HE2.out hb))
      have pSn := HQ.out _ HV9.out
      have HOf := Lib.hid fun w9 (hb : Below w2.heap.size w2 w9) => law17_of al X.length cl X w9 (HX2.out.later hb) (by omega)
      go_region_held3 (fun w' => w'.cell? ⟨w1.heap.size, 0, none⟩ = some (.int .i64 x0) ∧ w'.cell? ⟨w1.heap.size, 1, none⟩ = some (.int .i64 0) ∧ w'.cell? ⟨w1.heap.size, 2, none⟩ = some (.int .i64 0) ∧ w'.cell? ⟨w1.heap.size, 3, none⟩ = some (.int .i64 x3)) (exact pSn)
        (first
        | (go_at_call 15; refine (HOf.out _ HV9.out).mono ?_; rintro e9 wp1 ⟨a5, n5, c5, rfl, h5, b9⟩; have H5 := Lib.hid h5; replace HV9 := Lib.hid (below_then HV9.out b9); clear h5 b9 pSn; have pSn := HQ.out _ HV9.out)
        | (go_at_call 14; have hq := ref17_same a5 n5 c5 X ar Xr.length cr Xr _ H5.out (HXr.out.later HV9.out) (thin_up TX.out (by decide)) (thin_up TXr.out (by decide)); rw [decide_eq_true (KX.out.trans KXr.out.symm)] at hq; refine hq.mono ?_; rintro e9 wp2 ⟨rfl, b9⟩; replace HV9 := Lib.hid (below_then HV9.out b9); clear hq b9 pSn; have pSn := HQ.out _ HV9.out)
        | (go_at_call 11; refine (HFt.out _).mono ?_; unfold faultV; rintro e9 wp3 ⟨rfl, b9⟩; replace HV9 := Lib.hid (below_then HV9.out b9); clear b9 pSn; have pSn := HQ.out _ HV9.out)
        | (go_at_call 6; refine (HW.out _).mono ?_; rintro e9 wp4 ⟨rfl, b9⟩; replace HV9 := Lib.hid (below_then HV9.out b9); clear b9 pSn; have pSn := HQ.out _ HV9.out))
      clear pSn
      go_wp2
      go_ret
      exact ⟨rfl, below_then HB2.out HV9.out⟩
end Go.Proofs.Ythblmpkdcahmkaa

/-
  An argument of type []uint32, [][]uint32, opened: the words that it holds. Of no program.
-/
namespace Go.Proofs.Ythblmpkdcahmkaa
open Go.ChangeShapes Go.WideShapes Go.ChangeAt Go.RowKit
section
variable {H : Type} {enc : TypeId × Value → H} {P : Program} {W : World} {base : Nat}

theorem words_of_ints {zs : List Int} (h : ∀ n ∈ zs, (Lit.int .u32 n).wf = true) : ∃ l : List Nat, zs = l.map (fun x => ((x : Nat) : Int)) ∧ okw l := by
  refine ⟨zs.map Int.toNat, ?_, ?_⟩
  · rw [List.map_map]
    have : ∀ z ∈ zs, ((fun x => ((x : Nat) : Int)) ∘ Int.toNat) z = z := fun z hz => by
      have := bounds_u32 (h z hz)
      show ((z.toNat : Nat) : Int) = z
      omega
    conv => lhs; rw [← List.map_id zs]
    exact List.map_congr_left (fun z hz => (this z hz).symm)
  · intro x hx
    obtain ⟨z, hz, rfl⟩ := List.mem_map.1 hx
    have := bounds_u32 (h z hz)
    omega
theorem getD_words (l : List Nat) (j : Nat) : (l.map fun x => ((x : Nat) : Int)).getD j 0 = ((atw l j : Nat) : Int) := by
  unfold atw
  rw [List.getD_eq_getElem?_getD, List.getD_eq_getElem?_getD, List.getElem?_map]
  cases l[j]? <;> rfl

/-- Cells that hold integers of kind u32, as words. -/
theorem Wd.ofInts {a : Option Addr} {len cap : Nat} {zs : List Int} (hl : len ≤ cap) (hm : cap ≤ maxLen) (hn : a = none → cap = 0) (hz : len ≤ zs.length) (hw : ∀ n ∈ zs, (Lit.int .u32 n).wf = true)
    (hc : ∀ a', a = some a' → ∀ i, i < len → W.cell? (a'.add i) = some (.int .u32 (zs.getD i 0))) : ∃ l, Wd W a len cap l := by
  obtain ⟨l, rfl, ho⟩ := words_of_ints hw
  have hll : (l.take len).length = len := by rw [List.length_take]; simp at hz; omega
  refine ⟨l.take len, hll, hl, by unfold maxLen at hm; omega, okw_take ho len, hn, ?_⟩
  by_cases h0 : len = 0
  · exact .inl h0
  · cases a with
    | none => have := hn rfl; omega
    | some a' =>
      obtain ⟨b, off, spot⟩ := a'
      have hspot : spot = none := by simpa [Addr.add] using World.cell?_spot (hc _ rfl 0 (by omega))
      subst hspot
      refine .inr ⟨b, off, rfl, fun j hj => ?_⟩
      rw [← add_plain, hc _ rfl j hj, getD_words, atw_take hj]

theorem open_words {t e : TypeId} {v : Value} {d : DataW H} {p : List MemPlace} (ht : P.underlying t = some (.slice e)) (he : P.underlying e = some (.int .u32)) (hce : P.cellsOf e = 1)
    (hv : Value.okWide P W .any base t v) (h : DataW.Trod enc P W 0 (fun _ => true) true t v d p) : ∃ (a : Option Addr) (n cap : Nat) (l : List Nat), v = .slice a n cap ∧ Wd W a n cap l := by
  obtain ⟨a0, len, cap, rfl⟩ := okWide_slice ht hv
  obtain ⟨fuel, hf⟩ := h
  rcases open_ints ht he hce hf with ⟨hcs, _⟩ | ⟨a, len', cap', zs, hcs, _, hl, hm, hz, _, hc, hw⟩
  · simp [Value.cells] at hcs
    obtain ⟨rfl, rfl, rfl⟩ := hcs
    exact ⟨_, _, _, [], rfl, Wd.ofNil W⟩
  · simp [Value.cells] at hcs
    obtain ⟨rfl, rfl, rfl⟩ := hcs
    simp only [if_true] at hz
    obtain ⟨l, hl'⟩ := Wd.ofInts (W := W) (a := some a) hl hm (fun e => by cases e) (by omega) hw (fun a' e i hi => by cases e; exact hc i (by omega))
    exact ⟨_, _, _, l, rfl, hl'⟩

theorem open_rows {t e q : TypeId} {v : Value} {d : DataW H} {p : List MemPlace} (ht : P.underlying t = some (.slice e)) (he : P.underlying e = some (.slice q)) (hq : P.underlying q = some (.int .u32)) (hce : P.cellsOf e = 1) (hcq : P.cellsOf q = 1)
    (hv : Value.okWide P W .any base t v) (h : DataW.Trod enc P W 0 (fun _ => true) true t v d p) : ∃ (a : Option Addr) (n cap : Nat) (ls : List (List Nat)), v = .slice a n cap ∧ Wds W a n cap ls := by
  obtain ⟨a0, len, cap, rfl⟩ := okWide_slice ht hv
  obtain ⟨fuel, hf⟩ := h
  rcases Go.Deep.open_int_rows ht he hq hce hcq hf with ⟨hcs, _⟩ | ⟨a, len', cap', A, L, C, Z, hcs, _, hl, hm, _, hc⟩
  · simp [Value.cells] at hcs
    obtain ⟨rfl, rfl, rfl⟩ := hcs
    exact ⟨_, _, _, [], rfl, rfl, Nat.le_refl _, by omega, fun _ => rfl, .inl rfl⟩
  · simp [Value.cells] at hcs
    obtain ⟨rfl, rfl, rfl⟩ := hcs
    have hrow : ∀ r, r < cap → ∃ l, Wd W (A r) (L r) (C r) l := fun r hr => by
      obtain ⟨_, h2, h3, h4, h5, h6, h7⟩ := hc r hr
      exact Wd.ofInts h2 h3 h6 (by omega) h5 (fun a' e i hi => (h7 a' e).2 i (by omega))
    let F : Nat → List Nat := fun r => if hr : r < cap then (hrow r hr).choose else []
    have hF : ∀ r, r < cap → Wd W (A r) (L r) (C r) (F r) := fun r hr => by simp only [F, hr, dif_pos]; exact (hrow r hr).choose_spec
    refine ⟨_, _, _, (List.range len).map F, rfl, by simp, hl, by unfold maxLen at hm; omega, fun e => (by cases e), ?_⟩
    by_cases h0 : len = 0
    · exact .inl h0
    · have h00 := (hc 0 (by omega)).1
      obtain ⟨b, off, sp⟩ := a
      have hsp : sp = none := by simpa [Addr.add] using World.cell?_spot h00
      subst hsp
      refine .inr ⟨b, off, rfl, fun j hj => ⟨A j, L j, C j, ?_, ?_⟩⟩
      · rw [← add_plain]; exact (hc j (by omega)).1
      · have e1 : ((List.range len).map F).getD j [] = F j := by rw [List.getD_eq_getElem?_getD, List.getElem?_map, List.getElem?_range hj]; rfl
        rw [e1]
        exact hF j (by omega)
/-- An array of two words by value. -/
theorem open_pair {t e : TypeId} {v : Value} {d : DataW H} {p : List MemPlace} (ht : P.underlying t = some (.array 2 e)) (he : P.underlying e = some (.int .u32)) (hct : P.cellsOf t = 2) (hce : P.cellsOf e = 1)
    (hv : Value.okWide P W .any base t v) (h : DataW.Trod enc P W 0 (fun _ => true) true t v d p) : ∃ x y : Nat, v = .agg #[.int .u32 (x : Int), .int .u32 (y : Int)] ∧ x < 4294967296 ∧ y < 4294967296 := by
  obtain ⟨cs, rfl, hsz⟩ : ∃ cs, v = .agg cs ∧ cs.size = P.cellsOf t := by
    simp only [Value.okWide, ht] at hv
    obtain ⟨cs, h1, h2, _⟩ := hv
    exact ⟨cs, h1, h2⟩
  rw [hct] at hsz
  obtain ⟨l⟩ := cs
  match l, hsz with
  | [c0, c1], _ =>
    obtain ⟨fuel, hf⟩ := h
    obtain ⟨xs, m, _, _, _, hl, hel⟩ := DataW.trod_array ht hf
    have h0 := hel 0 (by omega)
    have h1 := hel 1 (by omega)
    rw [hce, List.getElem?_eq_getElem (by omega)] at h0 h1
    obtain ⟨z0, e0, _, w0⟩ := DataW.trod_int he h0
    obtain ⟨z1, e1, _, w1⟩ := DataW.trod_int he h1
    simp [Value.cells] at e0 e1
    subst e0 e1
    have b0 := bounds_u32 w0
    have b1 := bounds_u32 w1
    refine ⟨z0.toNat, z1.toNat, ?_, by omega, by omega⟩
    rw [Int.toNat_of_nonneg b0.1, Int.toNat_of_nonneg b1.1]
end
end Go.Proofs.Ythblmpkdcahmkaa

/-
  An argument of a struct type opened: a whole number, a fraction. Of no program.
-/
namespace Go.Proofs.Ythblmpkdcahmkaa
open Go.ChangeShapes Go.WideShapes Go.ChangeAt Go.RowKit Go.Deep
section
variable {H : Type} {enc : TypeId × Value → H} {P : Program} {W : World} {base : Nat}

theorem words_cell {t e : TypeId} {n0 : Nat} {v : Value} {y : DataW H × List MemPlace} (ht : P.underlying t = some (.slice e)) (he : P.underlying e = some (.int .u32)) (hce : P.cellsOf e = 1)
    (hf : DataW.trod enc P W 0 (fun _ => true) true n0 t [v] = some y) : ∃ (a : Option Addr) (n cap : Nat) (l : List Nat), v = .slice a n cap ∧ Wd W a n cap l := by
  rcases open_ints ht he hce hf with ⟨hcs, _⟩ | ⟨a, len', cap', zs, hcs, _, hl, hm, hz, _, hc, hw⟩
  · simp at hcs
    exact ⟨_, _, _, [], hcs, Wd.ofNil W⟩
  · simp at hcs
    simp only [if_true] at hz
    obtain ⟨l, hl'⟩ := Wd.ofInts (W := W) (a := some a) hl hm (fun e => by cases e) (by omega) hw (fun a' e i hi => by cases e; exact hc i (by omega))
    exact ⟨_, _, _, l, hcs, hl'⟩
theorem open_whole {t : TypeId} {f0 f1 : Field} {e : TypeId} {v : Value} {d : DataW H} {p : List MemPlace} (hs : P.underlying t = some (.struct #[f0, f1])) (hone : oneCellFields P #[f0, f1] = true) (hC : P.cellsOf t = 2)
    (hb : P.underlying f0.type = some .bool) (ht : P.underlying f1.type = some (.slice e)) (he : P.underlying e = some (.int .u32)) (hce : P.cellsOf e = 1)
    (hv : Value.okWide P W .any base t v) (h : DataW.Trod enc P W 0 (fun _ => true) true t v d p) : ∃ (neg : Bool) (a : Option Addr) (n cap : Nat) (l : List Nat), v = whV neg a n cap ∧ Wd W a n cap l := by
  obtain ⟨v0, v1, y0, y1, m, rfl, _, _, h0, h1⟩ := Joins.open_agg2 hs hone hC hv h
  obtain ⟨b, e0, _⟩ := DataW.trod_bool hb h0
  simp at e0
  subst e0
  obtain ⟨a, n, cap, l, rfl, hw⟩ := words_cell ht he hce h1
  exact ⟨b, a, n, cap, l, rfl, hw⟩
/-- A fraction, as a value. -/
def frV (neg : Bool) (a : Option Addr) (n cap : Nat) (b : Option Addr) (m cap' : Nat) : Value := .agg #[.bool neg, .slice a n cap, .slice b m cap']
theorem open_frac {t : TypeId} {f0 f1 f2 : Field} {e : TypeId} {v : Value} {d : DataW H} {p : List MemPlace} (hs : P.underlying t = some (.struct #[f0, f1, f2])) (hone : oneCellFields P #[f0, f1, f2] = true) (hC : P.cellsOf t = 3)
    (hb : P.underlying f0.type = some .bool) (ht : P.underlying f1.type = some (.slice e)) (ht2 : P.underlying f2.type = some (.slice e)) (he : P.underlying e = some (.int .u32)) (hce : P.cellsOf e = 1)
    (hv : Value.okWide P W .any base t v) (h : DataW.Trod enc P W 0 (fun _ => true) true t v d p) :
    ∃ (neg : Bool) (a : Option Addr) (n cap : Nat) (l : List Nat) (b : Option Addr) (m cap' : Nat) (k : List Nat), v = frV neg a n cap b m cap' ∧ Wd W a n cap l ∧ Wd W b m cap' k := by
  obtain ⟨v0, v1, v2, y0, y1, y2, m, rfl, _, _, h0, h1, h2⟩ := Joins.open_agg3 hs hone hC hv h
  obtain ⟨b, e0, _⟩ := DataW.trod_bool hb h0
  simp at e0
  subst e0
  obtain ⟨a, n, cap, l, rfl, hw⟩ := words_cell ht he hce h1
  obtain ⟨a2, n2, cap2, l2, rfl, hw2⟩ := words_cell ht2 he hce h2
  exact ⟨b, a, n, cap, l, a2, n2, cap2, l2, rfl, hw, hw2⟩
end
end Go.Proofs.Ythblmpkdcahmkaa

/-
  Arguments opened: an expression (a slice of nodes), a field (lets and outs). Of no program.
-/
namespace Go.Proofs.Ythblmpkdcahmkaa
open Go.ChangeShapes Go.WideShapes Go.ChangeAt Go.RowKit Go.Deep
section
variable {H : Type} {enc : TypeId × Value → H} {P : Program} {W : World} {base : Nat}
/-- Elements, place by place, are a row of them. -/
theorem all_of {α : Type} [Inhabited α] {K : Kin α} {a : Addr} {len cap : Nat} (hl : len ≤ cap) (hm : cap ≤ maxLen)
    (each : ∀ i, i < cap → ∃ x : α, (∀ (j : Nat) u, (K.cells x)[j]? = some u → W.cell? (a.add (i * K.size + j)) = some u) ∧ K.good W x) : ∃ L : List α, K.All W (some a) len cap L := by
  obtain ⟨F, hF⟩ := choose_lt each
  refine ⟨(List.range len).map F, ⟨by simp, hl, by unfold maxLen at hm; omega, fun e => (by cases e), ?_⟩, fun x hx => ?_⟩
  · by_cases h0 : len = 0
    · exact .inl h0
    · have hne : ∃ u, (K.cells (F 0))[0]? = some u := ⟨(K.cells (F 0))[0]'(by rw [K.len]; exact K.pos), List.getElem?_eq_getElem _⟩
      obtain ⟨u0, hu0⟩ := hne
      have h00 := (hF 0 (by omega)).1 0 u0 hu0
      obtain ⟨b, off, sp⟩ := a
      have hsp : sp = none := by simpa [Addr.add] using World.cell?_spot h00
      subst hsp
      refine .inr ⟨b, off, rfl, fun j x hj i u hu => ?_⟩
      have hjl : j < len := by
        rcases Nat.lt_or_ge j len with h9 | h9
        · exact h9
        · rw [List.getElem?_eq_none (by simpa using h9)] at hj; cases hj
      rw [List.getElem?_map, List.getElem?_range hjl] at hj
      simp only [Option.map_some, Option.some.injEq] at hj
      subst hj
      have h1 := (hF j (by omega)).1 i u hu
      rw [add_plain] at h1
      rw [Nat.add_assoc]
      exact h1
  · obtain ⟨j, hj, rfl⟩ := List.mem_map.1 hx
    exact (hF j (by have := List.mem_range.1 hj; omega)).2
theorem nodes_cell {t e : TypeId} {f0 f1 f2 : Field} {q : TypeId} {n0 : Nat} {v : Value} {y : DataW H × List MemPlace} (ht : P.underlying t = some (.slice e)) (hs : P.underlying e = some (.struct #[f0, f1, f2])) (hone : oneCellFields P #[f0, f1, f2] = true) (hC : P.cellsOf e = 3)
    (h0 : P.underlying f0.type = some (.int .i64)) (h1 : P.underlying f1.type = some (.int .i64)) (h2 : P.underlying f2.type = some (.slice q)) (hq : P.underlying q = some (.int .u32)) (hcq : P.cellsOf q = 1)
    (hf : DataW.trod enc P W 0 (fun _ => true) true n0 t [v] = some y) : ∃ (a : Option Addr) (n cap : Nat) (L : List Nd), v = .slice a n cap ∧ Nds W a n cap L := by
  rcases open_slice ht hf with ⟨hcs, _⟩ | ⟨a, len, cap, m, n, D, Pl, hcs, _, hl, hm, hmm, _, hx⟩
  · simp at hcs
    exact ⟨_, _, _, [], hcs, Kin.All.nil W⟩
  · simp at hcs
    simp only [if_true] at hmm
    obtain ⟨o0, k0⟩ := hone_of hone 0 f0 rfl
    obtain ⟨o1, k1⟩ := hone_of hone 1 f1 rfl
    obtain ⟨o2, k2⟩ := hone_of hone 2 f2 rfl
    obtain ⟨L, hL⟩ := all_of (W := W) (K := ndK) (a := a) hl hm (fun i hi => by
      obtain ⟨cs', h3, h4⟩ := hx i (by omega)
      rw [hC] at h3
      obtain ⟨_, hlen, hcell⟩ := World.cells?_some h3
      obtain ⟨y0, y1, y2, k, _, _, g0, g1, g2⟩ := trod_struct3 hs h4
      match cs', hlen with
      | [v0, v1, v2], _ =>
        simp [o0, k0] at g0
        simp [o1, k1] at g1
        simp [o2, k2] at g2
        obtain ⟨x, e0, _, _⟩ := DataW.trod_int h0 g0
        obtain ⟨y, e1, _, _⟩ := DataW.trod_int h1 g1
        simp at e0 e1
        subst e0 e1
        obtain ⟨a1, n1, c1, l1, rfl, w1⟩ := words_cell h2 hq hcq g2
        have c0 := hcell 0 (by omega)
        have c1' := hcell 1 (by omega)
        have c2 := hcell 2 (by omega)
        rw [Go.Deep.add_add] at c0 c1' c2
        refine ⟨⟨x, y, a1, n1, c1, l1⟩, fun j u hu => ?_, w1⟩
        match j, hu with
        | 0, hu => simp [ndK, Nd.cells] at hu; subst hu; simpa [ndK] using c0
        | 1, hu => simp [ndK, Nd.cells] at hu; subst hu; simpa [ndK] using c1'
        | 2, hu => simp [ndK, Nd.cells] at hu; subst hu; simpa [ndK] using c2
        | j + 3, hu => simp [ndK, Nd.cells] at hu)
    exact ⟨_, _, _, L, hcs, hL⟩
theorem open_nodes {t e : TypeId} {f0 f1 f2 : Field} {q : TypeId} {v : Value} {d : DataW H} {p : List MemPlace} (ht : P.underlying t = some (.slice e)) (hs : P.underlying e = some (.struct #[f0, f1, f2])) (hone : oneCellFields P #[f0, f1, f2] = true) (hC : P.cellsOf e = 3)
    (h0 : P.underlying f0.type = some (.int .i64)) (h1 : P.underlying f1.type = some (.int .i64)) (h2 : P.underlying f2.type = some (.slice q)) (hq : P.underlying q = some (.int .u32)) (hcq : P.cellsOf q = 1)
    (hv : Value.okWide P W .any base t v) (h : DataW.Trod enc P W 0 (fun _ => true) true t v d p) : ∃ (a : Option Addr) (n cap : Nat) (L : List Nd), v = .slice a n cap ∧ Nds W a n cap L := by
  obtain ⟨a0, len, cap, rfl⟩ := okWide_slice ht hv
  obtain ⟨fuel, hf⟩ := h
  exact nodes_cell (v := .slice a0 len cap) ht hs hone hC h0 h1 h2 hq hcq (by simpa [Value.cells] using hf)
theorem outs_cell {t r e : TypeId} {f0 f1 f2 : Field} {q : TypeId} {n0 : Nat} {v : Value} {y : DataW H × List MemPlace} (hr : P.underlying t = some (.slice r)) (hcr : P.cellsOf r = 1) (ht : P.underlying r = some (.slice e)) (hs : P.underlying e = some (.struct #[f0, f1, f2])) (hone : oneCellFields P #[f0, f1, f2] = true) (hC : P.cellsOf e = 3)
    (h0 : P.underlying f0.type = some (.int .i64)) (h1 : P.underlying f1.type = some (.int .i64)) (h2 : P.underlying f2.type = some (.slice q)) (hq : P.underlying q = some (.int .u32)) (hcq : P.cellsOf q = 1)
    (hf : DataW.trod enc P W 0 (fun _ => true) true n0 t [v] = some y) : ∃ (a : Option Addr) (n cap : Nat) (L : List Sn), v = .slice a n cap ∧ Sns W a n cap L := by
  rcases open_slice hr hf with ⟨hcs, _⟩ | ⟨a, len, cap, m, n, D, Pl, hcs, _, hl, hm, hmm, _, hx⟩
  · simp at hcs
    exact ⟨_, _, _, [], hcs, Kin.All.nil W⟩
  · simp at hcs
    simp only [if_true] at hmm
    obtain ⟨L, hL⟩ := all_of (W := W) (K := snK) (a := a) hl hm (fun i hi => by
      obtain ⟨cs', h3, h4⟩ := hx i (by omega)
      rw [hcr] at h3
      obtain ⟨_, hlen, hcell⟩ := World.cells?_some h3
      match cs', hlen with
      | [v0], _ =>
        obtain ⟨a1, n1, c1, L1, rfl, w1⟩ := nodes_cell ht hs hone hC h0 h1 h2 hq hcq h4
        have c0 := hcell 0 (by omega)
        rw [Go.Deep.add_add] at c0
        refine ⟨⟨a1, n1, c1, L1⟩, fun j u hu => ?_, w1⟩
        match j, hu with
        | 0, hu => simp [snK] at hu; subst hu; simpa [snK] using c0
        | j + 1, hu => simp [snK] at hu)
    exact ⟨_, _, _, L, hcs, hL⟩
theorem lets_cell {t l e : TypeId} {g0 g1 f0 f1 f2 : Field} {q : TypeId} {n0 : Nat} {v : Value} {y : DataW H × List MemPlace} (hr : P.underlying t = some (.slice l)) (hg : P.underlying l = some (.struct #[g0, g1])) (hgo : oneCellFields P #[g0, g1] = true) (hgC : P.cellsOf l = 2) (hg0 : P.underlying g0.type = some .string) (ht : P.underlying g1.type = some (.slice e))
    (hs : P.underlying e = some (.struct #[f0, f1, f2])) (hone : oneCellFields P #[f0, f1, f2] = true) (hC : P.cellsOf e = 3)
    (h0 : P.underlying f0.type = some (.int .i64)) (h1 : P.underlying f1.type = some (.int .i64)) (h2 : P.underlying f2.type = some (.slice q)) (hq : P.underlying q = some (.int .u32)) (hcq : P.cellsOf q = 1)
    (hf : DataW.trod enc P W 0 (fun _ => true) true n0 t [v] = some y) : ∃ (a : Option Addr) (n cap : Nat) (L : List Lt), v = .slice a n cap ∧ Lts W a n cap L := by
  rcases open_slice hr hf with ⟨hcs, _⟩ | ⟨a, len, cap, m, n, D, Pl, hcs, _, hl, hm, hmm, _, hx⟩
  · simp at hcs
    exact ⟨_, _, _, [], hcs, Kin.All.nil W⟩
  · simp at hcs
    simp only [if_true] at hmm
    obtain ⟨o0, k0⟩ := hone_of hgo 0 g0 rfl
    obtain ⟨o1, k1⟩ := hone_of hgo 1 g1 rfl
    obtain ⟨L, hL⟩ := all_of (W := W) (K := ltK) (a := a) hl hm (fun i hi => by
      obtain ⟨cs', h3, h4⟩ := hx i (by omega)
      rw [hgC] at h3
      obtain ⟨_, hlen, hcell⟩ := World.cells?_some h3
      obtain ⟨y0, y1, k, _, _, p0, p1⟩ := trod_struct2 hg h4
      match cs', hlen with
      | [v0, v1], _ =>
        simp [o0, k0] at p0
        simp [o1, k1] at p1
        obtain ⟨s, e0, _, _⟩ := DataW.trod_string hg0 p0
        simp at e0
        subst e0
        obtain ⟨ls, rfl⟩ := bs_of s
        obtain ⟨a1, n1, c1, L1, rfl, w1⟩ := nodes_cell ht hs hone hC h0 h1 h2 hq hcq p1
        have c0 := hcell 0 (by omega)
        have c1' := hcell 1 (by omega)
        rw [Go.Deep.add_add] at c0 c1'
        refine ⟨⟨ls, a1, n1, c1, L1⟩, fun j u hu => ?_, w1⟩
        match j, hu with
        | 0, hu => simp [ltK] at hu; subst hu; simpa [ltK] using c0
        | 1, hu => simp [ltK] at hu; subst hu; simpa [ltK] using c1'
        | j + 2, hu => simp [ltK] at hu)
    exact ⟨_, _, _, L, hcs, hL⟩
theorem open_field {t l e r : TypeId} {s0 s1 g0 g1 f0 f1 f2 : Field} {q : TypeId} {v : Value} {d : DataW H} {p : List MemPlace} (hF : P.underlying t = some (.struct #[s0, s1])) (hFo : oneCellFields P #[s0, s1] = true) (hFC : P.cellsOf t = 2)
    (hr : P.underlying s0.type = some (.slice l)) (hg : P.underlying l = some (.struct #[g0, g1])) (hgo : oneCellFields P #[g0, g1] = true) (hgC : P.cellsOf l = 2) (hg0 : P.underlying g0.type = some .string) (ht : P.underlying g1.type = some (.slice e))
    (ho : P.underlying s1.type = some (.slice r)) (hcr : P.cellsOf r = 1) (ht2 : P.underlying r = some (.slice e))
    (hs : P.underlying e = some (.struct #[f0, f1, f2])) (hone : oneCellFields P #[f0, f1, f2] = true) (hC : P.cellsOf e = 3)
    (h0 : P.underlying f0.type = some (.int .i64)) (h1 : P.underlying f1.type = some (.int .i64)) (h2 : P.underlying f2.type = some (.slice q)) (hq : P.underlying q = some (.int .u32)) (hcq : P.cellsOf q = 1)
    (hv : Value.okWide P W .any base t v) (h : DataW.Trod enc P W 0 (fun _ => true) true t v d p) : ∃ (a : Option Addr) (n c : Nat) (K : List Lt) (b : Option Addr) (m d : Nat) (O : List Sn), v = .agg #[.slice a n c, .slice b m d] ∧ Lts W a n c K ∧ Sns W b m d O := by
  obtain ⟨v0, v1, y0, y1, m, rfl, _, _, k0, k1⟩ := Joins.open_agg2 hF hFo hFC hv h
  obtain ⟨a, n, c, K, rfl, w0⟩ := lets_cell hr hg hgo hgC hg0 ht hs hone hC h0 h1 h2 hq hcq k0
  obtain ⟨b, m', d', O, rfl, w1⟩ := outs_cell ho hcr ht2 hs hone hC h0 h1 h2 hq hcq k1
  exact ⟨a, n, c, K, b, m', d', O, rfl, w0, w1⟩
end
end Go.Proofs.Ythblmpkdcahmkaa

/-
  An argument opened: a slice of strings. Of no program.
-/
namespace Go.Proofs.Ythblmpkdcahmkaa
open Go.ChangeShapes Go.WideShapes Go.ChangeAt Go.RowKit Go.Deep
section
variable {H : Type} {enc : TypeId × Value → H} {P : Program} {W : World} {base : Nat}
theorem strs_cell {t e : TypeId} {n0 : Nat} {v : Value} {y : DataW H × List MemPlace} (ht : P.underlying t = some (.slice e)) (he : P.underlying e = some .string) (hC : P.cellsOf e = 1)
    (hf : DataW.trod enc P W 0 (fun _ => true) true n0 t [v] = some y) : ∃ (a : Option Addr) (n cap : Nat) (L : List (List UInt8)), v = .slice a n cap ∧ stC.Has W a n cap L := by
  rcases open_slice ht hf with ⟨hcs, _⟩ | ⟨a, len, cap, m, n, D, Pl, hcs, _, hl, hm, hmm, _, hx⟩
  · simp at hcs
    exact ⟨_, _, _, [], hcs, Cls.Has.nil W⟩
  · simp at hcs
    simp only [if_true] at hmm
    obtain ⟨L, hL⟩ := all_of (W := W) (K := stK) (a := a) hl hm (fun i hi => by
      obtain ⟨cs', h3, h4⟩ := hx i (by omega)
      rw [hC] at h3
      obtain ⟨_, hlen, hcell⟩ := World.cells?_some h3
      match cs', hlen with
      | [v0], _ =>
        obtain ⟨s, e0, _, _⟩ := DataW.trod_string he h4
        simp at e0
        subst e0
        obtain ⟨l, rfl⟩ := bs_of s
        have c0 := hcell 0 (by omega)
        rw [Go.Deep.add_add] at c0
        refine ⟨l, fun j u hu => ?_, trivial⟩
        match j, hu with
        | 0, hu => simp [stK, stC] at hu; subst hu; simpa [stK, stC] using c0
        | j + 1, hu => simp [stK, stC] at hu)
    exact ⟨_, _, _, L, hcs, hL.1⟩
theorem open_strs {t e : TypeId} {v : Value} {d : DataW H} {p : List MemPlace} (ht : P.underlying t = some (.slice e)) (he : P.underlying e = some .string) (hC : P.cellsOf e = 1)
    (hv : Value.okWide P W .any base t v) (h : DataW.Trod enc P W 0 (fun _ => true) true t v d p) : ∃ (a : Option Addr) (n cap : Nat) (L : List (List UInt8)), v = .slice a n cap ∧ stC.Has W a n cap L := by
  obtain ⟨a0, len, cap, rfl⟩ := okWide_slice ht hv
  obtain ⟨fuel, hf⟩ := h
  exact strs_cell (v := .slice a0 len cap) ht he hC (by simpa [Value.cells] using hf)
end
end Go.Proofs.Ythblmpkdcahmkaa

/-
  The program's own reader of words (layer 18) in memory: words that aren't read yet, levels, names, the row of nodes that grows. Of no program.
-/
namespace Go.Proofs.Ythblmpkdcahmkaa
open Go.WideShapes Go.RowKit Go.Deep

/-- The next word; behind the last one it is of no kind, has no text, and stands where the text ends. -/
def lwNext (W : List Lw) (E : Nat) (s : Ps) : Lw := match W[s.i]? with | some x => x | none => ⟨0, [], E⟩
def lwV (x : Lw) : Value := .agg #[.int .i64 (x.k : Int), .string (bs x.t), .int .i64 (x.p : Int)]
section
variable {W : List Lw} {E : Nat} {s : Ps}
theorem lwNext_some {x : Lw} (h : W[s.i]? = some x) : lwNext W E s = x := by unfold lwNext; rw [h]
theorem lwNext_none (h : W.length ≤ s.i) : lwNext W E s = ⟨0, [], E⟩ := by unfold lwNext; rw [List.getElem?_eq_none h]
theorem lwNext_bad (hb : s.bad < 0) : pBad W E s = { s with bad := ((lwNext W E s).p : Int) } := by
  unfold pBad lwNext
  rw [if_neg (by omega)]
  cases W[s.i]? <;> rfl
theorem lwNext_kind (hb : s.bad < 0) : pKind W s = (lwNext W E s).k := by
  unfold pKind lwNext
  rw [if_pos hb]
  cases W[s.i]? <;> rfl
theorem lwNext_text : pText W s = (lwNext W E s).t := by
  unfold pText lwNext
  cases W[s.i]? <;> rfl
theorem lwNext_sees (hb : s.bad < 0) {t : List UInt8} (ht : t ≠ []) : pSees W s t = decide ((lwNext W E s).t = t) := by
  unfold pSees lwNext
  rw [decide_eq_true hb]
  cases W[s.i]? with
  | some x => rfl
  | none => simp; exact fun h => ht h
theorem lwNext_in (h : (lwNext W E s).t ≠ [] ∨ (lwNext W E s).k ≠ 0) : s.i < W.length ∧ W[s.i]? = some (lwNext W E s) := by
  rcases Nat.lt_or_ge s.i W.length with h9 | h9
  · exact ⟨h9, by rw [lwNext_some (List.getElem?_eq_getElem h9)]; exact List.getElem?_eq_getElem h9⟩
  · rw [lwNext_none h9] at h; simp at h
end
/-- The tail of a row of words. -/
theorem Wxs.tail {w : World} {b off n c : Nat} {L : List Wx} (h : Wxs w (some ⟨b, off, none⟩) n c L) (hn : 0 < n) : Wxs w (some ⟨b, off + 3, none⟩) (n - 1) (c - 1) (L.drop 1) := by
  obtain ⟨h1, h2, h3, h4, h5⟩ := h
  refine ⟨by simp; omega, by omega, by omega, fun e => (by cases e), ?_⟩
  rcases h5 with h5 | ⟨b', off', e, hc⟩
  · omega
  · obtain ⟨rfl, rfl, _⟩ := Addr.mk.inj (Option.some.inj e)
    refine .inr ⟨b, off + 3, rfl, fun j hj => ?_⟩
    obtain ⟨q0, q1, q2⟩ := hc (j + 1) (by omega)
    rw [show off + (j + 1) * 3 = off + 3 + j * 3 by omega] at q0 q1 q2
    rw [show (L.drop 1).getD j Wx.zero = L.getD (j + 1) Wx.zero by simp [List.getD_eq_getElem?_getD]]
    exact ⟨q0, q1, q2⟩
theorem Wxs.tail_end {w : World} {b off n c : Nat} {L : List Wx} (h : Wxs w (some ⟨b, off, none⟩) n c L) (hn : n = 1) : Wxs w (some ⟨b, off, none⟩) 0 0 (L.drop 1) := by
  have := h.len
  have e : L.drop 1 = [] := List.drop_eq_nil_of_le (by omega)
  rw [e]
  exact Wxs.void w _
/-- The cells of a reader. -/
def rwCells (a : Option Addr) (n c E d : Nat) (nv cv : Value) : Array Value := #[.slice a n c, .int .i64 (E : Int), .int .i64 (d : Int), nv, cv]
/-- A reader in the block g: the words that aren't read yet, where the text ends, the levels that are open. -/
structure RW (R : TypeId) (w : World) (g : Nat) (a : Option Addr) (n c : Nat) (W : List Lw) (E : Nat) (nv cv : Value) (s : Ps) : Prop where
  blk : w.heap[g]? = some (.cells (rwCells a n c E s.deep nv cv) R (0, 0))
  words : Wxs w a n c ((W.drop s.i).map Lw.x)
  apart : ∀ b off, a = some ⟨b, off, none⟩ → 0 < n → b < g
  within : s.i ≤ W.length
  fine : s.bad < 0
  names : isSlice nv
  code : isSlice cv
section
variable {R : TypeId} {w w' : World} {g : Nat} {a : Option Addr} {n c : Nat} {W : List Lw} {E : Nat} {nv cv : Value} {s : Ps}
theorem RW.cells (h : RW R w g a n c W E nv cv s) : w.cell? ⟨g, 0, none⟩ = some (.slice a n c) ∧ w.cell? ⟨g, 1, none⟩ = some (.int .i64 (E : Int)) ∧ w.cell? ⟨g, 2, none⟩ = some (.int .i64 (s.deep : Int)) ∧ w.cell? ⟨g, 3, none⟩ = some nv ∧ w.cell? ⟨g, 4, none⟩ = some cv := by
  have hb := h.blk
  exact ⟨blk_cell hb 0, blk_cell hb 1, blk_cell hb 2, blk_cell hb 3, blk_cell hb 4⟩
theorem RW.free (h : RW R w g a n c W E nv cv s) (j : Nat) : w.frozen? ⟨g, j, none⟩ = false := blk_free h.blk j
theorem RW.lt (h : RW R w g a n c W E nv cv s) : g < w.heap.size := (Array.getElem?_eq_some_iff.1 h.blk).1
theorem RW.len (h : RW R w g a n c W E nv cv s) : n + s.i = W.length := by
  have h1 := h.words.len
  have h2 := h.within
  simp at h1
  omega
theorem RW.later (h : RW R w g a n c W E nv cv s) (hb : Below w.heap.size w w') : RW R w' g a n c W E nv cv s :=
  ⟨blk_later h.blk hb, h.words.later hb, h.apart, h.within, h.fine, h.names, h.code⟩
/-- What neither touches the reader nor its words leaves it as it was. -/
theorem RW.stay (h : RW R w g a n c W E nv cv s) {row : Option Nat} (hg : w.grownBy w' row) (hr : ∀ k, row = some k → g < k) : RW R w' g a n c W E nv cv s :=
  ⟨blk_stays h.blk hg (fun k hk e => by have := hr k hk; omega), h.words.grown hg (fun b off e h0 e2 => by have := hr b e2; have := h.apart b off e h0; omega), h.apart, h.within, h.fine, h.names, h.code⟩
theorem RW.only (h : RW R w g a n c W E nv cv s) : Only isNode w (.slice (some ⟨g, 0, none⟩) 1 1) := by
  refine only_block h.blk fun u hu => ?_
  obtain ⟨a1, n1, c1, e1⟩ := h.names
  obtain ⟨a2, n2, c2, e2⟩ := h.code
  simp [rwCells] at hu
  rcases hu with rfl | rfl | rfl | rfl | rfl
  · exact .inr ⟨_, _, _, rfl⟩
  · exact .inl ⟨_, rfl⟩
  · exact .inl ⟨_, rfl⟩
  · rw [e1]; exact .inr ⟨_, _, _, rfl⟩
  · rw [e2]; exact .inr ⟨_, _, _, rfl⟩
/-- The next word's cells. -/
theorem RW.word (h : RW R w g a n c W E nv cv s) {x : Lw} (hx : W[s.i]? = some x) : ∃ b off, a = some ⟨b, off, none⟩ ∧ 0 < n ∧ w.cell? ⟨b, off, none⟩ = some (.int .i64 (x.k : Int)) ∧ w.cell? ⟨b, off + 1, none⟩ = some (.string (bs x.t)) ∧ w.cell? ⟨b, off + 2, none⟩ = some (.int .i64 (x.p : Int)) := by
  have hl : s.i < W.length := by
    rcases Nat.lt_or_ge s.i W.length with h9 | h9
    · exact h9
    · rw [List.getElem?_eq_none h9] at hx; cases hx
  have hn := h.len
  obtain ⟨b, off, e, h1, h2, h3⟩ := h.words.at (j := 0) (by omega)
  have e9 : ((W.drop s.i).map Lw.x).getD 0 Wx.zero = x.x := by
    rw [List.getD_eq_getElem?_getD, List.getElem?_map, List.getElem?_drop, Nat.add_zero, hx]; rfl
  rw [e9] at h1 h2 h3
  simp only [Nat.zero_mul, Nat.add_zero] at h1 h2 h3
  exact ⟨b, off, e, by omega, h1, h2, h3⟩
/-- A cell of it is written. -/
theorem RW.set0 (h : RW R w g a n c W E nv cv s) {a' : Option Addr} {n' c' : Nat} (hw : Wxs w a' n' c' ((W.drop (s.i + 1)).map Lw.x)) (ha : ∀ b off, a' = some ⟨b, off, none⟩ → 0 < n' → b < g) (hi : s.i < W.length) :
    RW R (w.setCell ⟨g, 0, none⟩ (.slice a' n' c')) g a' n' c' W E nv cv { s with i := s.i + 1 } ∧ w.grownBy (w.setCell ⟨g, 0, none⟩ (.slice a' n' c')) (some g) := by
  have hg := grown_cell w g 0 (.slice a' n' c')
  refine ⟨⟨?_, hw.grown hg (fun b off e h0 e2 => by have := ha b off e h0; have := Option.some.inj e2; omega), ha, hi, h.fine, h.names, h.code⟩, hg⟩
  have := blk_set h.blk 0 (.slice a' n' c')
  simpa [rwCells] using this
theorem RW.set2 (h : RW R w g a n c W E nv cv s) (d : Nat) : RW R (w.setCell ⟨g, 2, none⟩ (.int .i64 (d : Int))) g a n c W E nv cv { s with deep := d } ∧ w.grownBy (w.setCell ⟨g, 2, none⟩ (.int .i64 (d : Int))) (some g) := by
  have hg := grown_cell w g 2 (.int .i64 (d : Int))
  refine ⟨⟨?_, h.words.grown hg (fun b off e h0 e2 => by have := h.apart b off e h0; have := Option.some.inj e2; omega), h.apart, h.within, h.fine, h.names, h.code⟩, hg⟩
  have := blk_set h.blk 2 (.int .i64 (d : Int))
  simpa [rwCells] using this
theorem RW.set3 (h : RW R w g a n c W E nv cv s) {nv' : Value} (hn : isSlice nv') : RW R (w.setCell ⟨g, 3, none⟩ nv') g a n c W E nv' cv s ∧ w.grownBy (w.setCell ⟨g, 3, none⟩ nv') (some g) := by
  have hg := grown_cell w g 3 nv'
  refine ⟨⟨?_, h.words.grown hg (fun b off e h0 e2 => by have := h.apart b off e h0; have := Option.some.inj e2; omega), h.apart, h.within, h.fine, hn, h.code⟩, hg⟩
  have := blk_set h.blk 3 nv'
  simpa [rwCells] using this
theorem RW.set4 (h : RW R w g a n c W E nv cv s) {cv' : Value} (hn : isSlice cv') : RW R (w.setCell ⟨g, 4, none⟩ cv') g a n c W E nv cv' s ∧ w.grownBy (w.setCell ⟨g, 4, none⟩ cv') (some g) := by
  have hg := grown_cell w g 4 cv'
  refine ⟨⟨?_, h.words.grown hg (fun b off e h0 e2 => by have := h.apart b off e h0; have := Option.some.inj e2; omega), h.apart, h.within, h.fine, h.names, hn⟩, hg⟩
  have := blk_set h.blk 4 cv'
  simpa [rwCells] using this
end
/-- A panic with the fault of a place. -/
def badP (F : TypeId) (z : Int) : Ending := .panicked [{ v := .iface F (faultV 1 0 0 z), recovered := false }]
/-- What reads on alone: this comes back, or the panic. -/
def Took (R F : TypeId) (g : Nat) (W : List Lw) (E : Nat) (nv cv : Value) (v : Value) (s' : Ps) (w : World) (e : Ending) (w' : World) : Prop :=
  (s'.bad < 0 ∧ e = .returned v ∧ (∃ a n c, RW R w' g a n c W E nv cv s') ∧ w.grownBy w' (some g)) ∨ (0 ≤ s'.bad ∧ e = badP F s'.bad ∧ w.grownBy w' (some g))
/-- Everything below b, but the block g, is as it was. -/
structure Fr (b g : Nat) (w w' : World) : Prop where
  os : w'.os = w.os
  tape : w'.tape = w.tape
  output : w'.output = w.output
  size : w.heap.size ≤ w'.heap.size
  block : ∀ k, k < b → k ≠ g → w'.heap[k]? = w.heap[k]?
theorem Fr.refl (b g : Nat) (w : World) : Fr b g w w := ⟨rfl, rfl, rfl, Nat.le_refl _, fun _ _ _ => rfl⟩
theorem Fr.trans {b g : Nat} {w w1 w2 : World} (h : Fr b g w w1) (k : Fr b g w1 w2) : Fr b g w w2 :=
  ⟨k.os.trans h.os, k.tape.trans h.tape, k.output.trans h.output, Nat.le_trans h.size k.size, fun i hi hn => (k.block i hi hn).trans (h.block i hi hn)⟩
theorem Fr.of {b g : Nat} {w w' : World} (h : w.grownBy w' (some g)) (hb : b ≤ w.heap.size) : Fr b g w w' :=
  ⟨h.os, h.tape, h.output, h.size, fun k hk hn => h.block k (by omega) (fun e => hn (Option.some.inj e))⟩
theorem Fr.below {b g : Nat} {w w' : World} (h : Below w.heap.size w w') (hb : b ≤ w.heap.size) : Fr b g w w' := Fr.of (below_grown h _) hb
theorem Fr.row {b g : Nat} {w w' : World} {row : Option Nat} (h : w.grownBy w' row) (hb : b ≤ w.heap.size) (hr : ∀ k, row = some k → b ≤ k) : Fr b g w w' :=
  ⟨h.os, h.tape, h.output, h.size, fun k hk _ => h.block k (by omega) (fun e => by have := hr k e.symm; omega)⟩
theorem Fr.whole {g : Nat} {w w' : World} (h : Fr w.heap.size g w w') : w.grownBy w' (some g) :=
  ⟨h.os, h.tape, h.output, h.size, fun k hk hn => h.block k hk (fun e => hn (by rw [e]))⟩
/-- A reader with the names of lets and the row of nodes of its own that it lays down. -/
structure RD (R Nt : TypeId) (w : World) (g b : Nat) (a : Option Addr) (n c : Nat) (W : List Lw) (E : Nat) (an : Option Addr) (nn cn : Nat) (N : List (List UInt8)) (cv : Value) (s : Ps) (C : List Nd) : Prop where
  rw : RW R w g a n c W E (.slice an nn cn) cv s
  mine : ndK.Mine w b Nt cv C
  thin : thinN 20 C
  few : C.length ≤ s.i
  names : stC.Has w an nn cn N
  apart : ∀ bb off, an = some ⟨bb, off, none⟩ → 0 < nn → bb < b ∧ bb ≠ g
  lt : g < b
  room : b ≤ w.heap.size
section
variable {R Nt : TypeId} {w w' : World} {g b : Nat} {a : Option Addr} {n c : Nat} {W : List Lw} {E : Nat} {an : Option Addr} {nn cn : Nat} {N : List (List UInt8)} {cv : Value} {s : Ps} {C : List Nd}
theorem RD.names_stay (h : stC.Has w an nn cn N) (ha : ∀ bb off, an = some ⟨bb, off, none⟩ → 0 < nn → bb < b ∧ bb ≠ g) (hf : Fr b g w w') : stC.Has w' an nn cn N := by
  refine ⟨h.1, h.2.1, h.2.2.1, h.2.2.2.1, ?_⟩
  rcases h.2.2.2.2 with h0 | ⟨bb, off, e, hc⟩
  · exact .inl h0
  · by_cases hn : 0 < nn
    · obtain ⟨h1, h2⟩ := ha bb off e hn
      refine .inr ⟨bb, off, e, fun j x hx i u hu => ?_⟩
      rw [World.cell?_of_block (a := ⟨bb, _, none⟩) (hf.block bb h1 h2)]
      exact hc j x hx i u hu
    · exact .inl (by omega)
/-- It has read on. -/
theorem RD.on (h : RD R Nt w g b a n c W E an nn cn N cv s C) {a' : Option Addr} {n' c' : Nat} {s' : Ps} (hr : RW R w' g a' n' c' W E (.slice an nn cn) cv s') (hg : w.grownBy w' (some g)) (hs : s.i ≤ s'.i) : RD R Nt w' g b a' n' c' W E an nn cn N cv s' C :=
  ⟨hr, ⟨h.mine.1.beside hg (fun k hk e => by have := h.mine.1.base k hk; have := Option.some.inj e; have := h.lt; omega), fun x hx => ndK.aside (v := .slice (some ⟨g, 0, none⟩) 1 1) (h.mine.2 x hx) h.rw.only hg⟩,
    h.thin, Nat.le_trans h.few hs, RD.names_stay h.names h.apart (Fr.of hg h.room), h.apart, h.lt, Nat.le_trans h.room hg.size⟩
theorem RD.later (h : RD R Nt w g b a n c W E an nn cn N cv s C) (hb : Below w.heap.size w w') : RD R Nt w' g b a n c W E an nn cn N cv s C := h.on (h.rw.later hb) (below_grown hb _) (Nat.le_refl _)
/-- A node more. -/
theorem RD.push (h : RD R Nt w g b a n c W E an nn cn N cv s C) {x : Nd} {v' : Value} (hm : ndK.Mine w' b Nt v' (C ++ [x])) (hg : w.grownBy w' cv.ownBlock) (hx : x.l.length ≤ 20) (hf : C.length < s.i) (hsl : isSlice v') :
    RD R Nt (w'.setCell ⟨g, 4, none⟩ v') g b a n c W E an nn cn N v' s (C ++ [x]) ∧ Fr b g w (w'.setCell ⟨g, 4, none⟩ v') := by
  have hlow : ∀ k, cv.ownBlock = some k → b ≤ k := h.mine.1.base
  have hlt := h.lt
  have h1 : RW R w' g a n c W E (.slice an nn cn) cv s := h.rw.stay hg (fun k hk => by have := hlow k hk; omega)
  obtain ⟨h2, g2⟩ := h1.set4 hsl
  have hfr : Fr b g w w' := Fr.row hg h.room hlow
  have hfr2 : Fr b g w' (w'.setCell ⟨g, 4, none⟩ v') := Fr.of g2 (Nat.le_trans h.room hg.size)
  refine ⟨⟨h2, ⟨hm.1.beside g2 (fun k hk e => by have := hm.1.base k hk; have := Option.some.inj e; omega), fun y hy => ndK.aside (v := .slice (some ⟨g, 0, none⟩) 1 1) (hm.2 y hy) h1.only g2⟩, ?_, ?_, RD.names_stay h.names h.apart (hfr.trans hfr2), h.apart, h.lt, ?_⟩, hfr.trans hfr2⟩
  · intro y hy
    rcases List.mem_append.1 hy with h9 | h9
    · exact h.thin y h9
    · rw [List.mem_singleton.1 h9]; exact hx
  · rw [List.length_append, List.length_singleton]; omega
  · exact Nat.le_trans h.room (Nat.le_trans hg.size g2.size)
end
/-- What lays nodes down: the reader has gone on to this, and the nodes lie behind those that lay there; or the panic. -/
def Ran (R Nt F : TypeId) (g b : Nat) (W : List Lw) (E : Nat) (an : Option Addr) (nn cn : Nat) (N : List (List UInt8)) (C : List Nd) (r : List Np × Ps) (w : World) (e : Ending) (w' : World) : Prop :=
  (r.2.bad < 0 ∧ e = .returned (.tuple #[]) ∧ (∃ a n c cv D, RD R Nt w' g b a n c W E an nn cn N cv r.2 (C ++ D) ∧ D.map Nd.sem = r.1) ∧ Fr b g w w') ∨ (0 ≤ r.2.bad ∧ e = badP F r.2.bad ∧ Fr b g w w')
/-- A method of the reader does what f says, where the reader is as asked. -/
def DoesP (R Nt F : TypeId) (p : Program) (fid : FuncId) (W : List Lw) (E : Nat) (f : List (List UInt8) → Ps → List Np × Ps) (ok : Ps → Prop) : Prop :=
  ∀ (g b : Nat) (a : Option Addr) (n c : Nat) (an : Option Addr) (nn cn : Nat) (N : List (List UInt8)) (cv : Value) (s : Ps) (C : List Nd) (w : World), RD R Nt w g b a n c W E an nn cn N cv s C → nn ≤ 5000 → ok s → Calls p fid #[.pointer (some ⟨g, 0, none⟩)] w (Ran R Nt F g b W E an nn cn N C (f N s) w)
end Go.Proofs.Ythblmpkdcahmkaa
