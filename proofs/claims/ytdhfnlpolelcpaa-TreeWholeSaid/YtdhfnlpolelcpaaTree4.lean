/-
  Package tree: sameLet, SameField.
-/
import Derived.Test.YtdhfnlpolelcpaaTree3
import Derived.WalkKit
namespace Go.Proofs.Ytdhfnlpolelcpaa
open Go.RowKit

/-- A let, as a value, and what it means. -/
def ltV (x : Lt) : Value := .agg #[.string (bs x.t), .slice x.a x.n x.c]
def ltSem (x : Lt) : List UInt8 × List (Int × Int × Nat) := (x.t, x.L.map Nd.sem)
theorem lt_there {w : World} {n c : Nat} {L : List Lt} {k b o : Nat} {x : Lt} (h : Lts w (some ⟨b, o, none⟩) n c L) (hx : L[k]? = some x) :
    w.cell? ⟨b, o + k * 2, none⟩ = some (.string (bs x.t)) ∧ w.cell? ⟨b, o + k * 2 + 1, none⟩ = some (.slice x.a x.n x.c) ∧ Nds w x.a x.n x.c x.L := by
  obtain ⟨b', o', e, h1⟩ := Lts.get h hx
  simp only [Option.some.injEq, Addr.mk.injEq, and_true] at e
  obtain ⟨rfl, rfl⟩ := e
  exact h1
theorem tSame_iff (K : List Lt) (O : List Sn) (K' : List Lt) (O' : List Sn) : tSame K O K' O' ↔ K.map ltSem = K'.map ltSem ∧ O.map Sn.sem = O'.map Sn.sem := by
  have e1 : ∀ K : List Lt, K.map Lt.t = (K.map ltSem).map Prod.fst := fun K => by simp [ltSem, Function.comp_def]
  have e2 : ∀ K : List Lt, (K.map Lt.sn).map Sn.sem = (K.map ltSem).map Prod.snd := fun K => by simp [ltSem, Function.comp_def, Lt.sn, Sn.sem]
  unfold tSame tCodes
  rw [List.map_append, List.map_append, e1, e1, e2, e2]
  constructor
  · rintro ⟨h1, h2, h3⟩
    have hl : (K.map ltSem).length = (K'.map ltSem).length := by simpa using congrArg List.length h1
    obtain ⟨h4, h5⟩ := List.append_inj h3 (by simpa using hl)
    refine ⟨?_, h5⟩
    refine List.ext_getElem hl fun j hj hj' => Prod.ext ?_ ?_
    · have := List.getElem_of_eq h1 (i := j) (by rw [List.length_map]; exact hj)
      simpa using this
    · have := List.getElem_of_eq h4 (i := j) (by rw [List.length_map]; exact hj)
      simpa using this
  · rintro ⟨h1, h2⟩
    refine ⟨by rw [h1], ?_, by rw [h1, h2]⟩
    simpa using congrArg List.length h2
set_option maxRecDepth 4096 in
set_option maxHeartbeats 8000000 in
theorem tree_sameLet (x y : Lt) (w : World) (hx : Nds w x.a x.n x.c x.L) (hy : Nds w y.a y.n y.c y.L) (hn : x.n ≤ 1000000) (hL : thinN 1000000 x.L) (hM : thinN 1000000 y.L) :
    Calls Try.prog 38 #[ltV x, ltV y] w (Gives (.bool (decide (ltSem x = ltSem y))) w) := by
  obtain ⟨xt, xa, xn, xc, xL⟩ := x
  obtain ⟨yt, ya, yn, yc, yL⟩ := y
  unfold ltV
  dsimp only at hx hy hn hL hM
  obtain ⟨R, hR⟩ : ∃ R, decide (ltSem ⟨xt, xa, xn, xc, xL⟩ = ltSem ⟨yt, ya, yn, yc, yL⟩) = R := ⟨_, rfl⟩
  rw [hR]
  have hR2 : R = true ↔ xt = yt ∧ xL.map Nd.sem = yL.map Nd.sem := by
    rw [← hR, decide_eq_true_iff]
    unfold ltSem
    simp
  have HR := Lib.hid hR2
  clear hR hR2
  have HB := Lib.hid (below_then (below_alloc w (.cells #[.string (bs xt), .slice xa xn xc] 71)) (below_alloc _ (.cells #[.string (bs yt), .slice ya yn yc] 71)))
  obtain ⟨hx1, hx2⟩ := boxes_at w ((w.alloc (.cells #[.string (bs xt), .slice xa xn xc] 71)).alloc (.cells #[.string (bs yt), .slice ya yn yc] 71)) #[.string (bs xt), .slice xa xn xc] #[.string (bs yt), .slice ya yn yc] 71 71 (Below.refl _ _)
  obtain ⟨e0, e1⟩ := cells2 hx1
  obtain ⟨f0, f1⟩ := cells2 hx2
  have HC := Lib.hid (tree_same xa xn xc xL ya yn yc yL _ (Kin.All.later hx HB.out) (Kin.All.later hy HB.out) hn hL hM)
  clear hx hy hx1 hx2
  by_cases h0 : xt = yt
  · have q1 : ((bs xt).toList == (bs yt).toList) = true := by rw [bs_list, bs_list]; simp [h0]
    obtain rfl : R = decide (xL.map Nd.sem = yL.map Nd.sem) := by
      rw [Bool.eq_iff_iff, HR.out, decide_eq_true_iff]
      exact ⟨fun h => h.2, fun h => ⟨h0, h⟩⟩
    generalize decide (xL.map Nd.sem = yL.map Nd.sem) = r at *
    clear h0 HR
    go_enter Try.func38, Try.ntmps38
    go_wp2_with fail
    refine HC.out.mono ?_
    rintro e w1 ⟨rfl, b1⟩
    have HB1 := Lib.hid (below_then HB.out b1)
    clear b1
    go_wp2
    go_ret
    exact ⟨by simp, HB1.out⟩
  · have q1 : ((bs xt).toList == (bs yt).toList) = false := by rw [bs_list, bs_list]; simp [h0]
    obtain rfl : R = false := by
      rw [Bool.eq_false_iff]
      exact fun e => h0 (HR.out.1 e).1
    clear h0 HC HR
    go_enter Try.func38, Try.ntmps38
    go_wp2
    go_ret
    exact ⟨by simp, HB.out⟩
set_option maxRecDepth 4096 in
set_option maxHeartbeats 8000000 in
theorem tree_eqLets (a : Option Addr) (n c : Nat) (L : List Lt) (b : Option Addr) (m d : Nat) (M : List Lt) (w : World) (h : Lts w a n c L) (h2 : Lts w b m d M) (hn : n ≤ 1000000) (hL : ∀ x ∈ L, x.n ≤ 1000000 ∧ thinN 1000000 x.L) (hM : ∀ x ∈ M, x.n ≤ 1000000 ∧ thinN 1000000 x.L) :
    Calls Try.prog 37 #[.slice a n c, .slice b m d, .func (.func 38) #[] #[]] w (Gives (.bool (decide (L.map ltSem = M.map ltSem))) w) := by
  have HL := Lib.hid h
  have HM := Lib.hid h2
  have hl1 := h.len
  have hl2 := h2.len
  have hbd := h.bound
  have hbd2 := h2.bound
  have HTL := Lib.hid hL
  have HTM := Lib.hid hM
  clear h h2 hL hM
  obtain ⟨R, hR⟩ : ∃ R, decide (L.map ltSem = M.map ltSem) = R := ⟨_, rfl⟩
  rw [hR]
  have HR := Lib.hid hR
  clear hR
  by_cases hnm : n = m
  · subst hnm
    have q0 : ((n : Int) != (n : Int)) = false := by simp
    have HL1 := Lib.hid hl1
    have HL2 := Lib.hid hl2
    clear hl1 hl2
    go_enter Try.func37, Try.ntmps37
    go_wp2
    go_loopw [17] (fun iv wr => ∃ k : Nat, k ≤ n ∧ iv = .int .i64 (k : Int) ∧ Hid (R = decide ((L.map ltSem).drop k = (M.map ltSem).drop k)) ∧ Hid (Below w.heap.size w wr)) (fun iv _ => n - (intOf iv).toNat)
    case atStart => exact ⟨0, by omega, rfl, Lib.hid HR.out.symm, Lib.hid (Below.refl _ _)⟩
    case round =>
      obtain ⟨k, hk, rfl, HK, HB⟩ := hrel
      by_cases hlt : k < n
      · obtain ⟨x, hx⟩ := at_some HL1.out hlt
        obtain ⟨y, hy⟩ := at_some HL2.out hlt
        obtain ⟨b0, o0, rfl, -, -, -⟩ := Lts.get HL.out hx
        obtain ⟨b1, o1, rfl, -, -, -⟩ := Lts.get HM.out hy
        have hki : (k : Int) < (n : Int) := by omega
        have HK2 : Hid (R = decide (ltSem x :: (L.map ltSem).drop (k + 1) = ltSem y :: (M.map ltSem).drop (k + 1))) := Lib.hid (by rw [← map_drop (f := ltSem) hx, ← map_drop (f := ltSem) hy]; exact HK.out)
        have hx9 := HTL.out x (List.mem_of_getElem? hx)
        have hy9 := HTM.out y (List.mem_of_getElem? hy)
        have ba := below_alloc wr (.cells #[.string (bs x.t), .slice x.a x.n x.c] 71)
        have HB1 := Lib.hid (below_then HB.out ba)
        have bb := below_alloc (wr.alloc (.cells #[.string (bs x.t), .slice x.a x.n x.c] 71)) (.cells #[.string (bs y.t), .slice y.a y.n y.c] 71)
        have HB2 := Lib.hid (below_then HB1.out bb)
        obtain ⟨e0, e1, hw1⟩ := lt_there (Kin.All.later HL.out HB.out) hx
        obtain ⟨f0, f1, hw2⟩ := lt_there (Kin.All.later HM.out HB1.out) hy
        have HS := Lib.hid (tree_sameLet x y _ (Kin.All.later (Kin.All.later hw1 ba) bb) (Kin.All.later hw2 bb) hx9.1 hx9.2 hy9.2)
        obtain ⟨x0, x1⟩ := cells2 (blk_later (blk_new wr #[.string (bs x.t), .slice x.a x.n x.c] 71) bb)
        have hy2 := blk_new (wr.alloc (.cells #[.string (bs x.t), .slice x.a x.n x.c] 71)) #[.string (bs y.t), .slice y.a y.n y.c] 71
        rw [blk_size] at hy2
        obtain ⟨y0, y1⟩ := cells2 hy2
        clear ba bb HB1 hy2 hw1 hw2 hx9 hy9 hx hy HK
        go_wp2_with fail
        refine HS.out.mono ?_
        rintro e w4 ⟨rfl, bw⟩
        clear e0 e1 f0 f1 x0 x1 y0 y1 HS
        replace HB := Lib.hid (below_then HB2.out bw)
        clear bw HB2
        by_cases hq : ltSem x = ltSem y
        · have HK3 : Hid (R = decide ((L.map ltSem).drop (k + 1) = (M.map ltSem).drop (k + 1))) := Lib.hid (by rw [HK2.out, hq]; simp)
          rw [decide_eq_true hq]
          clear hq HK2
          go_wp2
          go_roundw
          case rel => exact ⟨k + 1, by omega, by go_num, HK3, HB⟩
          case measure => simp [intOf]; omega
        · obtain rfl : R = false := by rw [HK2.out]; simp [hq]
          rw [decide_eq_false hq]
          clear hq HK2
          go_wp2
          go_ret
          exact ⟨rfl, HB.out⟩
      · obtain rfl : k = n := by omega
        obtain rfl : R = true := by
          rw [HK.out, List.drop_of_length_le (by rw [List.length_map, HL1.out]; exact Nat.le_refl _), List.drop_of_length_le (by rw [List.length_map, HL2.out]; exact Nat.le_refl _)]; simp
        go_wp2
        go_ret
        exact ⟨rfl, HB.out⟩
  · have q0 : ((n : Int) != (m : Int)) = true := by simp; omega
    obtain rfl : R = false := by
      rw [← HR.out, decide_eq_false_iff_not]
      intro h
      have := congrArg List.length h
      simp only [List.length_map] at this
      omega
    go_enter Try.func37, Try.ntmps37
    go_wp2
    go_ret
    exact ⟨rfl, Below.refl _ _⟩
set_option maxRecDepth 4096 in
set_option maxHeartbeats 8000000 in
theorem tree_eqCodes (a : Option Addr) (n c : Nat) (L : List Sn) (b : Option Addr) (m d : Nat) (M : List Sn) (w : World) (h : Sns w a n c L) (h2 : Sns w b m d M) (hn : n ≤ 1000000) (hL : ∀ x ∈ L, x.n ≤ 1000000 ∧ thinN 1000000 x.L) (hM : ∀ x ∈ M, x.n ≤ 1000000 ∧ thinN 1000000 x.L) :
    Calls Try.prog 39 #[.slice a n c, .slice b m d, .func (.func 30) #[] #[]] w (Gives (.bool (decide (L.map Sn.sem = M.map Sn.sem))) w) := by
  have HL := Lib.hid h
  have HM := Lib.hid h2
  have hl1 := h.len
  have hl2 := h2.len
  have hbd := h.bound
  have hbd2 := h2.bound
  have HTL := Lib.hid hL
  have HTM := Lib.hid hM
  clear h h2 hL hM
  obtain ⟨R, hR⟩ : ∃ R, decide (L.map Sn.sem = M.map Sn.sem) = R := ⟨_, rfl⟩
  rw [hR]
  have HR := Lib.hid hR
  clear hR
  by_cases hnm : n = m
  · subst hnm
    have q0 : ((n : Int) != (n : Int)) = false := by simp
    have HL1 := Lib.hid hl1
    have HL2 := Lib.hid hl2
    clear hl1 hl2
    go_enter Try.func39, Try.ntmps39
    go_wp2
    go_loopw [17] (fun iv wr => ∃ k : Nat, k ≤ n ∧ iv = .int .i64 (k : Int) ∧ Hid (R = decide ((L.map Sn.sem).drop k = (M.map Sn.sem).drop k)) ∧ Hid (Below w.heap.size w wr)) (fun iv _ => n - (intOf iv).toNat)
    case atStart => exact ⟨0, by omega, rfl, Lib.hid HR.out.symm, Lib.hid (Below.refl _ _)⟩
    case round =>
      obtain ⟨k, hk, rfl, HK, HB⟩ := hrel
      by_cases hlt : k < n
      · obtain ⟨x, hx⟩ := at_some HL1.out hlt
        obtain ⟨y, hy⟩ := at_some HL2.out hlt
        obtain ⟨b0, o0, rfl, -, -⟩ := Sns.get HL.out hx
        obtain ⟨b1, o1, rfl, -, -⟩ := Sns.get HM.out hy
        have hki : (k : Int) < (n : Int) := by omega
        have HK2 : Hid (R = decide (x.sem :: (L.map Sn.sem).drop (k + 1) = y.sem :: (M.map Sn.sem).drop (k + 1))) := Lib.hid (by rw [← map_drop (f := Sn.sem) hx, ← map_drop (f := Sn.sem) hy]; exact HK.out)
        have hx9 := HTL.out x (List.mem_of_getElem? hx)
        have hy9 := HTM.out y (List.mem_of_getElem? hy)
        obtain ⟨e0, hw1⟩ := sn_cells (Kin.All.later HL.out HB.out) hx rfl
        obtain ⟨f0, hw2⟩ := sn_cells (Kin.All.later HM.out HB.out) hy rfl
        have HS := Lib.hid (tree_same x.a x.n x.c x.L y.a y.n y.c y.L _ hw1 hw2 hx9.1 hx9.2 hy9.2)
        have HD := Lib.hid (show (x.sem = y.sem) = (x.L.map Nd.sem = y.L.map Nd.sem) from rfl)
        obtain ⟨r, hr⟩ : ∃ r, decide (x.L.map Nd.sem = y.L.map Nd.sem) = r := ⟨_, rfl⟩
        rw [hr] at HS
        have HRr := Lib.hid hr
        clear hr hw1 hw2 hx9 hy9 hx hy HK
        go_wp2_with fail
        refine HS.out.mono ?_
        rintro e w4 ⟨rfl, bw⟩
        clear e0 f0 HS
        replace HB := Lib.hid (below_then HB.out bw)
        clear bw
        cases r
        case true =>
          have hq : x.sem = y.sem := by rw [HD.out]; exact of_decide_eq_true HRr.out
          have HK3 : Hid (R = decide ((L.map Sn.sem).drop (k + 1) = (M.map Sn.sem).drop (k + 1))) := Lib.hid (by rw [HK2.out, hq]; simp)
          clear hq HK2
          go_wp2
          go_roundw
          case rel => exact ⟨k + 1, by omega, by go_num, HK3, HB⟩
          case measure => simp [intOf]; omega
        case false =>
          have hq : ¬ x.sem = y.sem := by rw [HD.out]; exact of_decide_eq_false HRr.out
          obtain rfl : R = false := by rw [HK2.out]; simp [hq]
          clear hq HK2
          go_wp2
          go_ret
          exact ⟨rfl, HB.out⟩
      · obtain rfl : k = n := by omega
        obtain rfl : R = true := by
          rw [HK.out, List.drop_of_length_le (by rw [List.length_map, HL1.out]; exact Nat.le_refl _), List.drop_of_length_le (by rw [List.length_map, HL2.out]; exact Nat.le_refl _)]; simp
        go_wp2
        go_ret
        exact ⟨rfl, HB.out⟩
  · have q0 : ((n : Int) != (m : Int)) = true := by simp; omega
    obtain rfl : R = false := by
      rw [← HR.out, decide_eq_false_iff_not]
      intro h
      have := congrArg List.length h
      simp only [List.length_map] at this
      omega
    go_enter Try.func39, Try.ntmps39
    go_wp2
    go_ret
    exact ⟨rfl, Below.refl _ _⟩
set_option maxRecDepth 4096 in
set_option maxHeartbeats 8000000 in
theorem tree_sameField (a : Option Addr) (n c : Nat) (K : List Lt) (b : Option Addr) (m d : Nat) (O : List Sn) (a' : Option Addr) (n' c' : Nat) (K' : List Lt) (b' : Option Addr) (m' d' : Nat) (O' : List Sn) (w : World) (h : Lts w a n c K) (h2 : Sns w b m d O) (g : Lts w a' n' c' K') (g2 : Sns w b' m' d' O')
    (hn : n ≤ 1000000) (hm : m ≤ 1000000) (hs : ∀ x ∈ tCodes K O, x.n ≤ 1000000 ∧ thinN 1000000 x.L) (hs' : ∀ x ∈ tCodes K' O', x.n ≤ 1000000 ∧ thinN 1000000 x.L) :
    Calls Try.prog 28 #[fiV a n c b m d, fiV a' n' c' b' m' d'] w (Gives (.bool (decide (tSame K O K' O'))) w) := by
  have HB := Lib.hid (below_then (below_alloc w (.cells #[.slice a n c, .slice b m d] 45)) (below_alloc _ (.cells #[.slice a' n' c', .slice b' m' d'] 45)))
  obtain ⟨hx1, hx2⟩ := boxes_at w ((w.alloc (.cells #[.slice a n c, .slice b m d] 45)).alloc (.cells #[.slice a' n' c', .slice b' m' d'] 45)) #[.slice a n c, .slice b m d] #[.slice a' n' c', .slice b' m' d'] 45 45 (Below.refl _ _)
  have hsK : ∀ x ∈ K, x.n ≤ 1000000 ∧ thinN 1000000 x.L := fun x hx => hs x.sn (List.mem_append.2 (.inl (List.mem_map.2 ⟨x, hx, rfl⟩)))
  have hsK' : ∀ x ∈ K', x.n ≤ 1000000 ∧ thinN 1000000 x.L := fun x hx => hs' x.sn (List.mem_append.2 (.inl (List.mem_map.2 ⟨x, hx, rfl⟩)))
  have hsO : ∀ x ∈ O, x.n ≤ 1000000 ∧ thinN 1000000 x.L := fun x hx => hs x (List.mem_append.2 (.inr hx))
  have hsO' : ∀ x ∈ O', x.n ≤ 1000000 ∧ thinN 1000000 x.L := fun x hx => hs' x (List.mem_append.2 (.inr hx))
  have HC1 := Lib.hid (tree_eqLets a n c K a' n' c' K' _ (Kin.All.later h HB.out) (Kin.All.later g HB.out) hn hsK hsK')
  have HC2 := Lib.hid fun w1 (hb : Below ((w.alloc (.cells #[.slice a n c, .slice b m d] 45)).alloc (.cells #[.slice a' n' c', .slice b' m' d'] 45)).heap.size ((w.alloc (.cells #[.slice a n c, .slice b m d] 45)).alloc (.cells #[.slice a' n' c', .slice b' m' d'] 45)) w1) => tree_eqCodes b m d O b' m' d' O' w1 (Kin.All.later (Kin.All.later h2 HB.out) hb) (Kin.All.later (Kin.All.later g2 HB.out) hb) hm hsO hsO'
  have HX1 := Lib.hid hx1
  have HX2 := Lib.hid hx2
  obtain ⟨e0, e1⟩ := cells2 hx1
  obtain ⟨f0, f1⟩ := cells2 hx2
  have hR : decide (tSame K O K' O') = (decide (K.map ltSem = K'.map ltSem) && decide (O.map Sn.sem = O'.map Sn.sem)) := by
    rw [Bool.eq_iff_iff, decide_eq_true_iff, Bool.and_eq_true, decide_eq_true_iff, decide_eq_true_iff]
    exact tSame_iff K O K' O'
  rw [hR]
  generalize decide (K.map ltSem = K'.map ltSem) = r1 at *
  generalize decide (O.map Sn.sem = O'.map Sn.sem) = r2 at *
  clear hR hx1 hx2 h h2 g g2 hs hs' hsK hsK' hsO hsO'
  go_enter Try.func28, Try.ntmps28
  unfold fiV
  go_wp2_with fail
  refine HC1.out.mono ?_
  rintro e w1 ⟨rfl, b1⟩
  obtain ⟨g0, g1⟩ := cells2 (blk_later HX1.out b1)
  obtain ⟨k0, k1⟩ := cells2 (blk_later HX2.out b1)
  have HC3 := Lib.hid (HC2.out w1 b1)
  have HB1 := Lib.hid (below_then HB.out b1)
  clear e0 e1 f0 f1 b1 HC1 HC2 HX1 HX2 HB
  cases r1
  · go_wp2
    go_ret
    exact ⟨by simp, HB1.out⟩
  · go_wp2_with fail
    refine HC3.out.mono ?_
    rintro e w2 ⟨rfl, b2⟩
    have HB2 := Lib.hid (below_then HB1.out b2)
    clear b2
    go_wp2
    go_ret
    exact ⟨by simp, HB2.out⟩
end Go.Proofs.Ytdhfnlpolelcpaa
