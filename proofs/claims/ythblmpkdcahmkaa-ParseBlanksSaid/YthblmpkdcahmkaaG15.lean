/-
  Several texts of this claim as one, group 15.
-/
import Derived.Test.YthblmpkdcahmkaaG14
import Derived.Test.YthblmpkdcahmkaaG5
import Derived.Test.YthblmpkdcahmkaaG8
/-
  Package parse: the reader's name and small.
-/
namespace Go.Proofs.Ythblmpkdcahmkaa
open Go.WideShapes Go.RowKit Go.Deep

theorem wrongI_good {l : List UInt8} (h : alldig l) (hne : l ≠ []) (hl : l.length ≤ 60) : wrongI l < 0 := by
  unfold wrongI
  rw [if_neg hne, wrongFrom_alldig h]
  simp [hl]
theorem st_at4 (w : World) (t u v x : List UInt8) (e : TypeId) {z : Nat} (hz : w.heap.size = z) : stC.Has (w.alloc (.cells #[.string (bs t), .string (bs u), .string (bs v), .string (bs x)] e)) (some ⟨z, 0, none⟩) 4 4 [t, u, v, x] := by
  subst hz
  exact st_lit4 w t u v x e
theorem free_next {W : List Lw} {E : Nat} {s : Ps} (hb : s.bad < 0) : pFree W s = (decide ((lwNext W E s).k = 2) && !decide ((lwNext W E s).t ∈ [[116], [121], [112], [108, 101, 116]])) := by
  unfold pFree
  rw [lwNext_kind (E := E) hb, lwNext_sees (E := E) hb (by decide), lwNext_sees (E := E) hb (by decide), lwNext_sees (E := E) hb (by decide), lwNext_sees (E := E) hb (by decide)]
  generalize (lwNext W E s).t = t
  generalize (lwNext W E s).k = k
  by_cases h1 : t = [116] <;> by_cases h2 : t = [121] <;> by_cases h3 : t = [112] <;> by_cases h4 : t = [108, 101, 116] <;> simp [h1, h2, h3, h4]
set_option maxRecDepth 4096 in
set_option maxHeartbeats 8000000 in
theorem parse_name (g : Nat) (a : Option Addr) (n c : Nat) (W : List Lw) (E : Nat) (nv cv : Value) (s : Ps) (w : World) (h : RW 77 w g a n c W E nv cv s) :
    Calls Try.prog 51 #[.pointer (some ⟨g, 0, none⟩)] w (Took 77 28 g W E nv cv (.string (bs (pText W s))) (if pFree W s = true then { s with i := s.i + 1 } else pBad W E s) w) := by
  have HN := Lib.hid (parse_next g a n c W E nv cv s w h)
  rw [free_next (E := E) h.fine, lwNext_text (E := E)]
  have HR := Lib.hid fun (w1 : World) (hb : Below w.heap.size w w1) => parse_refuse g a n c W E nv cv s w1 (h.later hb)
  have HT := Lib.hid fun (w1 : World) (hb : Below w.heap.size w w1) (hi : s.i < W.length) => parse_take g a n c W E nv cv s w1 (h.later hb) hi
  have hin : (lwNext W E s).k ≠ 0 → s.i < W.length := fun h9 => (lwNext_in (.inr h9)).1
  clear h
  generalize lwNext W E s = x at *
  have hfd := word_text x
  by_cases hk : x.k = 2
  · have hi := hin (by omega)
    have q1 : ((x.k : Int) != 2) = false := by rw [hk]; decide
    obtain ⟨R, hR⟩ : ∃ R, decide (x.t ∈ [[116], [121], [112], [108, 101, 116]]) = R := ⟨_, rfl⟩
    rw [decide_eq_true hk, hR, Bool.true_and]
    clear hk
    obtain ⟨Z, hZ⟩ : ∃ Z, (if (!R) = true then { s with i := s.i + 1 } else pBad W E s) = Z := ⟨_, rfl⟩
    rw [hZ]
    have HZ := Lib.hid hZ
    clear hZ
    go_enter Try.func51, Try.ntmps51
    go_wp2_with fail
    refine HN.out.mono ?_
    rintro e w1 ⟨rfl, b1⟩
    have b2 := below_then b1 (below_alloc w1 (.cells #[.int .i64 (x.k : Int), .string (bs x.t), .int .i64 (x.p : Int)] 88))
    have b3 := below_then b2 (below_alloc _ (.cells #[.string (bs [116]), .string (bs [121]), .string (bs [112]), .string (bs [108, 101, 116])] 9))
    have HC := Lib.hid (strs_contains _ 4 4 _ x.t _ (st_at4 (w1.alloc (.cells #[.int .i64 (x.k : Int), .string (bs x.t), .int .i64 (x.p : Int)] 88)) [116] [121] [112] [108, 101, 116] 9 (blk_size w1 _)) (by omega))
    rw [hR] at HC
    have B3 := Lib.hid b3
    clear b1 b2 b3 hin hR
    unfold lwV
    cases R
    · go_wp2_with fail
      refine HC.out.mono ?_
      rintro e w2 ⟨rfl, rfl⟩
      go_wp2_with fail
      refine (HT.out _ B3.out hi).mono ?_
      unfold lwV
      rintro e w3 ⟨rfl, ⟨a3, n3, c3, h3⟩, g3⟩
      go_wp2
      go_ret
      rw [← HZ.out]
      exact Took.back h3 (grown_then (below_grown B3.out _) g3)
    · go_wp2_with fail
      refine HC.out.mono ?_
      rintro e w2 ⟨rfl, rfl⟩
      go_wp2_with fail
      refine (HR.out _ B3.out).mono ?_
      rintro e w3 ⟨rfl, g3⟩
      rw [← HZ.out]
      exact ⟨rfl, Took.gone rfl rfl (grown_then (below_grown B3.out _) g3)⟩
  · have q1 : ((x.k : Int) != 2) = true := by simp; omega
    rw [decide_eq_false hk, Bool.false_and]
    clear hk
    go_enter Try.func51, Try.ntmps51
    go_wp2_with fail
    refine HN.out.mono ?_
    rintro e w1 ⟨rfl, b1⟩
    have B2 := Lib.hid (below_then b1 (below_alloc w1 (.cells #[.int .i64 (x.k : Int), .string (bs x.t), .int .i64 (x.p : Int)] 88)))
    clear b1 hin
    unfold lwV
    go_wp2_with fail
    refine (HR.out _ B2.out).mono ?_
    rintro e w3 ⟨rfl, g3⟩
    exact ⟨rfl, Took.gone rfl rfl (grown_then (below_grown B2.out _) g3)⟩
set_option maxRecDepth 4096 in
set_option maxHeartbeats 8000000 in
theorem parse_small (g : Nat) (a : Option Addr) (n c : Nat) (W : List Lw) (E : Nat) (nv cv : Value) (s : Ps) (w : World) (hW : ∀ x ∈ W, Wk x) (h : RW 77 w g a n c W E nv cv s) :
    Calls Try.prog 97 #[.pointer (some ⟨g, 0, none⟩)] w (Took 77 28 g W E nv cv (.int .i64 ((pSmall W E s).1 : Int)) (pSmall W E s).2 w) := by
  have HN := Lib.hid (parse_next g a n c W E nv cv s w h)
  have HR := Lib.hid fun (w1 : World) (hb : Below w.heap.size w w1) => parse_refuse g a n c W E nv cv s w1 (h.later hb)
  have HT := Lib.hid fun (w1 : World) (hb : Below w.heap.size w w1) (hi : s.i < W.length) => parse_take g a n c W E nv cv s w1 (h.later hb) hi
  have hin : (lwNext W E s).k ≠ 0 → s.i < W.length ∧ Wk (lwNext W E s) := fun h9 => ⟨(lwNext_in (.inr h9)).1, hW _ (List.mem_of_getElem? (lwNext_in (.inr h9)).2)⟩
  unfold pSmall
  rw [lwNext_kind (E := E) h.fine, lwNext_text (E := E)]
  have hlt := h.lt
  clear h hW
  generalize lwNext W E s = x at *
  have hsz := bs_size x.t
  have no : ∀ z : Nat × Ps, z = (0, pBad W E s) → ∀ (e : Ending) (w1 w3 : World), Below w.heap.size w w1 → e = badP 28 (pBad W E s).bad → w1.grownBy w3 (some g) → Took 77 28 g W E nv cv (.int .i64 (z.1 : Int)) z.2 w e w3 := by
    rintro z rfl e w1 w3 hb he hg
    exact Took.gone he rfl (grown_then (below_grown hb _) hg)
  by_cases hk : x.k = 1
  · obtain ⟨hi, hwk⟩ := hin (by omega)
    have q1 : ((x.k : Int) != 1) = false := by rw [hk]; decide
    by_cases h3 : x.t.length ≤ 3
    · rw [if_pos ⟨hk, h3⟩]
      have hD := wk_digits hwk hk
      have hv : readV x.t < 1000 := by
        have h9 := readV_lt hD
        have h8 : (10 : Nat) ^ x.t.length ≤ 10 ^ 3 := Nat.pow_le_pow_right (by decide) h3
        omega
      have hne : x.t ≠ [] := by
        obtain ⟨c0, r0, e0, _⟩ := hwk
        rw [e0]; simp
      have HD := Lib.hid (fun w => digits_read_ok x.t w (by omega) (Lib.hid (wrongI_good hD hne (by omega))))
      have hv2 : smallV (readV x.t) = readV x.t := if_pos (by unfold two64; omega)
      have HV := Lib.hid hv2
      have kw : IntKind.i64.wrap ((readV x.t : Nat) : Int) = ((readV x.t : Nat) : Int) := by rw [IntKind.wrap_i64]; omega
      have k3 : ¬ (3 : Int) < (x.t.length : Int) := by omega
      clear no hwk hD hne hin HR hk hv2 h3
      go_enter Try.func97, Try.ntmps97
      go_wp2_with fail
      refine HN.out.mono ?_
      rintro e w1 ⟨rfl, b1⟩
      have b2 := below_then b1 (below_alloc w1 (.cells #[.int .i64 (x.k : Int), .string (bs x.t), .int .i64 (x.p : Int)] 88))
      have X2 := Lib.hid (blk_new w1 #[.int .i64 (x.k : Int), .string (bs x.t), .int .i64 (x.p : Int)] 88)
      have HT2 := Lib.hid (HT.out _ b2 hi)
      have B2 := Lib.hid b2
      have hgl : g < w1.heap.size := by have := b1.size; omega
      clear b1 b2 HT HN
      unfold lwV
      go_wp2_with fail
      refine HT2.out.mono ?_
      unfold lwV
      rintro e w3 ⟨rfl, ⟨a3, n3, c3, h3⟩, g3⟩
      have X3 := Lib.hid (blk_stays X2.out g3 (fun k hk => by have := Option.some.inj hk; omega))
      have x1 := blk_cell X3.out 1
      simp only [List.getElem?_toArray, List.getElem?_cons_zero, List.getElem?_cons_succ] at x1
      have H3 := Lib.hid h3
      have G3 := Lib.hid (grown_then (below_grown B2.out _) g3)
      clear h3 g3 HT2
      go_wp2_with fail
      refine (HD.out _).mono ?_
      rintro e w4 ⟨a4, n4, c4, rfl, h4, b4⟩
      have hb4 := h4.len
      have B4 := Lib.hid b4
      have b5 := below_then b4 (below_alloc w4 (.cells #[.int .i64 0, .int .i64 0, .int .i64 0, .int .i64 0] 28))
      have HS := Lib.hid (nat_small a4 n4 c4 (dg (readV x.t)) _ (h4.later (below_alloc w4 (.cells #[.int .i64 0, .int .i64 0, .int .i64 0, .int .i64 0] 28))))
      rw [val_dg, HV.out] at HS
      have H5 := Lib.hid (H3.out.later b5)
      have G5 := Lib.hid (grown_pass G3.out b5)
      clear b4 b5 h4 H3 G3 x1
      unfold faultV
      go_wp2_with fail
      refine HS.out.mono ?_
      rintro e w6 ⟨rfl, b6⟩
      have H6 := Lib.hid (H5.out.later b6)
      have G6 := Lib.hid (grown_pass G5.out b6)
      clear b6 HS H5 G5
      go_wp2
      go_ret
      exact Took.back H6.out G6.out
    · rw [if_neg (fun h9 => h3 h9.2)]
      have k3 : (3 : Int) < (x.t.length : Int) := by omega
      clear hin HT hk h3
      go_enter Try.func97, Try.ntmps97
      go_wp2_with fail
      refine HN.out.mono ?_
      rintro e w1 ⟨rfl, b1⟩
      have B2 := Lib.hid (below_then b1 (below_alloc w1 (.cells #[.int .i64 (x.k : Int), .string (bs x.t), .int .i64 (x.p : Int)] 88)))
      clear b1
      unfold lwV
      go_wp2_with fail
      refine (HR.out _ B2.out).mono ?_
      rintro e w3 ⟨rfl, g3⟩
      exact ⟨rfl, no _ rfl _ _ _ B2.out rfl g3⟩
  · rw [if_neg (fun h9 => hk h9.1)]
    have q1 : ((x.k : Int) != 1) = true := by simp; omega
    clear hin HT hk
    go_enter Try.func97, Try.ntmps97
    go_wp2_with fail
    refine HN.out.mono ?_
    rintro e w1 ⟨rfl, b1⟩
    have B2 := Lib.hid (below_then b1 (below_alloc w1 (.cells #[.int .i64 (x.k : Int), .string (bs x.t), .int .i64 (x.p : Int)] 88)))
    clear b1
    unfold lwV
    go_wp2_with fail
    refine (HR.out _ B2.out).mono ?_
    rintro e w3 ⟨rfl, g3⟩
    exact ⟨rfl, no _ rfl _ _ _ B2.out rfl g3⟩
end Go.Proofs.Ythblmpkdcahmkaa

/-
  Package parse: the reader's number and indexed.
-/
namespace Go.Proofs.Ythblmpkdcahmkaa
open Go.WideShapes Go.RowKit Go.Deep

section
variable {R Nt F : TypeId} {w0 w w' : World} {g b : Nat} {a : Option Addr} {n c : Nat} {W : List Lw} {E : Nat} {an : Option Addr} {nn cn : Nat} {N : List (List UInt8)} {cv : Value} {s : Ps} {C D : List Nd} {r : List Np × Ps} {e : Ending}
theorem Ran.back (h : RD R Nt w g b a n c W E an nn cn N cv r.2 (C ++ D)) (hs : D.map Nd.sem = r.1) (hf : Fr b g w0 w) : Ran R Nt F g b W E an nn cn N C r w0 (.returned (.tuple #[])) w := .inl ⟨h.rw.fine, rfl, ⟨_, _, _, _, D, h, hs⟩, hf⟩
theorem Ran.gone {z : Int} (h0 : 0 ≤ z) (he : e = badP F z) (hz : r.2.bad = z) (hf : Fr b g w0 w) : Ran R Nt F g b W E an nn cn N C r w0 e w := .inr ⟨by rw [hz]; exact h0, by rw [hz]; exact he, hf⟩
theorem RD.took (h : RD R Nt w g b a n c W E an nn cn N cv s C) {a' : Option Addr} {n' c' : Nat} {s' : Ps} (hr : RW R w' g a' n' c' W E (.slice an nn cn) cv s') (hg : w.grownBy w' (some g)) (hs : s.i ≤ s'.i) : RD R Nt w' g b a' n' c' W E an nn cn N cv s' C ∧ Fr b g w w' :=
  ⟨h.on hr hg hs, Fr.of hg h.room⟩
theorem RD.past (h : RD R Nt w g b a n c W E an nn cn N cv s C) (hb : Below w.heap.size w w') : RD R Nt w' g b a n c W E an nn cn N cv s C ∧ Fr b g w w' := ⟨h.later hb, Fr.below hb h.room⟩
theorem Fr.on (hf : Fr b g w0 w) (h : RD R Nt w g b a n c W E an nn cn N cv s C) (hg : w.grownBy w' (some g)) : Fr b g w0 w' := hf.trans (Fr.of hg h.room)
end
set_option maxRecDepth 4096 in
set_option maxHeartbeats 8000000 in
theorem parse_number (W : List Lw) (hW : ∀ x ∈ W, Wk x) (hlen : W.length ≤ 100000) (E : Nat) (g b : Nat) (a : Option Addr) (n c : Nat) (an : Option Addr) (nn cn : Nat) (N : List (List UInt8)) (cv : Value) (s : Ps) (C : List Nd) (w : World) (h : RD 77 60 w g b a n c W E an nn cn N cv s C) (hk : pKind W s = 1) :
    Calls Try.prog 100 #[.pointer (some ⟨g, 0, none⟩)] w (Ran 77 60 28 g b W E an nn cn N C ([(1, 0, readV (pText W s))], { s with i := s.i + 1 }) w) := by
  obtain ⟨hb, hi⟩ := pKind_i W (s := s) (by omega)
  have hx := (lwNext_in (E := E) (.inr (by rw [← lwNext_kind hb]; omega) : (lwNext W E s).t ≠ [] ∨ (lwNext W E s).k ≠ 0)).2
  rw [lwNext_kind (E := E) hb] at hk
  rw [lwNext_text (E := E)]
  have HT := Lib.hid (parse_take g a n c W E _ cv s w h.rw hi)
  have hwk := hW _ (List.mem_of_getElem? hx)
  generalize lwNext W E s = x at *
  have hD := wk_digits hwk hk
  have hxl : x.t.length ≤ 60 := by have h9 := wk_most hwk; rw [hk] at h9; exact h9
  have hne : x.t ≠ [] := by
    obtain ⟨c0, r0, e0, _⟩ := hwk
    rw [e0]; simp
  have HDr := Lib.hid (fun w => digits_read_ok x.t w (by omega) (Lib.hid (wrongI_good hD hne hxl)))
  have hdl20 : (dg (readV x.t)).length ≤ 20 := by
    apply dg_length_le
    have h1 := readV_lt hD
    have h2 : (10 : Nat) ^ x.t.length ≤ 10 ^ 60 := Nat.pow_le_pow_right (by decide) hxl
    have h3 : (10 : Nat) ^ 60 ≤ 4294967296 ^ 20 := by decide
    omega
  have hfd := word_text x
  have hfew := h.few
  have H := Lib.hid h
  clear hD hne hxl hwk hx hk hW h
  go_enter Try.func100, Try.ntmps100
  go_wp2_with fail
  refine HT.out.mono ?_
  rintro e w1 ⟨rfl, ⟨a1, n1, c1, r1⟩, g1⟩
  obtain ⟨h1, f1⟩ := H.out.took r1 g1 (Nat.le_succ _)
  have H1 := Lib.hid h1
  have F1 := Lib.hid f1
  clear r1 g1 h1 f1 HT
  unfold lwV
  go_wp2_with fail
  refine (HDr.out _).mono ?_
  rintro e w4 ⟨a4, n4, c4, rfl, h4, b4⟩
  have b5 := below_then b4 (below_alloc w4 (.cells #[.int .i64 0, .int .i64 0, .int .i64 0, .int .i64 0] 28))
  obtain ⟨h5, f5⟩ := H1.out.past b5
  have HP := Lib.hid (parse_put g b _ _ _ W E an nn cn N cv _ C ⟨1, 0, a4, n4, c4, dg (readV x.t)⟩ _ h5 (h4.later (below_alloc w4 (.cells #[.int .i64 0, .int .i64 0, .int .i64 0, .int .i64 0] 28))) hdl20 (by dsimp only; omega) hlen)
  have F5 := Lib.hid (F1.out.trans f5)
  clear h4 b4 b5 h5 f5 H1 F1
  unfold faultV
  go_wp2_with fail
  refine HP.out.mono ?_
  rintro e w6 ⟨rfl, ⟨cv6, h6⟩, f6⟩
  go_wp2
  go_end0
  exact Ran.back h6 (by simp [Nd.sem, val_dg]) (F5.out.trans f6)
set_option maxRecDepth 4096 in
set_option maxHeartbeats 8000000 in
theorem parse_indexed (W : List Lw) (hW : ∀ x ∈ W, Wk x) (hlen : W.length ≤ 100000) (E : Nat) (g b : Nat) (a : Option Addr) (n c : Nat) (an : Option Addr) (nn cn : Nat) (N : List (List UInt8)) (cv : Value) (s : Ps) (C : List Nd) (op : Int) (w : World) (h : RD 77 60 w g b a n c W E an nn cn N cv s C) (hi : s.i < W.length) :
    Calls Try.prog 101 #[.pointer (some ⟨g, 0, none⟩), .int .i64 op] w (Ran 77 60 28 g b W E an nn cn N C ([(op, ((pSmall W E (pMust W E [91] { s with i := s.i + 1 })).1 : Int), 0)], pMust W E [93] (pSmall W E (pMust W E [91] { s with i := s.i + 1 })).2) w) := by
  have HT := Lib.hid (parse_take g a n c W E _ cv s w h.rw hi)
  have H := Lib.hid h
  have hfew := h.few
  have l1 := (pMust_on W E [91]).len { s with i := s.i + 1 }
  try dsimp only at l1
  generalize hs1 : pMust W E [91] { s with i := s.i + 1 } = s1 at *
  have l2 := (pSmall_on W E).len s1
  have y2 := (pSmall_on W E).stays s1
  try dsimp only at l2 y2
  have HSm := Lib.hid (fun a n c w (h : RW 77 w g a n c W E (.slice an nn cn) cv s1) => parse_small g a n c W E (.slice an nn cn) cv s1 w hW h)
  generalize (pSmall W E s1).1 = z at *
  generalize (pSmall W E s1).2 = s2 at *
  have l3 := (pMust_on W E [93]).len s2
  have y3 := (pMust_on W E [93]).stays s2
  have HM := Lib.hid (fun a n c w (h : RW 77 w g a n c W E (.slice an nn cn) cv s2) => parse_must g a n c W E (.slice an nn cn) cv s2 [93] (by decide) w h)
  generalize pMust W E [93] s2 = s3 at *
  have HS1 := Lib.hid hs1
  have hq3 : s1.i ≤ s2.i := l2
  have Y2 := Lib.hid y2
  have Y3 := Lib.hid y3
  clear h hs1 y2 y3 hW
  go_enter Try.func101, Try.ntmps101
  go_wp2_with fail
  refine HT.out.mono ?_
  rintro e w1 ⟨rfl, ⟨a1, n1, c1, r1⟩, g1⟩
  obtain ⟨h1, f1⟩ := H.out.took r1 g1 (Nat.le_succ _)
  have HM1 := Lib.hid (parse_must g a1 n1 c1 W E (.slice an nn cn) cv _ [91] (by decide) w1 r1)
  rw [HS1.out] at HM1
  have H1 := Lib.hid h1
  have F1 := Lib.hid f1
  clear r1 g1 h1 f1 HT
  unfold lwV
  go_wp2_with fail
  refine HM1.out.mono ?_
  rintro e w2 (⟨hb, rfl, ⟨a2, n2, c2, r2⟩, g2⟩ | ⟨hb, rfl, g2⟩)
  rotate_left
  · exact ⟨rfl, Ran.gone hb rfl (by rw [Y3.out (by rw [Y2.out hb]; exact hb), Y2.out hb]) (F1.out.on H1.out g2)⟩
  obtain ⟨h2, f2⟩ := H1.out.took r2 g2 l1
  have H2 := Lib.hid h2
  have F2 := Lib.hid (F1.out.trans f2)
  have HS2 := Lib.hid (HSm.out _ _ _ _ r2)
  clear r2 g2 h2 f2 HM1 H1 F1 hb
  go_wp2_with fail
  refine HS2.out.mono ?_
  rintro e w3 (⟨hb, rfl, ⟨a3, n3, c3, r3⟩, g3⟩ | ⟨hb, rfl, g3⟩)
  rotate_left
  · exact ⟨rfl, Ran.gone hb rfl (by rw [Y3.out hb]) (F2.out.on H2.out g3)⟩
  obtain ⟨h3, f3⟩ := H2.out.took r3 g3 hq3
  have H3 := Lib.hid h3
  have F3 := Lib.hid (F2.out.trans f3)
  have HM3 := Lib.hid (HM.out _ _ _ _ r3)
  clear r3 g3 h3 f3 HS2 H2 F2 hb
  go_wp2_with fail
  refine HM3.out.mono ?_
  rintro e w4 (⟨hb, rfl, ⟨a4, n4, c4, r4⟩, g4⟩ | ⟨hb, rfl, g4⟩)
  rotate_left
  · exact ⟨rfl, Ran.gone hb rfl rfl (F3.out.on H3.out g4)⟩
  obtain ⟨h4, f4⟩ := H3.out.took r4 g4 l3
  have F4 := Lib.hid (F3.out.trans f4)
  have HP := Lib.hid (parse_put g b _ _ _ W E an nn cn N cv _ C ⟨op, (z : Int), none, 0, 0, []⟩ _ h4 (Wd.ofNil _) (by simp) (by omega) hlen)
  clear r4 g4 h4 f4 HM3 H3 F3 hb
  go_wp2_with fail
  refine HP.out.mono ?_
  rintro e w6 ⟨rfl, ⟨cv6, h6⟩, f6⟩
  go_wp2
  go_end0
  exact Ran.back h6 rfl (F4.out.trans f6)
end Go.Proofs.Ythblmpkdcahmkaa

/-
  Package parse: the reader's brackets and atom.
-/
namespace Go.Proofs.Ythblmpkdcahmkaa
open Go.WideShapes Go.RowKit Go.Deep

/-- It comes back, if it doesn't tell. -/
theorem Took.only {R F : TypeId} {W : List Lw} {E : Nat} {nv cv v : Value} {s' : Ps} {g : Nat} {w w' : World} {e : Ending} (h : Took R F g W E nv cv v s' w e w') (hb : s'.bad < 0) : e = .returned v ∧ (∃ a n c, RW R w' g a n c W E nv cv s') ∧ w.grownBy w' (some g) := by
  rcases h with ⟨_, h1, h2, h3⟩ | ⟨h1, _⟩
  · exact ⟨h1, h2, h3⟩
  · omega
/-- It tells, if it does. -/
theorem Took.dies {R F : TypeId} {W : List Lw} {E : Nat} {nv cv v : Value} {s' : Ps} {g : Nat} {w w' : World} {e : Ending} (h : Took R F g W E nv cv v s' w e w') (hb : 0 ≤ s'.bad) : e = badP F s'.bad ∧ w.grownBy w' (some g) := by
  rcases h with ⟨h1, _⟩ | ⟨_, h2, h3⟩
  · omega
  · exact ⟨h2, h3⟩
set_option maxRecDepth 4096 in
set_option maxHeartbeats 8000000 in
theorem parse_brackets (W : List Lw) (E : Nat) (l : Nat)
    (HX : DoesP 77 60 28 Try.prog 59 W E (fun N => (pAll W E N l).2) (fun s => s.deep + l = 41 ∧ 0 < l))
    (g b : Nat) (a : Option Addr) (n c : Nat) (an : Option Addr) (nn cn : Nat) (N : List (List UInt8)) (cv : Value) (s : Ps) (C : List Nd) (w : World) (h : RD 77 60 w g b a n c W E an nn cn N cv s C) (hnn : nn ≤ 5000) (hi : s.i < W.length) (hd : s.deep + (l + 1) = 41) :
    Calls Try.prog 102 #[.pointer (some ⟨g, 0, none⟩)] w (Ran 77 60 28 g b W E an nn cn N C (((pAll W E N l).2 (pLevel W E s)).1, { pMust W E [41] ((pAll W E N l).2 (pLevel W E s)).2 with deep := (pMust W E [41] ((pAll W E N l).2 (pLevel W E s)).2).deep - 1 }) w) := by
  have HO := Lib.hid (parse_open g a n c W E _ cv s w h.rw hi (by omega))
  have H := Lib.hid h
  obtain ⟨p1, p2, p3⟩ := pLevel_i W E s
  have hl : (pLevel W E s).bad < 0 → 0 < l := by
    intro h9
    rcases Nat.eq_zero_or_pos l with h0 | h0
    · unfold pLevel at h9
      rw [if_pos (by omega)] at h9
      have := (pBad_i W E s).2.2.1
      dsimp only at h9
      omega
    · exact h0
  have HF := (pAll_fine W E N l).2
  have d1 := HF.deep (pLevel W E s)
  have d2 := HF.len (pLevel W E s)
  have d4 := HF.stays (pLevel W E s)
  have d3 := (pMust_on W E [41]).deep ((pAll W E N l).2 (pLevel W E s)).2
  have d5 := (pMust_on W E [41]).stays ((pAll W E N l).2 (pLevel W E s)).2
  have d6 := (pMust_on W E [41]).len ((pAll W E N l).2 (pLevel W E s)).2
  generalize pLevel W E s = s1 at *
  have HE := Lib.hid (fun (a : Option Addr) (n c : Nat) (cv : Value) (w : World) (h : RD 77 60 w g b a n c W E an nn cn N cv s1 C) (h0 : 0 < l) => HX g b a n c an nn cn N cv s1 C w h hnn ⟨by omega, h0⟩)
  dsimp only at HE
  clear HX
  generalize (pAll W E N l).2 s1 = r1 at *
  obtain ⟨code, s2⟩ := r1
  try dsimp only at d1 d2 d3 d4 d5 d6
  have HM := Lib.hid (fun a n c cv w (h : RW 77 w g a n c W E (.slice an nn cn) cv s2) => parse_must g a n c W E (.slice an nn cn) cv s2 [41] (by decide) w h)
  generalize pMust W E [41] s2 = s3 at *
  have D4 := Lib.hid d4
  have D5 := Lib.hid d5
  have hL := Lib.hid hl
  have hsd : s3.deep = s.deep + 1 := by omega
  have HSD := Lib.hid hsd
  have h12 : s.i ≤ s1.i := by omega
  have kd : IntKind.i64.wrap (((s.deep + 1 : Nat) : Int) - 1) = (s.deep : Int) := by rw [IntKind.wrap_i64]; omega
  have kd2 : IntKind.i64.wrap (s.deep : Int) = (s.deep : Int) := by rw [IntKind.wrap_i64]; omega
  clear h d1 d2 d3 d4 d5 hl p1 p2 p3 HF hsd
  go_enter Try.func102, Try.ntmps102
  go_wp2_with fail
  refine HO.out.mono ?_
  rintro e w1 (⟨hb, rfl, ⟨a1, n1, c1, r1⟩, g1⟩ | ⟨hb, rfl, g1⟩)
  rotate_left
  · exact ⟨rfl, Ran.gone hb rfl (by dsimp only; rw [D5.out (by rw [D4.out hb]; exact hb), D4.out hb]) (Fr.of g1 H.out.room)⟩
  obtain ⟨h1, f1⟩ := H.out.took r1 g1 h12
  have HE1 := Lib.hid (HE.out _ _ _ _ _ h1 (hL.out hb))
  have F1 := Lib.hid f1
  clear r1 g1 h1 f1 HO H hb
  go_wp2_with fail
  refine HE1.out.mono ?_
  rintro e w2 (⟨hb, rfl, ⟨a2, n2, c2, cv2, D, h2, sm⟩, f2⟩ | ⟨hb, rfl, f2⟩)
  rotate_left
  · exact ⟨rfl, Ran.gone hb rfl (D5.out hb) (F1.out.trans f2)⟩
  have HM2 := Lib.hid (HM.out _ _ _ _ _ h2.rw)
  have H2 := Lib.hid h2
  have F2 := Lib.hid (F1.out.trans f2)
  have SM := Lib.hid sm
  clear h2 f2 sm HE1 F1 hb
  go_wp2_with fail
  refine HM2.out.mono ?_
  rintro e w3 (⟨hb, rfl, ⟨a3, n3, c3, r3⟩, g3⟩ | ⟨hb, rfl, g3⟩)
  rotate_left
  · exact ⟨rfl, Ran.gone hb rfl rfl (F2.out.on H2.out g3)⟩
  obtain ⟨h3, f3⟩ := H2.out.took r3 g3 d6
  obtain ⟨e0, e1, e2, e3, e4⟩ := r3.cells
  have ef := r3.free 2
  rw [HSD.out] at e2
  obtain ⟨r4, g4⟩ := r3.set2 s.deep
  obtain ⟨h4, f4⟩ := h3.took r4 g4 (Nat.le_refl _)
  have H4 := Lib.hid h4
  have F4 := Lib.hid ((F2.out.trans f3).trans f4)
  clear r3 g3 h3 f3 r4 g4 h4 f4 HM2 H2 F2 hb
  go_wp2
  go_end0
  refine Ran.back (a := a3) (n := n3) (c := c3) (D := D) (cv := cv2) ?_ SM.out F4.out
  rw [HSD.out]
  exact H4.out
set_option maxRecDepth 4096 in
set_option maxHeartbeats 16000000 in
theorem parse_atom (W : List Lw) (hW : ∀ x ∈ W, Wk x) (hlen : W.length ≤ 100000) (E : Nat) (l : Nat)
    (HX : DoesP 77 60 28 Try.prog 59 W E (fun N => (pAll W E N l).2) (fun s => s.deep + l = 41 ∧ 0 < l)) :
    DoesP 77 60 28 Try.prog 96 W E (fun N => pAtom W E N (pAll W E N l).2) (fun s => s.deep + (l + 1) = 41) := by
  intro g b a n c an nn cn N cv s C w h hnn hd
  have hb := h.rw.fine
  have HN := Lib.hid (parse_next g a n c W E _ cv s w h.rw)
  have H := Lib.hid h
  have HBr := Lib.hid (parse_brackets W E l HX g b a n c an nn cn N cv s C)
  have hfew := h.few
  clear HX
  obtain ⟨R, hR⟩ : ∃ R, pAtom W E N (pAll W E N l).2 s = R := ⟨_, rfl⟩
  show Calls _ _ _ _ (Ran _ _ _ g b W E an nn cn N C (pAtom W E N (pAll W E N l).2 s) w)
  rw [hR]
  unfold pAtom at hR
  have hk0 := lwNext_kind (W := W) (E := E) hb
  have ht0 := lwNext_text (W := W) (E := E) (s := s)
  have s116 := lwNext_sees (W := W) (E := E) hb (t := [116]) (by decide)
  have s121 := lwNext_sees (W := W) (E := E) hb (t := [121]) (by decide)
  have s112 := lwNext_sees (W := W) (E := E) hb (t := [112]) (by decide)
  have s40 := lwNext_sees (W := W) (E := E) hb (t := [40]) (by decide)
  have hin : ((lwNext W E s).t ≠ [] ∨ (lwNext W E s).k ≠ 0) → s.i < W.length := fun h9 => (lwNext_in h9).1
  have HNum := Lib.hid (fun (w1 : World) (h1 : Below w.heap.size w w1) (hk : pKind W s = 1) => parse_number W hW hlen E g b a n c an nn cn N cv s C w1 (h.later h1) hk)
  have HInd := Lib.hid (fun (op : Int) (w1 : World) (h1 : Below w.heap.size w w1) (hi : s.i < W.length) => parse_indexed W hW hlen E g b a n c an nn cn N cv s C op w1 (h.later h1) hi)
  have HT := Lib.hid (fun (w1 : World) (h1 : Below w.heap.size w w1) (hi : s.i < W.length) => parse_take g a n c W E _ cv s w1 (h.later h1).rw hi)
  have HNa := Lib.hid (fun (w1 : World) (h1 : Below w.heap.size w w1) => parse_name g a n c W E _ cv s w1 (h.later h1).rw)
  rw [ht0] at HNum HNa
  rw [hk0] at HNum
  rw [hk0, ht0, s116, s121, s112, s40] at hR
  clear h hW hk0 ht0 s116 s121 s112 s40
  generalize lwNext W E s = x at *
  have key : ∀ t : List UInt8, ((bs x.t).toList == t) = decide (x.t = t) := fun t => by
    rw [bs_list]
    by_cases h9 : x.t = t <;> simp [h9]
  have q116 := key [116]
  have q121 := key [121]
  have q112 := key [112]
  have q40 := key [40]
  clear key
  by_cases hk : x.k = 1
  · rw [if_pos hk] at hR
    have HRr := Lib.hid hR
    have HK := Lib.hid hk
    have q1 : ((x.k : Int) == 1) = true := by rw [hk]; decide
    clear hR hk q116 q121 q112 q40 hin HInd HT HNa HBr
    go_enter Try.func96, Try.ntmps96
    go_wp2_with fail
    refine HN.out.mono ?_
    rintro e w1 ⟨rfl, b1⟩
    have b2 := below_then b1 (below_alloc w1 (.cells #[.int .i64 (x.k : Int), .string (bs x.t), .int .i64 (x.p : Int)] 88))
    have HNum2 := Lib.hid (HNum.out _ b2 HK.out)
    have F2 := Lib.hid (H.out.past b2).2
    clear b1 b2 HNum HN
    unfold lwV
    go_wp2_with fail
    refine HNum2.out.mono ?_
    rw [HRr.out]
    rintro e w2 (⟨hb, rfl, ⟨a2, n2, c2, cv2, D, h2, sm⟩, f2⟩ | ⟨hb, rfl, f2⟩)
    · go_wp2
      go_end0
      exact Ran.back h2 sm (F2.out.trans f2)
    · exact ⟨rfl, Ran.gone hb rfl rfl (F2.out.trans f2)⟩
  rw [if_neg hk] at hR
  have q1 : ((x.k : Int) == 1) = false := by simp; omega
  clear HNum
  by_cases h116 : x.t = [116]
  · rw [if_pos (decide_eq_true h116)] at hR
    rw [decide_eq_true h116] at q116
    have hi := hin (.inl (by rw [h116]; simp))
    have HRr := Lib.hid hR
    clear hR hk h116 q121 q112 q40 hin HInd HNa HBr
    go_enter Try.func96, Try.ntmps96
    go_wp2_with fail
    refine HN.out.mono ?_
    rintro e w1 ⟨rfl, b1⟩
    have b2 := below_then b1 (below_alloc w1 (.cells #[.int .i64 (x.k : Int), .string (bs x.t), .int .i64 (x.p : Int)] 88))
    have HT2 := Lib.hid (HT.out _ b2 hi)
    obtain ⟨h2, f2⟩ := H.out.past b2
    have H2 := Lib.hid h2
    have F2 := Lib.hid f2
    clear b1 b2 h2 f2 HT HN H
    unfold lwV
    go_wp2_with fail
    refine HT2.out.mono ?_
    rintro e w3 ⟨rfl, ⟨a3, n3, c3, r3⟩, g3⟩
    obtain ⟨h3, f3⟩ := H2.out.took r3 g3 (Nat.le_succ _)
    have F3 := Lib.hid (F2.out.trans f3)
    have HP := Lib.hid (parse_put g b _ _ _ W E an nn cn N cv _ C ⟨2, 0, none, 0, 0, []⟩ _ h3 (Wd.ofNil _) (by simp) (by dsimp only; omega) hlen)
    clear r3 g3 h3 f3 HT2 H2 F2
    unfold lwV
    go_wp2_with fail
    refine HP.out.mono ?_
    rintro e w6 ⟨rfl, ⟨cv6, h6⟩, f6⟩
    go_wp2
    go_end0
    rw [← HRr.out]
    exact Ran.back h6 rfl (F3.out.trans f6)
  rw [if_neg (by simpa using h116)] at hR
  rw [decide_eq_false h116] at q116
  by_cases h121 : x.t = [121]
  · rw [if_pos (.inl (decide_eq_true h121))] at hR
    rw [if_neg (by rw [h121]; decide)] at hR
    rw [decide_eq_true h121] at q121
    have hi := hin (.inl (by rw [h121]; simp))
    have HRr := Lib.hid hR
    clear hR hk h116 h121 q112 q40 hin HT HNa HBr
    go_enter Try.func96, Try.ntmps96
    go_wp2_with fail
    refine HN.out.mono ?_
    rintro e w1 ⟨rfl, b1⟩
    have b2 := below_then b1 (below_alloc w1 (.cells #[.int .i64 (x.k : Int), .string (bs x.t), .int .i64 (x.p : Int)] 88))
    have HI2 := Lib.hid (HInd.out 3 _ b2 hi)
    have F2 := Lib.hid (H.out.past b2).2
    clear b1 b2 HInd HN
    unfold lwV
    go_wp2_with fail
    refine HI2.out.mono ?_
    rw [HRr.out]
    rintro e w2 (⟨hb, rfl, ⟨a2, n2, c2, cv2, D, h2, sm⟩, f2⟩ | ⟨hb, rfl, f2⟩)
    · go_wp2
      go_end0
      exact Ran.back h2 sm (F2.out.trans f2)
    · exact ⟨rfl, Ran.gone hb rfl rfl (F2.out.trans f2)⟩
  rw [decide_eq_false h121] at q121
  by_cases h112 : x.t = [112]
  · rw [if_pos (.inr (decide_eq_true h112)), if_pos (decide_eq_true h112)] at hR
    rw [decide_eq_true h112] at q112
    have hi := hin (.inl (by rw [h112]; simp))
    have HRr := Lib.hid hR
    clear hR hk h116 h121 h112 q40 hin HT HNa HBr
    go_enter Try.func96, Try.ntmps96
    go_wp2_with fail
    refine HN.out.mono ?_
    rintro e w1 ⟨rfl, b1⟩
    have b2 := below_then b1 (below_alloc w1 (.cells #[.int .i64 (x.k : Int), .string (bs x.t), .int .i64 (x.p : Int)] 88))
    have HI2 := Lib.hid (HInd.out 4 _ b2 hi)
    have F2 := Lib.hid (H.out.past b2).2
    clear b1 b2 HInd HN
    unfold lwV
    go_wp2_with fail
    refine HI2.out.mono ?_
    rw [HRr.out]
    rintro e w2 (⟨hb, rfl, ⟨a2, n2, c2, cv2, D, h2, sm⟩, f2⟩ | ⟨hb, rfl, f2⟩)
    · go_wp2
      go_end0
      exact Ran.back h2 sm (F2.out.trans f2)
    · exact ⟨rfl, Ran.gone hb rfl rfl (F2.out.trans f2)⟩
  rw [if_neg (by simp [h121, h112])] at hR
  rw [decide_eq_false h112] at q112
  clear HInd
  by_cases h40 : x.t = [40]
  · rw [if_pos (decide_eq_true h40)] at hR
    rw [decide_eq_true h40] at q40
    have hi := hin (.inl (by rw [h40]; simp))
    have HRr := Lib.hid hR
    clear hR hk h116 h121 h112 h40 hin HT HNa
    go_enter Try.func96, Try.ntmps96
    go_wp2_with fail
    refine HN.out.mono ?_
    rintro e w1 ⟨rfl, b1⟩
    have b2 := below_then b1 (below_alloc w1 (.cells #[.int .i64 (x.k : Int), .string (bs x.t), .int .i64 (x.p : Int)] 88))
    have HI2 := Lib.hid (HBr.out _ (H.out.later b2) hnn hi hd)
    have F2 := Lib.hid (H.out.past b2).2
    clear b1 b2 HBr HN
    unfold lwV
    go_wp2_with fail
    refine HI2.out.mono ?_
    rw [HRr.out]
    rintro e w2 (⟨hb, rfl, ⟨a2, n2, c2, cv2, D, h2, sm⟩, f2⟩ | ⟨hb, rfl, f2⟩)
    · go_wp2
      go_end0
      exact Ran.back h2 sm (F2.out.trans f2)
    · exact ⟨rfl, Ran.gone hb rfl rfl (F2.out.trans f2)⟩
  rw [if_neg (by simpa using h40)] at hR
  rw [decide_eq_false h40] at q40
  have hx1 : (s.i + 1 : Nat) ≤ s.i + 1 := Nat.le_refl _
  by_cases hfr : pFree W s = true
  · rw [if_pos hfr] at hR
    have HRr := Lib.hid hR
    rw [if_pos hfr] at HNa
    clear hR hk h116 h121 h112 h40 hin HT HBr hfr
    go_enter Try.func96, Try.ntmps96
    go_wp2_with fail
    refine HN.out.mono ?_
    rintro e w1 ⟨rfl, b1⟩
    have b2 := (below_then b1 (below_alloc w1 (.cells #[.int .i64 (x.k : Int), .string (bs x.t), .int .i64 (x.p : Int)] 88))).trans ((below_draws _ 1).mono (below_then b1 (below_alloc w1 (.cells #[.int .i64 (x.k : Int), .string (bs x.t), .int .i64 (x.p : Int)] 88))).size)
    have HNa2 := Lib.hid ((HNa.out _ b2).mono fun e w' h => h.only (by dsimp only; exact hb))
    obtain ⟨h2, f2⟩ := H.out.past b2
    have H2 := Lib.hid h2
    have F2 := Lib.hid f2
    have e3 := (H.out.past (below_then b1 (below_alloc w1 (.cells #[.int .i64 (x.k : Int), .string (bs x.t), .int .i64 (x.p : Int)] 88)))).1.rw.cells.2.2.2.1
    clear b1 b2 h2 f2 HNa HN H
    unfold lwV
    go_wp2
    go_region_law (first
      | (go_simp; go_at_call 51; refine HNa2.out.mono ?_; rintro e w3 ⟨rfl, ⟨a3, n3, c3, r3⟩, g3⟩; obtain ⟨h3, f3⟩ := H2.out.took r3 g3 (Nat.le_succ _); have H3 := Lib.hid h3; have F3 := Lib.hid (F2.out.trans f3); have e9 := h3.rw.cells.2.2.2.1; clear r3 g3 h3 f3)
      | (go_simp; go_at_call 84; refine (strs_index an nn cn N x.t w3 H3.out.names (by omega)).mono ?_; rintro e w4 ⟨rfl, rfl⟩)
      | (go_simp; go_at_call 79; refine (parse_put g b _ _ _ W E an nn cn N cv _ C ⟨5, pFind x.t N 0, none, 0, 0, []⟩ w3 H3.out (Wd.ofNil _) (by simp) (by dsimp only; omega) hlen).mono ?_; rintro e w6 ⟨rfl, ⟨cv6, h6⟩, f6⟩))
    all_goals (
      rw [← HRr.out]
      have H6 := Lib.hid h6
      have F6 := Lib.hid f6
      clear h6 f6
      go_wp2
      go_end0
      exact Ran.back H6.out rfl (F3.out.trans F6.out))
  · rw [if_neg hfr] at hR
    have HRr := Lib.hid hR
    rw [if_neg hfr] at HNa
    have hbd := (pBad_i W E s).2.2.1
    clear hR hk h116 h121 h112 h40 hin HT HBr hfr
    go_enter Try.func96, Try.ntmps96
    go_wp2_with fail
    refine HN.out.mono ?_
    rintro e w1 ⟨rfl, b1⟩
    have b2 := (below_then b1 (below_alloc w1 (.cells #[.int .i64 (x.k : Int), .string (bs x.t), .int .i64 (x.p : Int)] 88))).trans ((below_draws _ 1).mono (below_then b1 (below_alloc w1 (.cells #[.int .i64 (x.k : Int), .string (bs x.t), .int .i64 (x.p : Int)] 88))).size)
    have HNa2 := Lib.hid ((HNa.out _ b2).mono fun e w' h => h.dies hbd)
    obtain ⟨h2, f2⟩ := H.out.past b2
    have H2 := Lib.hid h2
    have F2 := Lib.hid f2
    have HBD := Lib.hid hbd
    have e3 := (H.out.past (below_then b1 (below_alloc w1 (.cells #[.int .i64 (x.k : Int), .string (bs x.t), .int .i64 (x.p : Int)] 88)))).1.rw.cells.2.2.2.1
    clear b1 b2 h2 f2 HNa HN H hbd
    unfold lwV
    go_wp2
    go_region_dies
    all_goals (
      refine HNa2.out.mono ?_
      rintro e w3 ⟨rfl, g3⟩
      exact ⟨rfl, Ran.gone HBD.out rfl (by rw [← HRr.out]) (F2.out.on H2.out g3)⟩)
end Go.Proofs.Ythblmpkdcahmkaa

/-
  Package parse: the reader's power and factor.
-/
namespace Go.Proofs.Ythblmpkdcahmkaa
open Go.WideShapes Go.RowKit Go.Deep

/-- A power. -/
def pPow (W : List Lw) (E : Nat) (N : List (List UInt8)) (ex : Ps → List Np × Ps) (s : Ps) : List Np × Ps :=
    let r := pAtom W E N ex s
    if pSees W r.2 [94] = true then
      let s1 : Ps := { r.2 with i := r.2.i + 1 }
      if pSees W s1 [45] = true then
        let q := pSmall W E { s1 with i := s1.i + 1 }
        (r.1 ++ [(11, -(q.1 : Int), 0)], q.2)
      else
        let q := pSmall W E s1
        (r.1 ++ [(11, (q.1 : Int), 0)], q.2)
    else r
theorem pFac_is (W : List Lw) (E : Nat) (N : List (List UInt8)) (fa ex : Ps → List Np × Ps) (s : Ps) : pFac W E N fa ex s = if pSees W s [45] = true then
    let s1 := pLevel W E s
    let r := if s1.bad < 0 then fa s1 else ([], s1)
    (r.1 ++ [(6, 0, 0)], { r.2 with deep := r.2.deep - 1 })
  else pPow W E N ex s := rfl
theorem nd_len {L : List Nd} {c : List Np} (h : L.map Nd.sem = c) : L.length = c.length := by rw [← h, List.length_map]
theorem sees_no {W : List Lw} {s : Ps} {t : List UInt8} (hb : 0 ≤ s.bad) : ¬ pSees W s t = true := fun h => by
  have := (pSees_i W h).1
  omega
theorem parse_sees1 (g : Nat) (a : Option Addr) (n c : Nat) (W : List Lw) (E : Nat) (nv cv : Value) (s : Ps) (t : List UInt8) (ht : t ≠ []) (w : World) (h : RW 77 w g a n c W E nv cv s) :
    Calls Try.prog 49 #[.pointer (some ⟨g, 0, none⟩), .slice (some ⟨w.heap.size, 0, none⟩) 1 1] (w.alloc (.cells #[.string (bs t)] 9)) (fun e w' => e = .returned (.bool (pSees W s t)) ∧ Below w.heap.size w w') := by
  have b1 := below_alloc w (.cells #[.string (bs t)] 9)
  have h1 := parse_sees g a n c W E nv cv s _ 1 1 [t] _ (h.later b1) (st_lit1 w t 9) (by omega)
  rw [show decide ((lwNext W E s).t ∈ [t]) = pSees W s t by rw [lwNext_sees (E := E) h.fine ht]; simp] at h1
  exact h1.mono fun e w' h9 => ⟨h9.1, below_then b1 h9.2⟩
theorem parse_sees2 (g : Nat) (a : Option Addr) (n c : Nat) (W : List Lw) (E : Nat) (nv cv : Value) (s : Ps) (t u : List UInt8) (ht : t ≠ []) (hu : u ≠ []) (w : World) (h : RW 77 w g a n c W E nv cv s) :
    Calls Try.prog 49 #[.pointer (some ⟨g, 0, none⟩), .slice (some ⟨w.heap.size, 0, none⟩) 2 2] (w.alloc (.cells #[.string (bs t), .string (bs u)] 9)) (fun e w' => e = .returned (.bool (pSees W s t || pSees W s u)) ∧ Below w.heap.size w w') := by
  have b1 := below_alloc w (.cells #[.string (bs t), .string (bs u)] 9)
  have h1 := parse_sees g a n c W E nv cv s _ 2 2 [t, u] _ (h.later b1) (st_lit2 w t u 9) (by omega)
  rw [show decide ((lwNext W E s).t ∈ [t, u]) = (pSees W s t || pSees W s u) by rw [lwNext_sees (E := E) h.fine ht, lwNext_sees (E := E) h.fine hu]; simp] at h1
  exact h1.mono fun e w' h9 => ⟨h9.1, below_then b1 h9.2⟩
set_option maxRecDepth 4096 in
set_option maxHeartbeats 16000000 in
theorem parse_power (W : List Lw) (hW : ∀ x ∈ W, Wk x) (hlen : W.length ≤ 100000) (E : Nat) (l : Nat)
    (HX : DoesP 77 60 28 Try.prog 59 W E (fun N => (pAll W E N l).2) (fun s => s.deep + l = 41 ∧ 0 < l)) :
    DoesP 77 60 28 Try.prog 91 W E (fun N => pPow W E N (pAll W E N l).2) (fun s => s.deep + (l + 1) = 41) := by
  intro g b a n c an nn cn N cv s C w h hnn hd
  have HA := Lib.hid (parse_atom W hW hlen E l HX g b a n c an nn cn N cv s C w h hnn hd)
  have H := Lib.hid h
  have HWk := Lib.hid hW
  clear HX h hW
  obtain ⟨R, hR⟩ : ∃ R, pPow W E N (pAll W E N l).2 s = R := ⟨_, rfl⟩
  show Calls _ _ _ _ (Ran _ _ _ g b W E an nn cn N C (pPow W E N (pAll W E N l).2 s) w)
  rw [hR]
  unfold pPow at hR
  try dsimp only at HA
  generalize pAtom W E N (pAll W E N l).2 s = r1 at *
  obtain ⟨code, s2⟩ := r1
  dsimp only at hR
  go_enter Try.func91, Try.ntmps91
  go_wp2_with fail
  refine HA.out.mono ?_
  rintro e w1 (⟨hb, rfl, ⟨a1, n1, c1, cv1, D, h1, sm⟩, f1⟩ | ⟨hb, rfl, f1⟩)
  rotate_left
  · rw [if_neg (sees_no hb)] at hR
    exact ⟨rfl, Ran.gone hb rfl (by rw [← hR]) f1⟩
  have H1 := Lib.hid h1
  have hfw1 := h1.few
  have F1 := Lib.hid f1
  have SM := Lib.hid sm
  have HS := Lib.hid (parse_sees1 g a1 n1 c1 W E _ cv1 s2 [94] (by decide) w1 h1.rw)
  clear h1 f1 sm HA H
  by_cases hp : pSees W s2 [94] = true
  · have hi := (pSees_i W hp).2
    rw [if_pos hp] at hR
    rw [hp] at HS
    have HRh := Lib.hid hR
    clear hp hb hR
    go_wp2_with fail
    refine HS.out.mono ?_
    rintro e w2 ⟨rfl, b2⟩
    obtain ⟨h2, f2⟩ := H1.out.past b2
    have HT := Lib.hid (parse_take g a1 n1 c1 W E _ cv1 s2 w2 h2.rw hi)
    have H2 := Lib.hid h2
    have F2 := Lib.hid (F1.out.trans f2)
    clear h2 f2 b2 HS H1 F1
    go_wp2_with fail
    refine HT.out.mono ?_
    rintro e w3 ⟨rfl, ⟨a3, n3, c3, r3⟩, g3⟩
    obtain ⟨h3, f3⟩ := H2.out.took r3 g3 (Nat.le_succ _)
    have HS3 := Lib.hid (parse_sees1 g a3 n3 c3 W E _ cv1 _ [45] (by decide) w3 h3.rw)
    have H3 := Lib.hid h3
    have F3 := Lib.hid (F2.out.trans f3)
    have hfew := h3.few
    dsimp only at hfew
    clear h3 f3 r3 g3 HT H2 F2
    unfold lwV
    by_cases hq : pSees W { s2 with i := s2.i + 1 } [45] = true
    · have hi2 := (pSees_i W hq).2
      have hR2 := HRh.out
      rw [if_pos hq] at hR2
      rw [hq] at HS3
      have hq1 := pSmall_sm W E HWk.out ({ s2 with i := s2.i + 1 + 1 })
      have hq2 := (pSmall_on W E).len ({ s2 with i := s2.i + 1 + 1 })
      have HSm := Lib.hid (fun a n c cv w (h : RW 77 w g a n c W E (.slice an nn cn) cv { s2 with i := s2.i + 1 + 1 }) => parse_small g a n c W E (.slice an nn cn) cv { s2 with i := s2.i + 1 + 1 } w HWk.out h)
      generalize pSmall W E ({ s2 with i := s2.i + 1 + 1 }) = rq at *
      obtain ⟨q, s9⟩ := rq
      try dsimp only at hR2 hq1 hq2 HSm
      have hfw := H3.out.few
      have HRr := Lib.hid hR2
      have kq : IntKind.i64.wrap ((-1) * (q : Int)) = -(q : Int) := by rw [IntKind.wrap_i64]; omega
      have kq2 : IntKind.i64.wrap (-(q : Int)) = -(q : Int) := by rw [IntKind.wrap_i64]; omega
      clear hR2 hq HRh
      go_wp2_with fail
      refine HS3.out.mono ?_
      rintro e w4 ⟨rfl, b4⟩
      obtain ⟨h4, f4⟩ := H3.out.past b4
      have HT4 := Lib.hid (parse_take g a3 n3 c3 W E _ cv1 _ w4 h4.rw hi2)
      have H4 := Lib.hid h4
      have F4 := Lib.hid (F3.out.trans f4)
      clear h4 f4 b4 HS3 H3 F3
      go_wp2_with fail
      refine HT4.out.mono ?_
      rintro e w5 ⟨rfl, ⟨a5, n5, c5, r5⟩, g5⟩
      obtain ⟨h5, f5⟩ := H4.out.took r5 g5 (Nat.le_succ _)
      have HS5 := Lib.hid (HSm.out _ _ _ _ _ r5)
      have H5 := Lib.hid h5
      have F5 := Lib.hid (F4.out.trans f5)
      clear h5 f5 r5 g5 HT4 H4 F4 HSm
      unfold lwV
      go_wp2_with fail
      refine HS5.out.mono ?_
      rintro e w6 (⟨hb, rfl, ⟨a6, n6, c6, r6⟩, g6⟩ | ⟨hb, rfl, g6⟩)
      rotate_left
      · exact ⟨rfl, Ran.gone hb rfl (by rw [← HRr.out]) (F5.out.on H5.out g6)⟩
      obtain ⟨h6, f6⟩ := H5.out.took r6 g6 hq2
      have HP := Lib.hid (parse_put g b _ _ _ W E an nn cn N cv1 _ (C ++ D) ⟨11, -(q : Int), none, 0, 0, []⟩ _ h6 (Wd.ofNil _) (by simp) (by omega) hlen)
      have F6 := Lib.hid (F5.out.trans f6)
      clear h6 f6 r6 g6 HS5 H5 F5 hb
      go_wp2_with fail
      refine HP.out.mono ?_
      rintro e w7 ⟨rfl, ⟨cv7, h7⟩, f7⟩
      go_wp2
      go_end0
      rw [List.append_assoc] at h7
      rw [← HRr.out]
      exact Ran.back h7 (by rw [List.map_append, SM.out]; rfl) (F6.out.trans f7)
    · have hR2 := HRh.out
      rw [if_neg hq] at hR2
      rw [Bool.not_eq_true] at hq
      rw [hq] at HS3
      have hq1 := pSmall_sm W E HWk.out ({ s2 with i := s2.i + 1 })
      have hq2 := (pSmall_on W E).len ({ s2 with i := s2.i + 1 })
      have HSm := Lib.hid (fun a n c cv w (h : RW 77 w g a n c W E (.slice an nn cn) cv { s2 with i := s2.i + 1 }) => parse_small g a n c W E (.slice an nn cn) cv { s2 with i := s2.i + 1 } w HWk.out h)
      generalize pSmall W E ({ s2 with i := s2.i + 1 }) = rq at *
      obtain ⟨q, s9⟩ := rq
      try dsimp only at hR2 hq1 hq2 HSm
      have hfw := H3.out.few
      have HRr := Lib.hid hR2
      have kq : IntKind.i64.wrap (1 * (q : Int)) = (q : Int) := by rw [IntKind.wrap_i64]; omega
      have kq2 : IntKind.i64.wrap (q : Int) = (q : Int) := by rw [IntKind.wrap_i64]; omega
      clear hR2 hq HRh
      go_wp2_with fail
      refine HS3.out.mono ?_
      rintro e w4 ⟨rfl, b4⟩
      obtain ⟨h4, f4⟩ := H3.out.past b4
      have HS5 := Lib.hid (HSm.out _ _ _ _ _ h4.rw)
      have H5 := Lib.hid h4
      have F5 := Lib.hid (F3.out.trans f4)
      clear h4 f4 b4 HS3 H3 F3 HSm
      go_wp2_with fail
      refine HS5.out.mono ?_
      rintro e w6 (⟨hb, rfl, ⟨a6, n6, c6, r6⟩, g6⟩ | ⟨hb, rfl, g6⟩)
      rotate_left
      · exact ⟨rfl, Ran.gone hb rfl (by rw [← HRr.out]) (F5.out.on H5.out g6)⟩
      obtain ⟨h6, f6⟩ := H5.out.took r6 g6 hq2
      have HP := Lib.hid (parse_put g b _ _ _ W E an nn cn N cv1 _ (C ++ D) ⟨11, (q : Int), none, 0, 0, []⟩ _ h6 (Wd.ofNil _) (by simp) (by omega) hlen)
      have F6 := Lib.hid (F5.out.trans f6)
      clear h6 f6 r6 g6 HS5 H5 F5 hb
      go_wp2_with fail
      refine HP.out.mono ?_
      rintro e w7 ⟨rfl, ⟨cv7, h7⟩, f7⟩
      go_wp2
      go_end0
      rw [List.append_assoc] at h7
      rw [← HRr.out]
      exact Ran.back h7 (by rw [List.map_append, SM.out]; rfl) (F6.out.trans f7)
  · rw [if_neg hp] at hR
    rw [Bool.not_eq_true] at hp
    rw [hp] at HS
    have HRr := Lib.hid hR
    clear hp hb hR
    go_wp2_with fail
    refine HS.out.mono ?_
    rintro e w2 ⟨rfl, b2⟩
    obtain ⟨h2, f2⟩ := H1.out.past b2
    have H2 := Lib.hid h2
    have F2 := Lib.hid (F1.out.trans f2)
    clear h2 f2 b2 HS H1 F1
    go_wp2
    go_end0
    rw [← HRr.out]
    exact Ran.back H2.out SM.out F2.out
set_option maxRecDepth 4096 in
set_option maxHeartbeats 16000000 in
theorem parse_factor (W : List Lw) (hW : ∀ x ∈ W, Wk x) (hlen : W.length ≤ 100000) (E : Nat) (l : Nat)
    (HX : DoesP 77 60 28 Try.prog 59 W E (fun N => (pAll W E N l).2) (fun s => s.deep + l = 41 ∧ 0 < l))
    (HFa : DoesP 77 60 28 Try.prog 87 W E (fun N => (pAll W E N l).1) (fun s => s.deep + l = 41 ∧ 0 < l)) :
    DoesP 77 60 28 Try.prog 87 W E (fun N => (pAll W E N (l + 1)).1) (fun s => s.deep + (l + 1) = 41) := by
  intro g b a n c an nn cn N cv s C w h hnn hd
  have hb0 := h.rw.fine
  have hfw0 := h.few
  have HP := Lib.hid (fun w1 (h1 : RD 77 60 w1 g b a n c W E an nn cn N cv s C) => parse_power W hW hlen E l HX g b a n c an nn cn N cv s C w1 h1 hnn hd)
  have H := Lib.hid h
  have HS := Lib.hid (parse_sees1 g a n c W E _ cv s [45] (by decide) w h.rw)
  clear HX h hW
  obtain ⟨R, hR⟩ : ∃ R, (pAll W E N (l + 1)).1 s = R := ⟨_, rfl⟩
  show Calls _ _ _ _ (Ran _ _ _ g b W E an nn cn N C ((pAll W E N (l + 1)).1 s) w)
  rw [hR]
  rw [pAll] at hR
  dsimp only at hR HP
  rw [pFac_is] at hR
  by_cases hp : pSees W s [45] = true
  · have hi := (pSees_i W hp).2
    rw [if_pos hp] at hR
    rw [hp] at HS
    have HO := Lib.hid (fun (w1 : World) (h1 : RW 77 w1 g a n c W E (.slice an nn cn) cv s) => parse_open g a n c W E _ cv s w1 h1 hi (by omega))
    obtain ⟨p1, p2, p3⟩ := pLevel_i W E s
    have hl : (pLevel W E s).bad < 0 → 0 < l := by
      intro h9
      rcases Nat.eq_zero_or_pos l with h0 | h0
      · unfold pLevel at h9
        rw [if_pos (by omega)] at h9
        have := (pBad_i W E s).2.2.1
        dsimp only at h9
        omega
      · exact h0
    have HF := (pAll_fine W E N l).1
    generalize pLevel W E s = s1 at *
    dsimp only at hR
    have d1 := HF.deep s1
    have d2 := HF.len s1
    have HE := Lib.hid (fun (a : Option Addr) (n c : Nat) (cv : Value) (w : World) (h : RD 77 60 w g b a n c W E an nn cn N cv s1 C) (h0 : 0 < l) => HFa g b a n c an nn cn N cv s1 C w h hnn ⟨by omega, h0⟩)
    dsimp only at HE
    have HL := Lib.hid hl
    have h12 : s.i ≤ s1.i := by omega
    clear HFa hp hl HP HF p3
    go_enter Try.func87, Try.ntmps87
    go_wp2_with fail
    refine HS.out.mono ?_
    rintro e w1 ⟨rfl, b1⟩
    obtain ⟨h1, f1⟩ := H.out.past b1
    have HO1 := Lib.hid (HO.out _ h1.rw)
    have H1 := Lib.hid h1
    have F1 := Lib.hid f1
    clear h1 f1 b1 HS H HO
    go_wp2_with fail
    refine HO1.out.mono ?_
    rintro e w2 (⟨hb, rfl, ⟨a2, n2, c2, r2⟩, g2⟩ | ⟨hb, rfl, g2⟩)
    rotate_left
    · rw [if_neg (by omega)] at hR
      exact ⟨rfl, Ran.gone hb rfl (by rw [← hR]) (F1.out.on H1.out g2)⟩
    rw [if_pos hb] at hR
    obtain ⟨h2, f2⟩ := H1.out.took r2 g2 h12
    have HE2 := Lib.hid (HE.out _ _ _ _ _ h2 (HL.out hb))
    have F2 := Lib.hid (F1.out.trans f2)
    generalize (pAll W E N l).1 s1 = r1 at *
    obtain ⟨code, s2⟩ := r1
    (try dsimp only at hR)
    (try dsimp only at d1)
    (try dsimp only at d2)
    (try dsimp only at HE2)
    have hsd : s2.deep = s.deep + 1 := by omega
    rw [hsd, Nat.add_sub_cancel] at hR
    have HSD := Lib.hid hsd
    have HRr := Lib.hid hR
    have kd : IntKind.i64.wrap (((s.deep + 1 : Nat) : Int) - 1) = (s.deep : Int) := by rw [IntKind.wrap_i64]; omega
    have kd2 : IntKind.i64.wrap (s.deep : Int) = (s.deep : Int) := by rw [IntKind.wrap_i64]; omega
    clear r2 g2 h2 f2 HO1 H1 F1 hb hR HE HL d1 hsd p2
    go_wp2_with fail
    refine HE2.out.mono ?_
    rintro e w3 (⟨hb, rfl, ⟨a3, n3, c3, cv3, D, h3, sm⟩, f3⟩ | ⟨hb, rfl, f3⟩)
    rotate_left
    · exact ⟨rfl, Ran.gone hb rfl (by rw [← HRr.out]) (F2.out.trans f3)⟩
    obtain ⟨e0, e1, e2, e3, e4⟩ := h3.rw.cells
    have ef := h3.rw.free 2
    rw [HSD.out] at e2
    obtain ⟨r4, g4⟩ := h3.rw.set2 s.deep
    obtain ⟨h4, f4⟩ := h3.took r4 g4 (Nat.le_refl _)
    have hfw := h3.few
    have hsl : D.length = code.length := nd_len sm
    rw [List.length_append] at hfw
    have HP := Lib.hid (parse_put g b _ _ _ W E an nn cn N cv3 _ (C ++ D) ⟨6, 0, none, 0, 0, []⟩ _ h4 (Wd.ofNil _) (by simp) (by rw [List.length_append]; dsimp only; omega) hlen)
    have F4 := Lib.hid ((F2.out.trans f3).trans f4)
    have SM := Lib.hid sm
    clear h3 f3 r4 g4 h4 f4 HE2 F2 sm hb
    go_wp2_with fail
    refine HP.out.mono ?_
    rintro e w7 ⟨rfl, ⟨cv7, h7⟩, f7⟩
    go_wp2
    go_end0
    rw [List.append_assoc] at h7
    rw [← HRr.out]
    exact Ran.back h7 (by rw [List.map_append, SM.out]; rfl) (F4.out.trans f7)
  · rw [if_neg hp] at hR
    rw [Bool.not_eq_true] at hp
    rw [hp] at HS
    rw [hR] at HP
    clear hp hR HFa
    go_enter Try.func87, Try.ntmps87
    go_wp2_with fail
    refine HS.out.mono ?_
    rintro e w1 ⟨rfl, b1⟩
    obtain ⟨h1, f1⟩ := H.out.past b1
    have HP1 := Lib.hid (HP.out _ h1)
    have F1 := Lib.hid f1
    clear h1 f1 b1 HS H HP
    go_wp2_with fail
    refine HP1.out.mono ?_
    rintro e w2 (⟨hb, rfl, ⟨a2, n2, c2, cv2, D, h2, sm⟩, f2⟩ | ⟨hb, rfl, f2⟩)
    · go_wp2
      go_end0
      exact Ran.back h2 sm (F1.out.trans f2)
    · exact ⟨rfl, Ran.gone hb rfl rfl (F1.out.trans f2)⟩
end Go.Proofs.Ythblmpkdcahmkaa
