/-
  Several texts of this claim as one, group 16.
-/
import Derived.Test.YthblmpkdcahmkaaG15
import Derived.Test.YthblmpkdcahmkaaG12
import Derived.Test.YthblmpkdcahmkaaG3
import Derived.Shelf.Strconv.Clone
import Derived.Shelf.Strings.BuilderK
import Derived.WalkKit
/-
  Package parse: the reader's term and expr.
-/
namespace Go.Proofs.Ythblmpkdcahmkaa
open Go.WideShapes Go.RowKit Go.Deep

/-- How many words the reader has before it. -/
def heldN (w : World) (g : Nat) : Nat := match w.cell? ⟨g, 0, none⟩ with | some (.slice _ n _) => n | _ => 0
theorem RW.held {R : TypeId} {w : World} {g : Nat} {a : Option Addr} {n c : Nat} {W : List Lw} {E : Nat} {nv cv : Value} {s : Ps} (h : RW R w g a n c W E nv cv s) : heldN w g = n := by
  unfold heldN
  rw [h.cells.1]
theorem sign_mul {W : List Lw} {E : Nat} {s : Ps} (h : pSees W s [42] = true ∨ pSees W s [47] = true) : signOp (lwNext W E s).t = if pSees W s [47] = true then 10 else 9 := by
  have hb : s.bad < 0 := h.elim (fun h => (pSees_i W h).1) (fun h => (pSees_i W h).1)
  rw [lwNext_sees (E := E) hb (by decide), lwNext_sees (E := E) hb (by decide)] at h
  rw [lwNext_sees (E := E) hb (by decide)]
  generalize (lwNext W E s).t = t at *
  rcases h with h | h
  · rw [of_decide_eq_true h]; decide
  · rw [of_decide_eq_true h]; decide
theorem sign_add {W : List Lw} {E : Nat} {s : Ps} (h : pSees W s [43] = true ∨ pSees W s [45] = true) : signOp (lwNext W E s).t = if pSees W s [45] = true then 8 else 7 := by
  have hb : s.bad < 0 := h.elim (fun h => (pSees_i W h).1) (fun h => (pSees_i W h).1)
  rw [lwNext_sees (E := E) hb (by decide), lwNext_sees (E := E) hb (by decide)] at h
  rw [lwNext_sees (E := E) hb (by decide)]
  generalize (lwNext W E s).t = t at *
  rcases h with h | h
  · rw [of_decide_eq_true h]; decide
  · rw [of_decide_eq_true h]; decide
set_option maxRecDepth 4096 in
set_option maxHeartbeats 16000000 in
theorem parse_term (W : List Lw) (hlen : W.length ≤ 100000) (E : Nat) (l : Nat) (fa : List (List UInt8) → Ps → List Np × Ps) (hF : ∀ N, Fine W (fa N))
    (HC : DoesP 77 60 28 Try.prog 87 W E (fun N => fa N) (fun s => s.deep + l = 41)) :
    DoesP 77 60 28 Try.prog 77 W E (fun N => pTerm W (fa N)) (fun s => s.deep + l = 41) := by
  intro g b a n c an nn cn N cv s0 C w h hnn hd
  have hb0 := h.rw.fine
  have HC0 := Lib.hid (HC g b a n c an nn cn N cv s0 C w h hnn hd)
  have HCC := Lib.hid (fun (a : Option Addr) (n c : Nat) (cv : Value) (s : Ps) (C : List Nd) (w : World) (h : RD 77 60 w g b a n c W E an nn cn N cv s C) (hd : s.deep + l = 41) => HC g b a n c an nn cn N cv s C w h hnn hd)
  have HF := Lib.hid (hF N)
  clear h HC hF
  obtain ⟨R, hR⟩ : ∃ R, (pTerm W (fa N)) s0 = R := ⟨_, rfl⟩
  show Calls _ _ _ _ (Ran _ _ _ g b W E an nn cn N C ((pTerm W (fa N)) s0) w)
  rw [hR]
  have hR2 : pMany W (fa N) [42] [47] 9 10 W.length ((fa N) s0).1 ((fa N) s0).2 = R := by
    rw [← hR]
    rfl
  clear hR
  (try dsimp only at HC0)
  (try dsimp only at HCC)
  have d1 := HF.out.deep s0
  generalize fa N = ff at *
  generalize ff s0 = r0 at *
  obtain ⟨cd0, s1⟩ := r0
  (try dsimp only at hR2)
  (try dsimp only at d1)
  have HR1 := Lib.hid hR2
  clear hR2
  go_enter Try.func77, Try.ntmps77
  go_wp2_with fail
  refine HC0.out.mono ?_
  rintro e w1 (⟨hb, rfl, ⟨a1, n1, c1, cv1, D, h1, sm⟩, f1⟩ | ⟨hb, rfl, f1⟩)
  rotate_left
  · have hz := (pMany_fine W HF.out [42] [47] 9 10 W.length cd0 s1).1 hb
    rw [HR1.out] at hz
    exact ⟨rfl, Ran.gone hb rfl (by rw [hz]) f1⟩
  have H1 := Lib.hid h1
  have F1 := Lib.hid f1
  have SM : Hid (D.map Nd.sem = cd0) := Lib.hid sm
  clear h1 f1 sm HC0 hb
  go_wp2
  go_loopw [2] (fun v wr => ∃ (m : Nat) (cd : List Np) (D : List Nd) (s : Ps) (a : Option Addr) (n c : Nat) (cv : Value), Hid (RD 77 60 wr g b a n c W E an nn cn N cv s (C ++ D)) ∧ Hid (D.map Nd.sem = cd) ∧ Hid (Fr b g w wr) ∧ Hid (pMany W ff [42] [47] 9 10 m cd s = R) ∧ W.length ≤ s.i + m ∧ s.deep = s0.deep) (fun _ wr => heldN wr g)
  case atStart => exact ⟨W.length, cd0, D, s1, a1, n1, c1, cv1, H1, SM, F1, HR1, by omega, d1⟩
  case round =>
    clear SM H1 F1 HR1
    obtain ⟨m, cd, D, s, a, n, c, cv, HP, HSm, HFr, HMn, hb1, hb2⟩ := hrel
    replace HMn := HMn.out
    have HPh := Lib.hid HP.out.rw.held
    have hln := HP.out.rw.len
    have hfew := HP.out.few
    have HS := Lib.hid (parse_sees2 g a n c W E _ cv s [42] [47] (by decide) (by decide) wr HP.out.rw)
    by_cases hx : pSees W s [42] = true ∨ pSees W s [47] = true
    · have hi : s.i < W.length := (hx.elim (pSees_i W) (pSees_i W)).2
      obtain ⟨m, rfl⟩ : ∃ m', m = m' + 1 := ⟨m - 1, by omega⟩
      rw [pMany, if_pos hx] at HMn
      rw [show (pSees W s [42] || pSees W s [47]) = true by simpa using hx] at HS
      have HO := Lib.hid (parse_operation (lwNext W E s))
      rw [sign_mul hx] at HO
      have HT := Lib.hid (fun (w2 : World) (h2 : RW 77 w2 g a n c W E (.slice an nn cn) cv s) => parse_take g a n c W E _ cv s w2 h2 hi)
      generalize (if pSees W s [47] = true then (10 : Int) else 9) = op at *
      (try dsimp only at HMn)
      have d1 := HF.out.deep { s with i := s.i + 1 }
      have d3 := HF.out.len { s with i := s.i + 1 }
      have HCl := Lib.hid (fun a n c cv w (h : RD 77 60 w g b a n c W E an nn cn N cv { s with i := s.i + 1 } (C ++ D)) => HCC.out a n c cv { s with i := s.i + 1 } (C ++ D) w h (by dsimp only; omega))
      (try dsimp only at HCl)
      generalize ff { s with i := s.i + 1 } = r1 at *
      obtain ⟨code, s2⟩ := r1
      (try dsimp only at d1)
      (try dsimp only at d3)
      (try dsimp only at HMn)
      have HMn2 := Lib.hid HMn
      generalize lwNext W E s = x at *
      clear hx HMn
      go_wp2_with fail
      refine HS.out.mono ?_
      rintro e w2 ⟨rfl, b2⟩
      obtain ⟨h2, f2⟩ := HP.out.past b2
      have HT2 := Lib.hid (HT.out _ h2.rw)
      have H2 := Lib.hid h2
      have F2 := Lib.hid (HFr.out.trans f2)
      clear h2 f2 b2 HS HP HFr HT
      go_wp2_with fail
      refine HT2.out.mono ?_
      rintro e w3 ⟨rfl, ⟨a3, n3, c3, r3⟩, g3⟩
      obtain ⟨h3, f3⟩ := H2.out.took r3 g3 (Nat.le_succ _)
      have H3 := Lib.hid h3
      have F3 := Lib.hid (F2.out.trans f3)
      clear h3 f3 r3 g3 HT2 H2 F2
      go_wp2_with fail
      refine (HO.out w3).mono ?_
      rintro e w4 ⟨rfl, b4⟩
      obtain ⟨h4, f4⟩ := H3.out.past b4
      have HC4 := Lib.hid (HCl.out _ _ _ _ _ h4)
      have F4 := Lib.hid (F3.out.trans f4)
      clear h4 f4 b4 HO H3 F3 HCl
      go_wp2_with fail
      refine HC4.out.mono ?_
      rintro e w5 (⟨hb, rfl, ⟨a5, n5, c5, cv5, D2, h5, sm⟩, f5⟩ | ⟨hb, rfl, f5⟩)
      rotate_left
      · have hz := (pMany_fine W HF.out [42] [47] 9 10 m (cd ++ code ++ [(op, 0, 0)]) s2).1 hb
        rw [HMn2.out] at hz
        exact ⟨rfl, Ran.gone hb rfl (by rw [hz]) (F4.out.trans f5)⟩
      have hsl : D2.length = code.length := nd_len sm
      have SM5 : Hid (D2.map Nd.sem = code) := Lib.hid sm
      have HP5 := Lib.hid (parse_put g b _ _ _ W E an nn cn N cv5 _ (C ++ D ++ D2) ⟨op, 0, none, 0, 0, []⟩ _ h5 (Wd.ofNil _) (by simp) (by rw [List.length_append]; (try dsimp only); omega) hlen)
      have F5 := Lib.hid (F4.out.trans f5)
      clear h5 f5 sm HC4 F4 hb
      go_wp2_with fail
      refine HP5.out.mono ?_
      rintro e w6 ⟨rfl, ⟨cv6, h6⟩, f6⟩
      have H6 : Hid (RD 77 60 w6 g b a5 n5 c5 W E an nn cn N cv6 s2 (C ++ (D ++ D2 ++ [⟨op, 0, none, 0, 0, []⟩]))) := Lib.hid (by rw [List.append_assoc C D D2, List.append_assoc C] at h6; exact h6)
      have hln6 := H6.out.rw.len
      have F6 := Lib.hid (F5.out.trans f6)
      clear h6 f6 HP5 F5
      go_wp2
      go_roundw
      case rel => exact ⟨m, cd ++ code ++ [(op, 0, 0)], _, s2, a5, n5, c5, cv6, H6, Lib.hid (by rw [List.map_append, List.map_append, HSm.out, SM5.out]; rfl), F6, HMn2, by omega, by omega⟩
      case measure => rw [H6.out.rw.held, HPh.out]; omega
    · have hR3 : (cd, s) = R := by
        rw [← HMn]
        cases m with
        | zero => rfl
        | succ m => rw [pMany, if_neg hx]
      have HRr := Lib.hid hR3
      rw [show (pSees W s [42] || pSees W s [47]) = false by simpa using hx] at HS
      clear hR3 HMn hx
      go_wp2_with fail
      refine HS.out.mono ?_
      rintro e w2 ⟨rfl, b2⟩
      obtain ⟨h2, f2⟩ := HP.out.past b2
      have H2 := Lib.hid h2
      have F2 := Lib.hid (HFr.out.trans f2)
      clear h2 f2 b2 HS HP HFr
      go_wp2
      go_end0
      rw [← HRr.out]
      exact Ran.back H2.out HSm.out F2.out
set_option maxRecDepth 4096 in
set_option maxHeartbeats 16000000 in
theorem parse_expr (W : List Lw) (hlen : W.length ≤ 100000) (E : Nat) (l : Nat) (fa : List (List UInt8) → Ps → List Np × Ps) (hF : ∀ N, Fine W (pTerm W (fa N)))
    (HC : DoesP 77 60 28 Try.prog 77 W E (fun N => pTerm W (fa N)) (fun s => s.deep + l = 41)) :
    DoesP 77 60 28 Try.prog 59 W E (fun N => pExpr W (fa N)) (fun s => s.deep + l = 41) := by
  intro g b a n c an nn cn N cv s0 C w h hnn hd
  have hb0 := h.rw.fine
  have HC0 := Lib.hid (HC g b a n c an nn cn N cv s0 C w h hnn hd)
  have HCC := Lib.hid (fun (a : Option Addr) (n c : Nat) (cv : Value) (s : Ps) (C : List Nd) (w : World) (h : RD 77 60 w g b a n c W E an nn cn N cv s C) (hd : s.deep + l = 41) => HC g b a n c an nn cn N cv s C w h hnn hd)
  have HF := Lib.hid (hF N)
  clear h HC hF
  obtain ⟨R, hR⟩ : ∃ R, (pExpr W (fa N)) s0 = R := ⟨_, rfl⟩
  show Calls _ _ _ _ (Ran _ _ _ g b W E an nn cn N C ((pExpr W (fa N)) s0) w)
  rw [hR]
  have hR2 : pMany W (pTerm W (fa N)) [43] [45] 7 8 W.length ((pTerm W (fa N)) s0).1 ((pTerm W (fa N)) s0).2 = R := by
    rw [← hR]
    unfold pExpr
    rw [if_neg (by omega)]
  clear hR
  (try dsimp only at HC0)
  (try dsimp only at HCC)
  have d1 := HF.out.deep s0
  generalize pTerm W (fa N) = ff at *
  generalize ff s0 = r0 at *
  obtain ⟨cd0, s1⟩ := r0
  (try dsimp only at hR2)
  (try dsimp only at d1)
  have HR1 := Lib.hid hR2
  clear hR2
  go_enter Try.func59, Try.ntmps59
  go_wp2_with fail
  refine HC0.out.mono ?_
  rintro e w1 (⟨hb, rfl, ⟨a1, n1, c1, cv1, D, h1, sm⟩, f1⟩ | ⟨hb, rfl, f1⟩)
  rotate_left
  · have hz := (pMany_fine W HF.out [43] [45] 7 8 W.length cd0 s1).1 hb
    rw [HR1.out] at hz
    exact ⟨rfl, Ran.gone hb rfl (by rw [hz]) f1⟩
  have H1 := Lib.hid h1
  have F1 := Lib.hid f1
  have SM : Hid (D.map Nd.sem = cd0) := Lib.hid sm
  clear h1 f1 sm HC0 hb
  go_wp2
  go_loopw [2] (fun v wr => ∃ (m : Nat) (cd : List Np) (D : List Nd) (s : Ps) (a : Option Addr) (n c : Nat) (cv : Value), Hid (RD 77 60 wr g b a n c W E an nn cn N cv s (C ++ D)) ∧ Hid (D.map Nd.sem = cd) ∧ Hid (Fr b g w wr) ∧ Hid (pMany W ff [43] [45] 7 8 m cd s = R) ∧ W.length ≤ s.i + m ∧ s.deep = s0.deep) (fun _ wr => heldN wr g)
  case atStart => exact ⟨W.length, cd0, D, s1, a1, n1, c1, cv1, H1, SM, F1, HR1, by omega, d1⟩
  case round =>
    clear SM H1 F1 HR1
    obtain ⟨m, cd, D, s, a, n, c, cv, HP, HSm, HFr, HMn, hb1, hb2⟩ := hrel
    replace HMn := HMn.out
    have HPh := Lib.hid HP.out.rw.held
    have hln := HP.out.rw.len
    have hfew := HP.out.few
    have HS := Lib.hid (parse_sees2 g a n c W E _ cv s [43] [45] (by decide) (by decide) wr HP.out.rw)
    by_cases hx : pSees W s [43] = true ∨ pSees W s [45] = true
    · have hi : s.i < W.length := (hx.elim (pSees_i W) (pSees_i W)).2
      obtain ⟨m, rfl⟩ : ∃ m', m = m' + 1 := ⟨m - 1, by omega⟩
      rw [pMany, if_pos hx] at HMn
      rw [show (pSees W s [43] || pSees W s [45]) = true by simpa using hx] at HS
      have HO := Lib.hid (parse_operation (lwNext W E s))
      rw [sign_add hx] at HO
      have HT := Lib.hid (fun (w2 : World) (h2 : RW 77 w2 g a n c W E (.slice an nn cn) cv s) => parse_take g a n c W E _ cv s w2 h2 hi)
      generalize (if pSees W s [45] = true then (8 : Int) else 7) = op at *
      (try dsimp only at HMn)
      have d1 := HF.out.deep { s with i := s.i + 1 }
      have d3 := HF.out.len { s with i := s.i + 1 }
      have HCl := Lib.hid (fun a n c cv w (h : RD 77 60 w g b a n c W E an nn cn N cv { s with i := s.i + 1 } (C ++ D)) => HCC.out a n c cv { s with i := s.i + 1 } (C ++ D) w h (by dsimp only; omega))
      (try dsimp only at HCl)
      generalize ff { s with i := s.i + 1 } = r1 at *
      obtain ⟨code, s2⟩ := r1
      (try dsimp only at d1)
      (try dsimp only at d3)
      (try dsimp only at HMn)
      have HMn2 := Lib.hid HMn
      generalize lwNext W E s = x at *
      clear hx HMn
      go_wp2_with fail
      refine HS.out.mono ?_
      rintro e w2 ⟨rfl, b2⟩
      obtain ⟨h2, f2⟩ := HP.out.past b2
      have HT2 := Lib.hid (HT.out _ h2.rw)
      have H2 := Lib.hid h2
      have F2 := Lib.hid (HFr.out.trans f2)
      clear h2 f2 b2 HS HP HFr HT
      go_wp2_with fail
      refine HT2.out.mono ?_
      rintro e w3 ⟨rfl, ⟨a3, n3, c3, r3⟩, g3⟩
      obtain ⟨h3, f3⟩ := H2.out.took r3 g3 (Nat.le_succ _)
      have H3 := Lib.hid h3
      have F3 := Lib.hid (F2.out.trans f3)
      clear h3 f3 r3 g3 HT2 H2 F2
      go_wp2_with fail
      refine (HO.out w3).mono ?_
      rintro e w4 ⟨rfl, b4⟩
      obtain ⟨h4, f4⟩ := H3.out.past b4
      have HC4 := Lib.hid (HCl.out _ _ _ _ _ h4)
      have F4 := Lib.hid (F3.out.trans f4)
      clear h4 f4 b4 HO H3 F3 HCl
      go_wp2_with fail
      refine HC4.out.mono ?_
      rintro e w5 (⟨hb, rfl, ⟨a5, n5, c5, cv5, D2, h5, sm⟩, f5⟩ | ⟨hb, rfl, f5⟩)
      rotate_left
      · have hz := (pMany_fine W HF.out [43] [45] 7 8 m (cd ++ code ++ [(op, 0, 0)]) s2).1 hb
        rw [HMn2.out] at hz
        exact ⟨rfl, Ran.gone hb rfl (by rw [hz]) (F4.out.trans f5)⟩
      have hsl : D2.length = code.length := nd_len sm
      have SM5 : Hid (D2.map Nd.sem = code) := Lib.hid sm
      have HP5 := Lib.hid (parse_put g b _ _ _ W E an nn cn N cv5 _ (C ++ D ++ D2) ⟨op, 0, none, 0, 0, []⟩ _ h5 (Wd.ofNil _) (by simp) (by rw [List.length_append]; (try dsimp only); omega) hlen)
      have F5 := Lib.hid (F4.out.trans f5)
      clear h5 f5 sm HC4 F4 hb
      go_wp2_with fail
      refine HP5.out.mono ?_
      rintro e w6 ⟨rfl, ⟨cv6, h6⟩, f6⟩
      have H6 : Hid (RD 77 60 w6 g b a5 n5 c5 W E an nn cn N cv6 s2 (C ++ (D ++ D2 ++ [⟨op, 0, none, 0, 0, []⟩]))) := Lib.hid (by rw [List.append_assoc C D D2, List.append_assoc C] at h6; exact h6)
      have hln6 := H6.out.rw.len
      have F6 := Lib.hid (F5.out.trans f6)
      clear h6 f6 HP5 F5
      go_wp2
      go_roundw
      case rel => exact ⟨m, cd ++ code ++ [(op, 0, 0)], _, s2, a5, n5, c5, cv6, H6, Lib.hid (by rw [List.map_append, List.map_append, HSm.out, SM5.out]; rfl), F6, HMn2, by omega, by omega⟩
      case measure => rw [H6.out.rw.held, HPh.out]; omega
    · have hR3 : (cd, s) = R := by
        rw [← HMn]
        cases m with
        | zero => rfl
        | succ m => rw [pMany, if_neg hx]
      have HRr := Lib.hid hR3
      rw [show (pSees W s [43] || pSees W s [45]) = false by simpa using hx] at HS
      clear hR3 HMn hx
      go_wp2_with fail
      refine HS.out.mono ?_
      rintro e w2 ⟨rfl, b2⟩
      obtain ⟨h2, f2⟩ := HP.out.past b2
      have H2 := Lib.hid h2
      have F2 := Lib.hid (HFr.out.trans f2)
      clear h2 f2 b2 HS HP HFr
      go_wp2
      go_end0
      rw [← HRr.out]
      exact Ran.back H2.out HSm.out F2.out
end Go.Proofs.Ythblmpkdcahmkaa

/-
  Package parse: the reader's expr at every level; whole.
-/
namespace Go.Proofs.Ythblmpkdcahmkaa
open Go.WideShapes Go.RowKit Go.Deep

/-- An expression in a list of its own comes back; or the panic. -/
def WholeP (R Nt F : TypeId) (g : Nat) (W : List Lw) (E : Nat) (nv : Value) (r : List Np × Ps) (w : World) (e : Ending) (w' : World) : Prop :=
  (r.2.bad < 0 ∧ (∃ a n c v L, e = .returned v ∧ RW R w' g a n c W E nv v r.2 ∧ ndK.Mine w' w.heap.size Nt v L ∧ L.map Nd.sem = r.1 ∧ thinN 20 L ∧ L.length ≤ r.2.i) ∧ w.grownBy w' (some g)) ∨ (0 ≤ r.2.bad ∧ e = badP F r.2.bad ∧ w.grownBy w' (some g))
theorem parse_all (W : List Lw) (hW : ∀ x ∈ W, Wk x) (hlen : W.length ≤ 100000) (E : Nat) : ∀ l : Nat,
    DoesP 77 60 28 Try.prog 59 W E (fun N => (pAll W E N l).2) (fun s => s.deep + l = 41 ∧ 0 < l) ∧
    DoesP 77 60 28 Try.prog 87 W E (fun N => (pAll W E N l).1) (fun s => s.deep + l = 41 ∧ 0 < l)
  | 0 => ⟨fun g b a n c an nn cn N cv s C w h hn hd => absurd hd.2 (by decide), fun g b a n c an nn cn N cv s C w h hn hd => absurd hd.2 (by decide)⟩
  | l + 1 => by
    obtain ⟨h1, h2⟩ := parse_all W hW hlen E l
    have h3 := parse_factor W hW hlen E l h1 h2
    have hF : ∀ N, Fine W (pAll W E N (l + 1)).1 := fun N => (pAll_fine W E N (l + 1)).1
    have h4 := parse_term W hlen E (l + 1) (fun N => (pAll W E N (l + 1)).1) hF h3
    have h5 := parse_expr W hlen E (l + 1) (fun N => (pAll W E N (l + 1)).1) (fun N => pTerm_fine W (hF N)) h4
    exact ⟨fun g b a n c an nn cn N cv s C w h hn hd => h5 g b a n c an nn cn N cv s C w h hn hd.1, fun g b a n c an nn cn N cv s C w h hn hd => h3 g b a n c an nn cn N cv s C w h hn hd.1⟩
set_option maxRecDepth 4096 in
set_option maxHeartbeats 8000000 in
theorem parse_whole (W : List Lw) (hW : ∀ x ∈ W, Wk x) (hlen : W.length ≤ 100000) (E : Nat) (g : Nat) (a : Option Addr) (n c : Nat) (an : Option Addr) (nn cn : Nat) (N : List (List UInt8)) (cv : Value) (s : Ps) (w : World) (h : RW 77 w g a n c W E (.slice an nn cn) cv s)
    (hN : stC.Has w an nn cn N) (hne : ∀ b off, an = some ⟨b, off, none⟩ → 0 < nn → b ≠ g) (hnn : nn ≤ 5000) (hd : s.deep = 0) :
    Calls Try.prog 32 #[.pointer (some ⟨g, 0, none⟩)] w (WholeP 77 60 28 g W E (.slice an nn cn) ((pAll W E N 41).2 s) w) := by
  have HE := (parse_all W hW hlen E 41).1
  obtain ⟨e0, e1, e2, e3, e4⟩ := h.cells
  have ef := h.free 4
  obtain ⟨h1, g1⟩ := h.set4 (cv' := .slice none 0 0) ⟨_, _, _, rfl⟩
  have hz : (w.setCell ⟨g, 4, none⟩ (.slice none 0 0)).heap.size = w.heap.size := by simp
  have hbl : ∀ bb off, an = some ⟨bb, off, none⟩ → 0 < nn → bb < w.heap.size ∧ bb ≠ g := fun bb off e hn => by
    refine ⟨?_, hne bb off e hn⟩
    obtain ⟨b2, off2, e2, hc⟩ := hN.at hn
    rw [e] at e2
    obtain ⟨rfl, rfl, _⟩ := Addr.mk.inj (Option.some.inj e2)
    have hl := hN.len
    have h9 := hc 0 (N[0]'(by omega)) (List.getElem?_eq_getElem _) 0 _ rfl
    rcases Nat.lt_or_ge bb w.heap.size with h8 | h8
    · exact h8
    · rw [World.cell?, Array.getElem?_eq_none h8] at h9; cases h9
  have h2 : RD 77 60 (w.setCell ⟨g, 4, none⟩ (.slice none 0 0)) g w.heap.size a n c W E an nn cn N (.slice none 0 0) s [] :=
    ⟨h1, Kin.Mine.nil _ _ _, fun x hx => (by cases hx), Nat.zero_le _, RD.names_stay hN hbl (Fr.of g1 (Nat.le_refl _)), hbl, h.lt, Nat.le_of_eq hz.symm⟩
  have HC := Lib.hid (HE g w.heap.size a n c an nn cn N _ s [] _ h2 hnn ⟨by omega, by omega⟩)
  have F2 := Lib.hid (Fr.of g1 (Nat.le_refl _) : Fr w.heap.size g w _)
  clear HE h hN hne h1 h2 g1 hbl
  (try dsimp only at HC)
  generalize (pAll W E N 41).2 s = r at *
  obtain ⟨code, s2⟩ := r
  go_enter Try.func32, Try.ntmps32
  go_wp2_with fail
  refine HC.out.mono ?_
  rintro e w2 (⟨hb, rfl, ⟨a2, n2, c2, cv2, D, h2, sm⟩, f2⟩ | ⟨hb, rfl, f2⟩)
  rotate_left
  · exact ⟨rfl, .inr ⟨hb, rfl, (F2.out.trans f2).whole⟩⟩
  rw [List.nil_append] at h2
  obtain ⟨q0, q1, q2, q3, q4⟩ := h2.rw.cells
  have H2 := Lib.hid h2
  have G2 := Lib.hid (F2.out.trans f2).whole
  have SM := Lib.hid sm
  have HB := Lib.hid hb
  clear h2 f2 sm F2 HC hb
  go_wp2
  go_ret
  exact .inl ⟨HB.out, ⟨a2, n2, c2, cv2, D, rfl, H2.out.rw, H2.out.mine, SM.out, H2.out.thin, H2.out.few⟩, G2.out⟩
end Go.Proofs.Ythblmpkdcahmkaa

/-
  Package parse: the reader's outs.
-/
namespace Go.Proofs.Ythblmpkdcahmkaa
open Go.WideShapes Go.RowKit Go.Deep

section
variable {w w' : World} {g : Nat}
theorem nds_past_only {x : Option Addr} {k m : Nat} {L : List Nd} (h : Nds w x k m L) (ho : Only isNode w (.slice (some ⟨g, 0, none⟩) 1 1)) (hg : w.grownBy w' (some g)) (hf : ∀ b off, x = some ⟨b, off, none⟩ → g < b) : Nds w' x k m L := by
  refine ⟨⟨h.1.1, h.1.2.1, h.1.2.2.1, h.1.2.2.2.1, h.1.2.2.2.2.imp id fun ⟨b, off, e, hc⟩ => ⟨b, off, e, fun j y hj i u hu => ?_⟩⟩, fun y hy => ndK.aside (v := .slice (some ⟨g, 0, none⟩) 1 1) (h.2 y hy) ho hg⟩
  have h1 := hc j y hj i u hu
  have hlt : b < w.heap.size := by
    rcases Nat.lt_or_ge b w.heap.size with h9 | h9
    · exact h9
    · rw [World.cell?, Array.getElem?_eq_none h9] at h1; cases h1
  rw [World.cell?_of_block (a := ⟨b, _, none⟩) (hg.block b hlt (fun e2 => by have := hf b off e; have := Option.some.inj e2; omega))]
  exact h1
theorem outs_past_only {T : TypeId} {base : Nat} {v : Value} {X : List Sn} (h : snK.Mine w base T v X) (ho : Only isNode w (.slice (some ⟨g, 0, none⟩) 1 1)) (hg : w.grownBy w' (some g)) (hb : g < base) (hf : FarS g X) : snK.Mine w' base T v X :=
  ⟨h.1.beside hg (fun k hk e => by have := h.1.base k hk; have := Option.some.inj e; omega), fun x hx => nds_past_only (h.2 x hx) ho hg (hf x hx)⟩
end
theorem pOuts_bad {W : List Lw} {ex : Ps → List Np × Ps} {s : Ps} (hb : 0 ≤ s.bad) : ∀ (m : Nat) (O : List (List Np)), pOuts W ex m O s = (O, s)
  | 0, O => rfl
  | m + 1, O => by rw [pOuts, if_neg (sees_no hb)]
theorem pOuts_none {W : List Lw} {ex : Ps → List Np × Ps} {s : Ps} (hb : ¬ pSees W s [44] = true) : ∀ (m : Nat) (O : List (List Np)), pOuts W ex m O s = (O, s)
  | 0, O => rfl
  | m + 1, O => by rw [pOuts, if_neg hb]
/-- All the outs. -/
def pOutsAll (W : List Lw) (E : Nat) (N : List (List UInt8)) (s : Ps) : List (List Np) × Ps :=
  let ex := (pAll W E N 41).2
  let r := ex (pMust W E [91] s)
  let o := pOuts W ex W.length [r.1] r.2
  (o.1, pMust W E [93] o.2)
/-- Outs come back; or the panic. -/
def OutsP (R Sl F : TypeId) (g : Nat) (W : List Lw) (E : Nat) (nv : Value) (r : List (List Np) × Ps) (w : World) (e : Ending) (w' : World) : Prop :=
  (r.2.bad < 0 ∧ (∃ a n c cv v O, e = .returned v ∧ RW R w' g a n c W E nv cv r.2 ∧ snK.Mine w' w.heap.size Sl v O ∧ O.map Sn.sem = r.1 ∧ (∀ x ∈ O, x.n ≤ 100000 ∧ thinN 20 x.L) ∧ FarS g O) ∧ w.grownBy w' (some g)) ∨ (0 ≤ r.2.bad ∧ e = badP F r.2.bad ∧ w.grownBy w' (some g))
theorem infoOut18p : (Try.prog.info? 42).map (fun i => (i.zero, i.size, i.bytes)) = some (some (.slice none 0 0), 1, 24) := by kernel_rfl
set_option maxRecDepth 4096 in
set_option maxHeartbeats 16000000 in
theorem parse_outs (W : List Lw) (hW : ∀ x ∈ W, Wk x) (hlen : W.length ≤ 100000) (E : Nat) (g : Nat) (a : Option Addr) (n c : Nat) (an : Option Addr) (nn cn : Nat) (N : List (List UInt8)) (cv : Value) (s0 : Ps) (w : World) (h : RW 77 w g a n c W E (.slice an nn cn) cv s0)
    (hN : stC.Has w an nn cn N) (hne : ∀ b off, an = some ⟨b, off, none⟩ → 0 < nn → b ≠ g) (hnn : nn ≤ 5000) (hd : s0.deep = 0) :
    Calls Try.prog 25 #[.pointer (some ⟨g, 0, none⟩)] w (OutsP 77 42 28 g W E (.slice an nn cn) (pOutsAll W E N s0) w) := by
  have hA := sn_at Try.underlying24 infoOut18p
  have hgl := h.lt
  have hbl : ∀ bb off, an = some ⟨bb, off, none⟩ → 0 < nn → bb < w.heap.size ∧ bb ≠ g := fun bb off e hn => by
    refine ⟨?_, hne bb off e hn⟩
    obtain ⟨b2, off2, e2, hc⟩ := hN.at hn
    rw [e] at e2
    obtain ⟨rfl, rfl, _⟩ := Addr.mk.inj (Option.some.inj e2)
    have hl := hN.len
    have h9 := hc 0 (N[0]'(by omega)) (List.getElem?_eq_getElem _) 0 _ rfl
    rcases Nat.lt_or_ge bb w.heap.size with h8 | h8
    · exact h8
    · rw [World.cell?, Array.getElem?_eq_none h8] at h9; cases h9
  have HWh := Lib.hid (fun (a : Option Addr) (n c : Nat) (cv : Value) (s : Ps) (w1 : World) (h1 : RW 77 w1 g a n c W E (.slice an nn cn) cv s) (hf : Fr w.heap.size g w w1) (hd : s.deep = 0) => parse_whole W hW hlen E g a n c an nn cn N cv s w1 h1 (RD.names_stay hN hbl hf) hne hnn hd)
  have HM0 := Lib.hid (parse_must g a n c W E _ cv s0 [91] (by decide) w h)
  clear hW hN hne h hbl
  obtain ⟨R, hR⟩ : ∃ R, pOutsAll W E N s0 = R := ⟨_, rfl⟩
  rw [hR]
  unfold pOutsAll at hR
  have HF := Lib.hid (pAll_fine W E N 41).2
  (try dsimp only at HWh)
  generalize (pAll W E N 41).2 = ex at *
  (try dsimp only at hR)
  have d0 := (pMust_on W E [91]).deep s0
  have l0 : (pMust W E [91] s0).bad < 0 → (pMust W E [91] s0).i = s0.i + 1 := fun h9 => by
    unfold pMust at h9 ⊢
    by_cases hs : pSees W s0 [91] = true
    · rw [if_pos hs]
    · rw [if_neg hs] at h9
      have := (pBad_i W E s0).2.2.1
      omega
  generalize pMust W E [91] s0 = s1 at *
  have d1 := HF.out.deep s1
  have d2 := HF.out.len s1
  have d3 := HF.out.stays s1
  have HW1 := Lib.hid (fun (a : Option Addr) (n c : Nat) (cv : Value) (w1 : World) (h1 : RW 77 w1 g a n c W E (.slice an nn cn) cv s1) (hf : Fr w.heap.size g w w1) => HWh.out a n c cv s1 w1 h1 hf (by omega))
  (try dsimp only at HW1)
  generalize ex s1 = r1 at *
  obtain ⟨cd1, s2⟩ := r1
  (try dsimp only at d1)
  (try dsimp only at d2)
  (try dsimp only at d3)
  (try dsimp only at hR)
  obtain ⟨Ro, hRo⟩ : ∃ Ro, pOuts W ex W.length [cd1] s2 = Ro := ⟨_, rfl⟩
  rw [hRo] at hR
  have HRo := Lib.hid hRo
  have HRr := Lib.hid hR
  have D3 := Lib.hid d3
  have L0 := Lib.hid l0
  have HMs := Lib.hid (pMust_on W E [93]).stays
  have hds1 : s1.deep = 0 := by omega
  have hds2 : s2.deep = 0 := by omega
  clear hR hRo d3 l0 d0 d1
  go_enter Try.func25, Try.ntmps25
  go_wp2_with fail
  refine HM0.out.mono ?_
  rintro e w1 (⟨hb, rfl, ⟨a1, n1, c1, r1⟩, g1⟩ | ⟨hb, rfl, g1⟩)
  rotate_left
  · have z2 := D3.out hb
    have zo := HRo.out
    rw [pOuts_bad (by omega)] at zo
    exact ⟨rfl, .inr ⟨by rw [← HRr.out, ← zo]; dsimp only; rw [HMs.out _ (by omega)]; omega, by rw [← HRr.out, ← zo]; dsimp only; rw [HMs.out _ (by omega), z2]; rfl, g1⟩⟩
  have F1 := Lib.hid (Fr.of g1 (Nat.le_refl _) : Fr w.heap.size g w w1)
  have O1 := Lib.hid r1.only
  have HW2 := Lib.hid (HW1.out _ _ _ _ _ r1 F1.out)
  have hi1 := L0.out hb
  have hsz1 := g1.size
  clear r1 g1 HM0 hb
  go_wp2_with fail
  refine HW2.out.mono ?_
  rintro e w2 (⟨hb, ⟨a2, n2, c2, v2, L2, rfl, r2, m2, sm, th, fw⟩, g2⟩ | ⟨hb, rfl, g2⟩)
  rotate_left
  · have zo := HRo.out
    rw [pOuts_bad hb] at zo
    exact ⟨rfl, .inr ⟨by rw [← HRr.out, ← zo]; dsimp only; rw [HMs.out _ hb]; exact hb, by rw [← HRr.out, ← zo]; dsimp only; rw [HMs.out _ hb]; rfl, (F1.out.trans (Fr.of g2 hsz1)).whole⟩⟩
  have F2 := Lib.hid (F1.out.trans (Fr.of g2 hsz1))
  have hsz2 := Nat.le_trans hsz1 g2.size
  obtain ⟨a9, c9, hv9, hn9⟩ := m2.slice
  subst hv9
  have hfar := mine_far m2
  have b3 := below_alloc w2 (.cells #[.slice a9 L2.length c9] 42)
  have M3 : Hid (snK.Mine (w2.alloc (.cells #[.slice a9 L2.length c9] 42)) w.heap.size 42 (.slice (some ⟨w2.heap.size, 0, none⟩) 1 1) [⟨a9, L2.length, c9, L2⟩]) := Lib.hid ((Kin.Mine.lit1 (K := snK) w2 42 ⟨a9, L2.length, c9, L2⟩ hn9).low hsz2)
  have R3 := Lib.hid (r2.later b3)
  have F3 := Lib.hid (F2.out.trans (Fr.below b3 hsz2))
  have SM3 : Hid (L2.map Nd.sem = cd1) := Lib.hid sm
  have TH3 := Lib.hid th
  have hwi := r2.within
  have FS3 : Hid (FarS g [⟨a9, L2.length, c9, L2⟩]) := Lib.hid (farS_snoc (farS_nil g) (fun b off e => by have := hfar b off e; omega))
  (try dsimp only at hwi)
  (try dsimp only at fw)
  clear r2 g2 m2 sm th hn9 hfar b3 HW2 F1 F2 hb O1
  go_wp2
  go_loopw [3] (fun v wr => ∃ (m : Nat) (o : List (List Np)) (O : List Sn) (s : Ps) (a : Option Addr) (n c : Nat) (cv : Value), Hid (snK.Mine wr w.heap.size 42 v O) ∧ Hid (O.map Sn.sem = o) ∧ Hid (∀ x ∈ O, x.n ≤ 100000 ∧ thinN 20 x.L) ∧ Hid (FarS g O) ∧ Hid (RW 77 wr g a n c W E (.slice an nn cn) cv s) ∧ Hid (Fr w.heap.size g w wr) ∧ Hid (pOuts W ex m o s = Ro) ∧ W.length ≤ s.i + m ∧ s.deep = 0 ∧ O.length ≤ s.i ∧ w.heap.size ≤ wr.heap.size) (fun _ wr => heldN wr g)
  case atStart => exact ⟨W.length, [cd1], _, s2, a2, n2, c2, _, M3, Lib.hid (by rw [← SM3.out]; rfl), Lib.hid (fun x hx => by rw [List.mem_singleton.1 hx]; exact ⟨by dsimp only; omega, TH3.out⟩), FS3, R3, F3, HRo, by omega, hds2, by simp; omega, by simp; omega⟩
  case round =>
    clear M3 R3 F3 SM3 TH3 FS3 HRo HW1 D3 L0
    obtain ⟨m, o, O, s, a, n, c, cv, HO, HSm, HTh, HFs, HP, HFr, HMn, hb1, hb2, hb3, hb4⟩ := hrel
    replace HMn := HMn.out
    have HPh := Lib.hid HP.out.held
    have hln := HP.out.len
    have hwi2 := HP.out.within
    have HS := Lib.hid (parse_sees1 g a n c W E _ cv s [44] (by decide) wr HP.out)
    by_cases hx : pSees W s [44] = true
    · have hi : s.i < W.length := (pSees_i W hx).2
      obtain ⟨m, rfl⟩ : ∃ m', m = m' + 1 := ⟨m - 1, by omega⟩
      rw [pOuts, if_pos hx] at HMn
      rw [hx] at HS
      have HT := Lib.hid (fun (w2 : World) (h2 : RW 77 w2 g a n c W E (.slice an nn cn) cv s) => parse_take g a n c W E _ cv s w2 h2 hi)
      (try dsimp only at HMn)
      have d1 := HF.out.deep { s with i := s.i + 1 }
      have d3 := HF.out.len { s with i := s.i + 1 }
      have HCl := Lib.hid (fun (a : Option Addr) (n c : Nat) (cv : Value) (w1 : World) (h1 : RW 77 w1 g a n c W E (.slice an nn cn) cv { s with i := s.i + 1 }) (hf : Fr w.heap.size g w w1) => HWh.out a n c cv { s with i := s.i + 1 } w1 h1 hf (by dsimp only; omega))
      (try dsimp only at HCl)
      generalize ex { s with i := s.i + 1 } = r1 at *
      obtain ⟨code, s2⟩ := r1
      (try dsimp only at d1)
      (try dsimp only at d3)
      (try dsimp only at HMn)
      have HMn2 := Lib.hid HMn
      clear hx HMn
      go_wp2_with fail
      refine HS.out.mono ?_
      rintro e w2 ⟨rfl, b2⟩
      have H2 := Lib.hid (HP.out.later b2)
      have HT2 := Lib.hid (HT.out _ H2.out)
      have HO2 := Lib.hid (Kin.Mine.later HO.out b2)
      have F2 := Lib.hid (HFr.out.trans (Fr.below b2 hb4))
      have hs2 := Nat.le_trans hb4 b2.size
      clear b2 HS HP HFr HT HO
      go_wp2_with fail
      refine HT2.out.mono ?_
      rintro e w3 ⟨rfl, ⟨a3, n3, c3, r3⟩, g3⟩
      have HO3 := Lib.hid (outs_past_only HO2.out H2.out.only g3 hgl HFs.out)
      have F3 := Lib.hid (F2.out.trans (Fr.of g3 hs2))
      have hs3 := Nat.le_trans hs2 g3.size
      have HC3 := Lib.hid (HCl.out _ _ _ _ _ r3 F3.out)
      have O3 := Lib.hid r3.only
      clear r3 g3 HT2 H2 F2 HO2 HCl
      go_wp2_with fail
      refine HC3.out.mono ?_
      rintro e w5 (⟨hb, ⟨a5, n5, c5, v5, L5, rfl, r5, m5, sm, th, fw⟩, g5⟩ | ⟨hb, rfl, g5⟩)
      rotate_left
      · have zo := HMn2.out
        rw [pOuts_bad hb] at zo
        exact ⟨rfl, .inr ⟨by rw [← HRr.out, ← zo]; dsimp only; rw [HMs.out _ hb]; exact hb, by rw [← HRr.out, ← zo]; dsimp only; rw [HMs.out _ hb]; rfl, (F3.out.trans (Fr.of g5 hs3)).whole⟩⟩
      have HO5 := Lib.hid (outs_past_only HO3.out O3.out g5 hgl HFs.out)
      have F5 := Lib.hid (F3.out.trans (Fr.of g5 hs3))
      have hs5 := Nat.le_trans hs3 g5.size
      obtain ⟨a9, c9, hv9, hn9⟩ := m5.slice
      subst hv9
      have hfar := mine_far m5
      have HFs6 : Hid (FarS g (O ++ [⟨a9, L5.length, c9, L5⟩])) := Lib.hid (farS_snoc HFs.out (fun b off e => by have := hfar b off e; omega))
      have N5 := Lib.hid hn9
      have SM5 : Hid (L5.map Nd.sem = code) := Lib.hid sm
      have TH5 := Lib.hid th
      have H5 := Lib.hid r5
      have hwi5 := r5.within
      (try dsimp only at hwi5)
      (try dsimp only at fw)
      have hol : O.length ≤ 100000 := by omega
      clear r5 g5 m5 sm th hn9 hfar HC3 F3 HO3 O3 hb
      go_wp2_with (at_builtin; refine Kin.wpList_append hA rfl _ _ rfl w.heap.size _ O rfl (Kin.Mine.later HO5.out (below_alloc _ _)) ⟨_, 0, none⟩ 1 1 [⟨a9, L5.length, c9, L5⟩] rfl rfl (sn_news_at _ ⟨a9, L5.length, c9, L5⟩ _ rfl) (fun y hy => by rw [List.mem_singleton.1 hy]; exact Kin.All.later N5.out (below_alloc _ _)) (by unfold maxLen; omega) (by show (O.length + 1) * 24 ≤ _; omega) (by rw [blk_size]; omega) ?_)
      intro v6 w6 hrow hgrow hnew
      have HO6 := Lib.hid hrow
      have H6 := Lib.hid ((H5.out.later (below_alloc w5 _)).stay hgrow (fun k hk => by have := HO5.out.1.base k hk; omega))
      have F6 := Lib.hid (F5.out.trans ((Fr.below (below_alloc w5 _) hs5).trans (Fr.row hgrow (by rw [blk_size]; omega) HO5.out.1.base)))
      have hs6 : w.heap.size ≤ w6.heap.size := by have := hgrow.size; rw [blk_size] at this; omega
      have hln6 := H6.out.len
      clear hrow hgrow hnew HO5 H5 F5 N5
      go_wp2
      go_roundw
      case rel => exact ⟨m, o ++ [code], _, s2, a5, n5, c5, _, HO6, Lib.hid (by rw [List.map_append, HSm.out, ← SM5.out]; rfl), Lib.hid (outs_thin HTh.out (by dsimp only; omega) TH5.out), HFs6, H6, F6, HMn2, by omega, by omega, by rw [List.length_append, List.length_singleton]; omega, hs6⟩
      case measure => rw [H6.out.held, HPh.out]; omega
    · have hR3 : (o, s) = Ro := by rw [← HMn, pOuts_none hx]
      rw [Bool.not_eq_true] at hx
      rw [hx] at HS
      have HM := Lib.hid (fun (w2 : World) (h2 : RW 77 w2 g a n c W E (.slice an nn cn) cv s) => parse_must g a n c W E _ cv s [93] (by decide) w2 h2)
      have HRr2 : Hid ((o, pMust W E [93] s) = R) := Lib.hid (by rw [← HRr.out, ← hR3])
      generalize pMust W E [93] s = s9 at *
      clear hR3 HMn hx
      go_wp2_with fail
      refine HS.out.mono ?_
      rintro e w2 ⟨rfl, b2⟩
      have H2 := Lib.hid (HP.out.later b2)
      have HM2 := Lib.hid (HM.out _ H2.out)
      have HO2 := Lib.hid (Kin.Mine.later HO.out b2)
      have F2 := Lib.hid (HFr.out.trans (Fr.below b2 hb4))
      have hs2 := Nat.le_trans hb4 b2.size
      clear b2 HS HP HFr HM HO
      go_wp2_with fail
      refine HM2.out.mono ?_
      rintro e w3 (⟨hb, rfl, ⟨a3, n3, c3, r3⟩, g3⟩ | ⟨hb, rfl, g3⟩)
      rotate_left
      · exact ⟨rfl, .inr ⟨by rw [← HRr2.out]; exact hb, by rw [← HRr2.out]; rfl, (F2.out.trans (Fr.of g3 hs2)).whole⟩⟩
      have HO3 := Lib.hid (outs_past_only HO2.out H2.out.only g3 hgl HFs.out)
      have F3 := Lib.hid (F2.out.trans (Fr.of g3 hs2))
      have R3 := Lib.hid r3
      have HB := Lib.hid hb
      clear r3 g3 hb HM2 H2 HO2 F2
      go_wp2
      go_ret
      rw [← HRr2.out]
      exact .inl ⟨HB.out, ⟨a3, n3, c3, cv, _, O, rfl, R3.out, HO3.out, HSm.out, HTh.out, HFs.out⟩, F3.out.whole⟩
end Go.Proofs.Ythblmpkdcahmkaa

/-
  Package parse: the reader's lets.
-/
namespace Go.Proofs.Ythblmpkdcahmkaa
open Go.WideShapes Go.RowKit Go.Deep

theorem pLets_bad {W : List Lw} {E : Nat} {s : Ps} (hb : ¬ pSees W s [108, 101, 116] = true) : ∀ (m : Nat) (M : List (List UInt8)) (K : List (List UInt8 × List Np)), pLets W E m M K s = (K, M, s, false)
  | 0, M, K => rfl
  | m + 1, M, K => by rw [pLets, if_neg hb]
/-- Lets come back, the names with them; or the panic. -/
def LetsP (R Lt' St F : TypeId) (g : Nat) (W : List Lw) (E : Nat) (r : List (List UInt8 × List Np) × List (List UInt8) × Ps × Bool) (w : World) (e : Ending) (w' : World) : Prop :=
  (r.2.2.1.bad < 0 ∧ r.2.2.2 = false ∧ (∃ a n c nv cv v X, e = .returned v ∧ RW R w' g a n c W E nv cv r.2.2.1 ∧ stK.Mine w' w.heap.size St nv r.2.1 ∧ ltK.Mine w' w.heap.size Lt' v X ∧ X.map ltP = r.1 ∧ (∀ x ∈ X, x.n ≤ 100000 ∧ thinN 20 x.L) ∧ FarL g X ∧ r.2.2.1.deep = 0 ∧ r.2.1.length ≤ r.2.2.1.i) ∧ w.grownBy w' (some g)) ∨ (0 ≤ r.2.2.1.bad ∧ e = badP F r.2.2.1.bad ∧ w.grownBy w' (some g))
theorem infoLet18p : (Try.prog.info? 75).map (fun i => (i.zero, i.size, i.bytes)) = some (some (.agg #[.string ⟨#[]⟩, .slice none 0 0]), 2, 40) := by kernel_rfl
theorem infoName18p : (Try.prog.info? 9).map (fun i => (i.zero, i.size, i.bytes)) = some (some (.string ⟨#[]⟩), 1, 16) := by kernel_rfl
set_option maxRecDepth 4096 in
set_option maxHeartbeats 16000000 in
theorem parse_lets (W : List Lw) (hW : ∀ x ∈ W, Wk x) (hlen : W.length ≤ 4000) (E : Nat) (g : Nat) (a : Option Addr) (n c : Nat) (cv : Value) (s0 : Ps) (w : World) (h : RW 77 w g a n c W E (.slice none 0 0) cv s0) (hd : s0.deep = 0) :
    Calls Try.prog 24 #[.pointer (some ⟨g, 0, none⟩)] w (LetsP 77 75 9 28 g W E (pLets W E W.length [] [] s0) w) := by
  have hA1 := lt_at Try.underlying23 infoLet18p
  have hA3 := st_at Try.underlying41 infoName18p
  have ne1 : 9 ≠ 75 := by decide
  have hgl := h.lt
  have HWk := Lib.hid hW
  have H := Lib.hid h
  clear h hW
  obtain ⟨R, hR⟩ : ∃ R, pLets W E W.length [] [] s0 = R := ⟨_, rfl⟩
  rw [hR]
  have HR := Lib.hid hR
  clear hR
  go_enter Try.func24, Try.ntmps24
  go_wp2
  go_loopw [3] (fun v wr => ∃ (m : Nat) (K : List (List UInt8 × List Np)) (M : List (List UInt8)) (X : List Lt) (s : Ps) (a : Option Addr) (n c : Nat) (nv cv : Value), Hid (ltK.Mine wr w.heap.size 75 v X) ∧ Hid (X.map ltP = K) ∧ Hid (∀ x ∈ X, x.n ≤ 100000 ∧ thinN 20 x.L) ∧ Hid (FarL g X) ∧ Hid (stK.Mine wr w.heap.size 9 nv M) ∧ Hid (RW 77 wr g a n c W E nv cv s) ∧ Hid (Fr w.heap.size g w wr) ∧ Hid (pLets W E m M K s = R) ∧ W.length ≤ s.i + m ∧ s.deep = 0 ∧ X.length ≤ s.i ∧ M.length ≤ s.i ∧ w.heap.size ≤ wr.heap.size) (fun _ wr => heldN wr g)
  case atStart => exact ⟨W.length, [], [], [], s0, a, n, c, _, cv, Lib.hid (Kin.Mine.nil _ _ _), Lib.hid rfl, Lib.hid (fun x hx => (by cases hx)), Lib.hid (farL_nil g), Lib.hid (Kin.Mine.nil _ _ _), H, Lib.hid (Fr.refl _ _ _), HR, by omega, hd, Nat.zero_le _, Nat.zero_le _, Nat.le_refl _⟩
  case round =>
    clear H HR
    obtain ⟨m, K, M, X, s, a, n, c, nv, cv, HL, HSm, HTh, HFs, HNm, HP, HFr, HMn, hb1, hb2, hb3, hb4, hb5⟩ := hrel
    replace HMn := HMn.out
    have HPh := Lib.hid HP.out.held
    have hln := HP.out.len
    have hwi2 := HP.out.within
    have HS := Lib.hid (parse_sees1 g a n c W E _ cv s [108, 101, 116] (by decide) wr HP.out)
    by_cases hx : pSees W s [108, 101, 116] = true
    · have hi : s.i < W.length := (pSees_i W hx).2
      obtain ⟨m, rfl⟩ : ∃ m', m = m' + 1 := ⟨m - 1, by omega⟩
      rw [pLets, if_pos hx] at HMn
      rw [hx] at HS
      obtain ⟨an, cn, hnv, hnA⟩ := HNm.out.slice
      have hfn := HNm.out
      rw [hnv] at hfn
      have hnf := mine_far hfn
      have HT := Lib.hid (fun (w2 : World) (h2 : RW 77 w2 g a n c W E nv cv s) => parse_take g a n c W E _ cv s w2 h2 hi)
      have hbb : (⟨s.i + 1, s.deep, s.bad⟩ : Ps).bad < 0 := (pSees_i W hx).1
      have HNa := Lib.hid (fun (a : Option Addr) (n c : Nat) (w2 : World) (h2 : RW 77 w2 g a n c W E nv cv { s with i := s.i + 1 }) => parse_name g a n c W E nv cv { s with i := s.i + 1 } w2 h2)
      clear hfn hnA
      by_cases hfr : pFree W { s with i := s.i + 1 } = true
      · rw [if_pos hfr] at HMn
        rw [if_pos hfr] at HNa
        (try dsimp only at HMn)
        (try dsimp only at HNa)
        generalize pText W { s with i := s.i + 1 } = t at *
        have HM3 := Lib.hid (fun (a : Option Addr) (n c : Nat) (w2 : World) (h2 : RW 77 w2 g a n c W E nv cv ⟨s.i + 1 + 1, s.deep, s.bad⟩) => parse_must g a n c W E nv cv ⟨s.i + 1 + 1, s.deep, s.bad⟩ [61] (by decide) w2 h2)
        have m1 := (pMust_on W E [61]).len ⟨s.i + 1 + 1, s.deep, s.bad⟩
        have m2 := (pMust_on W E [61]).deep ⟨s.i + 1 + 1, s.deep, s.bad⟩
        generalize pMust W E [61] ⟨s.i + 1 + 1, s.deep, s.bad⟩ = s3 at *
        have HWh := Lib.hid (fun (a : Option Addr) (n c : Nat) (w1 : World) (h1 : RW 77 w1 g a n c W E nv cv s3) (hN : stC.Has w1 an M.length cn M) => parse_whole W HWk.out (by omega) E g a n c an M.length cn M cv s3 w1 (by rw [← hnv]; exact h1) hN (fun b off e _ => by have := hnf b off e; omega) (by omega) (by rw [m2]; exact hb2))
        have HF := Lib.hid (pAll_fine W E M 41).2
        (try dsimp only at HWh)
        generalize (pAll W E M 41).2 = ex at *
        have d1 := HF.out.deep s3
        have d2 := HF.out.len s3
        have d3 := HF.out.stays s3
        generalize ex s3 = r4 at *
        obtain ⟨code, s4⟩ := r4
        (try dsimp only at d1)
        (try dsimp only at d2)
        (try dsimp only at d3)
        (try dsimp only at HMn)
        (try dsimp only at m1)
        (try dsimp only at m2)
        have HM5 := Lib.hid (fun (a : Option Addr) (n c : Nat) (cv : Value) (w2 : World) (h2 : RW 77 w2 g a n c W E nv cv s4) => parse_must g a n c W E nv cv s4 [59] (by decide) w2 h2)
        have k1 := (pMust_on W E [59]).len s4
        have k2 := (pMust_on W E [59]).deep s4
        have k3 := (pMust_on W E [59]).stays s4
        generalize pMust W E [59] s4 = s5 at *
        have D3 := Lib.hid d3
        have K3 := Lib.hid k3
        have HMn2 := Lib.hid HMn
        have HNV := Lib.hid hnv
        have hds : s5.deep = 0 := by omega
        have HSl : isSlice nv := ⟨_, _, _, hnv⟩
        have HSL := Lib.hid HSl
        clear hx HMn hfr d3 k3 d1 m2 k2 hnv HSl
        go_wp2_with fail
        refine HS.out.mono ?_
        rintro e w2 ⟨rfl, b2⟩
        have H2 := Lib.hid (HP.out.later b2)
        have HT2 := Lib.hid (HT.out _ H2.out)
        have HL2 := Lib.hid (Kin.Mine.later HL.out b2)
        have HN2 := Lib.hid (Kin.Mine.later HNm.out b2)
        have F2 := Lib.hid (HFr.out.trans (Fr.below b2 hb5))
        have hs2 := Nat.le_trans hb5 b2.size
        clear b2 HS HP HFr HT HL HNm
        go_wp2_with fail
        refine HT2.out.mono ?_
        rintro e w3 ⟨rfl, ⟨a3, n3, c3, r3⟩, g3⟩
        have HL3 := Lib.hid (lets_past_only HL2.out H2.out.only g3 hgl HFs.out)
        have HN3 : Hid (stK.Mine w3 w.heap.size 9 nv M) := Lib.hid ⟨HN2.out.1.beside g3 (fun k hk e => by have := HN2.out.1.base k hk; have := Option.some.inj e; omega), fun _ _ => trivial⟩
        have F3 := Lib.hid (F2.out.trans (Fr.of g3 hs2))
        have hs3 := Nat.le_trans hs2 g3.size
        have HC3 := Lib.hid (HNa.out _ _ _ _ r3)
        have O3 := Lib.hid r3.only
        clear r3 g3 HT2 H2 F2 HL2 HN2 HNa
        go_wp2_with fail
        refine HC3.out.mono ?_
        rintro e w4 (⟨hb, rfl, ⟨a4, n4, c4, r4⟩, g4⟩ | ⟨hb, rfl, g4⟩)
        rotate_left
        · exact absurd hb (by dsimp only; omega)
        have HL4 := Lib.hid (lets_past_only HL3.out O3.out g4 hgl HFs.out)
        have HN4 : Hid (stK.Mine w4 w.heap.size 9 nv M) := Lib.hid ⟨HN3.out.1.beside g4 (fun k hk e => by have := HN3.out.1.base k hk; have := Option.some.inj e; omega), fun _ _ => trivial⟩
        have F4 := Lib.hid (F3.out.trans (Fr.of g4 hs3))
        have hs4 := Nat.le_trans hs3 g4.size
        have HC4 := Lib.hid (HM3.out _ _ _ _ r4)
        have O4 := Lib.hid r4.only
        clear r4 g4 HC3 F3 HL3 HN3 O3 HM3 hb
        go_wp2_with fail
        refine HC4.out.mono ?_
        rintro e w5 (⟨hb, rfl, ⟨a5, n5, c5, r5⟩, g5⟩ | ⟨hb, rfl, g5⟩)
        rotate_left
        · have z4 := D3.out hb
          have z5 := K3.out (by omega)
          have zo := HMn2.out
          rw [pLets_bad (sees_no (by omega))] at zo
          exact ⟨rfl, .inr ⟨by rw [← zo]; dsimp only; omega, by rw [← zo]; dsimp only; rw [z5, z4]; rfl, (F4.out.trans (Fr.of g5 hs4)).whole⟩⟩
        have HL5 := Lib.hid (lets_past_only HL4.out O4.out g5 hgl HFs.out)
        have HN5 : Hid (stK.Mine w5 w.heap.size 9 nv M) := Lib.hid ⟨HN4.out.1.beside g5 (fun k hk e => by have := HN4.out.1.base k hk; have := Option.some.inj e; omega), fun _ _ => trivial⟩
        have F5 := Lib.hid (F4.out.trans (Fr.of g5 hs4))
        have hs5 := Nat.le_trans hs4 g5.size
        have hN5 : stC.Has w5 an M.length cn M := by
          obtain ⟨an', cn', e', h'⟩ := HN5.out.slice
          rw [HNV.out] at e'
          simp only [Value.slice.injEq, true_and] at e'
          obtain ⟨rfl, rfl⟩ := e'
          exact h'.1
        have HC5 := Lib.hid (HWh.out _ _ _ _ r5 hN5)
        have O5 := Lib.hid r5.only
        clear r5 g5 HC4 F4 HL4 HN4 O4 HWh hb hN5
        go_wp2_with fail
        refine HC5.out.mono ?_
        rintro e w6 (⟨hb, ⟨a6, n6, c6, v6, L6, rfl, r6, m6, sm, th, fw⟩, g6⟩ | ⟨hb, rfl, g6⟩)
        rotate_left
        · have z5 := K3.out hb
          have zo := HMn2.out
          rw [pLets_bad (sees_no (by rw [z5]; exact hb))] at zo
          exact ⟨rfl, .inr ⟨by rw [← zo]; dsimp only; rw [z5]; exact hb, by rw [← zo]; dsimp only; rw [z5]; rfl, (F5.out.trans (Fr.of g6 hs5)).whole⟩⟩
        rw [← HNV.out] at r6
        have HL6 := Lib.hid (lets_past_only HL5.out O5.out g6 hgl HFs.out)
        have HN6 : Hid (stK.Mine w6 w.heap.size 9 nv M) := Lib.hid ⟨HN5.out.1.beside g6 (fun k hk e => by have := HN5.out.1.base k hk; have := Option.some.inj e; omega), fun _ _ => trivial⟩
        have F6 := Lib.hid (F5.out.trans (Fr.of g6 hs5))
        have hs6 := Nat.le_trans hs5 g6.size
        obtain ⟨a9, c9, hv9, hn9⟩ := m6.slice
        subst hv9
        have hfar := mine_far m6
        have hfar9 : ∀ b off, a9 = some ⟨b, off, none⟩ → g < b := fun b off e => by have := hfar b off e; omega
        have HFs9 : Hid (FarL g (X ++ [⟨t, a9, L6.length, c9, L6⟩])) := Lib.hid (farL_snoc HFs.out hfar9)
        have N6 := Lib.hid hn9
        have SM6 : Hid (L6.map Nd.sem = code) := Lib.hid sm
        have TH6 := Lib.hid th
        have HC6 := Lib.hid (HM5.out _ _ _ _ _ r6)
        have O6 := Lib.hid r6.only
        have hwi6 := r6.within
        (try dsimp only at hwi6)
        (try dsimp only at fw)
        clear r6 g6 m6 sm th hn9 hfar HC5 F5 HL5 HN5 O5 HM5 hb
        go_wp2_with fail
        refine HC6.out.mono ?_
        rintro e w7 (⟨hb, rfl, ⟨a7, n7, c7, r7⟩, g7⟩ | ⟨hb, rfl, g7⟩)
        rotate_left
        · have zo := HMn2.out
          rw [pLets_bad (sees_no hb)] at zo
          exact ⟨rfl, .inr ⟨by rw [← zo]; exact hb, by rw [← zo]; rfl, (F6.out.trans (Fr.of g7 hs6)).whole⟩⟩
        have HL7 := Lib.hid (lets_past_only HL6.out O6.out g7 hgl HFs.out)
        have HN7 : Hid (stK.Mine w7 w.heap.size 9 nv M) := Lib.hid ⟨HN6.out.1.beside g7 (fun k hk e => by have := HN6.out.1.base k hk; have := Option.some.inj e; omega), fun _ _ => trivial⟩
        have N7 := Lib.hid (nds_past_only N6.out O6.out g7 hfar9)
        have F7 := Lib.hid (F6.out.trans (Fr.of g7 hs6))
        have hs7 := Nat.le_trans hs6 g7.size
        have H7 := Lib.hid r7
        have hol : X.length ≤ 100000 := by omega
        have hml : M.length ≤ 100000 := by omega
        clear r7 g7 HC6 F6 HL6 HN6 N6 O6 hb
        go_wp2_with (at_builtin; refine Kin.wpList_append hA1 rfl _ _ rfl w.heap.size _ X rfl (Kin.Mine.later HL7.out (below_alloc _ _)) ⟨_, 0, none⟩ 1 1 [⟨t, a9, L6.length, c9, L6⟩] rfl rfl (lt_news_at _ ⟨t, a9, L6.length, c9, L6⟩ _ rfl) (fun y hy => by rw [List.mem_singleton.1 hy]; exact Kin.All.later N7.out (below_alloc _ _)) (by unfold maxLen; omega) (by show (X.length + 1) * 40 ≤ _; omega) (by rw [blk_size]; omega) ?_)
        intro v8 w8 hrow hgrow hnew
        have HL8 := Lib.hid hrow
        have H8 := Lib.hid ((H7.out.later (below_alloc w7 _)).stay hgrow (fun k hk => by have := HL7.out.1.base k hk; omega))
        have HN8 := Lib.hid (names_keep (Kin.Mine.later HN7.out (below_alloc w7 _)) (Kin.Mine.later HL7.out (below_alloc w7 _)) hgrow ne1)
        have F8 := Lib.hid (F7.out.trans ((Fr.below (below_alloc w7 _) hs7).trans (Fr.row hgrow (by rw [blk_size]; omega) HL7.out.1.base)))
        have hs8 : w.heap.size ≤ w8.heap.size := by have := hgrow.size; rw [blk_size] at this; omega
        have q3 := H8.out.cells.2.2.2.1
        clear hrow hgrow hnew HL7 H7 F7 N7 HN7
        go_wp2_with (at_builtin; refine Kin.wpList_append hA3 rfl _ _ rfl w.heap.size _ M rfl (Kin.Mine.later HN8.out (below_alloc _ _)) ⟨_, 0, none⟩ 1 1 [t] rfl rfl (st_news _ t _ rfl) (fun _ _ => trivial) (by unfold maxLen; omega) (by show (M.length + 1) * 16 ≤ _; omega) (by rw [blk_size]; omega) ?_)
        intro v9 w9 hrow hgrow hnew
        have H9 := Lib.hid ((H8.out.later (below_alloc w8 _)).stay hgrow (fun k hk => by have := HN8.out.1.base k hk; omega))
        have HL9 := Lib.hid (names_lets (Kin.Mine.later HL8.out (below_alloc w8 _)) (Kin.Mine.later HN8.out (below_alloc w8 _)) hgrow ne1)
        have F9 := Lib.hid (F8.out.trans ((Fr.below (below_alloc w8 _) hs8).trans (Fr.row hgrow (by rw [blk_size]; omega) HN8.out.1.base)))
        have hs9 : w.heap.size ≤ w9.heap.size := by have := hgrow.size; rw [blk_size] at this; omega
        have HN9 := Lib.hid hrow
        obtain ⟨av9, cv9, hv99, -⟩ := hrow.slice
        rw [show (M ++ [t]).length = M.length + 1 by simp] at hv99
        subst hv99
        have q9 := H9.out.cells.2.2.2.1
        have qf := H9.out.free 3
        obtain ⟨rA, gA⟩ := H9.out.set3 (nv' := .slice av9 (M.length + 1) cv9) ⟨_, _, _, rfl⟩
        have HA := Lib.hid rA
        have HLA := Lib.hid (lets_past_only HL9.out H9.out.only gA hgl HFs9.out)
        have HNA : Hid (stK.Mine _ w.heap.size 9 (.slice av9 (M.length + 1) cv9) (M ++ [t])) := Lib.hid ⟨HN9.out.1.beside gA (fun k hk e => by have := HN9.out.1.base k hk; have := Option.some.inj e; omega), fun _ _ => trivial⟩
        have FA := Lib.hid (F9.out.trans (Fr.of gA hs9))
        have hsA := Nat.le_trans hs9 gA.size
        have hlnA := rA.len
        clear hrow hgrow hnew HL8 H8 F8 HN8 rA gA H9 HL9 HN9 F9
        go_wp2
        go_roundw
        case rel => exact ⟨m, K ++ [(t, code)], M ++ [t], _, s5, a7, n7, c7, _, _, HLA, Lib.hid (by rw [List.map_append, HSm.out, ← SM6.out]; rfl), Lib.hid (lets_thin HTh.out (by dsimp only; omega) TH6.out), HFs9, HNA, HA, FA, HMn2, by omega, hds, by rw [List.length_append, List.length_singleton]; omega, by rw [List.length_append, List.length_singleton]; omega, hsA⟩
        case measure => rw [HA.out.held, HPh.out]; omega
      · rw [if_neg hfr] at HMn
        rw [if_neg hfr] at HNa
        have hbd := (pBad_i W E { s with i := s.i + 1 }).2.2.1
        have HMn2 := Lib.hid HMn
        clear hx HMn hfr hnv
        go_wp2_with fail
        refine HS.out.mono ?_
        rintro e w2 ⟨rfl, b2⟩
        have H2 := Lib.hid (HP.out.later b2)
        have HT2 := Lib.hid (HT.out _ H2.out)
        have F2 := Lib.hid (HFr.out.trans (Fr.below b2 hb5))
        have hs2 := Nat.le_trans hb5 b2.size
        clear b2 HS HP HFr HT
        go_wp2_with fail
        refine HT2.out.mono ?_
        rintro e w3 ⟨rfl, ⟨a3, n3, c3, r3⟩, g3⟩
        have F3 := Lib.hid (F2.out.trans (Fr.of g3 hs2))
        have hs3 := Nat.le_trans hs2 g3.size
        have HC3 := Lib.hid ((HNa.out _ _ _ _ r3).mono fun e w' h => h.dies hbd)
        clear r3 g3 HT2 H2 F2 HNa
        go_wp2_with fail
        refine HC3.out.mono ?_
        rintro e w4 ⟨rfl, g4⟩
        exact ⟨rfl, .inr ⟨by rw [← HMn2.out]; exact hbd, by rw [← HMn2.out]; rfl, (F3.out.trans (Fr.of g4 hs3)).whole⟩⟩
    · have hR3 : (K, M, s, false) = R := by rw [← HMn, pLets_bad hx]
      rw [Bool.not_eq_true] at hx
      rw [hx] at HS
      have HRr := Lib.hid hR3
      have HB := Lib.hid HP.out.fine
      clear hR3 HMn hx
      go_wp2_with fail
      refine HS.out.mono ?_
      rintro e w2 ⟨rfl, b2⟩
      have H2 := Lib.hid (HP.out.later b2)
      have HL2 := Lib.hid (Kin.Mine.later HL.out b2)
      have HN2 := Lib.hid (Kin.Mine.later HNm.out b2)
      have F2 := Lib.hid (HFr.out.trans (Fr.below b2 hb5))
      clear b2 HS HP HFr HL HNm
      go_wp2
      go_ret
      rw [← HRr.out]
      exact .inl ⟨HB.out, rfl, ⟨a, n, c, nv, cv, _, X, rfl, H2.out, HN2.out, HL2.out, HSm.out, HTh.out, HFs.out, hb2, hb4⟩, F2.out.whole⟩
end Go.Proofs.Ythblmpkdcahmkaa

/-
  Package lex, what it asks of the library: strings.Clone, and strings.Builder's WriteByte, WriteString, String, out of the shelf's contracts.
-/
namespace Go.Proofs.Ythblmpkdcahmkaa
open Go.RowKit

def lexclone_ren : Go.Shelf.Ren := ⟨fun | 316 => 67 | n => n, fun | 0 => 0 | 3 => 3 | 4 => 4 | 9 => 9 | 37 => 90 | 127 => 116 | 5 => 5 | n => n, fun | n => n⟩
theorem lexclone : Go.Proofs.LaysM.n316 Try.prog lexclone_ren := {
  mixed := by kernel_rfl
  f316 := Try.func67.trans (congrArg some (by kernel_rfl))
  t0 := Try.underlying0
  a0 := Try.isAgg0
  z0 := Try.sizeOf0
  v0 := Try.zeroValue0
  t3 := Try.underlying3
  a3 := Try.isAgg3
  z3 := Try.sizeOf3
  v3 := Try.zeroValue3
  t4 := Try.underlying4
  a4 := Try.isAgg4
  z4 := Try.sizeOf4
  v4 := Try.zeroValue4
  t9 := Try.underlying9
  a9 := Try.isAgg9
  z9 := Try.sizeOf9
  v9 := Try.zeroValue9
  t37 := Try.underlying90
  a37 := Try.isAgg90
  z37 := Try.sizeOf90
  v37 := Try.zeroValue90
  t127 := Try.underlying116
  a127 := Try.isAgg116
  z127 := Try.sizeOf116
  v127 := Try.zeroValue116
  t5 := Try.underlying5
  a5 := Try.isAgg5
  z5 := Try.sizeOf5
  v5 := Try.zeroValue5
  i0 := by kernel_rfl
  i3 := by kernel_rfl
  i4 := by kernel_rfl
  i5 := by kernel_rfl
  i9 := by kernel_rfl
  i37 := by kernel_rfl
  i127 := by kernel_rfl }
set_option maxRecDepth 4096 in
set_option maxHeartbeats 4000000 in
theorem lex_clone (l : List UInt8) (w : World) (hl : l.length ≤ 1000000) : Calls Try.prog 39 #[.string (bs l)] w (fun e w' => e = .returned (.string (bs l)) ∧ Below w.heap.size w w') := by
  have hs := bs_size l
  go_enter Try.func39, Try.ntmps39
  go_wp2_with (go_at_call 67; refine (Any.stringslite_Clone lexclone (bs l) _ (by rw [hs]; omega)).mono ?_)
  rintro e w1 ⟨rfl, hb⟩
  go_wp2
  go_ret
  exact ⟨rfl, hb⟩
def lexwb_ren : Go.Shelf.Ren := ⟨fun | 167 => 40 | 240 => 68 | 276 => 81 | n => n, fun | 80 => 98 | 0 => 0 | 4 => 4 | 5 => 5 | 9 => 9 | 20 => 20 | 37 => 90 | 70 => 89 | 72 => 92 | 75 => 94 | 164 => 123 | n => n, fun | n => n⟩
theorem lexwb : Go.Proofs.Lays.n167 Try.prog lexwb_ren := {
  mixed := by kernel_rfl
  f167 := Try.func40.trans (congrArg some (by kernel_rfl))
  f240 := Try.func68.trans (congrArg some (by kernel_rfl))
  f276 := Try.func81.trans (congrArg some (by kernel_rfl))
  t0 := Try.underlying0
  a0 := Try.isAgg0
  z0 := Try.sizeOf0
  v0 := Try.zeroValue0
  t4 := Try.underlying4
  a4 := Try.isAgg4
  z4 := Try.sizeOf4
  v4 := Try.zeroValue4
  t5 := Try.underlying5
  a5 := Try.isAgg5
  z5 := Try.sizeOf5
  v5 := Try.zeroValue5
  t9 := Try.underlying9
  a9 := Try.isAgg9
  z9 := Try.sizeOf9
  v9 := Try.zeroValue9
  t20 := Try.underlying20
  a20 := Try.isAgg20
  z20 := Try.sizeOf20
  v20 := Try.zeroValue20
  t37 := Try.underlying90
  a37 := Try.isAgg90
  z37 := Try.sizeOf90
  v37 := Try.zeroValue90
  t70 := Try.underlying89
  a70 := Try.isAgg89
  z70 := Try.sizeOf89
  v70 := Try.zeroValue89
  t72 := Try.underlying92
  a72 := Try.isAgg92
  z72 := Try.sizeOf92
  v72 := Try.zeroValue92
  t75 := Try.underlying94
  a75 := Try.isAgg94
  z75 := Try.sizeOf94
  v75 := Try.zeroValue94
  t164 := Try.underlying123
  a164 := Try.isAgg123
  z164 := Try.sizeOf123
  v164 := Try.zeroValue123 }
theorem lexwb_extra : Builder.Extra Try.prog lexwb_ren where
  sizeBuilder := by kernel_rfl
  liesBuilder := by kernel_rfl
  t5 := Try.underlying5
  a5 := Try.isAgg5
  z5 := Try.sizeOf5
  v5 := Try.zeroValue5
  infoByte := by kernel_rfl
  cellsByte := by kernel_rfl
  sizeByte := by kernel_rfl
  neB5 := by decide
theorem lex_putByte (B b : Nat) (xs : List UInt8) (c : UInt8) (w : World) (h : Lib.IsBuilderF 92 5 B b (Lib.byteCells xs) w) (hl : xs.length ≤ 100000000) (hB : B ≤ w.heap.size) :
    Calls Try.prog 40 #[.pointer (some ⟨b, 0, none⟩), .int .u8 (c.toNat : Int)] w (fun e w' => e = .returned .nilIface ∧ Lib.IsBuilderF 92 5 B b (Lib.byteCells (xs ++ [c])) w' ∧ Below B w w' ∧ Lib.OthersKept 5 (some b) w w') := by
  refine (Any.Builder_WriteByte_k lexwb lexwb_extra B b (Lib.byteCells xs) (c.toNat : Int) w h (by rw [Lib.byteCells_length]; omega) hB).mono ?_
  rintro e w1 ⟨rfl, h1, hb, hk⟩
  exact ⟨rfl, Or.inr (by rw [Lib.byteCells_append]; exact h1), hb, hk⟩
def lexws_ren : Go.Shelf.Ren := ⟨fun | 166 => 41 | 240 => 68 | 276 => 81 | n => n, fun | 80 => 98 | 5 => 5 | 0 => 0 | 3 => 3 | 4 => 4 | 9 => 9 | 20 => 20 | 37 => 90 | 70 => 89 | 72 => 92 | 75 => 94 | 164 => 123 | n => n, fun | n => n⟩
theorem lexws : Go.Proofs.Lays.n166 Try.prog lexws_ren := {
  mixed := by kernel_rfl
  f166 := Try.func41.trans (congrArg some (by kernel_rfl))
  f240 := Try.func68.trans (congrArg some (by kernel_rfl))
  f276 := Try.func81.trans (congrArg some (by kernel_rfl))
  t0 := Try.underlying0
  a0 := Try.isAgg0
  z0 := Try.sizeOf0
  v0 := Try.zeroValue0
  t3 := Try.underlying3
  a3 := Try.isAgg3
  z3 := Try.sizeOf3
  v3 := Try.zeroValue3
  t4 := Try.underlying4
  a4 := Try.isAgg4
  z4 := Try.sizeOf4
  v4 := Try.zeroValue4
  t9 := Try.underlying9
  a9 := Try.isAgg9
  z9 := Try.sizeOf9
  v9 := Try.zeroValue9
  t20 := Try.underlying20
  a20 := Try.isAgg20
  z20 := Try.sizeOf20
  v20 := Try.zeroValue20
  t37 := Try.underlying90
  a37 := Try.isAgg90
  z37 := Try.sizeOf90
  v37 := Try.zeroValue90
  t70 := Try.underlying89
  a70 := Try.isAgg89
  z70 := Try.sizeOf89
  v70 := Try.zeroValue89
  t72 := Try.underlying92
  a72 := Try.isAgg92
  z72 := Try.sizeOf92
  v72 := Try.zeroValue92
  t75 := Try.underlying94
  a75 := Try.isAgg94
  z75 := Try.sizeOf94
  v75 := Try.zeroValue94
  t164 := Try.underlying123
  a164 := Try.isAgg123
  z164 := Try.sizeOf123
  v164 := Try.zeroValue123 }
theorem lexws_extra : Builder.Extra Try.prog lexws_ren where
  sizeBuilder := by kernel_rfl
  liesBuilder := by kernel_rfl
  t5 := Try.underlying5
  a5 := Try.isAgg5
  z5 := Try.sizeOf5
  v5 := Try.zeroValue5
  infoByte := by kernel_rfl
  cellsByte := by kernel_rfl
  sizeByte := by kernel_rfl
  neB5 := by decide
theorem lex_strCells (l : List UInt8) : Lib.strCells (bs l) = Lib.byteCells l := by
  unfold Lib.strCells Lib.byteCells bs; rfl
theorem lex_putString (B b : Nat) (xs l : List UInt8) (w : World) (h : Lib.IsBuilderF 92 5 B b (Lib.byteCells xs) w) (hl : xs.length ≤ 100000000) (hl2 : l.length ≤ 100000000) (hB : B ≤ w.heap.size) :
    Calls Try.prog 41 #[.pointer (some ⟨b, 0, none⟩), .string (bs l)] w (fun e w' => e = .returned (.tuple #[.int .i64 (l.length : Int), .nilIface]) ∧ Lib.IsBuilderF 92 5 B b (Lib.byteCells (xs ++ l)) w' ∧ Below B w w' ∧ Lib.OthersKept 5 (some b) w w') := by
  refine (Any.Builder_WriteString_k lexws lexws_extra B b (Lib.byteCells xs) (bs l) w h (by rw [Lib.byteCells_length, bs_size]; omega) hB).mono ?_
  rintro e w1 ⟨rfl, h1, hb, hk⟩
  refine ⟨by rw [bs_size], Or.inr (by rw [Lib.byteCells_append, ← lex_strCells l]; exact h1), hb, hk⟩
def lexstr_ren : Go.Shelf.Ren := ⟨fun | 169 => 42 | n => n, fun | 5 => 5 | 0 => 0 | 3 => 3 | 9 => 9 | 37 => 90 | 70 => 89 | 72 => 92 | 127 => 116 | n => n, fun | n => n⟩
theorem lexstr : Go.Proofs.Lays.n169 Try.prog lexstr_ren := {
  mixed := by kernel_rfl
  f169 := Try.func42.trans (congrArg some (by kernel_rfl))
  t0 := Try.underlying0
  a0 := Try.isAgg0
  z0 := Try.sizeOf0
  v0 := Try.zeroValue0
  t3 := Try.underlying3
  a3 := Try.isAgg3
  z3 := Try.sizeOf3
  v3 := Try.zeroValue3
  t9 := Try.underlying9
  a9 := Try.isAgg9
  z9 := Try.sizeOf9
  v9 := Try.zeroValue9
  t37 := Try.underlying90
  a37 := Try.isAgg90
  z37 := Try.sizeOf90
  v37 := Try.zeroValue90
  t70 := Try.underlying89
  a70 := Try.isAgg89
  z70 := Try.sizeOf89
  v70 := Try.zeroValue89
  t72 := Try.underlying92
  a72 := Try.isAgg92
  z72 := Try.sizeOf92
  v72 := Try.zeroValue92
  t127 := Try.underlying116
  a127 := Try.isAgg116
  z127 := Try.sizeOf116
  v127 := Try.zeroValue116 }
theorem lexstr_extra : Builder.Extra Try.prog lexstr_ren where
  sizeBuilder := by kernel_rfl
  liesBuilder := by kernel_rfl
  t5 := Try.underlying5
  a5 := Try.isAgg5
  z5 := Try.sizeOf5
  v5 := Try.zeroValue5
  infoByte := by kernel_rfl
  cellsByte := by kernel_rfl
  sizeByte := by kernel_rfl
  neB5 := by decide
theorem lex_getString (B b : Nat) (xs : List UInt8) (w : World) (h : Lib.IsBuilderF 92 5 B b (Lib.byteCells xs) w) (hB : B ≤ w.heap.size) :
    Calls Try.prog 42 #[.pointer (some ⟨b, 0, none⟩)] w (fun e w' => e = .returned (.string (bs xs)) ∧ Below B w w') := by
  refine (Any.Builder_String_any_k lexstr lexstr_extra B b xs w h hB).mono ?_
  rintro e w1 ⟨rfl, _, hb, _⟩
  exact ⟨rfl, hb⟩
end Go.Proofs.Ythblmpkdcahmkaa
