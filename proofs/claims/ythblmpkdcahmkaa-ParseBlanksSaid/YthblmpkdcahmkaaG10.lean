/-
  Several texts of this claim as one, group 10.
-/
import Derived.Test.YthblmpkdcahmkaaG9
import Derived.Test.YthblmpkdcahmkaaG3
import Derived.Test.YthblmpkdcahmkaaG1
import Derived.WalkKit
/-
  The document's answer of layer 18: term, Expr.
-/
namespace Go.Proofs.Ythblmpkdcahmkaa
open Go.WideShapes Go.RowKit Go.Deep

set_option maxRecDepth 4096 in
set_option maxHeartbeats 16000000 in
theorem ref18_term (W : List Lw) (E : Nat) (N : List (List UInt8)) (hlen : W.length ≤ 100000) (l : Nat) (fa : Ps → List Np × Ps) (hF : Fine W fa)
    (HC : Does18 68 9 80 Try.prog 80 W E N fa (fun s => s.deep + (l + 1) = 41 ∧ s.i ≤ W.length)) :
    Does18 68 9 80 Try.prog 60 W E N (pTerm W fa) (fun s => s.deep + (l + 1) = 41 ∧ s.i ≤ W.length) := by
  intro g a n c nv s0 w h hok
  obtain ⟨hdl, hil⟩ := hok
  have hA := nd_at Try.underlying45 infoNd18
  have hne : 9 ≠ 80 := by decide
  have HCC := Lib.hid HC
  have H := Lib.hid h
  have hgl := h.lt
  have hnl := h.len
  have hbd := h.words.bound
  have HF1 := Lib.hid hF
  clear h HC hF
  obtain ⟨R, hR⟩ : ∃ R, pTerm W fa s0 = R := ⟨_, rfl⟩
  rw [hR]
  unfold pTerm at hR
  try dsimp only at hR
  have HCl := Lib.hid (HCC.out g a n c nv s0 w H.out ⟨by omega, hil⟩)
  have d1 := HF1.out.deep s0
  have d2 := HF1.out.within s0 hil
  have d3 := HF1.out.len s0
  obtain ⟨r0, hr0⟩ : ∃ r0, (fa) s0 = r0 := ⟨_, rfl⟩
  rw [hr0] at hR d1 d2 d3 HCl
  obtain ⟨cd0, s1⟩ := r0
  dsimp only at hR d1 d2 d3
  have HR1 := Lib.hid hR
  clear hR hr0
  go_enter Try.func60, Try.ntmps60
  go_wp2_with fail
  refine HCl.out.mono ?_
  rintro e w1 ⟨v0, L0, rfl, m1, sm1, th1, h1, g1⟩
  have M1 := Lib.hid m1
  have SM1 : Hid (L0.map Nd.sem = cd0) := Lib.hid sm1
  have TH1 := Lib.hid th1
  have H1 := Lib.hid h1
  have G1 := Lib.hid g1
  have hL0 : L0.length = cd0.length := sem_len sm1
  clear m1 sm1 th1 h1 g1 HCl H
  go_wp2
  go_loopw [3] (fun v wr => ∃ (m : Nat) (cd : List Np) (L : List Nd) (s : Ps), Hid (ndK.Mine wr w.heap.size 80 v L) ∧ Hid (L.map Nd.sem = cd) ∧ Hid (thinN 20 L) ∧ Hid (PS 68 9 wr g a n c W E nv N s) ∧ Hid (w.grownBy wr (some g)) ∧ Hid (pMany W (fa) [42] [47] 9 10 m cd s = R) ∧ W.length ≤ s.i + m ∧ s.deep = s0.deep ∧ s.i ≤ W.length ∧ L.length ≤ s.i) (fun _ wr => W.length + 1 - heldI wr g)
  case atStart => exact ⟨W.length, cd0, L0, s1, M1, SM1, TH1, H1, G1, HR1, by omega, by omega, by omega, by omega⟩
  case round =>
    clear M1 SM1 TH1 H1 G1 HR1
    obtain ⟨m, cd, L, s, HM, HSm, HTh, HP, HG, HMn, hb1, hb2, hb3, hb4⟩ := hrel
    replace HMn := HMn.out
    have HPh := Lib.hid HP.out.held
    have B0 : Hid (Below wr.heap.size wr wr) := Lib.hid (Below.refl _ _)
    have HS := Lib.hid fun (t : List UInt8) (w1 : World) (hb : Below wr.heap.size wr w1) => ref18_sees g a n c W E nv N s t w1 (HP.out.later hb)
    have HSa := Lib.hid (HS.out [42])
    have HSb := Lib.hid (HS.out [47])
    clear HS
    by_cases hx : pSees W s [42] = true ∨ pSees W s [47] = true
    · have hi : s.bad < 0 ∧ s.i < W.length := hx.elim (pSees_i W) (pSees_i W)
      obtain ⟨m, rfl⟩ : ∃ m', m = m' + 1 := ⟨m - 1, by omega⟩
      rw [pMany, if_pos hx] at HMn
      try dsimp only at HMn
      generalize hra : pSees W s [42] = ra at *
      generalize hrb : pSees W s [47] = rb at *
      clear hra hrb
      cases ra
      · cases rb
        · simp at hx
        · rw [if_pos rfl] at HMn
          clear hx
          go_wp2_with fail
          refine (HSa.out _ B0.out).mono ?_
          rintro e w1 ⟨rfl, bb⟩
          have B1 := Lib.hid (below_then B0.out bb)
          clear bb
          go_wp2_with fail
          refine (HSb.out _ B1.out).mono ?_
          rintro e w2 ⟨rfl, bb⟩
          have B2 := Lib.hid (below_then B1.out bb)
          clear bb
          go_wp2_with fail
          refine (HSb.out _ B2.out).mono ?_
          rintro e w3 ⟨rfl, bb⟩
          have B3 := Lib.hid (below_then B2.out bb)
          clear bb
          have H3 := Lib.hid (HP.out.later B3.out)
          have G3 := Lib.hid (grown_pass HG.out B3.out)
          have M3 := Lib.hid (HM.out.later B3.out)
          obtain ⟨e0, e1, e2, e3, e4, e5⟩ := H3.out.cells
          have ef := H3.out.free 1
          have ki : IntKind.i64.wrap ((s.i : Int) + 1) = ((s.i + 1 : Nat) : Int) := by rw [IntKind.wrap_i64]; omega
          obtain ⟨h4, g4⟩ := H3.out.set1 (s.i + 1)
          have H4 := Lib.hid h4
          have G4 := Lib.hid (grown_then G3.out g4)
          have M4 := Lib.hid (mine_past M3.out H3.out g4 hgl)
          have HCl := Lib.hid (HCC.out g a n c nv { s with i := s.i + 1 } _ h4 ⟨by dsimp only; omega, by dsimp only; omega⟩)
          have d1 := HF1.out.deep { s with i := s.i + 1 }
          have d2 := HF1.out.within { s with i := s.i + 1 } (by dsimp only; omega)
          have d3 := HF1.out.len { s with i := s.i + 1 }
          generalize (fa) { s with i := s.i + 1 } = r1 at *
          obtain ⟨code, s2⟩ := r1
          dsimp only at d1 d2 d3 HMn
          have HMn2 := Lib.hid HMn
          clear h4 g4 HP HG HM H3 G3 M3 HMn
          go_wp2_with fail
          refine HCl.out.mono ?_
          rintro e w4 ⟨v2, L2, rfl, m5, sm5, th5, h5, g5⟩
          have H5 := Lib.hid h5
          have G5 := Lib.hid (grown_then G4.out g5)
          have M5 := Lib.hid (mine_past M4.out H4.out g5 hgl)
          have hL2 : L2.length ≤ 100000 := by rw [sem_len sm5]; dsimp only; omega
          have HL2c : Hid (L2.length = code.length) := Lib.hid (sem_len sm5)
          have SM5 : Hid (L2.map Nd.sem = code) := Lib.hid sm5
          have TH5 := Lib.hid th5
          obtain ⟨a2, c2, rfl, hal⟩ := m5.slice
          have HA2 := Lib.hid hal
          clear h5 g5 m5 sm5 th5 hal e0 e1 e2 e3 e4 e5 ef HCl H4 G4 M4
          rcases a2 with _ | ad
          · have hc0 : c2 = 0 := HA2.out.1.2.2.2.1 rfl
            have hb2 := HA2.out.bound
            have hl0 : L2.length = 0 := by omega
            obtain rfl : L2 = [] := List.eq_nil_of_length_eq_zero hl0
            subst hc0
            have hcode : code = [] := by rw [← SM5.out]; rfl
            have HCd := Lib.hid hcode
            clear hcode hl0
            go_wp2_with (at_builtin; first | refine Kin.wpList_append_none hA rfl _ _ rfl w.heap.size _ L rfl M5.out rfl ?_ | refine Kin.wpList_append hA rfl _ _ rfl w.heap.size _ L rfl (Kin.Mine.later M5.out (below_alloc _ _)) ⟨_, 0, none⟩ 1 1 [⟨10, 0, none, 0, 0, []⟩] rfl rfl (nd_news_at _ ⟨10, 0, none, 0, 0, []⟩ _ (by simp)) (fun y hy => by rw [List.mem_singleton.1 hy]; exact Wd.ofNil _) (by unfold maxLen; omega) (by show (L.length + 1) * 40 ≤ _; omega) (by rw [blk_size]; have := G5.out.size; omega) ?_)
            intro v' w6 hrow hgrow hnew
            have HR6 := Lib.hid hrow
            have HP6 := Lib.hid ((H5.out.later (below_alloc w4 _)).past (M5.out.later (below_alloc w4 _)) hgrow hgl hne)
            have HG6 := Lib.hid (grown_own (grown_pass G5.out (below_alloc w4 _)) hgrow M5.out.base)
            clear hrow hgrow hnew
            go_wp2
            go_roundw
            case rel => exact ⟨m, cd ++ code ++ [(10, 0, 0)], _, s2, HR6, Lib.hid (by rw [HCd.out, List.append_nil, List.map_append, HSm.out]; rfl), Lib.hid (thin_snoc HTh.out _ _), HP6, HG6, HMn2, by omega, by omega, by omega, by rw [List.length_append]; simp; omega⟩
            case measure => rw [HP6.out.held, HPh.out]; omega
          · have HNw : Hid (∀ j u, (L2.flatMap ndK.cells)[j]? = some u → w4.cell? (ad.add j) = some u) := Lib.hid (by
              intro j u hu
              by_cases h0 : L2.length = 0
              · rw [List.eq_nil_of_length_eq_zero h0] at hu; simp at hu
              · obtain ⟨b, off, e, _⟩ := HA2.out.1.at (by omega)
                obtain rfl := Option.some.inj e
                exact HA2.out.1.news j u hu)
            go_wp2_with (at_builtin; refine Kin.wpList_append hA rfl _ _ rfl w.heap.size _ L rfl M5.out ad L2.length c2 L2 rfl rfl HNw.out HA2.out.2 (by unfold maxLen; omega) (by show (L.length + L2.length) * 40 ≤ _; omega) (by have := G5.out.size; omega) ?_)
            intro v5 w5 hrow hgrow hnew
            have M6 := Lib.hid hrow
            have H6 := Lib.hid (H5.out.past M5.out hgrow hgl hne)
            have G6 := Lib.hid (grown_own G5.out hgrow M5.out.base)
            have hLL : (L ++ L2).length ≤ 200000 := by rw [List.length_append]; omega
            clear hrow hgrow hnew H5 G5 M5 HNw HA2
            go_wp2_with (at_builtin; refine Kin.wpList_append hA rfl _ _ rfl w.heap.size _ (L ++ L2) rfl (Kin.Mine.later M6.out (below_alloc _ _)) ⟨_, 0, none⟩ 1 1 [⟨10, 0, none, 0, 0, []⟩] rfl rfl (nd_news_at _ ⟨10, 0, none, 0, 0, []⟩ _ (by simp)) (fun y hy => by rw [List.mem_singleton.1 hy]; exact Wd.ofNil _) (by unfold maxLen; omega) (by show ((L ++ L2).length + 1) * 40 ≤ _; omega) (by rw [blk_size]; have := G6.out.size; omega) ?_)
            intro v' w6 hrow hgrow hnew
            try rw [← List.append_assoc] at hrow
            have HR7 := Lib.hid hrow
            have HP7 := Lib.hid ((H6.out.later (below_alloc w5 _)).past (M6.out.later (below_alloc w5 _)) hgrow hgl hne)
            have HG7 := Lib.hid (grown_own (grown_pass G6.out (below_alloc w5 _)) hgrow M6.out.base)
            clear hrow hgrow hnew H6 G6 M6
            go_wp2
            go_roundw
            case rel => exact ⟨m, cd ++ code ++ [(10, 0, 0)], _, s2, HR7, Lib.hid (by rw [List.map_append, List.map_append, HSm.out, SM5.out]; rfl), Lib.hid (thin_snoc (thin_app HTh.out TH5.out) _ _), HP7, HG7, HMn2, by omega, by omega, by omega, by rw [List.length_append, List.length_append, HL2c.out]; simp; omega⟩
            case measure => rw [HP7.out.held, HPh.out]; omega
      · cases rb
        · rw [if_neg (by decide)] at HMn
          clear hx
          go_wp2_with fail
          refine (HSa.out _ B0.out).mono ?_
          rintro e w1 ⟨rfl, bb⟩
          have B1 := Lib.hid (below_then B0.out bb)
          clear bb
          go_wp2_with fail
          refine (HSb.out _ B1.out).mono ?_
          rintro e w2 ⟨rfl, bb⟩
          have B2 := Lib.hid (below_then B1.out bb)
          clear bb
          have H3 := Lib.hid (HP.out.later B2.out)
          have G3 := Lib.hid (grown_pass HG.out B2.out)
          have M3 := Lib.hid (HM.out.later B2.out)
          obtain ⟨e0, e1, e2, e3, e4, e5⟩ := H3.out.cells
          have ef := H3.out.free 1
          have ki : IntKind.i64.wrap ((s.i : Int) + 1) = ((s.i + 1 : Nat) : Int) := by rw [IntKind.wrap_i64]; omega
          obtain ⟨h4, g4⟩ := H3.out.set1 (s.i + 1)
          have H4 := Lib.hid h4
          have G4 := Lib.hid (grown_then G3.out g4)
          have M4 := Lib.hid (mine_past M3.out H3.out g4 hgl)
          have HCl := Lib.hid (HCC.out g a n c nv { s with i := s.i + 1 } _ h4 ⟨by dsimp only; omega, by dsimp only; omega⟩)
          have d1 := HF1.out.deep { s with i := s.i + 1 }
          have d2 := HF1.out.within { s with i := s.i + 1 } (by dsimp only; omega)
          have d3 := HF1.out.len { s with i := s.i + 1 }
          generalize (fa) { s with i := s.i + 1 } = r1 at *
          obtain ⟨code, s2⟩ := r1
          dsimp only at d1 d2 d3 HMn
          have HMn2 := Lib.hid HMn
          clear h4 g4 HP HG HM H3 G3 M3 HMn
          go_wp2_with fail
          refine HCl.out.mono ?_
          rintro e w4 ⟨v2, L2, rfl, m5, sm5, th5, h5, g5⟩
          have H5 := Lib.hid h5
          have G5 := Lib.hid (grown_then G4.out g5)
          have M5 := Lib.hid (mine_past M4.out H4.out g5 hgl)
          have hL2 : L2.length ≤ 100000 := by rw [sem_len sm5]; dsimp only; omega
          have HL2c : Hid (L2.length = code.length) := Lib.hid (sem_len sm5)
          have SM5 : Hid (L2.map Nd.sem = code) := Lib.hid sm5
          have TH5 := Lib.hid th5
          obtain ⟨a2, c2, rfl, hal⟩ := m5.slice
          have HA2 := Lib.hid hal
          clear h5 g5 m5 sm5 th5 hal e0 e1 e2 e3 e4 e5 ef HCl H4 G4 M4
          rcases a2 with _ | ad
          · have hc0 : c2 = 0 := HA2.out.1.2.2.2.1 rfl
            have hb2 := HA2.out.bound
            have hl0 : L2.length = 0 := by omega
            obtain rfl : L2 = [] := List.eq_nil_of_length_eq_zero hl0
            subst hc0
            have hcode : code = [] := by rw [← SM5.out]; rfl
            have HCd := Lib.hid hcode
            clear hcode hl0
            go_wp2_with (at_builtin; first | refine Kin.wpList_append_none hA rfl _ _ rfl w.heap.size _ L rfl M5.out rfl ?_ | refine Kin.wpList_append hA rfl _ _ rfl w.heap.size _ L rfl (Kin.Mine.later M5.out (below_alloc _ _)) ⟨_, 0, none⟩ 1 1 [⟨9, 0, none, 0, 0, []⟩] rfl rfl (nd_news_at _ ⟨9, 0, none, 0, 0, []⟩ _ (by simp)) (fun y hy => by rw [List.mem_singleton.1 hy]; exact Wd.ofNil _) (by unfold maxLen; omega) (by show (L.length + 1) * 40 ≤ _; omega) (by rw [blk_size]; have := G5.out.size; omega) ?_)
            intro v' w6 hrow hgrow hnew
            have HR6 := Lib.hid hrow
            have HP6 := Lib.hid ((H5.out.later (below_alloc w4 _)).past (M5.out.later (below_alloc w4 _)) hgrow hgl hne)
            have HG6 := Lib.hid (grown_own (grown_pass G5.out (below_alloc w4 _)) hgrow M5.out.base)
            clear hrow hgrow hnew
            go_wp2
            go_roundw
            case rel => exact ⟨m, cd ++ code ++ [(9, 0, 0)], _, s2, HR6, Lib.hid (by rw [HCd.out, List.append_nil, List.map_append, HSm.out]; rfl), Lib.hid (thin_snoc HTh.out _ _), HP6, HG6, HMn2, by omega, by omega, by omega, by rw [List.length_append]; simp; omega⟩
            case measure => rw [HP6.out.held, HPh.out]; omega
          · have HNw : Hid (∀ j u, (L2.flatMap ndK.cells)[j]? = some u → w4.cell? (ad.add j) = some u) := Lib.hid (by
              intro j u hu
              by_cases h0 : L2.length = 0
              · rw [List.eq_nil_of_length_eq_zero h0] at hu; simp at hu
              · obtain ⟨b, off, e, _⟩ := HA2.out.1.at (by omega)
                obtain rfl := Option.some.inj e
                exact HA2.out.1.news j u hu)
            go_wp2_with (at_builtin; refine Kin.wpList_append hA rfl _ _ rfl w.heap.size _ L rfl M5.out ad L2.length c2 L2 rfl rfl HNw.out HA2.out.2 (by unfold maxLen; omega) (by show (L.length + L2.length) * 40 ≤ _; omega) (by have := G5.out.size; omega) ?_)
            intro v5 w5 hrow hgrow hnew
            have M6 := Lib.hid hrow
            have H6 := Lib.hid (H5.out.past M5.out hgrow hgl hne)
            have G6 := Lib.hid (grown_own G5.out hgrow M5.out.base)
            have hLL : (L ++ L2).length ≤ 200000 := by rw [List.length_append]; omega
            clear hrow hgrow hnew H5 G5 M5 HNw HA2
            go_wp2_with (at_builtin; refine Kin.wpList_append hA rfl _ _ rfl w.heap.size _ (L ++ L2) rfl (Kin.Mine.later M6.out (below_alloc _ _)) ⟨_, 0, none⟩ 1 1 [⟨9, 0, none, 0, 0, []⟩] rfl rfl (nd_news_at _ ⟨9, 0, none, 0, 0, []⟩ _ (by simp)) (fun y hy => by rw [List.mem_singleton.1 hy]; exact Wd.ofNil _) (by unfold maxLen; omega) (by show ((L ++ L2).length + 1) * 40 ≤ _; omega) (by rw [blk_size]; have := G6.out.size; omega) ?_)
            intro v' w6 hrow hgrow hnew
            try rw [← List.append_assoc] at hrow
            have HR7 := Lib.hid hrow
            have HP7 := Lib.hid ((H6.out.later (below_alloc w5 _)).past (M6.out.later (below_alloc w5 _)) hgrow hgl hne)
            have HG7 := Lib.hid (grown_own (grown_pass G6.out (below_alloc w5 _)) hgrow M6.out.base)
            clear hrow hgrow hnew H6 G6 M6
            go_wp2
            go_roundw
            case rel => exact ⟨m, cd ++ code ++ [(9, 0, 0)], _, s2, HR7, Lib.hid (by rw [List.map_append, List.map_append, HSm.out, SM5.out]; rfl), Lib.hid (thin_snoc (thin_app HTh.out TH5.out) _ _), HP7, HG7, HMn2, by omega, by omega, by omega, by rw [List.length_append, List.length_append, HL2c.out]; simp; omega⟩
            case measure => rw [HP7.out.held, HPh.out]; omega
        · rw [if_pos rfl] at HMn
          clear hx
          go_wp2_with fail
          refine (HSa.out _ B0.out).mono ?_
          rintro e w1 ⟨rfl, bb⟩
          have B1 := Lib.hid (below_then B0.out bb)
          clear bb
          go_wp2_with fail
          refine (HSb.out _ B1.out).mono ?_
          rintro e w2 ⟨rfl, bb⟩
          have B2 := Lib.hid (below_then B1.out bb)
          clear bb
          have H3 := Lib.hid (HP.out.later B2.out)
          have G3 := Lib.hid (grown_pass HG.out B2.out)
          have M3 := Lib.hid (HM.out.later B2.out)
          obtain ⟨e0, e1, e2, e3, e4, e5⟩ := H3.out.cells
          have ef := H3.out.free 1
          have ki : IntKind.i64.wrap ((s.i : Int) + 1) = ((s.i + 1 : Nat) : Int) := by rw [IntKind.wrap_i64]; omega
          obtain ⟨h4, g4⟩ := H3.out.set1 (s.i + 1)
          have H4 := Lib.hid h4
          have G4 := Lib.hid (grown_then G3.out g4)
          have M4 := Lib.hid (mine_past M3.out H3.out g4 hgl)
          have HCl := Lib.hid (HCC.out g a n c nv { s with i := s.i + 1 } _ h4 ⟨by dsimp only; omega, by dsimp only; omega⟩)
          have d1 := HF1.out.deep { s with i := s.i + 1 }
          have d2 := HF1.out.within { s with i := s.i + 1 } (by dsimp only; omega)
          have d3 := HF1.out.len { s with i := s.i + 1 }
          generalize (fa) { s with i := s.i + 1 } = r1 at *
          obtain ⟨code, s2⟩ := r1
          dsimp only at d1 d2 d3 HMn
          have HMn2 := Lib.hid HMn
          clear h4 g4 HP HG HM H3 G3 M3 HMn
          go_wp2_with fail
          refine HCl.out.mono ?_
          rintro e w4 ⟨v2, L2, rfl, m5, sm5, th5, h5, g5⟩
          have H5 := Lib.hid h5
          have G5 := Lib.hid (grown_then G4.out g5)
          have M5 := Lib.hid (mine_past M4.out H4.out g5 hgl)
          have hL2 : L2.length ≤ 100000 := by rw [sem_len sm5]; dsimp only; omega
          have HL2c : Hid (L2.length = code.length) := Lib.hid (sem_len sm5)
          have SM5 : Hid (L2.map Nd.sem = code) := Lib.hid sm5
          have TH5 := Lib.hid th5
          obtain ⟨a2, c2, rfl, hal⟩ := m5.slice
          have HA2 := Lib.hid hal
          clear h5 g5 m5 sm5 th5 hal e0 e1 e2 e3 e4 e5 ef HCl H4 G4 M4
          rcases a2 with _ | ad
          · have hc0 : c2 = 0 := HA2.out.1.2.2.2.1 rfl
            have hb2 := HA2.out.bound
            have hl0 : L2.length = 0 := by omega
            obtain rfl : L2 = [] := List.eq_nil_of_length_eq_zero hl0
            subst hc0
            have hcode : code = [] := by rw [← SM5.out]; rfl
            have HCd := Lib.hid hcode
            clear hcode hl0
            go_wp2_with (at_builtin; first | refine Kin.wpList_append_none hA rfl _ _ rfl w.heap.size _ L rfl M5.out rfl ?_ | refine Kin.wpList_append hA rfl _ _ rfl w.heap.size _ L rfl (Kin.Mine.later M5.out (below_alloc _ _)) ⟨_, 0, none⟩ 1 1 [⟨10, 0, none, 0, 0, []⟩] rfl rfl (nd_news_at _ ⟨10, 0, none, 0, 0, []⟩ _ (by simp)) (fun y hy => by rw [List.mem_singleton.1 hy]; exact Wd.ofNil _) (by unfold maxLen; omega) (by show (L.length + 1) * 40 ≤ _; omega) (by rw [blk_size]; have := G5.out.size; omega) ?_)
            intro v' w6 hrow hgrow hnew
            have HR6 := Lib.hid hrow
            have HP6 := Lib.hid ((H5.out.later (below_alloc w4 _)).past (M5.out.later (below_alloc w4 _)) hgrow hgl hne)
            have HG6 := Lib.hid (grown_own (grown_pass G5.out (below_alloc w4 _)) hgrow M5.out.base)
            clear hrow hgrow hnew
            go_wp2
            go_roundw
            case rel => exact ⟨m, cd ++ code ++ [(10, 0, 0)], _, s2, HR6, Lib.hid (by rw [HCd.out, List.append_nil, List.map_append, HSm.out]; rfl), Lib.hid (thin_snoc HTh.out _ _), HP6, HG6, HMn2, by omega, by omega, by omega, by rw [List.length_append]; simp; omega⟩
            case measure => rw [HP6.out.held, HPh.out]; omega
          · have HNw : Hid (∀ j u, (L2.flatMap ndK.cells)[j]? = some u → w4.cell? (ad.add j) = some u) := Lib.hid (by
              intro j u hu
              by_cases h0 : L2.length = 0
              · rw [List.eq_nil_of_length_eq_zero h0] at hu; simp at hu
              · obtain ⟨b, off, e, _⟩ := HA2.out.1.at (by omega)
                obtain rfl := Option.some.inj e
                exact HA2.out.1.news j u hu)
            go_wp2_with (at_builtin; refine Kin.wpList_append hA rfl _ _ rfl w.heap.size _ L rfl M5.out ad L2.length c2 L2 rfl rfl HNw.out HA2.out.2 (by unfold maxLen; omega) (by show (L.length + L2.length) * 40 ≤ _; omega) (by have := G5.out.size; omega) ?_)
            intro v5 w5 hrow hgrow hnew
            have M6 := Lib.hid hrow
            have H6 := Lib.hid (H5.out.past M5.out hgrow hgl hne)
            have G6 := Lib.hid (grown_own G5.out hgrow M5.out.base)
            have hLL : (L ++ L2).length ≤ 200000 := by rw [List.length_append]; omega
            clear hrow hgrow hnew H5 G5 M5 HNw HA2
            go_wp2_with (at_builtin; refine Kin.wpList_append hA rfl _ _ rfl w.heap.size _ (L ++ L2) rfl (Kin.Mine.later M6.out (below_alloc _ _)) ⟨_, 0, none⟩ 1 1 [⟨10, 0, none, 0, 0, []⟩] rfl rfl (nd_news_at _ ⟨10, 0, none, 0, 0, []⟩ _ (by simp)) (fun y hy => by rw [List.mem_singleton.1 hy]; exact Wd.ofNil _) (by unfold maxLen; omega) (by show ((L ++ L2).length + 1) * 40 ≤ _; omega) (by rw [blk_size]; have := G6.out.size; omega) ?_)
            intro v' w6 hrow hgrow hnew
            try rw [← List.append_assoc] at hrow
            have HR7 := Lib.hid hrow
            have HP7 := Lib.hid ((H6.out.later (below_alloc w5 _)).past (M6.out.later (below_alloc w5 _)) hgrow hgl hne)
            have HG7 := Lib.hid (grown_own (grown_pass G6.out (below_alloc w5 _)) hgrow M6.out.base)
            clear hrow hgrow hnew H6 G6 M6
            go_wp2
            go_roundw
            case rel => exact ⟨m, cd ++ code ++ [(10, 0, 0)], _, s2, HR7, Lib.hid (by rw [List.map_append, List.map_append, HSm.out, SM5.out]; rfl), Lib.hid (thin_snoc (thin_app HTh.out TH5.out) _ _), HP7, HG7, HMn2, by omega, by omega, by omega, by rw [List.length_append, List.length_append, HL2c.out]; simp; omega⟩
            case measure => rw [HP7.out.held, HPh.out]; omega
    · have hR9 : R = (cd, s) := by
        rw [← HMn]
        cases m with
        | zero => rfl
        | succ m => rw [pMany, if_neg hx]
      rw [not_or, Bool.not_eq_true, Bool.not_eq_true] at hx
      rw [hx.1] at HSa
      rw [hx.2] at HSb
      clear hx HMn
      go_wp2_with fail
      refine (HSa.out _ B0.out).mono ?_
      rintro e w1 ⟨rfl, bb⟩
      have B1 := Lib.hid (below_then B0.out bb)
      clear bb
      go_wp2_with fail
      refine (HSb.out _ B1.out).mono ?_
      rintro e w2 ⟨rfl, bb⟩
      have B2 := Lib.hid (below_then B1.out bb)
      clear bb
      go_wp2
      go_ret
      subst hR9
      exact ⟨_, L, rfl, HM.out.later B2.out, HSm.out, HTh.out, HP.out.later B2.out, grown_pass HG.out B2.out⟩
set_option maxRecDepth 4096 in
set_option maxHeartbeats 16000000 in
theorem ref18_expr (W : List Lw) (E : Nat) (N : List (List UInt8)) (hlen : W.length ≤ 100000) (l : Nat) (fa : Ps → List Np × Ps) (hF : Fine W (pTerm W fa))
    (HC : Does18 68 9 80 Try.prog 60 W E N (pTerm W fa) (fun s => s.deep + (l + 1) = 41 ∧ s.i ≤ W.length)) :
    Does18 68 9 80 Try.prog 33 W E N (pExpr W fa) (fun s => s.deep + (l + 1) = 41 ∧ s.i ≤ W.length) := by
  intro g a n c nv s0 w h hok
  obtain ⟨hdl, hil⟩ := hok
  have hA := nd_at Try.underlying45 infoNd18
  have hne : 9 ≠ 80 := by decide
  have HCC := Lib.hid HC
  have H := Lib.hid h
  have hgl := h.lt
  have hnl := h.len
  have hbd := h.words.bound
  have HF1 := Lib.hid hF
  clear h HC hF
  obtain ⟨e0, e1, e2, e3, e4, e5⟩ := H.out.cells
  obtain ⟨R, hR⟩ : ∃ R, pExpr W fa s0 = R := ⟨_, rfl⟩
  rw [hR]
  unfold pExpr at hR
  by_cases hbad : 0 ≤ s0.bad
  · rw [if_pos hbad] at hR
    subst hR
    clear HCC HF1
    go_enter Try.func33, Try.ntmps33
    go_wp2
    go_ret
    exact code_void H.out (grown_refl _ _) rfl rfl
  · rw [if_neg hbad] at hR
    try dsimp only at hR
    have HCl := Lib.hid (HCC.out g a n c nv s0 w H.out ⟨by omega, hil⟩)
    have d1 := HF1.out.deep s0
    have d2 := HF1.out.within s0 hil
    have d3 := HF1.out.len s0
    obtain ⟨r0, hr0⟩ : ∃ r0, (pTerm W fa) s0 = r0 := ⟨_, rfl⟩
    rw [hr0] at hR d1 d2 d3 HCl
    obtain ⟨cd0, s1⟩ := r0
    dsimp only at hR d1 d2 d3
    have HR1 := Lib.hid hR
    clear hR hr0
    go_enter Try.func33, Try.ntmps33
    go_wp2_with fail
    refine HCl.out.mono ?_
    rintro e w1 ⟨v0, L0, rfl, m1, sm1, th1, h1, g1⟩
    have M1 := Lib.hid m1
    have SM1 : Hid (L0.map Nd.sem = cd0) := Lib.hid sm1
    have TH1 := Lib.hid th1
    have H1 := Lib.hid h1
    have G1 := Lib.hid g1
    have hL0 : L0.length = cd0.length := sem_len sm1
    clear e0 e1 e2 e3 e4 e5 m1 sm1 th1 h1 g1 HCl H
    go_wp2
    go_loopw [3] (fun v wr => ∃ (m : Nat) (cd : List Np) (L : List Nd) (s : Ps), Hid (ndK.Mine wr w.heap.size 80 v L) ∧ Hid (L.map Nd.sem = cd) ∧ Hid (thinN 20 L) ∧ Hid (PS 68 9 wr g a n c W E nv N s) ∧ Hid (w.grownBy wr (some g)) ∧ Hid (pMany W (pTerm W fa) [43] [45] 7 8 m cd s = R) ∧ W.length ≤ s.i + m ∧ s.deep = s0.deep ∧ s.i ≤ W.length ∧ L.length ≤ s.i) (fun _ wr => W.length + 1 - heldI wr g)
    case atStart => exact ⟨W.length, cd0, L0, s1, M1, SM1, TH1, H1, G1, HR1, by omega, by omega, by omega, by omega⟩
    case round =>
      clear M1 SM1 TH1 H1 G1 HR1
      obtain ⟨m, cd, L, s, HM, HSm, HTh, HP, HG, HMn, hb1, hb2, hb3, hb4⟩ := hrel
      replace HMn := HMn.out
      have HPh := Lib.hid HP.out.held
      have B0 : Hid (Below wr.heap.size wr wr) := Lib.hid (Below.refl _ _)
      have HS := Lib.hid fun (t : List UInt8) (w1 : World) (hb : Below wr.heap.size wr w1) => ref18_sees g a n c W E nv N s t w1 (HP.out.later hb)
      have HSa := Lib.hid (HS.out [43])
      have HSb := Lib.hid (HS.out [45])
      clear HS
      by_cases hx : pSees W s [43] = true ∨ pSees W s [45] = true
      · have hi : s.bad < 0 ∧ s.i < W.length := hx.elim (pSees_i W) (pSees_i W)
        obtain ⟨m, rfl⟩ : ∃ m', m = m' + 1 := ⟨m - 1, by omega⟩
        rw [pMany, if_pos hx] at HMn
        try dsimp only at HMn
        generalize hra : pSees W s [43] = ra at *
        generalize hrb : pSees W s [45] = rb at *
        clear hra hrb
        cases ra
        · cases rb
          · simp at hx
          · rw [if_pos rfl] at HMn
            clear hx
            go_wp2_with fail
            refine (HSa.out _ B0.out).mono ?_
            rintro e w1 ⟨rfl, bb⟩
            have B1 := Lib.hid (below_then B0.out bb)
            clear bb
            go_wp2_with fail
            refine (HSb.out _ B1.out).mono ?_
            rintro e w2 ⟨rfl, bb⟩
            have B2 := Lib.hid (below_then B1.out bb)
            clear bb
            go_wp2_with fail
            refine (HSb.out _ B2.out).mono ?_
            rintro e w3 ⟨rfl, bb⟩
            have B3 := Lib.hid (below_then B2.out bb)
            clear bb
            have H3 := Lib.hid (HP.out.later B3.out)
            have G3 := Lib.hid (grown_pass HG.out B3.out)
            have M3 := Lib.hid (HM.out.later B3.out)
            obtain ⟨e0, e1, e2, e3, e4, e5⟩ := H3.out.cells
            have ef := H3.out.free 1
            have ki : IntKind.i64.wrap ((s.i : Int) + 1) = ((s.i + 1 : Nat) : Int) := by rw [IntKind.wrap_i64]; omega
            obtain ⟨h4, g4⟩ := H3.out.set1 (s.i + 1)
            have H4 := Lib.hid h4
            have G4 := Lib.hid (grown_then G3.out g4)
            have M4 := Lib.hid (mine_past M3.out H3.out g4 hgl)
            have HCl := Lib.hid (HCC.out g a n c nv { s with i := s.i + 1 } _ h4 ⟨by dsimp only; omega, by dsimp only; omega⟩)
            have d1 := HF1.out.deep { s with i := s.i + 1 }
            have d2 := HF1.out.within { s with i := s.i + 1 } (by dsimp only; omega)
            have d3 := HF1.out.len { s with i := s.i + 1 }
            generalize (pTerm W fa) { s with i := s.i + 1 } = r1 at *
            obtain ⟨code, s2⟩ := r1
            dsimp only at d1 d2 d3 HMn
            have HMn2 := Lib.hid HMn
            clear h4 g4 HP HG HM H3 G3 M3 HMn
            go_wp2_with fail
            refine HCl.out.mono ?_
            rintro e w4 ⟨v2, L2, rfl, m5, sm5, th5, h5, g5⟩
            have H5 := Lib.hid h5
            have G5 := Lib.hid (grown_then G4.out g5)
            have M5 := Lib.hid (mine_past M4.out H4.out g5 hgl)
            have hL2 : L2.length ≤ 100000 := by rw [sem_len sm5]; dsimp only; omega
            have HL2c : Hid (L2.length = code.length) := Lib.hid (sem_len sm5)
            have SM5 : Hid (L2.map Nd.sem = code) := Lib.hid sm5
            have TH5 := Lib.hid th5
            obtain ⟨a2, c2, rfl, hal⟩ := m5.slice
            have HA2 := Lib.hid hal
            clear h5 g5 m5 sm5 th5 hal e0 e1 e2 e3 e4 e5 ef HCl H4 G4 M4
            rcases a2 with _ | ad
            · have hc0 : c2 = 0 := HA2.out.1.2.2.2.1 rfl
              have hb2 := HA2.out.bound
              have hl0 : L2.length = 0 := by omega
              obtain rfl : L2 = [] := List.eq_nil_of_length_eq_zero hl0
              subst hc0
              have hcode : code = [] := by rw [← SM5.out]; rfl
              have HCd := Lib.hid hcode
              clear hcode hl0
              go_wp2_with (at_builtin; first | refine Kin.wpList_append_none hA rfl _ _ rfl w.heap.size _ L rfl M5.out rfl ?_ | refine Kin.wpList_append hA rfl _ _ rfl w.heap.size _ L rfl (Kin.Mine.later M5.out (below_alloc _ _)) ⟨_, 0, none⟩ 1 1 [⟨8, 0, none, 0, 0, []⟩] rfl rfl (nd_news_at _ ⟨8, 0, none, 0, 0, []⟩ _ (by simp)) (fun y hy => by rw [List.mem_singleton.1 hy]; exact Wd.ofNil _) (by unfold maxLen; omega) (by show (L.length + 1) * 40 ≤ _; omega) (by rw [blk_size]; have := G5.out.size; omega) ?_)
              intro v' w6 hrow hgrow hnew
              have HR6 := Lib.hid hrow
              have HP6 := Lib.hid ((H5.out.later (below_alloc w4 _)).past (M5.out.later (below_alloc w4 _)) hgrow hgl hne)
              have HG6 := Lib.hid (grown_own (grown_pass G5.out (below_alloc w4 _)) hgrow M5.out.base)
              clear hrow hgrow hnew
              go_wp2
              go_roundw
              case rel => exact ⟨m, cd ++ code ++ [(8, 0, 0)], _, s2, HR6, Lib.hid (by rw [HCd.out, List.append_nil, List.map_append, HSm.out]; rfl), Lib.hid (thin_snoc HTh.out _ _), HP6, HG6, HMn2, by omega, by omega, by omega, by rw [List.length_append]; simp; omega⟩
              case measure => rw [HP6.out.held, HPh.out]; omega
            · have HNw : Hid (∀ j u, (L2.flatMap ndK.cells)[j]? = some u → w4.cell? (ad.add j) = some u) := Lib.hid (by
                intro j u hu
                by_cases h0 : L2.length = 0
                · rw [List.eq_nil_of_length_eq_zero h0] at hu; simp at hu
                · obtain ⟨b, off, e, _⟩ := HA2.out.1.at (by omega)
                  obtain rfl := Option.some.inj e
                  exact HA2.out.1.news j u hu)
              go_wp2_with (at_builtin; refine Kin.wpList_append hA rfl _ _ rfl w.heap.size _ L rfl M5.out ad L2.length c2 L2 rfl rfl HNw.out HA2.out.2 (by unfold maxLen; omega) (by show (L.length + L2.length) * 40 ≤ _; omega) (by have := G5.out.size; omega) ?_)
              intro v5 w5 hrow hgrow hnew
              have M6 := Lib.hid hrow
              have H6 := Lib.hid (H5.out.past M5.out hgrow hgl hne)
              have G6 := Lib.hid (grown_own G5.out hgrow M5.out.base)
              have hLL : (L ++ L2).length ≤ 200000 := by rw [List.length_append]; omega
              clear hrow hgrow hnew H5 G5 M5 HNw HA2
              go_wp2_with (at_builtin; refine Kin.wpList_append hA rfl _ _ rfl w.heap.size _ (L ++ L2) rfl (Kin.Mine.later M6.out (below_alloc _ _)) ⟨_, 0, none⟩ 1 1 [⟨8, 0, none, 0, 0, []⟩] rfl rfl (nd_news_at _ ⟨8, 0, none, 0, 0, []⟩ _ (by simp)) (fun y hy => by rw [List.mem_singleton.1 hy]; exact Wd.ofNil _) (by unfold maxLen; omega) (by show ((L ++ L2).length + 1) * 40 ≤ _; omega) (by rw [blk_size]; have := G6.out.size; omega) ?_)
              intro v' w6 hrow hgrow hnew
              try rw [← List.append_assoc] at hrow
              have HR7 := Lib.hid hrow
              have HP7 := Lib.hid ((H6.out.later (below_alloc w5 _)).past (M6.out.later (below_alloc w5 _)) hgrow hgl hne)
              have HG7 := Lib.hid (grown_own (grown_pass G6.out (below_alloc w5 _)) hgrow M6.out.base)
              clear hrow hgrow hnew H6 G6 M6
              go_wp2
              go_roundw
              case rel => exact ⟨m, cd ++ code ++ [(8, 0, 0)], _, s2, HR7, Lib.hid (by rw [List.map_append, List.map_append, HSm.out, SM5.out]; rfl), Lib.hid (thin_snoc (thin_app HTh.out TH5.out) _ _), HP7, HG7, HMn2, by omega, by omega, by omega, by rw [List.length_append, List.length_append, HL2c.out]; simp; omega⟩
              case measure => rw [HP7.out.held, HPh.out]; omega
        · cases rb
          · rw [if_neg (by decide)] at HMn
            clear hx
            go_wp2_with fail
            refine (HSa.out _ B0.out).mono ?_
            rintro e w1 ⟨rfl, bb⟩
            have B1 := Lib.hid (below_then B0.out bb)
            clear bb
            go_wp2_with fail
            refine (HSb.out _ B1.out).mono ?_
            rintro e w2 ⟨rfl, bb⟩
            have B2 := Lib.hid (below_then B1.out bb)
            clear bb
            have H3 := Lib.hid (HP.out.later B2.out)
            have G3 := Lib.hid (grown_pass HG.out B2.out)
            have M3 := Lib.hid (HM.out.later B2.out)
            obtain ⟨e0, e1, e2, e3, e4, e5⟩ := H3.out.cells
            have ef := H3.out.free 1
            have ki : IntKind.i64.wrap ((s.i : Int) + 1) = ((s.i + 1 : Nat) : Int) := by rw [IntKind.wrap_i64]; omega
            obtain ⟨h4, g4⟩ := H3.out.set1 (s.i + 1)
            have H4 := Lib.hid h4
            have G4 := Lib.hid (grown_then G3.out g4)
            have M4 := Lib.hid (mine_past M3.out H3.out g4 hgl)
            have HCl := Lib.hid (HCC.out g a n c nv { s with i := s.i + 1 } _ h4 ⟨by dsimp only; omega, by dsimp only; omega⟩)
            have d1 := HF1.out.deep { s with i := s.i + 1 }
            have d2 := HF1.out.within { s with i := s.i + 1 } (by dsimp only; omega)
            have d3 := HF1.out.len { s with i := s.i + 1 }
            generalize (pTerm W fa) { s with i := s.i + 1 } = r1 at *
            obtain ⟨code, s2⟩ := r1
            dsimp only at d1 d2 d3 HMn
            have HMn2 := Lib.hid HMn
            clear h4 g4 HP HG HM H3 G3 M3 HMn
            go_wp2_with fail
            refine HCl.out.mono ?_
            rintro e w4 ⟨v2, L2, rfl, m5, sm5, th5, h5, g5⟩
            have H5 := Lib.hid h5
            have G5 := Lib.hid (grown_then G4.out g5)
            have M5 := Lib.hid (mine_past M4.out H4.out g5 hgl)
            have hL2 : L2.length ≤ 100000 := by rw [sem_len sm5]; dsimp only; omega
            have HL2c : Hid (L2.length = code.length) := Lib.hid (sem_len sm5)
            have SM5 : Hid (L2.map Nd.sem = code) := Lib.hid sm5
            have TH5 := Lib.hid th5
            obtain ⟨a2, c2, rfl, hal⟩ := m5.slice
            have HA2 := Lib.hid hal
            clear h5 g5 m5 sm5 th5 hal e0 e1 e2 e3 e4 e5 ef HCl H4 G4 M4
            rcases a2 with _ | ad
            · have hc0 : c2 = 0 := HA2.out.1.2.2.2.1 rfl
              have hb2 := HA2.out.bound
              have hl0 : L2.length = 0 := by omega
              obtain rfl : L2 = [] := List.eq_nil_of_length_eq_zero hl0
              subst hc0
              have hcode : code = [] := by rw [← SM5.out]; rfl
              have HCd := Lib.hid hcode
              clear hcode hl0
              go_wp2_with (at_builtin; first | refine Kin.wpList_append_none hA rfl _ _ rfl w.heap.size _ L rfl M5.out rfl ?_ | refine Kin.wpList_append hA rfl _ _ rfl w.heap.size _ L rfl (Kin.Mine.later M5.out (below_alloc _ _)) ⟨_, 0, none⟩ 1 1 [⟨7, 0, none, 0, 0, []⟩] rfl rfl (nd_news_at _ ⟨7, 0, none, 0, 0, []⟩ _ (by simp)) (fun y hy => by rw [List.mem_singleton.1 hy]; exact Wd.ofNil _) (by unfold maxLen; omega) (by show (L.length + 1) * 40 ≤ _; omega) (by rw [blk_size]; have := G5.out.size; omega) ?_)
              intro v' w6 hrow hgrow hnew
              have HR6 := Lib.hid hrow
              have HP6 := Lib.hid ((H5.out.later (below_alloc w4 _)).past (M5.out.later (below_alloc w4 _)) hgrow hgl hne)
              have HG6 := Lib.hid (grown_own (grown_pass G5.out (below_alloc w4 _)) hgrow M5.out.base)
              clear hrow hgrow hnew
              go_wp2
              go_roundw
              case rel => exact ⟨m, cd ++ code ++ [(7, 0, 0)], _, s2, HR6, Lib.hid (by rw [HCd.out, List.append_nil, List.map_append, HSm.out]; rfl), Lib.hid (thin_snoc HTh.out _ _), HP6, HG6, HMn2, by omega, by omega, by omega, by rw [List.length_append]; simp; omega⟩
              case measure => rw [HP6.out.held, HPh.out]; omega
            · have HNw : Hid (∀ j u, (L2.flatMap ndK.cells)[j]? = some u → w4.cell? (ad.add j) = some u) := Lib.hid (by
                intro j u hu
                by_cases h0 : L2.length = 0
                · rw [List.eq_nil_of_length_eq_zero h0] at hu; simp at hu
                · obtain ⟨b, off, e, _⟩ := HA2.out.1.at (by omega)
                  obtain rfl := Option.some.inj e
                  exact HA2.out.1.news j u hu)
              go_wp2_with (at_builtin; refine Kin.wpList_append hA rfl _ _ rfl w.heap.size _ L rfl M5.out ad L2.length c2 L2 rfl rfl HNw.out HA2.out.2 (by unfold maxLen; omega) (by show (L.length + L2.length) * 40 ≤ _; omega) (by have := G5.out.size; omega) ?_)
              intro v5 w5 hrow hgrow hnew
              have M6 := Lib.hid hrow
              have H6 := Lib.hid (H5.out.past M5.out hgrow hgl hne)
              have G6 := Lib.hid (grown_own G5.out hgrow M5.out.base)
              have hLL : (L ++ L2).length ≤ 200000 := by rw [List.length_append]; omega
              clear hrow hgrow hnew H5 G5 M5 HNw HA2
              go_wp2_with (at_builtin; refine Kin.wpList_append hA rfl _ _ rfl w.heap.size _ (L ++ L2) rfl (Kin.Mine.later M6.out (below_alloc _ _)) ⟨_, 0, none⟩ 1 1 [⟨7, 0, none, 0, 0, []⟩] rfl rfl (nd_news_at _ ⟨7, 0, none, 0, 0, []⟩ _ (by simp)) (fun y hy => by rw [List.mem_singleton.1 hy]; exact Wd.ofNil _) (by unfold maxLen; omega) (by show ((L ++ L2).length + 1) * 40 ≤ _; omega) (by rw [blk_size]; have := G6.out.size; omega) ?_)
              intro v' w6 hrow hgrow hnew
              try rw [← List.append_assoc] at hrow
              have HR7 := Lib.hid hrow
              have HP7 := Lib.hid ((H6.out.later (below_alloc w5 _)).past (M6.out.later (below_alloc w5 _)) hgrow hgl hne)
              have HG7 := Lib.hid (grown_own (grown_pass G6.out (below_alloc w5 _)) hgrow M6.out.base)
              clear hrow hgrow hnew H6 G6 M6
              go_wp2
              go_roundw
              case rel => exact ⟨m, cd ++ code ++ [(7, 0, 0)], _, s2, HR7, Lib.hid (by rw [List.map_append, List.map_append, HSm.out, SM5.out]; rfl), Lib.hid (thin_snoc (thin_app HTh.out TH5.out) _ _), HP7, HG7, HMn2, by omega, by omega, by omega, by rw [List.length_append, List.length_append, HL2c.out]; simp; omega⟩
              case measure => rw [HP7.out.held, HPh.out]; omega
          · rw [if_pos rfl] at HMn
            clear hx
            go_wp2_with fail
            refine (HSa.out _ B0.out).mono ?_
            rintro e w1 ⟨rfl, bb⟩
            have B1 := Lib.hid (below_then B0.out bb)
            clear bb
            go_wp2_with fail
            refine (HSb.out _ B1.out).mono ?_
            rintro e w2 ⟨rfl, bb⟩
            have B2 := Lib.hid (below_then B1.out bb)
            clear bb
            have H3 := Lib.hid (HP.out.later B2.out)
            have G3 := Lib.hid (grown_pass HG.out B2.out)
            have M3 := Lib.hid (HM.out.later B2.out)
            obtain ⟨e0, e1, e2, e3, e4, e5⟩ := H3.out.cells
            have ef := H3.out.free 1
            have ki : IntKind.i64.wrap ((s.i : Int) + 1) = ((s.i + 1 : Nat) : Int) := by rw [IntKind.wrap_i64]; omega
            obtain ⟨h4, g4⟩ := H3.out.set1 (s.i + 1)
            have H4 := Lib.hid h4
            have G4 := Lib.hid (grown_then G3.out g4)
            have M4 := Lib.hid (mine_past M3.out H3.out g4 hgl)
            have HCl := Lib.hid (HCC.out g a n c nv { s with i := s.i + 1 } _ h4 ⟨by dsimp only; omega, by dsimp only; omega⟩)
            have d1 := HF1.out.deep { s with i := s.i + 1 }
            have d2 := HF1.out.within { s with i := s.i + 1 } (by dsimp only; omega)
            have d3 := HF1.out.len { s with i := s.i + 1 }
            generalize (pTerm W fa) { s with i := s.i + 1 } = r1 at *
            obtain ⟨code, s2⟩ := r1
            dsimp only at d1 d2 d3 HMn
            have HMn2 := Lib.hid HMn
            clear h4 g4 HP HG HM H3 G3 M3 HMn
            go_wp2_with fail
            refine HCl.out.mono ?_
            rintro e w4 ⟨v2, L2, rfl, m5, sm5, th5, h5, g5⟩
            have H5 := Lib.hid h5
            have G5 := Lib.hid (grown_then G4.out g5)
            have M5 := Lib.hid (mine_past M4.out H4.out g5 hgl)
            have hL2 : L2.length ≤ 100000 := by rw [sem_len sm5]; dsimp only; omega
            have HL2c : Hid (L2.length = code.length) := Lib.hid (sem_len sm5)
            have SM5 : Hid (L2.map Nd.sem = code) := Lib.hid sm5
            have TH5 := Lib.hid th5
            obtain ⟨a2, c2, rfl, hal⟩ := m5.slice
            have HA2 := Lib.hid hal
            clear h5 g5 m5 sm5 th5 hal e0 e1 e2 e3 e4 e5 ef HCl H4 G4 M4
            rcases a2 with _ | ad
            · have hc0 : c2 = 0 := HA2.out.1.2.2.2.1 rfl
              have hb2 := HA2.out.bound
              have hl0 : L2.length = 0 := by omega
              obtain rfl : L2 = [] := List.eq_nil_of_length_eq_zero hl0
              subst hc0
              have hcode : code = [] := by rw [← SM5.out]; rfl
              have HCd := Lib.hid hcode
              clear hcode hl0
              go_wp2_with (at_builtin; first | refine Kin.wpList_append_none hA rfl _ _ rfl w.heap.size _ L rfl M5.out rfl ?_ | refine Kin.wpList_append hA rfl _ _ rfl w.heap.size _ L rfl (Kin.Mine.later M5.out (below_alloc _ _)) ⟨_, 0, none⟩ 1 1 [⟨8, 0, none, 0, 0, []⟩] rfl rfl (nd_news_at _ ⟨8, 0, none, 0, 0, []⟩ _ (by simp)) (fun y hy => by rw [List.mem_singleton.1 hy]; exact Wd.ofNil _) (by unfold maxLen; omega) (by show (L.length + 1) * 40 ≤ _; omega) (by rw [blk_size]; have := G5.out.size; omega) ?_)
              intro v' w6 hrow hgrow hnew
              have HR6 := Lib.hid hrow
              have HP6 := Lib.hid ((H5.out.later (below_alloc w4 _)).past (M5.out.later (below_alloc w4 _)) hgrow hgl hne)
              have HG6 := Lib.hid (grown_own (grown_pass G5.out (below_alloc w4 _)) hgrow M5.out.base)
              clear hrow hgrow hnew
              go_wp2
              go_roundw
              case rel => exact ⟨m, cd ++ code ++ [(8, 0, 0)], _, s2, HR6, Lib.hid (by rw [HCd.out, List.append_nil, List.map_append, HSm.out]; rfl), Lib.hid (thin_snoc HTh.out _ _), HP6, HG6, HMn2, by omega, by omega, by omega, by rw [List.length_append]; simp; omega⟩
              case measure => rw [HP6.out.held, HPh.out]; omega
            · have HNw : Hid (∀ j u, (L2.flatMap ndK.cells)[j]? = some u → w4.cell? (ad.add j) = some u) := Lib.hid (by
                intro j u hu
                by_cases h0 : L2.length = 0
                · rw [List.eq_nil_of_length_eq_zero h0] at hu; simp at hu
                · obtain ⟨b, off, e, _⟩ := HA2.out.1.at (by omega)
                  obtain rfl := Option.some.inj e
                  exact HA2.out.1.news j u hu)
              go_wp2_with (at_builtin; refine Kin.wpList_append hA rfl _ _ rfl w.heap.size _ L rfl M5.out ad L2.length c2 L2 rfl rfl HNw.out HA2.out.2 (by unfold maxLen; omega) (by show (L.length + L2.length) * 40 ≤ _; omega) (by have := G5.out.size; omega) ?_)
              intro v5 w5 hrow hgrow hnew
              have M6 := Lib.hid hrow
              have H6 := Lib.hid (H5.out.past M5.out hgrow hgl hne)
              have G6 := Lib.hid (grown_own G5.out hgrow M5.out.base)
              have hLL : (L ++ L2).length ≤ 200000 := by rw [List.length_append]; omega
              clear hrow hgrow hnew H5 G5 M5 HNw HA2
              go_wp2_with (at_builtin; refine Kin.wpList_append hA rfl _ _ rfl w.heap.size _ (L ++ L2) rfl (Kin.Mine.later M6.out (below_alloc _ _)) ⟨_, 0, none⟩ 1 1 [⟨8, 0, none, 0, 0, []⟩] rfl rfl (nd_news_at _ ⟨8, 0, none, 0, 0, []⟩ _ (by simp)) (fun y hy => by rw [List.mem_singleton.1 hy]; exact Wd.ofNil _) (by unfold maxLen; omega) (by show ((L ++ L2).length + 1) * 40 ≤ _; omega) (by rw [blk_size]; have := G6.out.size; omega) ?_)
              intro v' w6 hrow hgrow hnew
              try rw [← List.append_assoc] at hrow
              have HR7 := Lib.hid hrow
              have HP7 := Lib.hid ((H6.out.later (below_alloc w5 _)).past (M6.out.later (below_alloc w5 _)) hgrow hgl hne)
              have HG7 := Lib.hid (grown_own (grown_pass G6.out (below_alloc w5 _)) hgrow M6.out.base)
              clear hrow hgrow hnew H6 G6 M6
              go_wp2
              go_roundw
              case rel => exact ⟨m, cd ++ code ++ [(8, 0, 0)], _, s2, HR7, Lib.hid (by rw [List.map_append, List.map_append, HSm.out, SM5.out]; rfl), Lib.hid (thin_snoc (thin_app HTh.out TH5.out) _ _), HP7, HG7, HMn2, by omega, by omega, by omega, by rw [List.length_append, List.length_append, HL2c.out]; simp; omega⟩
              case measure => rw [HP7.out.held, HPh.out]; omega
      · have hR9 : R = (cd, s) := by
          rw [← HMn]
          cases m with
          | zero => rfl
          | succ m => rw [pMany, if_neg hx]
        rw [not_or, Bool.not_eq_true, Bool.not_eq_true] at hx
        rw [hx.1] at HSa
        rw [hx.2] at HSb
        clear hx HMn
        go_wp2_with fail
        refine (HSa.out _ B0.out).mono ?_
        rintro e w1 ⟨rfl, bb⟩
        have B1 := Lib.hid (below_then B0.out bb)
        clear bb
        go_wp2_with fail
        refine (HSb.out _ B1.out).mono ?_
        rintro e w2 ⟨rfl, bb⟩
        have B2 := Lib.hid (below_then B1.out bb)
        clear bb
        go_wp2
        go_ret
        subst hR9
        exact ⟨_, L, rfl, HM.out.later B2.out, HSm.out, HTh.out, HP.out.later B2.out, grown_pass HG.out B2.out⟩
theorem ref18_all (W : List Lw) (E : Nat) (N : List (List UInt8)) (hW : ∀ x ∈ W, Wk x) (hlen : W.length ≤ 100000) : ∀ l : Nat,
    (0 < l → Does18 68 9 80 Try.prog 80 W E N (pAll W E N l).1 (fun s => s.deep + l = 41 ∧ s.i ≤ W.length)) ∧
    Does18 68 9 80 Try.prog 33 W E N (pAll W E N l).2 (fun s => s.deep + l = 41 ∧ (l = 0 → 0 ≤ s.bad) ∧ s.i ≤ W.length)
  | 0 => by
    refine ⟨fun h => absurd h (Nat.lt_irrefl 0), fun g a n c nv s w h hok => ?_⟩
    have hb : 0 ≤ s.bad := hok.2.1 rfl
    have H := Lib.hid h
    obtain ⟨e0, e1, e2, e3, e4, e5⟩ := h.cells
    clear h hok
    show Calls _ _ _ _ (Code18 _ _ _ g a n c W E nv N ([], s) w)
    go_enter Try.func33, Try.ntmps33
    go_wp2
    go_ret
    exact code_void H.out (grown_refl _ _) rfl rfl
  | l + 1 => by
    obtain ⟨i1, i2⟩ := ref18_all W E N hW hlen l
    have hf := pAll_fine W E N l
    have ha := ref18_atom W E N hW hlen l i2
    have hfa := ref18_factor W E N hW hlen l ha i1
    have hff := pFac_fine W E N hf.1 hf.2
    have ht := ref18_term W E N hlen l _ hff hfa
    have he := ref18_expr W E N hlen l _ (pTerm_fine W hff) ht
    exact ⟨fun _ => hfa, fun g a n c nv s w h hok => he g a n c nv s w h ⟨hok.1, hok.2.2⟩⟩
end Go.Proofs.Ythblmpkdcahmkaa

/-
  The document's answer of layer 16: digit, letter, Kind, more, Most.
-/
namespace Go.Proofs.Ythblmpkdcahmkaa
open Go.RowKit

set_option maxRecDepth 4096 in
set_option maxHeartbeats 4000000 in
theorem ref16_digit (c : Nat) (w : World) : Calls Try.prog 85 #[.int .u8 (c : Int)] w (Same1 (.bool (lexDig c)) w) := by
  unfold lexDig
  by_cases h1 : 48 ≤ c
  · have h1' : (48 : Int) ≤ (c : Int) := by omega
    rw [decide_eq_true h1, Bool.true_and]
    have h2 : decide (c ≤ 57) = decide ((c : Int) ≤ 57) := decide_eq_decide.2 (by omega)
    rw [h2]
    go_enter Try.func85, Try.ntmps85
    go_wp2
    go_ret
    exact ⟨rfl, rfl⟩
  · have h1' : ¬ (48 : Int) ≤ (c : Int) := by omega
    rw [decide_eq_false h1, Bool.false_and]
    go_enter Try.func85, Try.ntmps85
    go_wp2
    go_ret
    exact ⟨rfl, rfl⟩
set_option maxRecDepth 4096 in
set_option maxHeartbeats 4000000 in
theorem ref16_letter (c : Nat) (w : World) : Calls Try.prog 86 #[.int .u8 (c : Int)] w (Same1 (.bool (lexLet c)) w) := by
  obtain ⟨r, hr⟩ : ∃ r, lexLet c = r := ⟨_, rfl⟩
  rw [hr]
  unfold lexLet at hr
  have hd : r = decide ((97 ≤ c ∧ c ≤ 122) ∨ (65 ≤ c ∧ c ≤ 90) ∨ c = 95) := by
    rw [← hr, Bool.or_assoc, ← Bool.decide_or, ← Bool.decide_or]
  clear hr
  by_cases h1 : 97 ≤ c
  · have k1 : (97 : Int) ≤ (c : Int) := by omega
    have k2 : (65 : Int) ≤ (c : Int) := by omega
    have k3 : ¬ (c : Int) ≤ 90 := by omega
    have k4 : ¬ (c : Int) = 95 := by omega
    have hd2 : r = decide ((c : Int) ≤ 122) := by rw [hd]; exact decide_eq_decide.2 (by omega)
    by_cases h2 : c ≤ 122
    · have k5 : (c : Int) ≤ 122 := by omega
      rw [hd2, decide_eq_true k5]
      clear hd hd2
      go_enter Try.func86, Try.ntmps86
      go_wp2
      go_ret
      exact ⟨rfl, rfl⟩
    · have k5 : ¬ (c : Int) ≤ 122 := by omega
      rw [hd2, decide_eq_false k5]
      clear hd hd2
      go_enter Try.func86, Try.ntmps86
      go_wp2
      go_ret
      exact ⟨by simp; omega, rfl⟩
  · have k1 : ¬ (97 : Int) ≤ (c : Int) := by omega
    by_cases h2 : 65 ≤ c
    · have k2 : (65 : Int) ≤ (c : Int) := by omega
      by_cases h3 : c ≤ 90
      · have k3 : (c : Int) ≤ 90 := by omega
        rw [hd, decide_eq_true (by omega)]
        clear hd
        go_enter Try.func86, Try.ntmps86
        go_wp2
        go_ret
        exact ⟨rfl, rfl⟩
      · have k3 : ¬ (c : Int) ≤ 90 := by omega
        have hd2 : r = ((c : Int) == 95) := by rw [hd, Bool.eq_iff_iff]; simp; omega
        rw [hd2]
        clear hd hd2
        go_enter Try.func86, Try.ntmps86
        go_wp2
        go_ret
        exact ⟨rfl, rfl⟩
    · have k2 : ¬ (65 : Int) ≤ (c : Int) := by omega
      have k4 : ((c : Int) == 95) = false := by simp; omega
      rw [hd, decide_eq_false (by omega)]
      clear hd
      go_enter Try.func86, Try.ntmps86
      go_wp2
      go_ret
      exact ⟨by first | rfl | (simp; omega), rfl⟩
theorem sgn_from (c : Nat) : lexSgn c = (lexSigns.drop 0).any fun x => x.toNat == c := rfl
set_option maxRecDepth 4096 in
set_option maxHeartbeats 8000000 in
theorem ref16_kind (c : Nat) (w : World) : Calls Try.prog 74 #[.int .u8 (c : Int)] w (Same1 (.int .i64 (lexKind c : Int)) w) := by
  have HD := Lib.hid (ref16_digit c w)
  have HL := Lib.hid (ref16_letter c w)
  unfold lexKind
  by_cases h1 : lexDig c = true
  · rw [if_pos h1]
    rw [h1] at HD
    go_enter Try.func74, Try.ntmps74
    go_wp2_with fail
    refine HD.out.mono ?_
    rintro e w1 ⟨rfl, rfl⟩
    go_wp2
    go_ret
    exact ⟨rfl, rfl⟩
  · rw [if_neg h1]
    have h1' : lexDig c = false := by simpa using h1
    rw [h1'] at HD
    by_cases h2 : lexLet c = true
    · rw [if_pos h2]
      rw [h2] at HL
      go_enter Try.func74, Try.ntmps74
      go_wp2_with fail
      refine HD.out.mono ?_
      rintro e w1 ⟨rfl, rfl⟩
      go_wp2_with fail
      refine HL.out.mono ?_
      rintro e w1 ⟨rfl, rfl⟩
      go_wp2
      go_ret
      exact ⟨rfl, rfl⟩
    · rw [if_neg h2]
      have h2' : lexLet c = false := by simpa using h2
      rw [h2'] at HL
      clear h1 h1' h2 h2'
      obtain ⟨K, hK⟩ : ∃ K : Nat, (if lexSgn c = true then 3 else 0) = K := ⟨_, rfl⟩
      rw [hK]
      have HK0 : Hid (lexSgn c = lexSgn c ∧ ((lexSgn c = true → K = 3) ∧ (lexSgn c = false → K = 0))) := Lib.hid ⟨rfl, fun h => by rw [← hK, if_pos h], fun h => by rw [← hK, if_neg (by rw [h]; decide)]⟩
      clear hK
      go_enter Try.func74, Try.ntmps74
      go_wp2_with fail
      refine HD.out.mono ?_
      rintro e w1 ⟨rfl, rfl⟩
      go_wp2_with fail
      refine HL.out.mono ?_
      rintro e w1 ⟨rfl, rfl⟩
      clear HD HL
      go_wp2
      go_loop [4] (fun iv => ∃ k : Nat, iv = .int .i64 (k : Int) ∧ k ≤ 12 ∧ Hid (lexSgn c = (lexSigns.drop k).any fun x => x.toNat == c)) (fun iv => 12 - (intOf iv).toNat)
      case atStart => exact ⟨0, by go_num, by omega, Lib.hid (sgn_from c)⟩
      case round =>
        obtain ⟨k, rfl, hk, HR⟩ := hrel
        by_cases hlt : k < 12
        · have hb : k < lexSigns.length := hlt
          have hg : ((⟨#[43, 45, 42, 47, 94, 40, 41, 91, 93, 44, 59, 61]⟩ : ByteArray)[k]'hlt).toNat = (lexSigns.getD k 0).toNat := bs_get lexSigns k hb hlt
          have hdr : lexSigns.drop k = lexSigns.getD k 0 :: lexSigns.drop (k + 1) := by
            rw [List.drop_eq_getElem_cons hb, List.getD_eq_getElem?_getD, List.getElem?_eq_getElem hb]; rfl
          obtain ⟨x, hx⟩ : ∃ x, lexSigns.getD k 0 = x := ⟨_, rfl⟩
          rw [hx] at hg hdr
          have HR2 : Hid (lexSgn c = ((x.toNat == c) || (lexSigns.drop (k + 1)).any fun x => x.toNat == c)) := Lib.hid (by have h9 := HR.out; rw [hdr] at h9; exact h9)
          by_cases hc : x.toNat = c
          · have hc' : ((x.toNat : Int) == (c : Int)) = true := by simp [hc]
            have hK3 : K = 3 := HK0.out.2.1 (by rw [HR2.out, hc]; simp)
            subst hK3
            go_wp2
            go_ret
            exact ⟨rfl, rfl⟩
          · have hc' : ((x.toNat : Int) == (c : Int)) = false := by simp; omega
            go_wp2
            go_round
            case rel => exact ⟨k + 1, by go_num, by omega, Lib.hid (by rw [HR2.out]; simp [hc])⟩
            case measure => simp [intOf]; omega
        · obtain rfl : k = 12 := by omega
          have hK0 : K = 0 := HK0.out.2.2 (by rw [HR.out]; rfl)
          subst hK0
          go_wp2
          go_ret
          exact ⟨rfl, rfl⟩
set_option maxRecDepth 4096 in
set_option maxHeartbeats 8000000 in
theorem ref16_more (k : Int) (k' : Nat) (hk : k = (k' : Int)) (c : Nat) (w : World) : Calls Try.prog 73 #[.int .i64 k, .int .u8 (c : Int)] w (Same1 (.bool (lexMore k' c)) w) := by
  have HD := Lib.hid (ref16_digit c w)
  have HL := Lib.hid (ref16_letter c w)
  obtain ⟨d, hd⟩ : ∃ d, lexDig c = d := ⟨_, rfl⟩
  obtain ⟨l, hl⟩ : ∃ l, lexLet c = l := ⟨_, rfl⟩
  unfold lexMore
  rw [hd] at HD ⊢
  rw [hl] at HL ⊢
  clear hd hl
  by_cases h1 : k' = 1
  · have k1 : k = 1 := by omega
    subst h1 k1
    clear hk
    cases d
    · go_enter Try.func73, Try.ntmps73
      go_wp2_with fail
      refine HD.out.mono ?_
      rintro e w1 ⟨rfl, rfl⟩
      go_wp2
      go_ret
      exact ⟨rfl, rfl⟩
    · go_enter Try.func73, Try.ntmps73
      go_wp2_with fail
      refine HD.out.mono ?_
      rintro e w1 ⟨rfl, rfl⟩
      go_wp2
      go_ret
      exact ⟨rfl, rfl⟩
  · have k1 : ¬ k = 1 := by omega
    have k1' : (k == 1) = false := by simp [k1]
    by_cases h2 : k' = 2
    · have k2 : k = 2 := by omega
      subst h2 k2
      clear hk h1 k1 k1'
      cases d
      · go_enter Try.func73, Try.ntmps73
        go_wp2_with fail
        refine HD.out.mono ?_
        rintro e w1 ⟨rfl, rfl⟩
        go_wp2_with fail
        refine HL.out.mono ?_
        rintro e w1 ⟨rfl, rfl⟩
        go_wp2
        go_ret
        exact ⟨rfl, rfl⟩
      · go_enter Try.func73, Try.ntmps73
        go_wp2_with fail
        refine HD.out.mono ?_
        rintro e w1 ⟨rfl, rfl⟩
        go_wp2
        go_ret
        exact ⟨rfl, rfl⟩
    · have k2 : ¬ k = 2 := by omega
      have k2' : (k == 2) = false := by simp [k2]
      rw [decide_eq_false h1, decide_eq_false h2]
      clear h1 h2 HD HL hk
      go_enter Try.func73, Try.ntmps73
      go_wp2
      go_ret
      exact ⟨rfl, rfl⟩
set_option maxRecDepth 4096 in
set_option maxHeartbeats 4000000 in
theorem ref16_most (k : Int) (k' : Nat) (hk : k = (k' : Int)) (w : World) : Calls Try.prog 75 #[.int .i64 k] w (Same1 (.int .i64 (lexMost k' : Int)) w) := by
  unfold lexMost
  by_cases h1 : k' = 1
  · have k1 : k = 1 := by omega
    subst h1 k1
    clear hk
    go_enter Try.func75, Try.ntmps75
    go_wp2
    go_ret
    exact ⟨rfl, rfl⟩
  · have k1 : ¬ k = 1 := by omega
    by_cases h2 : k' = 2
    · have k2 : k = 2 := by omega
      subst h2 k2
      clear hk h1 k1
      go_enter Try.func75, Try.ntmps75
      go_wp2
      go_ret
      exact ⟨rfl, rfl⟩
    · have k2 : ¬ k = 2 := by omega
      rw [if_neg h1, if_neg h2]
      clear h1 h2 hk
      go_enter Try.func75, Try.ntmps75
      go_wp2
      go_ret
      exact ⟨rfl, rfl⟩
end Go.Proofs.Ythblmpkdcahmkaa
