/-
  The document's answer of layer 14: Div.
-/
import Derived.Test.YtipcgehcineblaaGreatRef14eM
import Derived.Test.YtipcgehcineblaaGreatG15
import Derived.Deep.RegionLaw
import Derived.Deep.RegionHeld3
import Derived.Deep.CutRange
namespace Go.Proofs.YtipcgehcineblaaGreat
open Go.RowKit

theorem six_on {w w' : World} {p q r p2 q2 r2 : Addr} {x y z x2 y2 z2 : Value} (h : w.cell? p = some x ∧ w.cell? q = some y ∧ w.cell? r = some z) (k : w.cell? p2 = some x2 ∧ w.cell? q2 = some y2 ∧ w.cell? r2 = some z2) (hb : Below w.heap.size w w') :
    w'.cell? p = some x ∧ w'.cell? q = some y ∧ w'.cell? r = some z ∧ w'.cell? p2 = some x2 ∧ w'.cell? q2 = some y2 ∧ w'.cell? r2 = some z2 := ⟨cell_later hb h.1, cell_later hb h.2.1, cell_later hb h.2.2, cell_later hb k.1, cell_later hb k.2.1, cell_later hb k.2.2⟩
/-- What Div hands back: quotient and rest, right; and the state that they were made in. -/
def LstDivI (A B : List Rat) (n : Nat) (I : List Rat → List Rat → Prop) (w : World) (e : Ending) (w' : World) : Prop := ∃ (a : Option Addr) (n1 c : Nat) (q : List Rat) (b : Option Addr) (m d : Nat) (r : List Rat), e = .returned (.tuple #[.slice a n1 c, .slice b m d]) ∧ Rw w' a n1 c q ∧ Rw w' b m d r ∧ isDiv A B q r ∧ pnorm q = q ∧ pnorm r = r ∧ r.length ≤ n ∧ (∃ Q, q = pnorm Q ∧ I Q r) ∧ q.length ≤ n ∧ Below w.heap.size w w'
set_option maxRecDepth 4096 in
set_option maxHeartbeats 8000000 in
theorem ref14_div_by (a : Option Addr) (n c : Nat) (ps : List Rat) (b : Option Addr) (m d : Nat) (rs : List Rat) (K T : Nat) (I : List Rat → List Rat → Prop) (w : World) (h : Rw w a n c ps) (k : Rw w b m d rs) (hn : n ≤ 200) (hm : m ≤ 200) (hp : ∀ q ∈ ps, qlen q ≤ 15728640000) (hr : ∀ q ∈ rs, qlen q ≤ K)
    (hB : pnorm rs = rs) (h0 : 0 < m) (hW : DivWay ps rs K T I) (hT : T ≤ 2000000000) : Calls Tryz.prog 34 #[.slice a n c, .slice b m d] w (LstDivI ps rs n I w) := by
  have hbd2 := k.bound
  have HM := Lib.hid k
  have hl1 := h.len
  have hl2 := k.len
  have HRL := Lib.hid hl2
  have HRR := Lib.hid hr
  have HBN := Lib.hid hB
  have HW := Lib.hid hW
  obtain ⟨R0, hR0⟩ : ∃ R0, pnorm ps = R0 := ⟨_, rfl⟩
  have hR0l : R0.length ≤ n := by rw [← hR0]; exact Nat.le_trans (pnorm_length_le _) (by omega)
  have HR0L := Lib.hid hR0l
  have HD0 : Hid (peq ps (padd (pmul [] rs) R0) ∧ pnorm R0 = R0 ∧ I [] R0) := Lib.hid ⟨fun i => by rw [co_padd, pmul, co_nil, ← hR0, pnorm_co]; grind, by rw [← hR0]; exact pnorm_pnorm ps, hR0 ▸ hW.start⟩
  have HNO : Hid (Calls Tryz.prog 8 #[.slice a n c] w (LstRw R0 w)) := Lib.hid (hR0 ▸ ref14_norm a n c ps w h (by omega) hp)
  have HB := Lib.hid (Below.refl w.heap.size w)
  clear h k hp hr hB hW hl1 hl2 hR0 hR0l
  go_enter Tryz.func34, Tryz.ntmps34
  go_wp2_with fail
  refine HNO.out.mono ?_
  rintro e w1 ⟨a2, n2, c2, rfl, h2, bw⟩
  have hn2 : n2 ≤ n := by rw [← h2.len]; exact HR0L.out
  replace HB := Lib.hid (below_then HB.out bw)
  have RR2 := Lib.hid h2
  clear bw h2 HNO
  go_wp2
  go_loopw [6, 7] (fun qv rv wr => ∃ (a1 : Option Addr) (n1 c1 : Nat) (Q : List Rat) (a2 : Option Addr) (n2 c2 : Nat) (R : List Rat), qv = .slice a1 n1 c1 ∧ rv = .slice a2 n2 c2 ∧ n1 ≤ n ∧ n2 ≤ n ∧ Hid (Rw wr a1 n1 c1 Q) ∧ Hid (Rw wr a2 n2 c2 R) ∧ Hid (peq ps (padd (pmul Q rs) R) ∧ pnorm R = R ∧ I Q R) ∧ Hid (Below w.heap.size w wr)) (fun _ rv _ => lenOf rv)
  case atStart => exact ⟨none, 0, 0, [], a2, n2, c2, R0, rfl, rfl, by omega, hn2, Lib.hid (Rw.nil _), RR2, HD0, HB⟩
  case round =>
    clear RR2 HD0 HB hn2
    obtain ⟨a1, n1, c1, Q, a2, n2, c2, R, rfl, rfl, hn1, hn2, HQ, HR, HD, HB⟩ := hrel
    have hbd1 := HR.out.bound
    have hbd3 := HQ.out.bound
    have HRl := Lib.hid HR.out.len
    have HQl := Lib.hid HQ.out.len
    by_cases hge : m ≤ n2
    · have hgi : (m : Int) ≤ (n2 : Int) := by omega
      obtain ⟨e2, he2⟩ : ∃ e2, n2 - 1 = e2 := ⟨_, rfl⟩
      obtain ⟨e3, he3⟩ : ∃ e3, m - 1 = e3 := ⟨_, rfl⟩
      obtain ⟨D, hD⟩ : ∃ D, n2 - m = D := ⟨_, rfl⟩
      have hi2 : (n2 : Int) - 1 = (e2 : Int) := by omega
      have hi3 : (m : Int) - 1 = (e3 : Int) := by omega
      have hiD : (n2 : Int) - (m : Int) = (D : Int) := by omega
      have hw2 : IntKind.i64.wrap (e2 : Int) = (e2 : Int) := by rw [IntKind.wrap_i64]; omega
      have hw3 : IntKind.i64.wrap (e3 : Int) = (e3 : Int) := by rw [IntKind.wrap_i64]; omega
      have hwD : IntKind.i64.wrap (D : Int) = (D : Int) := by rw [IntKind.wrap_i64]; omega
      have hl2 : (e2 : Int) < (n2 : Int) := by omega
      have hl3 : (e3 : Int) < (m : Int) := by omega
      have hK1 : 1 ≤ K := Nat.le_trans (qlen_pos (rs.getD 0 0)) (HRR.out _ (q_mem (k := 0) (by rw [HRL.out]; exact h0)))
      have hcl := HW.out.top HD.out.2.2 HD.out.2.1 (by rw [HRL.out, HRl.out]; exact hge)
      obtain ⟨hRq, hQq⟩ := HW.out.room HD.out.2.2
      obtain ⟨rt, hrt⟩ : ∃ x, R.getD e2 0 = x := ⟨_, rfl⟩
      obtain ⟨bt, hbt⟩ : ∃ x, rs.getD e3 0 = x := ⟨_, rfl⟩
      obtain ⟨cq, hcq⟩ : ∃ x, rt / bt = x := ⟨_, rfl⟩
      have hcq2 : cq = R.getD (R.length - 1) 0 / rs.getD (rs.length - 1) 0 := by rw [HRl.out, HRL.out, he2, he3, hrt, hbt, hcq]
      rw [← hcq2] at hcl
      have HSTEP : Hid (∀ Q' X R', peq Q' (padd Q (shot D cq)) → peq X (pmul (shot D cq) rs) → peq R' (psub R X) → pnorm R' = R' → (peq ps (padd (pmul Q' rs) R') ∧ pnorm R' = R' ∧ I Q' R') ∧ R'.length < n2) := Lib.hid (fun Q' X R' g1 g2 g3 g4 => by
        have hDl : D = R.length - rs.length := by rw [HRl.out, HRL.out, hD]
        have i1 := div_step (Q' := Q') (X := X) (R' := R') HBN.out (by rw [HRL.out]; exact h0) (by rw [HRL.out, HRl.out]; exact hge) HD.out.1 hcq2 (hDl ▸ g1) (hDl ▸ g2) g3 g4
        have i2 := HW.out.step (Q' := Q') (X := X) (R' := R') HD.out.2.2 HD.out.2.1 (by rw [HRL.out, HRl.out]; exact hge) hcq2 (hDl ▸ g1) (hDl ▸ g2) g3 g4
        rw [HRl.out] at i1
        exact ⟨⟨i1.1, g4, i2⟩, i1.2⟩)
      obtain ⟨bb, off, rfl, a3, n3, c3, b3, m3, d3, hea, hA, hDn⟩ := HR.out.at (j := e2) (by omega)
      obtain ⟨bc, off2, hbe, a4, n4, c4, b4, m4, d4, heb, hA2, hD2⟩ := (HM.out.later HB.out).at (j := e3) (by omega)
      have hlr := hRq _ (q_mem (L := R) (k := e2) (by rw [HRl.out]; omega))
      have hlb := HRR.out _ (q_mem (L := rs) (k := e3) (by rw [HRL.out]; omega))
      rw [hrt] at hea hA hDn hlr
      rw [hbt] at heb hA2 hD2 hlb
      have hF1 := Rt.of hA hDn (N := 15728640000) (by rw [← hA.len]; exact Nat.le_trans (qlen_num _) (by omega)) (by rw [← hDn.len]; exact Nat.le_trans (qlen_den _) (by omega))
      have hF2 := Rt.of hA2 hD2 (N := 15728640000) (by rw [← hA2.len]; exact Nat.le_trans (qlen_num _) (by omega)) (by rw [← hD2.len]; exact Nat.le_trans (qlen_den _) (by omega))
      have HEA := Lib.hid hea
      have HEB := Lib.hid heb
      subst hbe
      have HQU : ∀ w' : World, Below wr.heap.size wr w' → Calls Tryz.prog 64 #[.agg #[.bool (zneg rt.num), .slice a3 n3 c3, .slice b3 m3 d3], .agg #[.bool (zneg bt.num), .slice a4 n4 c4, .slice b4 m4 d4]] w' (LstQ cq w') := fun w' h9 => hcq ▸ ref09_quo_q _ _ rt bt w' (by obtain ⟨x1, x2, x3, x4, x5, x6, y0, y1, y2, y3⟩ := hF1; exact ⟨x1, x2, x3, x4, x5, x6, y0, y1.later h9, y2.later h9, y3⟩) (by obtain ⟨x1, x2, x3, x4, x5, x6, y0, y1, y2, y3⟩ := hF2; exact ⟨x1, x2, x3, x4, x5, x6, y0, y1.later h9, y2.later h9, y3⟩)
      have HCL := Lib.hid hcl
      have HQq := Lib.hid hQq
      have HRq := Lib.hid hRq
      have HDe := Lib.hid hD
      clear hA hDn hA2 hD2 hF1 hF2 hea heb hlr hlb hrt hbt hcq hcq2 hcl hRq hQq he2 he3 hD HD
      go_upto_region 4 with fail
      go_cut [8] from 17 to 29 (fun cv wx => ∃ (g : Nat) (a5 : Option Addr) (n5 c5 : Nat) (b5 : Option Addr) (m5 d5 : Nat), cv = .pointer (some ⟨g, 0, none⟩) ∧ Hid (wx.heap[g]? = some (.cells #[.bool (zneg cq.num), .slice a5 n5 c5, .slice b5 m5 d5] 25 (0, 0))) ∧ Hid (Wd wx a5 n5 c5 (dg cq.num.natAbs)) ∧ Hid (Wd wx b5 m5 d5 (dg cq.den)) ∧ Hid (Below wr.heap.size wr wx))
      case first =>
        go_wp2
        have qS := six_on HEA.out HEB.out ((Below.refl _ _).drew : Below wr.heap.size wr wr.drew)
        have qA := fun o => six_on HEA.out HEB.out ((below_alloc wr o).drew : Below wr.heap.size wr (wr.alloc o).drew)
        have G1 : Below wr.heap.size wr wr.drew := (Below.refl _ _).drew
        have G2 : ∀ o, Below wr.heap.size wr (wr.alloc o).drew := fun o => (below_alloc wr o).drew
        go_region_held3 (fun w' => w'.cell? ⟨bb, off + e2 * 3, none⟩ = some (.bool (zneg rt.num)) ∧ w'.cell? ⟨bb, off + e2 * 3 + 1, none⟩ = some (.slice a3 n3 c3) ∧ w'.cell? ⟨bb, off + e2 * 3 + 2, none⟩ = some (.slice b3 m3 d3) ∧ w'.cell? ⟨bc, off2 + e3 * 3, none⟩ = some (.bool (zneg bt.num)) ∧ w'.cell? ⟨bc, off2 + e3 * 3 + 1, none⟩ = some (.slice a4 n4 c4) ∧ w'.cell? ⟨bc, off2 + e3 * 3 + 2, none⟩ = some (.slice b4 m4 d4)) (first | with_reducible exact qS | with_reducible exact qA _ | with_reducible exact qC)
          (first
          | (go_at_call 64; (first
            | (refine (HQU _ G1).mono ?_; rintro e w4 ⟨a5, n5, c5, b5, m5, d5, rfl, h5, g5, bw⟩; have BB := Lib.hid (below_then G1 bw); have A5 := Lib.hid h5; have D5 := Lib.hid g5; clear h5 g5 bw; unfold frV; clear qS qA; have qS := six_on HEA.out HEB.out BB.out; have qA := fun o => six_on HEA.out HEB.out (below_then BB.out (below_alloc w4 o)))
            | (refine (HQU _ (G2 _)).mono ?_; rintro e w4 ⟨a5, n5, c5, b5, m5, d5, rfl, h5, g5, bw⟩; have BB := Lib.hid (below_then (G2 _) bw); have Z4 := Lib.hid (blk_later (w := (wr.alloc (.cells #[.bool false, .slice none 0 0, .slice none 0 0] 25)).drew) (blk_new wr #[.bool false, .slice none 0 0, .slice none 0 0] 25) bw); have A5 := Lib.hid h5; have D5 := Lib.hid g5; clear h5 g5 bw; unfold frV; obtain ⟨z0, z1, z2⟩ := fcells_3 Z4.out; have f0 := blk_free Z4.out 0; have f1 := blk_free Z4.out 1; have f2 := blk_free Z4.out 2; have qC := six_on HEA.out HEB.out (below_set3 BB.out (Nat.le_refl _) (.bool (zneg cq.num)) (.slice a5 n5 c5) (.slice b5 m5 d5)); clear qS qA; have qS := six_on HEA.out HEB.out BB.out; have qA := fun o => six_on HEA.out HEB.out (below_then BB.out (below_alloc w4 o))))))
        all_goals (
          go_wp2
          go_meet
          (first
            | exact ⟨wr.heap.size, a5, n5, c5, b5, m5, d5, rfl, Lib.hid (blk_set3 Z4.out (.bool (zneg cq.num)) (.slice a5 n5 c5) (.slice b5 m5 d5)), Lib.hid (A5.out.stored3 Z4.out (zneg cq.num) a5 n5 c5 (.slice b5 m5 d5)), Lib.hid (D5.out.stored3 Z4.out (zneg cq.num) a5 n5 c5 (.slice b5 m5 d5)), Lib.hid (below_set3 BB.out (Nat.le_refl _) (.bool (zneg cq.num)) (.slice a5 n5 c5) (.slice b5 m5 d5))⟩
            | exact ⟨w4.heap.size, a5, n5, c5, b5, m5, d5, rfl, Lib.hid (blk_new w4 _ 25), Lib.hid (A5.out.later (below_alloc w4 _)), Lib.hid (D5.out.later (below_alloc w4 _)), Lib.hid (below_then BB.out (below_alloc w4 _))⟩))
      case rest =>
        obtain ⟨g, a5, n5, c5, b5, m5, d5, rfl, CB, A5, D5, HBc⟩ := hcut
        replace HB := Lib.hid (below_then HB.out HBc.out)
        replace HQ := Lib.hid (HQ.out.later HBc.out)
        replace HR := Lib.hid (HR.out.later HBc.out)
        clear HBc HQU HEA HEB hi2 hi3 hw2 hw3 hl2 hl3
        have hDn : D + 1 ≤ n := by have := HDe.out; omega
        go_upto_region 5 with fail
        go_cut [9] from 30 to 38 (fun tv wx => ∃ (a7 : Option Addr) (c7 : Nat), tv = .slice a7 (D + 1) c7 ∧ Hid (Rw wx a7 (D + 1) c7 (shot D cq)) ∧ Hid (Below wc.heap.size wc wx))
        case first =>
          have HZR : ∀ w' : World, Calls Tryz.prog 65 #[.int .i64 (D : Int)] w' (LstRow 25 (List.replicate D 0) w') := fun w' => by
            have h9 := ref11_zero_row (D : Int) w'
            rwa [show rcut (D : Int) = D by unfold rcut; omega] at h9
          have HLZ : (List.replicate D (0 : Rat)).length ≤ 1000000 := by rw [List.length_replicate]; omega
          have HSHL : Hid ((shot D cq).length = D + 1) := Lib.hid (shot_length D cq)
          have HSH : Hid (List.replicate D (0 : Rat) ++ [cq] = shot D cq) := Lib.hid rfl
          obtain ⟨i0, hi, hz0, hz1, hz2⟩ := info_parts infoFrac11
          obtain ⟨x0, x1, x2⟩ := fcells_3 CB.out
          go_wp2
          have b0 : Below wc.heap.size wc wc.drew := (Below.refl _ _).drew
          have BC := Lib.hid b0
          have AW := Lib.hid A5.out
          have DW := Lib.hid D5.out
          replace CB := Lib.hid (blk_later CB.out b0)
          replace A5 := Lib.hid (A5.out.later b0)
          replace D5 := Lib.hid (D5.out.later b0)
          clear x0 x1 x2 b0
          obtain ⟨x0, x1, x2⟩ := fcells_3 CB.out
          go_region_law (first
            | (refine step_append_row rfl _ _ 22 rfl wc.heap.size 25 i0 Tryz.underlying22 hi hz0 hz1 hz2 _ _ rfl HOa.out _ cq a5 n5 c5 b5 m5 d5 rfl (rx_news _ _ _ _ _ _ _ _ _) AA.out DA.out HLZ (by rw [blk_size]; omega) ?_; intro mv6 w6 hrow hgrow hbase hcl; have BX := Lib.hid (HBa.out.grown hgrow (by rw [blk_size]; omega) hbase))
            | (refine step_append_row rfl _ _ 22 rfl wc.heap.size 25 i0 Tryz.underlying22 hi hz0 hz1 hz2 _ _ rfl HOb.out _ cq a5 n5 c5 b5 m5 d5 rfl HNW.out AB.out DB.out HLZ hsz4 ?_; intro mv6 w6 hrow hgrow hbase hcl; have BX := Lib.hid (HBB.out.grown hgrow hsz4 hbase))
            | (go_simp; go_at_call 65; refine (HZR _).mono ?_; rintro e w4 ⟨v4, rfl, hO, bw⟩; (first
              | (have bw1 : Below wc.drew.heap.size wc.drew w4 := (by with_reducible exact bw); have HBB := Lib.hid (below_then BC.out bw1); have hsz4 : wc.heap.size ≤ w4.heap.size := HBB.out.size; have ba := below_alloc w4 (.cells #[.bool (zneg cq.num), .slice a5 n5 c5, .slice b5 m5 d5] 25); have HOa := Lib.hid ((row_weak hO (b' := wc.heap.size) BC.out.size).later ba); have AA := Lib.hid ((AW.out.later HBB.out).later ba); have DA := Lib.hid ((DW.out.later HBB.out).later ba); have HBa := Lib.hid (below_then HBB.out ba); replace CB := Lib.hid (blk_later CB.out bw1); clear x0 x1 x2 hO bw bw1 ba; obtain ⟨x0, x1, x2⟩ := fcells_3 CB.out)
              | (have bq : Below wc.heap.size wc (wc.alloc (.cells #[.bool (zneg cq.num), .slice a5 n5 c5, .slice b5 m5 d5] 25)).drew := (below_alloc wc (.cells #[.bool (zneg cq.num), .slice a5 n5 c5, .slice b5 m5 d5] 25)).drew; have bw1 : Below (wc.alloc (.cells #[.bool (zneg cq.num), .slice a5 n5 c5, .slice b5 m5 d5] 25)).drew.heap.size (wc.alloc (.cells #[.bool (zneg cq.num), .slice a5 n5 c5, .slice b5 m5 d5] 25)).drew w4 := (by with_reducible exact bw); have HBB := Lib.hid (below_then bq bw1); have hsz4 : wc.heap.size ≤ w4.heap.size := HBB.out.size; have HOb := Lib.hid (row_weak hO (b' := wc.heap.size) bq.size); have AB := Lib.hid (AW.out.later HBB.out); have DB := Lib.hid (DW.out.later HBB.out); have HNW := Lib.hid (fun j u hu => cell_later (w := (wc.alloc (.cells #[.bool (zneg cq.num), .slice a5 n5 c5, .slice b5 m5 d5] 25)).drew) bw1 (rx_news wc cq a5 n5 c5 b5 m5 d5 25 j u hu)); clear x0 x1 x2 hO bw bw1 bq))))
          all_goals (
            have hrow2 : Row w6 wc.heap.size 25 mv6 (shot D cq) := hrow
            obtain ⟨a7, c7, rfl, h7⟩ := hrow2.out
            have HF := Lib.hid h7
            clear hrow hgrow hbase hcl hrow2 h7
            rw [HSHL.out] at HF ⊢
            go_wp2
            go_meet
            exact ⟨a7, c7, rfl, HF, BX⟩)
        case rest =>
          obtain ⟨a7, c7, rfl, HT, HBc⟩ := hcut
          replace HB := Lib.hid (below_then HB.out HBc.out)
          replace HQ := Lib.hid (HQ.out.later HBc.out)
          replace HR := Lib.hid (HR.out.later HBc.out)
          clear HBc CB A5 D5 hiD hwD
          have hKp : 1 ≤ K := hK1
          have HSQ : Hid (∀ q ∈ shot D cq, qlen q ≤ 2000000000) := Lib.hid (fun q hq => by
            have h9 := HCL.out
            rcases List.mem_append.1 hq with h8 | h8
            · rw [(List.mem_replicate.1 h8).2, qlen_nought]; omega
            · rw [List.mem_singleton.1 h8]; omega)
          obtain ⟨Q2, hQ2⟩ : ∃ x, pnorm (padd Q (shot D cq)) = x := ⟨_, rfl⟩
          obtain ⟨X2, hX2⟩ : ∃ x, pnorm (pmul (shot D cq) rs) = x := ⟨_, rfl⟩
          obtain ⟨R2, hR2⟩ : ∃ x, pnorm (psub R X2) = x := ⟨_, rfl⟩
          have HXQ : Hid (∀ q ∈ X2, qlen q ≤ 2000000000) := Lib.hid (by
            rw [← hX2]
            refine qlen_list fun i => ?_
            rw [co_pnorm]
            exact Nat.le_trans (shot_pmul_len (Nat.le_refl (qlen cq)) HRR.out hKp i) (by have := HCL.out; omega))
          have HX2 : Hid (X2.length ≤ 500) := Lib.hid (by
            rw [← hX2]
            refine Nat.le_trans (pnorm_length_le _) (Nat.le_trans (pmul_length _ _) ?_)
            rw [shot_length, HRL.out]; omega)
          have HQ2 : Hid (Q2.length ≤ n) := Lib.hid (by
            rw [← hQ2]
            refine Nat.le_trans (pnorm_length_le _) (Nat.le_trans (padd_length _ _) ?_)
            rw [shot_length, HQl.out]; omega)
          obtain ⟨hst1, hst2⟩ := HSTEP.out Q2 X2 R2 (by rw [← hQ2]; exact pnorm_co _) (by rw [← hX2]; exact pnorm_co _) (by rw [← hR2]; exact pnorm_co _) (by rw [← hR2]; exact pnorm_pnorm _)
          have HD2 := Lib.hid hst1
          have HRL2 := Lib.hid hst2
          have HADD := fun (w' : World) (h8 : Rw w' a1 n1 c1 Q) (h9 : Rw w' a7 (D + 1) c7 (shot D cq)) => (hQ2 ▸ ref14_add a1 n1 c1 Q a7 (D + 1) c7 (shot D cq) w' h8 h9 (by omega) (by omega) (fun q hq => Nat.le_trans (HQq.out q hq) (by omega)) (fun q hq => Nat.le_trans (HSQ.out q hq) (by decide)) : Calls Tryz.prog 22 #[.slice a1 n1 c1, .slice a7 (D + 1) c7] w' (LstRw Q2 w'))
          have HMUL := fun (w' : World) (h8 : Rw w' a7 (D + 1) c7 (shot D cq)) (h9 : Rw w' (some ⟨bc, off2, none⟩) m d rs) => (hX2 ▸ ref14_mul_sum a7 (D + 1) c7 (shot D cq) _ m d rs w' h8 h9 (by omega) (by omega) (fun q hq => Nat.le_trans (HSQ.out q hq) (by decide)) (fun q hq => Nat.le_trans (HRR.out q hq) (by have := HCL.out; omega)) (fun k i => by
            unfold pterm
            rw [co_shot]
            by_cases hi : i = D
            · rw [if_pos hi]
              have h7 := qlen_co hKp HRR.out (k - i)
              have h6 := qlen_mul cq (co rs (k - i))
              have := HCL.out; omega
            · rw [if_neg hi, Rat.zero_mul, qlen_nought]; omega) (fun k i => Nat.le_trans (shot_sum_len (Nat.le_refl (qlen cq)) HRR.out hKp k i) (by have := HCL.out; omega)) : Calls Tryz.prog 26 #[.slice a7 (D + 1) c7, .slice (some ⟨bc, off2, none⟩) m d] w' (LstRw X2 w'))
          have HSUB := fun (w' : World) (a9 : Option Addr) (n9 c9 : Nat) (h7 : n9 ≤ 500) (h8 : Rw w' (some ⟨bb, off, none⟩) n2 c2 R) (h9 : Rw w' a9 n9 c9 X2) => (hR2 ▸ ref14_sub _ n2 c2 R a9 n9 c9 X2 w' h8 h9 (by omega) h7 (fun q hq => Nat.le_trans (HRq.out q hq) (by omega)) HXQ.out : Calls Tryz.prog 24 #[.slice (some ⟨bb, off, none⟩) n2 c2, .slice a9 n9 c9] w' (LstRw R2 w'))
          clear hQ2 hX2 hR2 hst1 hst2 HSTEP HSQ HXQ HQq HRq HQl HCL HDe hKp hK1
          go_wp2_with fail
          refine (HADD _ HQ.out HT.out).mono ?_
          rintro e w5 ⟨a8, n8, c8, rfl, h8, bw⟩
          have hn8 : n8 ≤ n := by rw [← h8.len]; exact HQ2.out
          replace HB := Lib.hid (below_then HB.out bw)
          replace HR := Lib.hid (HR.out.later bw)
          replace HT := Lib.hid (HT.out.later bw)
          have Q8 := Lib.hid h8
          clear h8 bw HQ HADD
          go_wp2_with fail
          refine (HMUL _ HT.out (HM.out.later HB.out)).mono ?_
          rintro e w6 ⟨a9, n9, c9, rfl, h9, bw⟩
          have hn9 : n9 ≤ 500 := by rw [← h9.len]; exact HX2.out
          replace HB := Lib.hid (below_then HB.out bw)
          replace HR := Lib.hid (HR.out.later bw)
          replace Q8 := Lib.hid (Q8.out.later bw)
          have X9 := Lib.hid h9
          clear h9 bw HT HMUL
          go_wp2_with fail
          refine (HSUB _ a9 n9 c9 hn9 HR.out X9.out).mono ?_
          rintro e w7 ⟨a10, n10, c10, rfl, h10, bw⟩
          have hn10 : n10 < n2 := by rw [← h10.len]; exact HRL2.out
          replace HB := Lib.hid (below_then HB.out bw)
          replace Q8 := Lib.hid (Q8.out.later bw)
          have R10 := Lib.hid h10
          clear h10 bw HR X9 HSUB
          go_wp2
          go_roundw
          case rel => exact ⟨a8, n8, c8, Q2, a10, n10, c10, R2, rfl, rfl, hn8, by omega, Q8, R10, HD2, HB⟩
          case measure => simp [lenOf]; omega
    · have hgi : ¬ (m : Int) ≤ (n2 : Int) := by omega
      have hRl := HRl.out
      have hRL := HRL.out
      have g1 : isDiv ps rs (pnorm Q) R := ⟨fun i => by rw [HD.out.1 i, co_padd, co_padd, (pmul_congr (pnorm_co Q) (peq.refl rs)) i], by rw [plen_right HD.out.2.1, plen_right HBN.out]; omega⟩
      have hQq := (HW.out.room HD.out.2.2).2
      have HNO := fun (w' : World) (h8 : Rw w' a1 n1 c1 Q) => ref14_norm a1 n1 c1 Q w' h8 (by omega) (fun q hq => Nat.le_trans (hQq q hq) (by omega))
      have G0 := Lib.hid HD.out.2.1
      have G1 := Lib.hid g1
      have G2 : Hid (R.length ≤ n) := Lib.hid (by omega)
      have G3 := Lib.hid HD.out.2.2
      clear g1 hQq hRl hRL HD
      go_wp2_with fail
      refine (HNO _ HQ.out).mono ?_
      rintro e w4 ⟨a8, n8, c8, rfl, h8, bw⟩
      have hl8 : (pnorm Q).length ≤ n := Nat.le_trans (pnorm_length_le _) (by rw [HQl.out]; exact hn1)
      have HL8 := Lib.hid hl8
      replace HB := Lib.hid (below_then HB.out bw)
      replace HR := Lib.hid (HR.out.later bw)
      have Q8 := Lib.hid h8
      clear h8 bw HQ HNO hl8
      go_wp2
      go_ret2
      exact ⟨a8, n8, c8, pnorm Q, a2, n2, c2, R, rfl, Q8.out, HR.out, G1.out, pnorm_pnorm _, G0.out, G2.out, ⟨Q, rfl, G3.out⟩, HL8.out, HB.out⟩
end Go.Proofs.YtipcgehcineblaaGreat
