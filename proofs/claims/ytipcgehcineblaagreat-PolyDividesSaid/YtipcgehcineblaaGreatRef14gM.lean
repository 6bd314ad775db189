/-
  The document's answer of layer 14: Gcd.
-/
import Derived.Test.YtipcgehcineblaaGreatRef14fM
import Derived.Deep.RegionLaw
namespace Go.Proofs.YtipcgehcineblaaGreat
open Go.RowKit

theorem gcd_done {A B x : List Rat} {c : Rat} (h : ∀ g, common x [] g → common A B g) (hx : pnorm x = x) (h0 : 0 < x.length) (hc : c = 1 / x.getD (x.length - 1) 0) : isGcd A B (pnorm (rscale c x)) := by
  have ht := top_nz hx h0
  have hcx : c * x.getD (x.length - 1) 0 = 1 := by rw [hc]; exact Rat.div_mul_cancel ht
  have hc0 : c ≠ 0 := fun e => by rw [e, Rat.zero_mul] at hcx; exact absurd hcx (by decide)
  refine ⟨((h _ (common.none x)).scale hc0).of (peq.refl _) (peq.refl _) (pnorm_co _).symm, fun n hn => ?_⟩
  have h1 : plen (pnorm (rscale c x)) = x.length := by rw [plen_congr (pnorm_co _), plen_rscale_eq hc0, plen_right hx]
  have h2 : n = x.length - 1 := by omega
  rw [co_pnorm, co_rscale, h2]
  exact hcx
set_option maxRecDepth 4096 in
set_option maxHeartbeats 8000000 in
theorem ref14_gcd_by (a : Option Addr) (n c : Nat) (ps : List Rat) (b : Option Addr) (m d : Nat) (rs : List Rat) (T E : Nat) (J : List Rat → List Rat → Prop) (w : World) (h : Rw w a n c ps) (k : Rw w b m d rs) (hn : n ≤ 100) (hm : m ≤ 100) (hp : ∀ q ∈ ps, qlen q ≤ 15728640000) (hr : ∀ q ∈ rs, qlen q ≤ 15728640000)
    (hW : GcdWay ps rs T E J) (hT : T ≤ 2000000000) : Calls Tryz.prog 33 #[.slice a n c, .slice b m d] w (LstGcdI ps rs E w) := by
  obtain ⟨x0, hx0⟩ : ∃ x, pnorm ps = x := ⟨_, rfl⟩
  obtain ⟨y0, hy0⟩ : ∃ x, pnorm rs = x := ⟨_, rfl⟩
  have hxl : x0.length ≤ n := by rw [← hx0, ← h.len]; exact pnorm_length_le _
  have hyl : y0.length ≤ m := by rw [← hy0, ← k.len]; exact pnorm_length_le _
  have HXL := Lib.hid hxl
  have HYL := Lib.hid hyl
  have HG0 : Hid ((∀ g, common x0 y0 g → common ps rs g) ∧ pnorm x0 = x0 ∧ pnorm y0 = y0 ∧ J x0 y0) := Lib.hid ⟨fun g hg => hg.of (hx0 ▸ pnorm_co ps) (hy0 ▸ pnorm_co rs) (peq.refl g), by rw [← hx0]; exact pnorm_pnorm _, by rw [← hy0]; exact pnorm_pnorm _, by rw [← hx0, ← hy0]; exact hW.start⟩
  have HNX : Hid (Calls Tryz.prog 8 #[.slice a n c] w (LstRw x0 w)) := Lib.hid (hx0 ▸ ref14_norm a n c ps w h (by omega) hp)
  have HNY := fun (w' : World) (h9 : Rw w' b m d rs) => (hy0 ▸ ref14_norm b m d rs w' h9 (by omega) hr : Calls Tryz.prog 8 #[.slice b m d] w' (LstRw y0 w'))
  have HB := Lib.hid (Below.refl w.heap.size w)
  have HM := Lib.hid k
  have HW := Lib.hid hW
  clear h k hp hr hW hx0 hy0 hxl hyl
  go_enter Tryz.func33, Tryz.ntmps33
  go_wp2_with fail
  refine HNX.out.mono ?_
  rintro e w1 ⟨a1, n1, c1, rfl, h1, bw⟩
  have hn1 : n1 ≤ 100 := by rw [← h1.len]; exact Nat.le_trans HXL.out hn
  replace HB := Lib.hid (below_then HB.out bw)
  have RX := Lib.hid h1
  clear bw h1 HNX
  go_wp2_with fail
  refine (HNY _ (HM.out.later HB.out)).mono ?_
  rintro e w2 ⟨a2, n2, c2, rfl, h2, bw⟩
  have hn2 : n2 ≤ 100 := by rw [← h2.len]; exact Nat.le_trans HYL.out hm
  replace HB := Lib.hid (below_then HB.out bw)
  replace RX := Lib.hid (RX.out.later bw)
  have RY := Lib.hid h2
  clear bw h2 HNY HXL HYL
  go_wp2
  go_loopw [5, 6] (fun xv yv wr => ∃ (a1 : Option Addr) (n1 c1 : Nat) (x : List Rat) (a2 : Option Addr) (n2 c2 : Nat) (y : List Rat), xv = .slice a1 n1 c1 ∧ yv = .slice a2 n2 c2 ∧ n1 ≤ 100 ∧ n2 ≤ 100 ∧ Hid (Rw wr a1 n1 c1 x) ∧ Hid (Rw wr a2 n2 c2 y) ∧ Hid ((∀ g, common x y g → common ps rs g) ∧ pnorm x = x ∧ pnorm y = y ∧ J x y) ∧ Hid (Below w.heap.size w wr)) (fun _ yv _ => lenOf yv)
  case atStart => exact ⟨a1, n1, c1, x0, a2, n2, c2, y0, rfl, rfl, hn1, hn2, RX, RY, HG0, HB⟩
  case round =>
    clear RX RY HG0 HB hn1 hn2
    obtain ⟨a1, n1, c1, x, a2, n2, c2, y, rfl, rfl, hn1, hn2, RX, RY, HG, HB⟩ := hrel
    have hbx := RX.out.bound
    have hby := RY.out.bound
    have hxl := RX.out.len
    have hyl := RY.out.len
    have HXl := Lib.hid hxl
    have HYl := Lib.hid hyl
    by_cases hy0 : 0 < n2
    · have hyi : (0 : Int) < (n2 : Int) := by omega
      obtain ⟨K, I, g1, g2, g3⟩ := HW.out.div HG.out.2.2.2 HG.out.2.1 HG.out.2.2.1 (by rw [hyl]; exact hy0)
      have HDV := fun (w' : World) (h8 : Rw w' a1 n1 c1 x) (h9 : Rw w' a2 n2 c2 y) => ref14_div_by a1 n1 c1 x a2 n2 c2 y K T I w' h8 h9 (by omega) (by omega) (fun q hq => Nat.le_trans (g2 q hq) (by omega)) g1 HG.out.2.2.1 hy0 g3 hT
      clear g1 g2 g3 hxl hyl
      go_wp2_with fail
      refine (HDV _ RX.out RY.out).mono ?_
      rintro e w4 ⟨a3, n3, c3, q, a4, n4, c4, r, rfl, h3, h4, d1, d2, d3, d4, d5, d6, bw⟩
      have hn4 : n4 < n2 := by
        have := d1.2
        rw [plen_right d3, plen_right HG.out.2.2.1] at this
        rw [← h4.len, ← HYl.out]; exact this
      replace HB := Lib.hid (below_then HB.out bw)
      replace RY := Lib.hid (RY.out.later bw)
      have R4 := Lib.hid h4
      have HG4 : Hid ((∀ g, common y r g → common ps rs g) ∧ pnorm y = y ∧ pnorm r = r ∧ J y r) := Lib.hid ⟨fun g hg => HG.out.1 g (common.step d1.1 hg), HG.out.2.2.1, d3, HW.out.step HG.out.2.2.2 HG.out.2.1 HG.out.2.2.1 (by rw [HYl.out]; exact hy0) d1 d3⟩
      clear bw h3 h4 d1 d2 d3 d4 d5 d6 RX HDV HG HXl HYl
      go_wp2
      go_roundw
      case rel => exact ⟨a2, n2, c2, y, a4, n4, c4, r, rfl, rfl, hn2, by omega, RY, R4, HG4, HB⟩
      case measure => simp [lenOf]; omega
    · have hyi : ¬ (0 : Int) < (n2 : Int) := by omega
      have hy1 : y = [] := List.eq_nil_of_length_eq_zero (by rw [hyl]; omega)
      subst hy1
      by_cases hx0 : n1 = 0
      · have hx1 : x = [] := List.eq_nil_of_length_eq_zero (by rw [hxl]; exact hx0)
        subst hx1
        have hxe : ((n1 : Int) == 0) = true := by simp [hx0]
        have G0 : Hid (isGcd ps rs []) := Lib.hid ⟨HG.out.1 _ (common.none _), fun n hn => by rw [plen_nil] at hn; omega⟩
        have HF := Lib.hid RX.out
        clear hxl hyl HXl HYl HG RX RY hx0
        go_wp2
        go_ret
        exact ⟨a1, n1, c1, [], rfl, HF.out, G0.out, rfl, fun q hq => by simp at hq, ⟨1, by decide, pw_pos E, fun i => ⟨0, rfl, Nat.zero_le _⟩⟩, HB.out⟩
      · have hxe : ((n1 : Int) == 0) = false := by simp [hx0]
        obtain ⟨e2, he2⟩ : ∃ e2, n1 - 1 = e2 := ⟨_, rfl⟩
        have hi2 : (n1 : Int) - 1 = (e2 : Int) := by omega
        have hw2 : IntKind.i64.wrap (e2 : Int) = (e2 : Int) := by rw [IntKind.wrap_i64]; omega
        have hl2 : (e2 : Int) < (n1 : Int) := by omega
        obtain ⟨rt, hrt⟩ : ∃ z, x.getD e2 0 = z := ⟨_, rfl⟩
        obtain ⟨z1, hz1⟩ : ∃ z : Rat, ((1 : Int) : Rat) = z := ⟨_, rfl⟩
        have hz11 : z1 = 1 := by rw [← hz1]; rfl
        obtain ⟨cq, hcq⟩ : ∃ z, z1 / rt = z := ⟨_, rfl⟩
        have hcq2 : cq = 1 / x.getD (x.length - 1) 0 := by rw [hxl, he2, hrt, ← hz11, hcq]
        obtain ⟨g1, g2, o3, o4⟩ := HW.out.over HG.out.2.2.2 HG.out.2.1 (by rw [hxl]; omega)
        rw [← hcq2] at g1 o3 o4
        have o1 := gcd_done HG.out.1 HG.out.2.1 (by rw [hxl]; omega) hcq2
        have HI1 : ∀ w' : World, Calls Tryz.prog 50 #[.int .i64 1] w' (LstQ z1 w') := fun w' => hz1 ▸ ref09_int 1 w' isInt_one
        have hlz : qlen z1 ≤ 2 := hz1 ▸ qlen_int (by decide)
        have HSC := fun (w' : World) (v' : Value) (h8 : Rt w' v' cq 2000000000) (h9 : Rw w' a1 n1 c1 x) => ref14_scale v' cq a1 n1 c1 x w' h8 h9 (by omega) (fun q hq => Nat.le_trans (g2 q hq) hT)
        obtain ⟨bb, off, rfl, a3, n3, c3, b3, m3, d3, hea, hA, hDn⟩ := RX.out.at (j := e2) (by omega)
        have hlr := g2 _ (q_mem (L := x) (k := e2) (by rw [hxl]; omega))
        rw [hrt] at hea hA hDn hlr
        have hn3 : n3 ≤ 15728640000 := by rw [← hA.len]; exact Nat.le_trans (qlen_num _) (by omega)
        have hm3 : m3 ≤ 15728640000 := by rw [← hDn.len]; exact Nat.le_trans (qlen_den _) (by omega)
        have hlc : qlen cq ≤ 2000000000 := by omega
        have ECQ := Lib.hid hcq
        have HLC := Lib.hid hlc
        have HLZ := Lib.hid hlz
        have QA := Lib.hid hA
        have QD := Lib.hid hDn
        have HEA := Lib.hid hea
        have O1 := Lib.hid o1
        have O3 := Lib.hid o3
        have O4 := Lib.hid o4
        have BR := Lib.hid (Below.refl wr.heap.size wr)
        clear hxl hyl HXl HYl HG RY hx0 he2 g1 g2 hrt hz1 hz11 hcq hcq2 o1 o3 o4 hlz hA hDn hea hlr hlc
        obtain ⟨e00, e10, e20⟩ := HEA.out
        go_wp2
        have b0 : Below wr.heap.size wr wr.drew := (Below.refl _ _).drew
        replace BR := Lib.hid (below_then BR.out b0)
        clear e00 e10 e20 b0
        obtain ⟨e00, e10, e20⟩ := three_on HEA.out BR.out
        go_region_law (first
          | (go_simp; go_at_call 50; refine (HI1 _).mono ?_; rintro e w4 ⟨a4, n4, c4, b4, m4, d4, rfl, h4, g4, bw⟩; clear e00 e10 e20; replace BR := Lib.hid (below_then BR.out bw); have hn4 : n4 ≤ 2 := Nat.le_trans (Nat.le_of_eq h4.len.symm) (Nat.le_trans (qlen_num _) HLZ.out); have hm4 : m4 ≤ 2 := Nat.le_trans (Nat.le_of_eq g4.len.symm) (Nat.le_trans (qlen_den _) HLZ.out); have A4 := Lib.hid h4; have D4 := Lib.hid g4; clear bw h4 g4; unfold frV; obtain ⟨e00, e10, e20⟩ := three_on HEA.out BR.out)
          | (go_simp; go_at_call 64; refine (ref09_quo_q _ _ z1 rt _ (Rt.of A4.out D4.out (by omega) (by omega)) (Rt.of (QA.out.later BR.out) (QD.out.later BR.out) hn3 hm3)).mono ?_; rintro e w5 ⟨a5, n5, c5, b5, m5, d5, rfl, h5, g5, bw⟩; rw [ECQ.out] at h5 g5 ⊢; clear e00 e10 e20; replace BR := Lib.hid (below_then BR.out bw); have hn5 : n5 ≤ 2000000000 := Nat.le_trans (Nat.le_of_eq h5.len.symm) (Nat.le_trans (qlen_num _) HLC.out); have hm5 : m5 ≤ 2000000000 := Nat.le_trans (Nat.le_of_eq g5.len.symm) (Nat.le_trans (qlen_den _) HLC.out); have A5 := Lib.hid h5; have D5 := Lib.hid g5; clear bw h5 g5 A4 D4)
          | (go_simp; go_at_call 28; refine (HSC _ _ (Rt.of A5.out D5.out hn5 hm5) (RX.out.later BR.out)).mono ?_; rintro e w6 ⟨a6, n6, c6, rfl, h6, bw⟩; replace BR := Lib.hid (below_then BR.out bw); have R6 := Lib.hid h6; clear bw h6 A5 D5))
        all_goals (
          go_wp2
          go_ret
          exact ⟨a6, n6, c6, _, rfl, R6.out, O1.out, pnorm_pnorm _, O3.out, O4.out, below_then HB.out BR.out⟩)
end Go.Proofs.YtipcgehcineblaaGreat
