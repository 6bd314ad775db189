/-
  The contracts of package common (layer 6) at this seat: Euclid's way from two heads.
-/
import Derived.Test.YtkpnhohaolfmgaaCommon2
namespace Go.Proofs.Ytkpnhohaolfmgaa
open Go.RowKit

/-- Three boxes of counts, side by side. -/
def Boxes (w : World) (g xa xb ya yb na nb : Nat) : Prop :=
  w.heap[g]? = some (.cells #[.int .u64 (xa : Int), .int .u64 (xb : Int)] 56 (0, 0)) ∧ w.heap[g + 1]? = some (.cells #[.int .u64 (ya : Int), .int .u64 (yb : Int)] 56 (0, 0)) ∧ w.heap[g + 1 + 1]? = some (.cells #[.int .u64 (na : Int), .int .u64 (nb : Int)] 56 (0, 0))
theorem three_boxes (w : World) (xa xb ya yb na nb : Nat) : Boxes (((w.alloc (.cells #[.int .u64 (xa : Int), .int .u64 (xb : Int)] 56)).alloc (.cells #[.int .u64 (ya : Int), .int .u64 (yb : Int)] 56)).alloc (.cells #[.int .u64 (na : Int), .int .u64 (nb : Int)] 56)) w.heap.size xa xb ya yb na nb := by
  obtain ⟨h1, h2⟩ := boxes_at w (((w.alloc (.cells #[.int .u64 (xa : Int), .int .u64 (xb : Int)] 56)).alloc (.cells #[.int .u64 (ya : Int), .int .u64 (yb : Int)] 56)).alloc (.cells #[.int .u64 (na : Int), .int .u64 (nb : Int)] 56)) _ _ _ _ (below_alloc _ _)
  refine ⟨h1, h2, ?_⟩
  have h3 := blk_new ((w.alloc (.cells #[.int .u64 (xa : Int), .int .u64 (xb : Int)] 56)).alloc (.cells #[.int .u64 (ya : Int), .int .u64 (yb : Int)] 56)) #[.int .u64 (na : Int), .int .u64 (nb : Int)] 56
  rw [blk_size, blk_size] at h3
  exact h3
theorem blk_other {w : World} {A g : Nat} {o : Obj} (h : w.heap[A]? = some o) (hne : A ≠ g) (u v : Value) : ((w.setCell ⟨g, 0, none⟩ u).setCell ⟨g, 1, none⟩ v).heap[A]? = some o :=
  (Below.heap_setCell (w.setCell ⟨g, 0, none⟩ u) ⟨g, 1, none⟩ v A hne).trans ((Below.heap_setCell w ⟨g, 0, none⟩ u A hne).trans h)
theorem boxes_set4 {w : World} {g xa xb ya yb na nb : Nat} (h : Boxes w g xa xb ya yb na nb) (x y z u : Nat) :
    Boxes ((((w.setCell ⟨g, 0, none⟩ (.int .u64 (x : Int))).setCell ⟨g, 1, none⟩ (.int .u64 (y : Int))).setCell ⟨g + 1, 0, none⟩ (.int .u64 (z : Int))).setCell ⟨g + 1, 1, none⟩ (.int .u64 (u : Int))) g x y z u na nb := by
  have h1 := blk_set2 h.1 (.int .u64 (x : Int)) (.int .u64 (y : Int))
  have h2 := blk_other h.2.1 (show g + 1 ≠ g by omega) (.int .u64 (x : Int)) (.int .u64 (y : Int))
  have h3 := blk_other h.2.2 (show g + 1 + 1 ≠ g by omega) (.int .u64 (x : Int)) (.int .u64 (y : Int))
  exact ⟨blk_other h1 (show g ≠ g + 1 by omega) _ _, blk_set2 h2 _ _, blk_other h3 (show g + 1 + 1 ≠ g + 1 by omega) _ _⟩
theorem boxes_set6 {w : World} {g xa xb ya yb na nb : Nat} (h : Boxes w g xa xb ya yb na nb) (x y z u v t : Nat) :
    Boxes ((((((w.setCell ⟨g, 0, none⟩ (.int .u64 (x : Int))).setCell ⟨g, 1, none⟩ (.int .u64 (y : Int))).setCell ⟨g + 1, 0, none⟩ (.int .u64 (z : Int))).setCell ⟨g + 1, 1, none⟩ (.int .u64 (u : Int))).setCell ⟨g + 1 + 1, 0, none⟩ (.int .u64 (v : Int))).setCell ⟨g + 1 + 1, 1, none⟩ (.int .u64 (t : Int))) g x y z u v t := by
  have h1 := boxes_set4 h x y z u
  exact ⟨blk_other h1.1 (show g ≠ g + 1 + 1 by omega) _ _, blk_other h1.2.1 (show g + 1 ≠ g + 1 + 1 by omega) _ _, blk_set2 h1.2.2 _ _⟩
theorem boxes_drew {w : World} {g xa xb ya yb na nb : Nat} (h : Boxes w g xa xb ya yb na nb) : Boxes w.drew g xa xb ya yb na nb := h
def SurelyPost (A B : Nat) (w : World) (e : Ending) (w' : World) : Prop :=
  ∃ xa xb ya yb : Nat, e = .returned (.tuple #[cntV xa xb, cntV ya yb]) ∧ xa < 4294967296 ∧ xb < 4294967296 ∧ ya < 4294967296 ∧ yb < 4294967296 ∧ Hid (xb = 0 ∨ Good A B xa xb ya yb) ∧ Below w.heap.size w w'
set_option maxHeartbeats 4000000 in
theorem common_surely (A B M p q : Nat) (w : World) (hM : Hid (0 < M)) (hBA : Hid (B ≤ A)) (hp : Hid (p = A / M)) (hq : Hid (q = B / M)) (hα : p < 18446744073709551616) :
    Calls Try.prog 42 #[.int .u64 (p : Int), .int .u64 (q : Int)] w (SurelyPost A B w) := by
  have HA : Hid (A / M < 18446744073709551616) := Lib.hid (by rw [← hp.out]; exact hα)
  have hqp : q ≤ p := by rw [hp.out, hq.out]; exact Nat.div_le_div_right hBA.out
  have HS : Hid (Heads A B M p q 0 0 1 0 0 1) := Lib.hid (by rw [hp.out, hq.out]; exact heads_start hBA.out)
  go_enter Try.func42, Try.ntmps42
  go_wp2
  go_loopw [0, 1, 7] (fun av bv qv wr => ∃ a b xa xb ya yb na nb : Nat, av = .int .u64 (a : Int) ∧ bv = .int .u64 (b : Int) ∧ a < 18446744073709551616 ∧ b ≤ a ∧ Hid (Heads A B M a b xa xb ya yb na nb) ∧ Hid (Boxes wr w.heap.size xa xb ya yb na nb) ∧ Hid (Below w.heap.size w wr)) (fun _ bv _ _ => (intOf bv).toNat)
  case atStart => exact ⟨p, q, 0, 0, 1, 0, 0, 1, rfl, rfl, hα, hqp, HS, Lib.hid (three_boxes w _ _ _ _ _ _), Lib.hid (below_then (below_then (below_alloc _ _) (below_alloc _ _)) (below_alloc _ _))⟩
  case round =>
    obtain ⟨a, b, xa, xb, ya, yb, na, nb, rfl, rfl, ha64, hba, HH, HX, HBw⟩ := hrel
    have hn64 := HH.out.wn
    have hy32 := HH.out.wy
    have hx32 := HH.out.wx
    have hpos := HH.out.way.pos
    obtain ⟨hn1, hn2⟩ := hn64
    obtain ⟨hy1, hy2⟩ := hy32
    obtain ⟨hx1, hx2⟩ := hx32
    obtain ⟨c1, c2⟩ := two_cells HX.out.1
    obtain ⟨c3, c4⟩ := two_cells HX.out.2.1
    obtain ⟨c5, c6⟩ := two_cells HX.out.2.2
    by_cases hb : nb ≤ b
    · have hs := heads_small HH.out HA.out hb
      obtain ⟨hs1, hs2⟩ := hs
      obtain ⟨e, he⟩ : ∃ e : Nat, (yb : Int) + (nb : Int) = (e : Int) := ⟨yb + nb, by omega⟩
      obtain ⟨d, hd⟩ : ∃ d : Nat, (a : Int) - (b : Int) = (d : Int) := ⟨a - b, by omega⟩
      have he64 : e < 18446744073709551616 := by omega
      have hd64 : d < 18446744073709551616 := by omega
      by_cases hab : e ≤ d
      · have hb0 : (0 : Int) < (b : Int) := by omega
        have Hstep := Lib.hid (heads_step hM.out HH.out HA.out hb (by omega))
        obtain ⟨r1, r2, r3, r4⟩ := heads_room HH.out HA.out hb
        have hr : a % b < b := Nat.mod_lt _ (by omega)
        obtain ⟨q, hq⟩ : ∃ q : Nat, (a : Int) / (b : Int) = (q : Int) := ⟨a / b, by rw [Int.natCast_ediv]⟩
        obtain ⟨r, hrr⟩ : ∃ r : Nat, (a : Int) % (b : Int) = (r : Int) := ⟨a % b, by rw [Int.natCast_emod]⟩
        have hqe : a / b = q := by have := Int.natCast_ediv a b; omega
        have hre : a % b = r := by have := Int.natCast_emod a b; omega
        rw [hqe] at r1 r2 r3 r4 Hstep
        rw [hre] at hr Hstep
        have hq64 : q ≤ a := by rw [← hqe]; exact Nat.div_le_self _ _
        obtain ⟨m1, hm1⟩ : ∃ m1 : Nat, (q : Int) * (na : Int) = (m1 : Int) := ⟨q * na, by rw [Int.natCast_mul]⟩
        obtain ⟨m2, hm2⟩ : ∃ m2 : Nat, (q : Int) * (nb : Int) = (m2 : Int) := ⟨q * nb, by rw [Int.natCast_mul]⟩
        have hm1e : q * na = m1 := by have := Int.natCast_mul q na; omega
        have hm2e : q * nb = m2 := by have := Int.natCast_mul q nb; omega
        rw [hm1e] at r1 r3 Hstep
        rw [hm2e] at r2 r4 Hstep
        clear hqe hre hm1e hm2e
        go_wp2
        go_quiet (fail)
        have HXd : Hid (Boxes (wr.drewN nq) w.heap.size xa xb ya yb na nb) := Lib.hid HX.out
        have HBd : Hid (Below w.heap.size w (wr.drewN nq)) := Lib.hid (below_drewN HBw.out nq)
        rw [hrr]
        clear HX HBw c1 c2 c3 c4 c5 c6 hrr
        generalize wr.drewN nq = wq at *
        have HXq : Boxes wq w.heap.size xa xb ya yb na nb := HXd.out
        obtain ⟨c1, c2⟩ := two_cells HXq.1
        obtain ⟨c3, c4⟩ := two_cells HXq.2.1
        obtain ⟨c5, c6⟩ := two_cells HXq.2.2
        have f1 := blk_free HXq.1 0
        have f2 := blk_free HXq.1 1
        have f3 := blk_free HXq.2.1 0
        have f4 := blk_free HXq.2.1 1
        have f5 := blk_free HXq.2.2 0
        have f6 := blk_free HXq.2.2 1
        clear HXq
        obtain ⟨ka, hka⟩ : ∃ ka : Nat, (ya : Int) + (m1 : Int) = (ka : Int) := ⟨ya + m1, by omega⟩
        obtain ⟨kb, hkb⟩ : ∃ kb : Nat, (yb : Int) + (m2 : Int) = (kb : Int) := ⟨yb + m2, by omega⟩
        have hkae : ya + m1 = ka := by omega
        have hkbe : yb + m2 = kb := by omega
        rw [hkae] at r3 Hstep
        rw [hkbe] at r4 Hstep
        have hb64 : b < 18446744073709551616 := by omega
        clear hkae hkbe hb hba hab hs1 hs2 he hd he64 hd64
        go_wp2
        go_region
        have HXn := Lib.hid (boxes_set6 HXd.out ya yb na nb ka kb)
        have HBn := Lib.hid (below_set2 (below_set2 (below_set2 HBd.out (Nat.le_refl _) (.int .u64 (ya : Int)) (.int .u64 (yb : Int))) (show w.heap.size ≤ w.heap.size + 1 by omega) (.int .u64 (na : Int)) (.int .u64 (nb : Int))) (show w.heap.size ≤ w.heap.size + 1 + 1 by omega) (.int .u64 (ka : Int)) (.int .u64 (kb : Int)))
        clear c1 c2 c3 c4 c5 c6 f1 f2 f3 f4 f5 f6
        go_wp2
        go_roundw
        case rel => exact ⟨b, r, ya, yb, na, nb, ka, kb, rfl, rfl, hb64, by omega, Hstep, Lib.hid (boxes_drew HXn.out), Lib.hid HBn.out.drew⟩
        case measure => simp [intOf]; omega
      · clear c1 c2 c3 c4 c5 c6
        have HXq : Boxes wr w.heap.size xa xb ya yb na nb := HX.out
        have f1 := blk_free HXq.1 0
        have f2 := blk_free HXq.1 1
        have f3 := blk_free HXq.2.1 0
        have f4 := blk_free HXq.2.1 1
        obtain ⟨c1, c2⟩ := two_cells HXq.1
        obtain ⟨c3, c4⟩ := two_cells HXq.2.1
        obtain ⟨c5, c6⟩ := two_cells HXq.2.2
        have HE := Lib.hid (boxes_set4 HXq xa xb ya yb)
        have HBe := Lib.hid (below_set2 (below_set2 HBw.out (Nat.le_refl _) (.int .u64 (xa : Int)) (.int .u64 (xb : Int))) (show w.heap.size ≤ w.heap.size + 1 by omega) (.int .u64 (ya : Int)) (.int .u64 (yb : Int)))
        have HG : Hid (xb = 0 ∨ Good A B xa xb ya yb) := Lib.hid (HH.out.here.imp (fun h => h.1) id)
        clear HXq HX HBw
        go_wp2
        go_region
        go_wp2
        refine bodyPost_ret (results_cell_cell Try.results42 _ _ w.heap.size (w.heap.size + 1) 56 #[.int .u64 (xa : Int), .int .u64 (xb : Int)] #[.int .u64 (ya : Int), .int .u64 (yb : Int)] (0, 0) _ rfl rfl (boxes_drew HE.out).1 (boxes_drew HE.out).2.1 Try.underlying56 rfl (by kernel_rfl) (by kernel_rfl)) rfl ?_
        exact ⟨xa, xb, ya, yb, rfl, hx1, hx2, hy1, hy2, HG, HBe.out.drew⟩
    · clear c1 c2 c3 c4 c5 c6
      have HXq : Boxes wr w.heap.size xa xb ya yb na nb := HX.out
      have f1 := blk_free HXq.1 0
      have f2 := blk_free HXq.1 1
      have f3 := blk_free HXq.2.1 0
      have f4 := blk_free HXq.2.1 1
      obtain ⟨c1, c2⟩ := two_cells HXq.1
      obtain ⟨c3, c4⟩ := two_cells HXq.2.1
      obtain ⟨c5, c6⟩ := two_cells HXq.2.2
      have HE := Lib.hid (boxes_set4 HXq xa xb ya yb)
      have HBe := Lib.hid (below_set2 (below_set2 HBw.out (Nat.le_refl _) (.int .u64 (xa : Int)) (.int .u64 (xb : Int))) (show w.heap.size ≤ w.heap.size + 1 by omega) (.int .u64 (ya : Int)) (.int .u64 (yb : Int)))
      have HG : Hid (xb = 0 ∨ Good A B xa xb ya yb) := Lib.hid (HH.out.here.imp (fun h => h.1) id)
      clear HXq HX HBw
      go_wp2
      go_region
      go_wp2
      refine bodyPost_ret (results_cell_cell Try.results42 _ _ w.heap.size (w.heap.size + 1) 56 #[.int .u64 (xa : Int), .int .u64 (xb : Int)] #[.int .u64 (ya : Int), .int .u64 (yb : Int)] (0, 0) _ rfl rfl (boxes_drew HE.out).1 (boxes_drew HE.out).2.1 Try.underlying56 rfl (by kernel_rfl) (by kernel_rfl)) rfl ?_
      exact ⟨xa, xb, ya, yb, rfl, hx1, hx2, hy1, hy2, HG, HBe.out.drew⟩
end Go.Proofs.Ytkpnhohaolfmgaa
