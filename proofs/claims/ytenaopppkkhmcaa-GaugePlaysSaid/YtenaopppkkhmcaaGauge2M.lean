/-
  Package gauge at this seat.
-/
import Derived.Test.YtenaopppkkhmcaaG8
import Derived.Test.YtenaopppkkhmcaaG7
import Derived.Deep.RegionHeld3
namespace Go.Proofs.Ytenaopppkkhmcaa
open Go.RowKit

/-- A gauge in memory. -/
def gaugeIs (w : World) (g l s p : Nat) : Prop := w.heap[g]? = some (.cells #[.int .i64 ((s : Nat) : Int), .int .i64 ((p : Nat) : Int), .int .i64 ((l : Nat) : Int)] 44 (0, 0))
theorem gaugeIs.cells {w : World} {g l s p : Nat} (h : gaugeIs w g l s p) : w.cell? ⟨g, 0, none⟩ = some (.int .i64 ((s : Nat) : Int)) ∧ w.cell? ⟨g, 1, none⟩ = some (.int .i64 ((p : Nat) : Int)) ∧ w.cell? ⟨g, 2, none⟩ = some (.int .i64 ((l : Nat) : Int)) := fcells_3 h
theorem gaugeIs.later {w w' : World} {g l s p : Nat} (h : gaugeIs w g l s p) (hb : Below w.heap.size w w') : gaugeIs w' g l s p := blk_later h hb
set_option maxRecDepth 4096 in
set_option maxHeartbeats 4000000 in
theorem gauge_new (z : Int) (w : World) (_hz : isInt z) : Calls Try.prog 5 #[.int .i64 z] w (fun e w' => ∃ g, e = .returned (ptr g) ∧ w.heap.size ≤ g ∧ gaugeIs w' g (glim z) 0 0 ∧ Below w.heap.size w w') := by
  obtain ⟨l0, hl0⟩ : ∃ l0, glim z = l0 := ⟨_, rfl⟩
  have hM : (min (max z 0) 4096 : Int) = (l0 : Int) := by rw [← hl0]; unfold glim; omega
  rw [hl0]
  clear hl0
  go_enter Try.func5, Try.ntmps5
  go_wp2
  go_ret
  exact ⟨_, rfl, Nat.le_refl _, blk_new _ _ _, below_alloc _ _⟩
set_option maxRecDepth 4096 in
set_option maxHeartbeats 4000000 in
theorem gauge_limit (w : World) (g l s p : Nat) (h : gaugeIs w g l s p) : Calls Try.prog 7 #[ptr g] w (Gives (.int .i64 ((l : Nat) : Int)) w) := by
  obtain ⟨x0, x1, x2⟩ := h.cells
  unfold ptr
  go_enter Try.func7, Try.ntmps7
  go_wp2
  go_ret
  exact ⟨rfl, Below.refl _ _⟩
set_option maxRecDepth 4096 in
set_option maxHeartbeats 4000000 in
theorem gauge_over (w : World) (g l s p : Nat) (h : gaugeIs w g l s p) : Calls Try.prog 8 #[ptr g] w (Gives (.bool (decide (l < p))) w) := by
  have H := Lib.hid h
  clear h
  unfold ptr
  obtain ⟨x0, x1, x2⟩ := H.out.cells
  by_cases hp : l < p
  · have hz : (l : Int) < (p : Int) := by omega
    rw [decide_eq_true hp]
    go_enter Try.func8, Try.ntmps8
    go_wp2
    go_region
    go_wp2
    go_ret
    exact ⟨rfl, (Below.refl _ _).drew⟩
  · have hz : ¬ (l : Int) < (p : Int) := by omega
    rw [decide_eq_false hp]
    go_enter Try.func8, Try.ntmps8
    go_wp2
    go_region
    go_wp2
    go_ret
    exact ⟨rfl, (Below.refl _ _).drew⟩
set_option maxRecDepth 4096 in
set_option maxHeartbeats 4000000 in
theorem gauge_tells (w : World) (g l s p : Nat) (h : gaugeIs w g l s p) : Calls Try.prog 9 #[ptr g] w (Gives (.agg #[.int .i64 ((s : Nat) : Int), .int .i64 ((p : Nat) : Int)]) w) := by
  have hb := below_alloc w (.cells #[.int .i64 0, .int .i64 0] 28)
  have HR := Lib.hid (blk_new w #[.int .i64 0, .int .i64 0] 28)
  have HB := Lib.hid hb
  have HI := Lib.hid (h.later hb)
  obtain ⟨x0, x1, x2⟩ := HI.out.cells
  have q0 := blk_cell HR.out 0
  have q1 := blk_cell HR.out 1
  simp only [List.getElem?_toArray, List.getElem?_cons_zero, List.getElem?_cons_succ] at q0 q1
  have f0 := blk_free HR.out 0
  have f1 := blk_free HR.out 1
  have HR2 := Lib.hid (blk_new w #[.int .i64 ((s : Nat) : Int), .int .i64 ((p : Nat) : Int)] 28)
  have HB2 := Lib.hid (below_alloc w (.cells #[.int .i64 ((s : Nat) : Int), .int .i64 ((p : Nat) : Int)] 28))
  unfold ptr
  clear h hb
  go_enter Try.func9, Try.ntmps9
  go_wp2
  refine bodyPost_ret (results_cell_row Try.results9 _ _ (w.heap.size) 28 #[.int .i64 ((s : Nat) : Int), .int .i64 ((p : Nat) : Int)] (0, 0) _ rfl HR2.out Try.underlying28 rfl (by kernel_rfl)) rfl ?_
  exact ⟨rfl, HB2.out⟩
theorem grown_of {w w' : World} {g : Nat} (h : Below w.heap.size w w') : w.grownBy w' (some g) := ⟨h.os, h.tape, h.output, h.size, fun i hi _ => h.block i hi⟩
theorem grown_set {w w' : World} {g : Nat} (h : w.grownBy w' (some g)) (j : Nat) (v : Value) : w.grownBy (w'.setCell ⟨g, j, none⟩ v) (some g) :=
  ⟨h.os, h.tape, h.output, by have : (w'.setCell ⟨g, j, none⟩ v).heap.size = w'.heap.size := by unfold World.setCell; simp
                              rw [this]; exact h.size, fun i hi hne => (Below.heap_setCell w' ⟨g, j, none⟩ v i (fun e => hne (by rw [e]))).trans (h.block i hi hne)⟩
set_option maxRecDepth 4096 in
set_option maxHeartbeats 4000000 in
theorem gauge_take (w : World) (g l s p : Nat) (x : Fx) (h : gaugeIs w g l s p) (hx : x.ok w) (hn : x.n ≤ 2000) (hm : x.m ≤ 2000) (_hl : l ≤ 4096) (_hs : s ≤ 1000000) (_hp : p ≤ 1000000) : Calls Try.prog 16 #[ptr g, frV x.s x.a x.n x.c x.b x.m x.d] w (fun e w' => e = .returned (.bool (decide (fsize x ≤ l))) ∧ gaugeIs w' g l (s + 1) (max p (fsize x)) ∧ w.grownBy w' (some g)) := by
  obtain ⟨z, hz⟩ : ∃ z, fsize x = z := ⟨_, rfl⟩
  have hz9 : z ≤ 128000 := by
    have h1 := blen_words hx.1
    have h2 := blen_words hx.2
    rw [← hz]
    unfold fsize
    omega
  obtain ⟨sx, ax, nx, cx, lax, bx, mx, dx, lbx⟩ := x
  obtain ⟨k1, k2⟩ := hx
  simp only at hn hm k1 k2
  have HSZ : ∀ w' : World, Wd w' ax nx cx lax → Wd w' bx mx dx lbx → Calls Try.prog 23 #[frV sx ax nx cx bx mx dx] w' (Gives (.int .i64 ((z : Nat) : Int)) w') := fun w' h1 h2 => hz ▸ fracSaid.size sx ax nx cx lax bx mx dx lbx w' h1 h2 (by omega) (by omega)
  rw [hz]
  obtain ⟨s1, hs1⟩ : ∃ s1, s + 1 = s1 := ⟨_, rfl⟩
  obtain ⟨p1, hp1⟩ : ∃ p1, max p z = p1 := ⟨_, rfl⟩
  have es : (s : Int) + 1 = (s1 : Int) := by omega
  have ep : (max (p : Int) (z : Int)) = (p1 : Int) := by omega
  obtain ⟨r, hr⟩ : ∃ r, decide (z ≤ l) = r := ⟨_, rfl⟩
  have HR := Lib.hid hr
  rw [hs1, hp1, hr]
  have hb := below_alloc w (.cells #[.bool sx, .slice ax nx cx, .slice bx mx dx] 48)
  have HX := Lib.hid (blk_new w #[.bool sx, .slice ax nx cx, .slice bx mx dx] 48)
  have HI := Lib.hid (h.later hb)
  have HA := Lib.hid (k1.later hb)
  have HC := Lib.hid (k2.later hb)
  have HB := Lib.hid hb
  obtain ⟨x0, x1, x2⟩ := fcells_3 HX.out
  have hgl : g < w.heap.size := (Array.getElem?_eq_some_iff.1 h).1
  clear h k1 k2 hz hs1 hp1 hb hr
  unfold frV ptr
  go_enter Try.func16, Try.ntmps16
  go_wp2_with fail
  refine (HSZ _ HA.out HC.out).mono ?_
  rintro e w2 ⟨rfl, b⟩
  replace HB := Lib.hid (below_then HB.out b)
  replace HI := Lib.hid (HI.out.later b)
  clear b x0 x1 x2 HX HA HC
  obtain ⟨y0, y1, y2⟩ := HI.out.cells
  have f0 := blk_free HI.out 0
  have f1 := blk_free HI.out 1
  have HI2 : Hid (gaugeIs ((w2.setCell ⟨g, 0, none⟩ (.int .i64 ((s1 : Nat) : Int))).setCell ⟨g, 1, none⟩ (.int .i64 ((p1 : Nat) : Int))) g l s1 p1) := Lib.hid (by
    have h1 := blk_set (blk_set HI.out 0 (.int .i64 ((s1 : Nat) : Int))) 1 (.int .i64 ((p1 : Nat) : Int))
    unfold gaugeIs
    simpa using h1)
  have HG2 := Lib.hid (grown_set (grown_set (grown_of (g := g) HB.out) 0 (.int .i64 ((s1 : Nat) : Int))) 1 (.int .i64 ((p1 : Nat) : Int)))
  clear HI HB
  go_wp2
  go_ret
  exact ⟨by rw [← HR.out]; rfl, HI2.out, HG2.out⟩
theorem gaugeIs.bare {w : World} {g l s p : Nat} (h : gaugeIs w g l s p) : ∀ (j : Nat) u, w.cell? ⟨g, j, none⟩ = some u → (∀ a n c, u ≠ .slice a n c) ∧ ∀ k, u ≠ .int .u32 k := fun j u hu => by
  rw [blk_cell h j] at hu
  match j, hu with
  | 0, hu => simp at hu; subst hu; exact ⟨fun _ _ _ e => (by cases e), fun _ e => (by cases e)⟩
  | 1, hu => simp at hu; subst hu; exact ⟨fun _ _ _ e => (by cases e), fun _ e => (by cases e)⟩
  | 2, hu => simp at hu; subst hu; exact ⟨fun _ _ _ e => (by cases e), fun _ e => (by cases e)⟩
  | k + 3, hu => simp at hu
theorem rsize_snocG : ∀ (L : List Fx) (m : Nat) (x : Fx), rsizeFrom m (L ++ [x]) = max (rsizeFrom m L) (fsize x)
  | [], _, _ => rfl
  | y :: r, m, x => by
    show rsizeFrom (max m (fsize y)) (r ++ [x]) = _
    rw [rsize_snocG r]; rfl
theorem rsize_uptoG {l : Nat} : ∀ {L : List Fx} {m : Nat}, m ≤ l → (∀ x ∈ L, fsize x ≤ l) → rsizeFrom m L ≤ l
  | [], _, h, _ => h
  | x :: r, m, h, k => rsize_uptoG (L := r) (by have := k x (List.mem_cons_self ..); omega) (fun y hy => k y (List.mem_cons_of_mem _ hy))
set_option maxRecDepth 4096 in
set_option maxHeartbeats 4000000 in
theorem gauge_row (w : World) (g l s p : Nat) (a : Option Addr) (n c : Nat) (L : List Fx) (h : gaugeIs w g l s p) (h1 : Fxs w a n c L) (hn : n ≤ 300) (ht : thin 2000 L) (hl : l ≤ 4096) (hs : s ≤ 900000) (hp : p ≤ 900000) : Calls Try.prog 12 #[ptr g, .slice a n c] w (fun e w' => e = .returned (.tuple #[.int .i64 ((gat l L : Nat) : Int), .bool (decide (gat l L = L.length))]) ∧ gaugeIs w' g l (s + (gshown l L).length) (rsizeFrom p (gshown l L)) ∧ w.grownBy w' (some g)) := by
  have HI := Lib.hid h
  have HK := Lib.hid h1
  have HLl := Lib.hid h1.len
  have hbd := h1.bound
  have HTh := Lib.hid ht
  have HSZ : Hid (∀ k, rsizeFrom p (L.take k) ≤ 900000) := Lib.hid (fun k => rsize_uptoG hp (fun x hx => by
    have hm := List.mem_of_mem_take hx
    have h2 := blen_words (h1.ok hm).1
    have h3 := blen_words (h1.ok hm).2
    have h4 := ht x hm
    unfold fsize
    omega))
  obtain ⟨z, hz⟩ : ∃ z, gat l L = z := ⟨_, rfl⟩
  obtain ⟨o9, ho9⟩ : ∃ b, decide (z = L.length) = b := ⟨_, rfl⟩
  obtain ⟨s9, hs9⟩ : ∃ q, s + (gshown l L).length = q := ⟨_, rfl⟩
  obtain ⟨p9, hp9⟩ : ∃ q, rsizeFrom p (gshown l L) = q := ⟨_, rfl⟩
  have HZ := Lib.hid hz
  have HO := Lib.hid ho9
  have HS9 := Lib.hid hs9
  have HP9 := Lib.hid hp9
  rw [hz, ho9, hs9, hp9]
  clear h h1 ht hz ho9 hs9 hp9
  unfold ptr
  go_enter Try.func12, Try.ntmps12
  go_wp2
  go_loopw [9] (fun iv wr => ∃ k : Nat, k ≤ n ∧ iv = .int .i64 (k : Int) ∧ Hid (∀ j, j < k → fsize (L.getD j Fx.zero) ≤ l) ∧ Hid (gaugeIs wr g l (s + k) (rsizeFrom p (L.take k))) ∧ Hid (w.grownBy wr (some g))) (fun iv _ => n - (intOf iv).toNat)
  case atStart => exact ⟨0, by omega, rfl, Lib.hid (fun j hj => by omega), HI, Lib.hid (World.grownBy.refl _ _)⟩
  case round =>
    obtain ⟨k, hk, rfl, HF, HJ, HG⟩ := hrel
    by_cases hlt : k < n
    · obtain ⟨bb, off, hbe, e0, e1, e2, hok⟩ := (HK.out.beyond HI.out.bare HG.out).at hlt
      have hkL : k < L.length := by rw [HLl.out]; exact hlt
      have hth := HTh.out _ (fx_mem hkL)
      have HNX : Hid (¬ fsize (L.getD k Fx.zero) ≤ l → z = k) := Lib.hid (fun h => HZ.out.symm.trans (gat_is (by rw [HLl.out]; exact hk) HF.out (fun _ => h)))
      have HNY : Hid (fsize (L.getD k Fx.zero) ≤ l → ∀ j, j < k + 1 → fsize (L.getD j Fx.zero) ≤ l) := Lib.hid (fun h j hj => by
        by_cases hjk : j = k
        · rw [hjk]; exact h
        · exact HF.out j (by omega))
      have HNR : Hid (max (rsizeFrom p (L.take k)) (fsize (L.getD k Fx.zero)) = rsizeFrom p (L.take (k + 1))) := Lib.hid (by rw [fx_more hkL, rsize_snocG])
      have hq9 := HSZ.out k
      generalize L.getD k Fx.zero = x at *
      have HTK := Lib.hid (gauge_take wr g l (s + k) (rsizeFrom p (L.take k)) x HJ.out hok hth.1 hth.2 hl (by omega) (by omega))
      obtain ⟨sx, ax, nx, cx, lax, bx, mx, dx, lbx⟩ := x
      simp only at e0 e1 e2
      have hki : (k : Int) < (n : Int) := by omega
      subst hbe
      by_cases hfit : fsize ⟨sx, ax, nx, cx, lax, bx, mx, dx, lbx⟩ ≤ l
      · have HF9 := Lib.hid (HNY.out hfit)
        have HTK2 : Hid (Calls Try.prog 16 #[.pointer (some ⟨g, 0, none⟩), .agg #[.bool sx, .slice ax nx cx, .slice bx mx dx]] wr (fun e w' => e = .returned (.bool true) ∧ gaugeIs w' g l (s + (k + 1)) (rsizeFrom p (L.take (k + 1))) ∧ wr.grownBy w' (some g))) := Lib.hid (by
          have h9 := HTK.out
          rw [decide_eq_true hfit, HNR.out] at h9
          exact h9)
        clear hok hth hfit HTK HNX HNY HNR HF hq9
        go_wp2_with fail
        refine (HTK2.out).mono ?_
        rintro e w1 ⟨rfl, hI, hgr⟩
        have HJ1 := Lib.hid hI
        have HG1 := Lib.hid (HG.out.trans hgr)
        clear hI hgr HG HTK2 HJ e0 e1 e2
        go_wp2
        go_roundw
        case rel => exact ⟨k + 1, by omega, by go_num, HF9, HJ1, HG1⟩
        case measure => simp [intOf]; omega
      · have hzk := HNX.out hfit
        have HTK2 : Hid (Calls Try.prog 16 #[.pointer (some ⟨g, 0, none⟩), .agg #[.bool sx, .slice ax nx cx, .slice bx mx dx]] wr (fun e w' => e = .returned (.bool false) ∧ gaugeIs w' g l s9 p9 ∧ wr.grownBy w' (some g))) := Lib.hid (by
          have h9 := HTK.out
          have e8 : gshown l L = L.take (k + 1) := by unfold gshown; rw [HZ.out, hzk]
          rw [decide_eq_false hfit, HNR.out, ← e8, HP9.out, show s + k + 1 = s9 by rw [← HS9.out, e8, List.length_take]; omega] at h9
          exact h9)
        have ho : o9 = false := by rw [← HO.out]; exact decide_eq_false (by omega)
        subst ho
        have hzk2 := hzk.symm
        clear hzk
        subst hzk2
        clear hok hth hfit HTK HNX HNY HNR HF hq9
        go_wp2_with fail
        refine (HTK2.out).mono ?_
        rintro e w1 ⟨rfl, hI, hgr⟩
        have HJ1 := Lib.hid hI
        have HG1 := Lib.hid (HG.out.trans hgr)
        clear hI hgr HG HTK2 HJ e0 e1 e2
        go_wp2
        go_ret2
        exact ⟨rfl, HJ1.out, HG1.out⟩
    · obtain rfl : k = n := by omega
      have hzk : z = k := HZ.out.symm.trans (gat_is (by rw [HLl.out]; exact Nat.le_refl _) HF.out (fun h => by rw [HLl.out] at h; omega))
      have ho : o9 = true := by rw [← HO.out]; exact decide_eq_true (hzk.trans HLl.out.symm)
      subst ho
      have HJ1 : Hid (gaugeIs wr g l s9 p9) := Lib.hid (by
        have e8 : gshown l L = L.take k := by unfold gshown; rw [HZ.out, hzk, List.take_of_length_le (by rw [HLl.out]; omega), List.take_of_length_le (by rw [HLl.out]; omega)]
        have h9 := HJ.out
        rw [← e8, HP9.out, show s + k = s9 by rw [← HS9.out, e8, List.length_take, HLl.out]; omega] at h9
        exact h9)
      subst hzk
      clear HF HJ
      go_wp2
      go_ret2
      exact ⟨rfl, HJ1.out, HG.out⟩
end Go.Proofs.Ytenaopppkkhmcaa
