/-
  Package tree: sameNode, Same.
-/
import Derived.Test.YtdhfnlpolelcpaaTree1
import Derived.Test.YtdhfnlpolelcpaaRef17e
import Derived.Test.YtdhfnlpolelcpaaNatAll
import Derived.WalkKit
namespace Go.Proofs.Ytdhfnlpolelcpaa
open Go.RowKit

/-- A node, as a value. -/
def ndV (x : Nd) : Value := .agg #[.int .i64 x.op, .int .i64 x.i, .slice x.a x.n x.c]
theorem nd_there {w : World} {n c : Nat} {L : List Nd} {k b o : Nat} {x : Nd} (h : Nds w (some ⟨b, o, none⟩) n c L) (hx : L[k]? = some x) :
    w.cell? ⟨b, o + k * 3, none⟩ = some (.int .i64 x.op) ∧ w.cell? ⟨b, o + k * 3 + 1, none⟩ = some (.int .i64 x.i) ∧ w.cell? ⟨b, o + k * 3 + 2, none⟩ = some (.slice x.a x.n x.c) ∧ Wd w x.a x.n x.c x.l := by
  obtain ⟨b', o', e, h1⟩ := Nds.get h hx
  simp only [Option.some.injEq, Addr.mk.injEq, and_true] at e
  obtain ⟨rfl, rfl⟩ := e
  exact h1
set_option maxRecDepth 4096 in
set_option maxHeartbeats 8000000 in
theorem tree_sameNode (x y : Nd) (w : World) (hx : Wd w x.a x.n x.c x.l) (hy : Wd w y.a y.n y.c y.l) (hxn : x.n ≤ 1000000) (hyn : y.n ≤ 1000000) :
    Calls Try.prog 41 #[ndV x, ndV y] w (Gives (.bool (decide (x.sem = y.sem))) w) := by
  obtain ⟨R, hR⟩ : ∃ R, decide (x.sem = y.sem) = R := ⟨_, rfl⟩
  rw [hR]
  have hR2 : R = true ↔ x.op = y.op ∧ x.i = y.i ∧ val x.l = val y.l := by
    rw [← hR, decide_eq_true_iff]
    unfold Nd.sem
    simp
  have HR := Lib.hid hR2
  clear hR hR2
  obtain ⟨xo, xi, xa, xn, xc, xl⟩ := x
  obtain ⟨yo, yi, ya, yn, yc, yl⟩ := y
  unfold ndV
  dsimp only at hx hy hxn hyn HR
  have HB := Lib.hid (below_then (below_alloc w (.cells #[.int .i64 xo, .int .i64 xi, .slice xa xn xc] 55)) (below_alloc _ (.cells #[.int .i64 yo, .int .i64 yi, .slice ya yn yc] 55)))
  obtain ⟨hx1, hx2⟩ := boxes_at w ((w.alloc (.cells #[.int .i64 xo, .int .i64 xi, .slice xa xn xc] 55)).alloc (.cells #[.int .i64 yo, .int .i64 yi, .slice ya yn yc] 55)) #[.int .i64 xo, .int .i64 xi, .slice xa xn xc] #[.int .i64 yo, .int .i64 yi, .slice ya yn yc] 55 55 (Below.refl _ _)
  obtain ⟨e0, e1, e2⟩ := nd_box (x := ⟨xo, xi, xa, xn, xc, xl⟩) hx1
  obtain ⟨f0, f1, f2⟩ := nd_box (x := ⟨yo, yi, ya, yn, yc, yl⟩) hx2
  dsimp only at e0 e1 e2 f0 f1 f2
  have HC := Lib.hid (natSaid.cmp xa xn xc xl ya yn yc yl _ (hx.later HB.out) (hy.later HB.out) (by omega) (by omega))
  clear hx hy hx1 hx2
  by_cases h0 : xo = yo
  · have q1 : (xo == yo) = true := by simp [h0]
    by_cases h1 : xi = yi
    · have q2 : (xi == yi) = true := by simp [h1]
      obtain ⟨z, hz⟩ : ∃ z, cmpI (val xl) (val yl) = z := ⟨_, rfl⟩
      rw [hz] at HC
      obtain rfl : R = (z == 0) := by
        rw [Bool.eq_iff_iff, HR.out, beq_iff_eq]
        constructor
        · rintro ⟨_, _, hv⟩
          rw [← hz, hv]; exact cmpI_eq rfl
        · intro e
          refine ⟨h0, h1, ?_⟩
          rw [e] at hz; unfold cmpI at hz; split at hz <;> (try split at hz) <;> omega
      clear h0 h1 hz HR
      go_enter Try.func41, Try.ntmps41
      go_wp2_with fail
      refine HC.out.mono ?_
      rintro e w1 ⟨rfl, b1⟩
      have HB1 := Lib.hid (below_then HB.out b1)
      clear b1
      go_wp2
      go_ret
      exact ⟨by simp, HB1.out⟩
    · have q2 : (xi == yi) = false := by simp [h1]
      obtain rfl : R = false := by
        rw [Bool.eq_false_iff]
        exact fun e => h1 (HR.out.1 e).2.1
      clear h0 h1 HC HR
      go_enter Try.func41, Try.ntmps41
      go_wp2
      go_ret
      exact ⟨by simp, HB.out⟩
  · have q1 : (xo == yo) = false := by simp [h0]
    obtain rfl : R = false := by
      rw [Bool.eq_false_iff]
      exact fun e => h0 (HR.out.1 e).1
    clear h0 HC HR
    go_enter Try.func41, Try.ntmps41
    go_wp2
    go_ret
    exact ⟨by simp, HB.out⟩
set_option maxRecDepth 4096 in
set_option maxHeartbeats 8000000 in
theorem tree_eqNodes (a : Option Addr) (n c : Nat) (L : List Nd) (b : Option Addr) (m d : Nat) (M : List Nd) (w : World) (h : Nds w a n c L) (h2 : Nds w b m d M) (hn : n ≤ 1000000) (hL : thinN 1000000 L) (hM : thinN 1000000 M) :
    Calls Try.prog 40 #[.slice a n c, .slice b m d, .func (.func 41) #[] #[]] w (Gives (.bool (decide (L.map Nd.sem = M.map Nd.sem))) w) := by
  have HL := Lib.hid h
  have HM := Lib.hid h2
  have hl1 := h.len
  have hl2 := h2.len
  have hbd := h.bound
  have hbd2 := h2.bound
  have HTL := Lib.hid hL
  have HTM := Lib.hid hM
  clear h h2 hL hM
  obtain ⟨R, hR⟩ : ∃ R, decide (L.map Nd.sem = M.map Nd.sem) = R := ⟨_, rfl⟩
  rw [hR]
  have HR := Lib.hid hR
  clear hR
  by_cases hnm : n = m
  · subst hnm
    have q0 : ((n : Int) != (n : Int)) = false := by simp
    have HL1 := Lib.hid hl1
    have HL2 := Lib.hid hl2
    clear hl1 hl2
    go_enter Try.func40, Try.ntmps40
    go_wp2
    go_loopw [17] (fun iv wr => ∃ k : Nat, k ≤ n ∧ iv = .int .i64 (k : Int) ∧ Hid (R = decide ((L.map Nd.sem).drop k = (M.map Nd.sem).drop k)) ∧ Hid (Below w.heap.size w wr)) (fun iv _ => n - (intOf iv).toNat)
    case atStart => exact ⟨0, by omega, rfl, Lib.hid HR.out.symm, Lib.hid (Below.refl _ _)⟩
    case round =>
      obtain ⟨k, hk, rfl, HK, HB⟩ := hrel
      by_cases hlt : k < n
      · obtain ⟨x, hx⟩ := at_some HL1.out hlt
        obtain ⟨y, hy⟩ := at_some HL2.out hlt
        obtain ⟨b0, o0, rfl, -, -, -, -⟩ := Nds.get HL.out hx
        obtain ⟨b1, o1, rfl, -, -, -, -⟩ := Nds.get HM.out hy
        have hki : (k : Int) < (n : Int) := by omega
        have HK2 : Hid (R = decide (x.sem :: (L.map Nd.sem).drop (k + 1) = y.sem :: (M.map Nd.sem).drop (k + 1))) := Lib.hid (by rw [← nd_sem_drop hx, ← nd_sem_drop hy]; exact HK.out)
        have hx9 := HTL.out x (List.mem_of_getElem? hx)
        have hy9 := HTM.out y (List.mem_of_getElem? hy)
        have ba := below_alloc wr (.cells #[.int .i64 x.op, .int .i64 x.i, .slice x.a x.n x.c] 55)
        have HB1 := Lib.hid (below_then HB.out ba)
        have bb := below_alloc (wr.alloc (.cells #[.int .i64 x.op, .int .i64 x.i, .slice x.a x.n x.c] 55)) (.cells #[.int .i64 y.op, .int .i64 y.i, .slice y.a y.n y.c] 55)
        have HB2 := Lib.hid (below_then HB1.out bb)
        obtain ⟨e0, e1, e2, hw1⟩ := nd_there (Kin.All.later HL.out HB.out) hx
        obtain ⟨f0, f1, f2, hw2⟩ := nd_there (Kin.All.later HM.out HB1.out) hy
        have hxn := hw1.len
        have hyn := hw2.len
        have HS := Lib.hid (tree_sameNode x y _ ((hw1.later ba).later bb) (hw2.later bb) (by omega) (by omega))
        obtain ⟨x0, x1, x2⟩ := nd_box (x := x) (blk_later (blk_new wr #[.int .i64 x.op, .int .i64 x.i, .slice x.a x.n x.c] 55) bb)
        have hy2 := blk_new (wr.alloc (.cells #[.int .i64 x.op, .int .i64 x.i, .slice x.a x.n x.c] 55)) #[.int .i64 y.op, .int .i64 y.i, .slice y.a y.n y.c] 55
        rw [blk_size] at hy2
        obtain ⟨y0, y1, y2⟩ := nd_box (x := y) hy2
        clear ba bb HB1 hy2 hw1 hw2 hx9 hy9 hxn hyn hx hy HK
        go_wp2_with fail
        refine HS.out.mono ?_
        rintro e w4 ⟨rfl, bw⟩
        clear e0 e1 e2 f0 f1 f2 x0 x1 x2 y0 y1 y2 HS
        replace HB := Lib.hid (below_then HB2.out bw)
        clear bw HB2
        by_cases hq : x.sem = y.sem
        · have HK3 : Hid (R = decide ((L.map Nd.sem).drop (k + 1) = (M.map Nd.sem).drop (k + 1))) := Lib.hid (by rw [HK2.out, hq]; simp)
          rw [decide_eq_true hq]
          clear hq HK2
          go_wp2
          go_roundw
          case rel => exact ⟨k + 1, by omega, by go_num, HK3, HB⟩
          case measure => simp [intOf]; omega
        · obtain rfl : R = false := by rw [HK2.out]; simp [hq]
          rw [decide_eq_false hq]
          clear hq HK2
          go_wp2
          go_ret
          exact ⟨rfl, HB.out⟩
      · obtain rfl : k = n := by omega
        obtain rfl : R = true := by
          rw [HK.out, List.drop_of_length_le (by rw [List.length_map, HL1.out]; exact Nat.le_refl _), List.drop_of_length_le (by rw [List.length_map, HL2.out]; exact Nat.le_refl _)]; simp
        go_wp2
        go_ret
        exact ⟨rfl, HB.out⟩
  · have q0 : ((n : Int) != (m : Int)) = true := by simp; omega
    obtain rfl : R = false := by
      rw [← HR.out, decide_eq_false_iff_not]
      intro h
      have := congrArg List.length h
      simp only [List.length_map] at this
      omega
    go_enter Try.func40, Try.ntmps40
    go_wp2
    go_ret
    exact ⟨rfl, Below.refl _ _⟩
set_option maxRecDepth 4096 in
set_option maxHeartbeats 8000000 in
theorem tree_same (a : Option Addr) (n c : Nat) (L : List Nd) (b : Option Addr) (m d : Nat) (M : List Nd) (w : World) (h : Nds w a n c L) (h2 : Nds w b m d M) (hn : n ≤ 1000000) (hL : thinN 1000000 L) (hM : thinN 1000000 M) :
    Calls Try.prog 30 #[.slice a n c, .slice b m d] w (Gives (.bool (decide (L.map Nd.sem = M.map Nd.sem))) w) := by
  have HC := Lib.hid (tree_eqNodes a n c L b m d M w h h2 hn hL hM)
  clear h h2 hL hM
  go_enter Try.func30, Try.ntmps30
  go_wp2_with fail
  refine HC.out.mono ?_
  rintro e w1 ⟨rfl, bw⟩
  go_wp2
  go_ret
  exact ⟨rfl, bw⟩
end Go.Proofs.Ytdhfnlpolelcpaa
