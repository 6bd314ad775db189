/-
  Several texts of this claim as one, group 20.
-/
import Derived.Test.YtipcgehcineblaaG19
import Derived.Test.YtipcgehcineblaaG13
import Derived.Deep.RegionHeld3
import Derived.Deep.CutRange
/-
  The walks of the laws of layer 14: works.
-/
namespace Go.Proofs.Ytipcgehcineblaa
open Go.RowKit

theorem rw_next {w v : World} {o : Obj} {n c : Nat} {L : List Rat} (h : Rw v (some ⟨(w.alloc o).heap.size, 0, none⟩) n c L) : Rw v (some ⟨w.heap.size + 1, 0, none⟩) n c L := by
  rw [blk_size] at h
  exact h
theorem ex14_mul : pnorm (pmul [((1 : Int) : Rat), ((1 : Int) : Rat)] [((1 : Int) : Rat), ((-1 : Int) : Rat)]) = [((1 : Int) : Rat), ((0 : Int) : Rat), ((-1 : Int) : Rat)] := by decide +kernel
theorem ex14_diff : pnorm (pdiff [((1 : Int) : Rat), ((0 : Int) : Rat), ((-1 : Int) : Rat)]) = [((0 : Int) : Rat), ((-2 : Int) : Rat)] := by decide +kernel
theorem ex14_len : plen [((1 : Int) : Rat), ((0 : Int) : Rat), ((-1 : Int) : Rat)] = 3 := by decide +kernel
set_option maxRecDepth 4096 in
set_option maxHeartbeats 16000000 in
theorem law14_works (S : PolySaid) (FS : FracSaid) (w : World) : Calls Try.prog 7 #[] w (Gives (.bool true) w) := by
  have HB : Hid (Below w.heap.size w w) := Lib.hid (Below.refl _ _)
  obtain ⟨q1, hq1⟩ : ∃ q : Rat, ((1 : Int) : Rat) = q := ⟨_, rfl⟩
  obtain ⟨q0, hq0⟩ : ∃ q : Rat, ((0 : Int) : Rat) = q := ⟨_, rfl⟩
  obtain ⟨qm, hqm⟩ : ∃ q : Rat, ((-1 : Int) : Rat) = q := ⟨_, rfl⟩
  obtain ⟨qn, hqn⟩ : ∃ q : Rat, ((-2 : Int) : Rat) = q := ⟨_, rfl⟩
  have l1 : qlen q1 ≤ 2 := hq1 ▸ qlen_int (by decide)
  have l0 : qlen q0 ≤ 2 := hq0 ▸ qlen_int (by decide)
  have lm : qlen qm ≤ 2 := hqm ▸ qlen_int (by decide)
  have ln : qlen qn ≤ 2 := hqn ▸ qlen_int (by decide)
  have HO1 : ∀ w' : World, Calls Try.prog 21 #[.int .i64 1] w' (LstQ q1 w') := fun w' => hq1 ▸ FS.of 1 w' (by decide)
  have HO0 : ∀ w' : World, Calls Try.prog 21 #[.int .i64 0] w' (LstQ q0 w') := fun w' => hq0 ▸ FS.of 0 w' (by decide)
  have HOM : ∀ w' : World, Calls Try.prog 21 #[.int .i64 (-1)] w' (LstQ qm w') := fun w' => hqm ▸ FS.of (-1) w' (by decide)
  have HON : ∀ w' : World, Calls Try.prog 21 #[.int .i64 (-2)] w' (LstQ qn w') := fun w' => hqn ▸ FS.of (-2) w' (by decide)
  have lp : ∀ q ∈ [q1, q0, qm], qlen q ≤ 2 := fun q hq => by
    simp only [List.mem_cons, List.not_mem_nil, or_false] at hq
    rcases hq with rfl | rfl | rfl <;> assumption
  have ld : ∀ q ∈ [q0, qn], qlen q ≤ 2 := fun q hq => by
    simp only [List.mem_cons, List.not_mem_nil, or_false] at hq
    rcases hq with rfl | rfl <;> assumption
  have la : ∀ q ∈ [q1, q1], qlen q ≤ 2 := fun q hq => by
    simp only [List.mem_cons, List.not_mem_nil, or_false, or_self] at hq
    rw [hq]; exact l1
  have lb : ∀ q ∈ [q1, qm], qlen q ≤ 2 := fun q hq => by
    simp only [List.mem_cons, List.not_mem_nil, or_false] at hq
    rcases hq with rfl | rfl <;> assumption
  have em : pnorm (pmul [q1, q1] [q1, qm]) = [q1, q0, qm] := by rw [← hq1, ← hq0, ← hqm]; exact ex14_mul
  have ed : pnorm (pdiff [q1, q0, qm]) = [q0, qn] := by rw [← hq1, ← hq0, ← hqm, ← hqn]; exact ex14_diff
  have el : plen [q1, q0, qm] = 3 := by rw [← hq1, ← hq0, ← hqm]; exact ex14_len
  obtain ⟨PL, hPL⟩ : ∃ l, [q1, q0, qm] = l := ⟨_, rfl⟩
  obtain ⟨DL, hDL⟩ : ∃ l, [q0, qn] = l := ⟨_, rfl⟩
  rw [hPL] at em ed el lp
  rw [hDL] at ed ld
  have HMU : ∀ (w' : World) (x y : Option Addr), Rw w' x 2 2 [q1, q1] → Rw w' y 2 2 [q1, qm] → Calls Try.prog 10 #[.slice x 2 2, .slice y 2 2] w' (LstRw PL w') := fun w' x y h8 h9 => em ▸ mul_pv S (Pv.right h8 la) (Pv.right h9 lb) (by decide) (by decide) (by decide)
  have HDI : ∀ (w' : World) (x : Option Addr) (n c : Nat), Rw w' x n c PL → Calls Try.prog 17 #[.slice x n c] w' (LstRw DL w') := fun w' x n c h8 => ed ▸ diff_pv S (Pv.right h8 lp) (by have := h8.len; rw [← hPL] at this; simp at this; omega) (by decide)
  have HDE : ∀ (w' : World) (x : Option Addr) (n c : Nat), Rw w' x n c PL → Calls Try.prog 19 #[.slice x n c] w' (Gives (.int .i64 2) w') := fun w' x n c h8 => by
    have h9 := degree_pv S (Pv.right h8 lp) (by have := h8.len; rw [← hPL] at this; simp at this; omega) (by decide)
    rw [el] at h9
    exact h9
  have HSP : ∀ (w' w'' : World) (x y : Option Addr) (n c : Nat), Below w'.heap.size w' w'' → Rw w'' x n c PL → Rw w'' y 3 3 [q1, q0, qm] → Calls Try.prog 16 #[.slice x n c, .slice y 3 3] w'' (fun e w3 => e = .returned (.bool true) ∧ Below w'.heap.size w' w3) := fun w' w'' x y n c hb h8 h9 => by
    rw [hPL] at h9
    have h7 := same_pv S (Pv.right h8 lp) (Pv.right h9 lp) (by have := h8.len; rw [← hPL] at this; simp at this; omega) (by decide) (by decide) (by decide)
    rw [decide_eq_true rfl] at h7
    exact h7.mono fun e w3 ⟨e1, e2⟩ => ⟨e1, below_then hb e2⟩
  have HSD : ∀ (w' w'' : World) (x y : Option Addr) (n c : Nat), Below w'.heap.size w' w'' → Rw w'' x n c DL → Rw w'' y 2 2 [q0, qn] → Calls Try.prog 16 #[.slice x n c, .slice y 2 2] w'' (fun e w3 => e = .returned (.bool true) ∧ Below w'.heap.size w' w3) := fun w' w'' x y n c hb h8 h9 => by
    rw [hDL] at h9
    have h7 := same_pv S (Pv.right h8 ld) (Pv.right h9 ld) (by have := h8.len; rw [← hDL] at this; simp at this; omega) (by decide) (by decide) (by decide)
    rw [decide_eq_true rfl] at h7
    exact h7.mono fun e w3 ⟨e1, e2⟩ => ⟨e1, below_then hb e2⟩
  clear hq1 hq0 hqm hqn l1 l0 lm ln lp ld la lb em ed el hPL hDL
  go_enter Try.func7, Try.ntmps7
  go_wp2_with fail
  refine (HO1 _).mono ?_
  rintro e w1 ⟨a1, n1, c1, b1, m1, d1, rfl, h1, g1, b⟩
  replace HB := Lib.hid (below_then HB.out b)
  have B1 := Lib.hid (blk_new w1 #[.bool (zneg q1.num), .slice a1 n1 c1, .slice b1 m1 d1] 34)
  have A1 := Lib.hid (h1.later (below_alloc w1 (.cells #[.bool (zneg q1.num), .slice a1 n1 c1, .slice b1 m1 d1] 34)))
  have C1 := Lib.hid (g1.later (below_alloc w1 (.cells #[.bool (zneg q1.num), .slice a1 n1 c1, .slice b1 m1 d1] 34)))
  replace HB := Lib.hid (below_then HB.out (below_alloc w1 (.cells #[.bool (zneg q1.num), .slice a1 n1 c1, .slice b1 m1 d1] 34)))
  unfold frV
  clear h1 g1 b
  go_upto_region 2 with fail
  generalize hwb : w1.alloc (.cells #[.bool (zneg q1.num), .slice a1 n1 c1, .slice b1 m1 d1] 34) = wb at *
  go_cut [2] from 4 to 10 (fun pv wx => ∃ (a5 : Option Addr) (n5 c5 : Nat), pv = .slice a5 n5 c5 ∧ Hid (Rw wx a5 n5 c5 PL) ∧ Hid (Below wb.heap.size wb wx))
  case first =>
    have HBd : Hid (Below wb.heap.size wb wb.drew) := Lib.hid (Below.refl _ _).drew
    have B1d : Hid (wb.drew.heap[w1.heap.size]? = _) := Lib.hid B1.out
    have A1d := Lib.hid (A1.out.later HBd.out)
    have C1d := Lib.hid (C1.out.later HBd.out)
    have qS := fcells_3 B1d.out
    have qA := fun o => fcells_3 (blk_later B1d.out (below_alloc wb.drew o))
    have qM0 := True.intro
    go_wp2
    go_region_held3 (fun w' => w'.cell? ⟨w1.heap.size, 0, none⟩ = some (.bool (zneg q1.num)) ∧ w'.cell? ⟨w1.heap.size, 1, none⟩ = some (.slice a1 n1 c1) ∧ w'.cell? ⟨w1.heap.size, 2, none⟩ = some (.slice b1 m1 d1)) (first | with_reducible exact qS | with_reducible exact qA _ | with_reducible exact qB _ _ | exact qA _ | exact qB _ _) (first
      | (go_at_call 21; refine (HOM _).mono ?_; rintro e w4 ⟨a4, n4, c4, b4, m4, d4, rfl, h4, g4, b⟩; (first | (have HB4 := Lib.hid (below_then HBd.out b)) | (have HB4 := Lib.hid (below_then (below_then HBd.out (below_alloc _ _)) b); have R1 : Hid (Rw w4 (some ⟨wb.heap.size, 0, none⟩) 2 2 [q1, q1]) := Lib.hid ((Rw.lit2 wb.drew 34 A1d.out C1d.out A1d.out C1d.out).later b))); have A4 := Lib.hid h4; have C4 := Lib.hid g4; have A14 := Lib.hid (A1.out.later HB4.out); have C14 := Lib.hid (C1.out.later HB4.out); clear qS qA b h4 g4; unfold frV; have B14 := Lib.hid (blk_later B1.out HB4.out); have qS := fcells_3 B14.out; have qA := fun o => fcells_3 (blk_later B14.out (below_alloc w4 o)); have qB := fun o p => fcells_3 (blk_later (blk_later B14.out (below_alloc w4 o)) (below_alloc (w4.alloc o) p)))
      | (go_at_call 10; (first
        | (have U0 : Rw (w4.alloc (.cells #[.bool (zneg q1.num), .slice a1 n1 c1, .slice b1 m1 d1, .bool (zneg qm.num), .slice a4 n4 c4, .slice b4 m4 d4] 34)) (some ⟨wb.heap.size, 0, none⟩) 2 2 [q1, q1] := R1.out.later (below_alloc _ _); have V0 : Rw (w4.alloc (.cells #[.bool (zneg q1.num), .slice a1 n1 c1, .slice b1 m1 d1, .bool (zneg qm.num), .slice a4 n4 c4, .slice b4 m4 d4] 34)) (some ⟨w4.heap.size, 0, none⟩) 2 2 [q1, qm] := (Rw.lit2 w4 34 A14.out C14.out A4.out C4.out); (with_reducible refine (HMU _ _ _ U0 V0).mono ?_); clear U0 V0; rintro e w5 ⟨a5, n5, c5, rfl, h5, b⟩; have R5 := Lib.hid h5; have HB5 := Lib.hid (below_then (below_then HB4.out (below_alloc w4 (.cells #[.bool (zneg q1.num), .slice a1 n1 c1, .slice b1 m1 d1, .bool (zneg qm.num), .slice a4 n4 c4, .slice b4 m4 d4] 34))) b); clear h5 b qS qA qB; have qS := fcells_3 (blk_later B1.out HB5.out))
        | (have U0 : Rw ((w4.alloc (.cells #[.bool (zneg q1.num), .slice a1 n1 c1, .slice b1 m1 d1, .bool (zneg q1.num), .slice a1 n1 c1, .slice b1 m1 d1] 34)).alloc (.cells #[.bool (zneg q1.num), .slice a1 n1 c1, .slice b1 m1 d1, .bool (zneg qm.num), .slice a4 n4 c4, .slice b4 m4 d4] 34)) (some ⟨w4.heap.size, 0, none⟩) 2 2 [q1, q1] := (Rw.lit2 w4 34 A14.out C14.out A14.out C14.out).later (below_alloc _ _); have V0 : Rw ((w4.alloc (.cells #[.bool (zneg q1.num), .slice a1 n1 c1, .slice b1 m1 d1, .bool (zneg q1.num), .slice a1 n1 c1, .slice b1 m1 d1] 34)).alloc (.cells #[.bool (zneg q1.num), .slice a1 n1 c1, .slice b1 m1 d1, .bool (zneg qm.num), .slice a4 n4 c4, .slice b4 m4 d4] 34)) (some ⟨w4.heap.size + 1, 0, none⟩) 2 2 [q1, qm] := rw_next (Rw.lit2 (w4.alloc (.cells #[.bool (zneg q1.num), .slice a1 n1 c1, .slice b1 m1 d1, .bool (zneg q1.num), .slice a1 n1 c1, .slice b1 m1 d1] 34)) 34 (A14.out.later (below_alloc _ _)) (C14.out.later (below_alloc _ _)) (A4.out.later (below_alloc _ _)) (C4.out.later (below_alloc _ _))); (with_reducible refine (HMU _ _ _ U0 V0).mono ?_); clear U0 V0; rintro e w5 ⟨a5, n5, c5, rfl, h5, b⟩; have R5 := Lib.hid h5; have HB5 := Lib.hid (below_then (below_then (below_then HB4.out (below_alloc w4 (.cells #[.bool (zneg q1.num), .slice a1 n1 c1, .slice b1 m1 d1, .bool (zneg q1.num), .slice a1 n1 c1, .slice b1 m1 d1] 34))) (below_alloc _ (.cells #[.bool (zneg q1.num), .slice a1 n1 c1, .slice b1 m1 d1, .bool (zneg qm.num), .slice a4 n4 c4, .slice b4 m4 d4] 34))) b); clear h5 b qS qA qB; have qS := fcells_3 (blk_later B1.out HB5.out))
        | (have U0 : Rw ((w4.alloc (.cells #[.bool (zneg q1.num), .slice a1 n1 c1, .slice b1 m1 d1, .bool (zneg qm.num), .slice a4 n4 c4, .slice b4 m4 d4] 34)).alloc (.cells #[.bool (zneg q1.num), .slice a1 n1 c1, .slice b1 m1 d1, .bool (zneg q1.num), .slice a1 n1 c1, .slice b1 m1 d1] 34)) (some ⟨w4.heap.size + 1, 0, none⟩) 2 2 [q1, q1] := rw_next (Rw.lit2 (w4.alloc (.cells #[.bool (zneg q1.num), .slice a1 n1 c1, .slice b1 m1 d1, .bool (zneg qm.num), .slice a4 n4 c4, .slice b4 m4 d4] 34)) 34 (A14.out.later (below_alloc _ _)) (C14.out.later (below_alloc _ _)) (A14.out.later (below_alloc _ _)) (C14.out.later (below_alloc _ _))); have V0 : Rw ((w4.alloc (.cells #[.bool (zneg q1.num), .slice a1 n1 c1, .slice b1 m1 d1, .bool (zneg qm.num), .slice a4 n4 c4, .slice b4 m4 d4] 34)).alloc (.cells #[.bool (zneg q1.num), .slice a1 n1 c1, .slice b1 m1 d1, .bool (zneg q1.num), .slice a1 n1 c1, .slice b1 m1 d1] 34)) (some ⟨w4.heap.size, 0, none⟩) 2 2 [q1, qm] := (Rw.lit2 w4 34 A14.out C14.out A4.out C4.out).later (below_alloc _ _); (with_reducible refine (HMU _ _ _ U0 V0).mono ?_); clear U0 V0; rintro e w5 ⟨a5, n5, c5, rfl, h5, b⟩; have R5 := Lib.hid h5; have HB5 := Lib.hid (below_then (below_then (below_then HB4.out (below_alloc w4 (.cells #[.bool (zneg q1.num), .slice a1 n1 c1, .slice b1 m1 d1, .bool (zneg qm.num), .slice a4 n4 c4, .slice b4 m4 d4] 34))) (below_alloc _ (.cells #[.bool (zneg q1.num), .slice a1 n1 c1, .slice b1 m1 d1, .bool (zneg q1.num), .slice a1 n1 c1, .slice b1 m1 d1] 34))) b); clear h5 b qS qA qB; have qS := fcells_3 (blk_later B1.out HB5.out)))))
    all_goals (
      go_wp2
      go_meet
      exact ⟨a5, n5, c5, rfl, R5, HB5⟩)
  case rest =>
    obtain ⟨a5, n5, c5, rfl, R5, HBc⟩ := hcut
    replace HB := Lib.hid (below_then HB.out HBc.out)
    replace B1 := Lib.hid (blk_later B1.out HBc.out)
    replace A1 := Lib.hid (A1.out.later HBc.out)
    replace C1 := Lib.hid (C1.out.later HBc.out)
    clear HBc
    go_wp2
    replace HB := Lib.hid (below_then HB.out ((Below.refl _ _).drew : Below wc.heap.size wc wc.drew))
    replace B1 : Hid (wc.drew.heap[w1.heap.size]? = _) := Lib.hid B1.out
    replace R5 := Lib.hid (R5.out.later ((Below.refl _ _).drew : Below wc.heap.size wc wc.drew))
    replace A1 := Lib.hid (A1.out.later ((Below.refl _ _).drew : Below wc.heap.size wc wc.drew))
    replace C1 := Lib.hid (C1.out.later ((Below.refl _ _).drew : Below wc.heap.size wc wc.drew))
    have qSn := fcells_3 B1.out
    go_region_held3 (fun w' => w'.cell? ⟨w1.heap.size, 0, none⟩ = some (.bool (zneg q1.num)) ∧ w'.cell? ⟨w1.heap.size, 1, none⟩ = some (.slice a1 n1 c1) ∧ w'.cell? ⟨w1.heap.size, 2, none⟩ = some (.slice b1 m1 d1)) (first | with_reducible exact qSn | with_reducible exact qSa _)
      (first
      | (go_at_call 21; (first
        | (have qm6 := qM6; refine (HON _).mono ?_; rintro e wq7 ⟨a18, n18, c18, b18, m18, d18, rfl, h18, g18, b⟩; replace HB := Lib.hid (below_then HB.out b); replace B1 := Lib.hid (blk_later B1.out b); replace R5 := Lib.hid (R5.out.later b); replace A1 := Lib.hid (A1.out.later b); replace C1 := Lib.hid (C1.out.later b); replace R6 := Lib.hid (R6.out.later b); replace A17 := Lib.hid (A17.out.later b); replace C17 := Lib.hid (C17.out.later b); have A18 := Lib.hid h18; have C18 := Lib.hid g18; clear h18 g18; unfold frV; clear b; clear qSn; (try clear qSa); have qSn := fcells_3 B1.out; have qSa := fun o => fcells_3 (blk_later B1.out (below_alloc wq7 o)); clear qM6 qm6; have qM7 := True.intro)
        | (have qm5 := qM5; refine (HO0 _).mono ?_; rintro e wq6 ⟨a17, n17, c17, b17, m17, d17, rfl, h17, g17, b⟩; replace HB := Lib.hid (below_then HB.out b); replace B1 := Lib.hid (blk_later B1.out b); replace R5 := Lib.hid (R5.out.later b); replace A1 := Lib.hid (A1.out.later b); replace C1 := Lib.hid (C1.out.later b); replace R6 := Lib.hid (R6.out.later b); have A17 := Lib.hid h17; have C17 := Lib.hid g17; clear h17 g17; unfold frV; clear b; clear qSn; (try clear qSa); have qSn := fcells_3 B1.out; have qSa := fun o => fcells_3 (blk_later B1.out (below_alloc wq6 o)); clear qM5 qm5; have qM6 := True.intro)
        | (have qm1 := qM1; refine (HOM _).mono ?_; rintro e wq2 ⟨a13, n13, c13, b13, m13, d13, rfl, h13, g13, b⟩; replace HB := Lib.hid (below_then HB.out b); replace B1 := Lib.hid (blk_later B1.out b); replace R5 := Lib.hid (R5.out.later b); replace A1 := Lib.hid (A1.out.later b); replace C1 := Lib.hid (C1.out.later b); replace A12 := Lib.hid (A12.out.later b); replace C12 := Lib.hid (C12.out.later b); have A13 := Lib.hid h13; have C13 := Lib.hid g13; clear h13 g13; unfold frV; clear b; clear qSn; (try clear qSa); have qSn := fcells_3 B1.out; have qSa := fun o => fcells_3 (blk_later B1.out (below_alloc wq2 o)); clear qM1 qm1; have qM2 := True.intro)
        | (refine (HO0 _).mono ?_; rintro e wq1 ⟨a12, n12, c12, b12, m12, d12, rfl, h12, g12, b⟩; replace HB := Lib.hid (below_then HB.out b); replace B1 := Lib.hid (blk_later B1.out b); replace R5 := Lib.hid (R5.out.later b); replace A1 := Lib.hid (A1.out.later b); replace C1 := Lib.hid (C1.out.later b); have A12 := Lib.hid h12; have C12 := Lib.hid g12; clear h12 g12; unfold frV; clear b; clear qSn; (try clear qSa); have qSn := fcells_3 B1.out; have qSa := fun o => fcells_3 (blk_later B1.out (below_alloc wq1 o)); have qM1 := True.intro)))
      | (go_at_call 16; (first
        | (have qm7 := qM7; refine (HSD wq7 _ _ _ _ _ (below_alloc _ _) (R6.out.later (below_alloc _ _)) (Rw.lit2 wq7 34 A17.out C17.out A18.out C18.out)).mono ?_; rintro e wq8 ⟨rfl, b⟩; replace HB := Lib.hid (below_then HB.out b); replace B1 := Lib.hid (blk_later B1.out b); replace R5 := Lib.hid (R5.out.later b); replace A1 := Lib.hid (A1.out.later b); replace C1 := Lib.hid (C1.out.later b); clear R6; clear A17; clear C17; clear A18; clear C18; clear b; clear qSn; (try clear qSa); have qSn := fcells_3 B1.out; have qSa := fun o => fcells_3 (blk_later B1.out (below_alloc wq8 o)); clear qM7 qm7; have qM8 := True.intro)
        | (have qm2 := qM2; refine (HSP wq2 _ _ _ _ _ (below_alloc _ _) (R5.out.later (below_alloc _ _)) (Rw.lit3 wq2 34 A1.out C1.out A12.out C12.out A13.out C13.out)).mono ?_; rintro e wq3 ⟨rfl, b⟩; replace HB := Lib.hid (below_then HB.out b); replace B1 := Lib.hid (blk_later B1.out b); replace R5 := Lib.hid (R5.out.later b); replace A1 := Lib.hid (A1.out.later b); replace C1 := Lib.hid (C1.out.later b); clear A12; clear C12; clear A13; clear C13; clear b; clear qSn; (try clear qSa); have qSn := fcells_3 B1.out; have qSa := fun o => fcells_3 (blk_later B1.out (below_alloc wq3 o)); clear qM2 qm2; have qM3 := True.intro)))
      | (go_at_call 19; (first
        | (have qm3 := qM3; refine (HDE _ _ _ _ R5.out).mono ?_; rintro e wq4 ⟨rfl, b⟩; replace HB := Lib.hid (below_then HB.out b); replace B1 := Lib.hid (blk_later B1.out b); replace R5 := Lib.hid (R5.out.later b); replace A1 := Lib.hid (A1.out.later b); replace C1 := Lib.hid (C1.out.later b); clear b; clear qSn; (try clear qSa); have qSn := fcells_3 B1.out; have qSa := fun o => fcells_3 (blk_later B1.out (below_alloc wq4 o)); clear qM3 qm3; have qM4 := True.intro)))
      | (go_at_call 17; (first
        | (have qm4 := qM4; refine (HDI _ _ _ _ R5.out).mono ?_; rintro e wq5 ⟨a6, n6, c6, rfl, h6, b⟩; replace HB := Lib.hid (below_then HB.out b); replace B1 := Lib.hid (blk_later B1.out b); replace R5 := Lib.hid (R5.out.later b); replace A1 := Lib.hid (A1.out.later b); replace C1 := Lib.hid (C1.out.later b); have R6 := Lib.hid h6; clear h6; clear b; clear qSn; (try clear qSa); have qSn := fcells_3 B1.out; have qSa := fun o => fcells_3 (blk_later B1.out (below_alloc wq5 o)); clear qM4 qm4; have qM5 := True.intro))))
    go_wp2
    go_ret
    exact ⟨rfl, HB.out⟩
end Go.Proofs.Ytipcgehcineblaa
