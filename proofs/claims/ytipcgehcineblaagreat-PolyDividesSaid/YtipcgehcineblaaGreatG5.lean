/-
  Several texts of this claim as one, group 5.
-/
import Derived.Test.YtipcgehcineblaaGreatG2
import Derived.Test.YtipcgehcineblaaGreatG4
import Derived.BigRegion
import Derived.BigQuiet
import Derived.Deep.QuietTactic
import Derived.Deep.DeepMust
import Derived.Deep.RegionHeld3
/-
  The contracts of package prod (layer 4) at this seat: Mul, Square.
-/
namespace Go.Proofs.YtipcgehcineblaaGreat
open Go.RowKit

theorem limb_mul_nat4 (x y c d : Nat) (w : World) (hx : x < 4294967296) (hy : y < 4294967296) (hc : c < 4294967296) (hd : d < 4294967296) : Calls Tryz.prog 109 #[.int .u32 (x : Int), .int .u32 (y : Int), .int .u32 (c : Int), .int .u32 (d : Int)] w fun e w' =>
    ∃ z r : Nat, e = .returned (.tuple #[.int .u32 (z : Int), .int .u32 (r : Int)]) ∧ z < 4294967296 ∧ r < 4294967296 ∧ Hid (r + 4294967296 * z = x * y + (c + d)) ∧ w = w' :=
  (limb_mul x y c d w (by omega) (by omega) (by omega) (by omega) (by omega) (by omega) (by omega) (by omega)).mono fun e w' ⟨he, hw⟩ => by
    have h1 : x * y ≤ 4294967295 * 4294967295 := Nat.mul_le_mul (by omega) (by omega)
    have e0 : (x : Int) * (y : Int) = ((x * y : Nat) : Int) := by simp
    rw [e0] at he
    generalize x * y = p at *
    exact ⟨(p + (c + d)) / 4294967296, (p + (c + d)) % 4294967296, by rw [he, show ((p : Int) + c + d) / 4294967296 = (((p + (c + d)) / 4294967296 : Nat) : Int) by omega, show ((p : Int) + c + d) % 4294967296 = (((p + (c + d)) % 4294967296 : Nat) : Int) by omega], by omega, by omega, Lib.hid (by omega), hw⟩
theorem limb_mul_nat3 (x y c : Nat) (w : World) (hx : x < 4294967296) (hy : y < 4294967296) (hc : c < 4294967296) : Calls Tryz.prog 109 #[.int .u32 (x : Int), .int .u32 (y : Int), .int .u32 (c : Int), .int .u32 0] w fun e w' =>
    ∃ z r : Nat, e = .returned (.tuple #[.int .u32 (z : Int), .int .u32 (r : Int)]) ∧ z < 4294967296 ∧ r < 4294967296 ∧ Hid (r + 4294967296 * z = x * y + c) ∧ w = w' :=
  limb_mul_nat4 x y c 0 w hx hy hc (by omega)
set_option maxRecDepth 4096 in
set_option maxHeartbeats 2000000 in
theorem prod_mul (a : Option Addr) (na cap : Nat) (la : List Nat) (b : Option Addr) (nb cap' : Nat) (lb : List Nat) (w0 : World) (ha : Wd w0 a na cap la) (hb : Wd w0 b nb cap' lb) (hna : na ≤ 4194304000000) (hnb : nb ≤ 4194304000000) :
    Calls Tryz.prog 82 #[.slice a na cap, .slice b nb cap'] w0 (Lst (dg (val la * val lb)) w0) := by
  obtain ⟨i0, hi, hz0, hz1, hz2⟩ := info_parts infoU32
  have Hb0 := Lib.hid hb
  have Hla : Hid ((dg (val la)).length ≤ na) := Lib.hid (by rw [← ha.len]; exact dg_length_val_le ha.ok)
  have Hlb : Hid ((dg (val lb)).length ≤ nb) := Lib.hid (by rw [← hb.len]; exact dg_length_val_le hb.ok)
  go_enter Tryz.func82, Tryz.ntmps82
  go_wp2_with fail
  refine (natSaid.norm _ _ _ _ _ ha (by omega)).mono ?_
  rintro e w1 ⟨a, n, c1, rfl, h1, b1⟩
  have H1 := Lib.hid h1
  clear ha hb h1
  go_wp2_with fail
  refine (natSaid.norm _ _ _ _ _ (Hb0.out.later b1) (by omega)).mono ?_
  rintro e w ⟨b, m, c2, rfl, h2, b2⟩
  have Ha := Lib.hid (H1.out.later b2)
  have Hb := Lib.hid h2
  have hn : n ≤ 4194304000000 := by have h1 := H1.out.len; have h2 := Hla.out; omega
  have hm : m ≤ 4194304000000 := by have h1 := Hb.out.len; have h2 := Hlb.out; omega
  have HB0 := Lib.hid (below_then b1 b2)
  have Hv : Hid (val (dg (val la)) * val (dg (val lb)) = val la * val lb) := Lib.hid (by rw [val_dg, val_dg])
  clear H1 Hb0 h2 b1 b2 Hla Hlb hna hnb
  generalize dg (val la) = A at *
  generalize dg (val lb) = B at *
  obtain ⟨N, hN⟩ : ∃ N : Nat, (n : Int) + (m : Int) = (N : Int) := ⟨n + m, by omega⟩
  have HN : Hid (N = n + m) := Lib.hid (by omega)
  have hNb : N ≤ 8388608000000 := by omega
  go_wp2_with (at_make; refine wpList_make_words _ rfl _ _ 23 rfl w.heap.size 58 i0 (.int .u32 0) Tryz.underlying23 hi hz0 hz1 rfl .i64 .i64 _ _ N N rfl rfl rfl rfl (Nat.le_refl _) (by rw [hz2]; omega) (by unfold maxLen; omega) (Nat.le_refl _) ?_; intro w1 hown1 hgrow1)
  rw [zeros_cells] at hown1
  have HO1 : Hid (Own w1 w.heap.size w.heap.size N N (List.replicate N 0)) := Lib.hid ⟨hown1, okw_zeros N⟩
  have hB1 : Below w.heap.size w w1 := (Below.refl _ _).grown hgrow1 (Nat.le_refl _) (fun k hk => by cases hk)
  clear hown1 hgrow1
  go_loopw [23] (fun iv wr => ∃ (i : Nat) (P : List Nat), i ≤ n ∧ iv = .int .i64 (i : Int) ∧ Hid (RowAt A B P m i) ∧ Hid (Own wr w.heap.size w.heap.size N N P) ∧ Below w.heap.size w wr) (fun iv _ => n - (intOf iv).toNat)
  case atStart => exact ⟨0, List.replicate N 0, by omega, rfl, Lib.hid (row_start _ _ _ _), HO1, hB1⟩
  case round =>
    clear HO1 hB1
    obtain ⟨i, P, hin, rfl, HR, HO, hB⟩ := hrel
    by_cases hlt : i < n
    · have hii : (i : Int) < (n : Int) := by omega
      obtain ⟨ba, oa, rfl, hca⟩ := (Ha.out.later hB).at (by omega)
      have hcai := hca i hlt
      have hxw := atw_lt Ha.out.ok i
      obtain ⟨x, hxx⟩ : ∃ x, x = atw A i := ⟨_, rfl⟩
      rw [← hxx] at hxw hcai
      have Hx := Lib.hid hxx
      clear hca hxx
      go_wp2
      go_loopw [8, 30] (fun sv jv wr => ∃ (j c : Nat) (P : List Nat), j ≤ m ∧ jv = .int .i64 (j : Int) ∧ sv = .int .u32 (c : Int) ∧ c < 4294967296 ∧ Hid (CellAt A B P m i j c) ∧ Hid (Own wr w.heap.size w.heap.size N N P) ∧ Below w.heap.size w wr) (fun _ jv _ => m - (intOf jv).toNat)
      case atStart => exact ⟨0, 0, P, by omega, rfl, rfl, by omega, Lib.hid (cell_start HR.out), HO, hB⟩
      case round =>
        clear HO hB HR hcai
        obtain ⟨j, c, P, hjm, rfl, rfl, hc, HC, HO, hB⟩ := hrel
        by_cases hjl : j < m
        · have hji : (j : Int) < (m : Int) := by omega
          obtain ⟨bb, ob, rfl, hcb⟩ := (Hb.out.later hB).at (by omega)
          have hcbj := hcb j hjl
          have hyw := atw_lt Hb.out.ok j
          obtain ⟨y, hyy⟩ : ∃ y, y = atw B j := ⟨_, rfl⟩
          rw [← hyy] at hyw hcbj
          have Hy := Lib.hid hyy
          obtain ⟨q, hq⟩ : ∃ q : Nat, (i : Int) + (j : Int) = (q : Int) := ⟨i + j, by omega⟩
          have Hq : Hid (q = i + j) := Lib.hid (by omega)
          have hqN : q < N := by have := HN.out; omega
          have hqi : (q : Int) < (N : Int) := by omega
          have hcell := HO.out.cell (k := q) hqN
          have hfro := HO.out.1.frozenAt q
          have huw := atw_lt HO.out.2 q
          obtain ⟨u, huu⟩ : ∃ u, u = atw P q := ⟨_, rfl⟩
          rw [← huu] at huw hcell
          have Hu := Lib.hid huu
          have hb := HO.out.base
          clear hcb hyy huu
          go_wp2_with fail
          refine (limb_mul_nat4 x y u c _ hxw hyw huw hc).mono ?_
          rintro e w' ⟨z, r, rfl, hz, hr, Hs, rfl⟩
          have HOs := Lib.hid (HO.out.set q r hr)
          have HBs := Lib.hid (hB.setCell (p := ⟨w.heap.size, q, none⟩) hb.1 (.int .u32 (r : Int)))
          go_wp2
          go_roundw
          case rel =>
            exact ⟨j + 1, z, P.set q r, by omega, by go_num, rfl, hz, Lib.hid (by
              have h1 := HC.out
              have h2 := HN.out
              have h3 := HO.out.len
              obtain rfl := Hq.out
              exact cell_step h1 hjl (by omega) (by rw [← Hx.out, ← Hy.out, ← Hu.out]; exact Hs.out)), HOs, HBs.out⟩
          case measure => simp [intOf]; omega
        · obtain rfl : j = m := by omega
          obtain ⟨q, hq⟩ : ∃ q : Nat, (i : Int) + (j : Int) = (q : Int) := ⟨i + j, by omega⟩
          have Hq : Hid (q = i + j) := Lib.hid (by omega)
          have hqN : q < N := by have := HN.out; omega
          have hqi : (q : Int) < (N : Int) := by omega
          have hcell := HO.out.cell (k := q) hqN
          have hfro := HO.out.1.frozenAt q
          generalize atw P q = u at hcell
          have hb := HO.out.base
          have HOs := Lib.hid (HO.out.set q c hc)
          have HBs := Lib.hid (hB.setCell (p := ⟨w.heap.size, q, none⟩) hb.1 (.int .u32 (c : Int)))
          go_wp2
          go_roundw
          case rel =>
            exact ⟨i + 1, P.set q c, by omega, by go_num, Lib.hid (by
              have h1 := HC.out
              have h2 := HN.out
              have h3 := HO.out.len
              obtain rfl := Hq.out
              exact row_next h1 Hb.out.len (by omega)), HOs, HBs.out⟩
          case measure => simp [intOf]; omega
    · obtain rfl : i = n := by omega
      have Hw : Hid (val P = val la * val lb) := Lib.hid (by rw [← Hv.out]; exact row_end HR.out Ha.out.len)
      go_wp2_with fail
      refine (natSaid.norm _ _ _ _ _ HO.out.wd (by omega)).mono ?_
      rintro e w' ⟨a', n', c', rfl, hwd, hbel⟩
      rw [Hw.out] at hwd
      have HWD := Lib.hid hwd
      clear hwd
      go_wp2
      go_ret
      exact ⟨_, _, _, rfl, HWD.out, below_then HB0.out (below_then hB hbel)⟩
end Go.Proofs.YtipcgehcineblaaGreat

/-
  The contracts of the document's answer for layer 8: Add, Mul.
-/
namespace Go.Proofs.YtipcgehcineblaaGreat
open Go.RowKit

/-- Three boxes of a call. -/
theorem boxes3_at (w : World) (x y z : Array Value) (t s r : TypeId) :
    (((w.alloc (.cells x t)).alloc (.cells y s)).alloc (.cells z r)).heap[w.heap.size]? = some (.cells x t (0, 0)) ∧ (((w.alloc (.cells x t)).alloc (.cells y s)).alloc (.cells z r)).heap[w.heap.size + 1]? = some (.cells y s (0, 0)) ∧ (((w.alloc (.cells x t)).alloc (.cells y s)).alloc (.cells z r)).heap[w.heap.size + 1 + 1]? = some (.cells z r (0, 0)) := by
  obtain ⟨h1, h2⟩ := boxes_at w (((w.alloc (.cells x t)).alloc (.cells y s)).alloc (.cells z r)) x y t s (below_alloc _ _)
  refine ⟨h1, h2, ?_⟩
  have h3 := blk_new ((w.alloc (.cells x t)).alloc (.cells y s)) z r
  rw [blk_size, blk_size] at h3
  exact h3
theorem four_cells {w : World} {A B : Nat} {x y z u : Value} {t s : TypeId} (h1 : w.heap[A]? = some (.cells #[x, y] t (0, 0))) (h2 : w.heap[B]? = some (.cells #[z, u] s (0, 0))) :
    w.cell? ⟨A, 0, none⟩ = some x ∧ w.cell? ⟨A, 1, none⟩ = some y ∧ w.cell? ⟨B, 0, none⟩ = some z ∧ w.cell? ⟨B, 1, none⟩ = some u := ⟨blk_cell h1 0, blk_cell h1 1, blk_cell h2 0, blk_cell h2 1⟩
theorem blk_apart {w : World} {A g : Nat} {o : Obj} (h : w.heap[A]? = some o) (hne : A ≠ g) (i : Nat) (u : Value) : (w.setCell ⟨g, i, none⟩ u).heap[A]? = some o := (Below.heap_setCell w ⟨g, i, none⟩ u A hne).trans h
theorem four_stored {w : World} {A B g : Nat} {x y z u : Value} {t s : TypeId} (h1 : w.heap[A]? = some (.cells #[x, y] t (0, 0))) (h2 : w.heap[B]? = some (.cells #[z, u] s (0, 0))) (hA : A ≠ g) (hB : B ≠ g) (p q : Value) :
    ((w.setCell ⟨g, 0, none⟩ p).setCell ⟨g, 1, none⟩ q).cell? ⟨A, 0, none⟩ = some x ∧ ((w.setCell ⟨g, 0, none⟩ p).setCell ⟨g, 1, none⟩ q).cell? ⟨A, 1, none⟩ = some y ∧ ((w.setCell ⟨g, 0, none⟩ p).setCell ⟨g, 1, none⟩ q).cell? ⟨B, 0, none⟩ = some z ∧ ((w.setCell ⟨g, 0, none⟩ p).setCell ⟨g, 1, none⟩ q).cell? ⟨B, 1, none⟩ = some u :=
  four_cells (blk_apart (blk_apart h1 hA 0 p) hA 1 q) (blk_apart (blk_apart h2 hB 0 p) hB 1 q)
theorem zval_add_same (neg : Bool) (u v : Nat) : zval neg (u + v) = zval neg u + zval neg v := by unfold zval; cases neg <;> simp <;> omega
theorem zval_add_less {na nb : Bool} {u v : Nat} (hne : na ≠ nb) (h : u < v) : zval nb (v - u) = zval na u + zval nb v := by
  unfold zval; cases na <;> cases nb <;> simp at hne ⊢ <;> omega
theorem zval_add_more {na nb : Bool} {u v : Nat} (hne : na ≠ nb) (h : v ≤ u) : zval na (u - v) = zval na u + zval nb v := by
  unfold zval; cases na <;> cases nb <;> simp at hne ⊢ <;> omega
theorem zval_mul (na nb : Bool) (u v : Nat) : zval (!(na == nb)) (u * v) = zval na u * zval nb v := by
  unfold zval; cases na <;> cases nb <;> simp [Int.neg_mul, Int.mul_neg]
end Go.Proofs.YtipcgehcineblaaGreat

/-
  Package whole at this seat: signed, turned, Compare; Norm, Sign, Cmp, Neg, Mul.
-/
namespace Go.Proofs.YtipcgehcineblaaGreat
open Go.RowKit

theorem two_cells {w : World} {A : Nat} {x y : Value} {t : TypeId} (h1 : w.heap[A]? = some (.cells #[x, y] t (0, 0))) : w.cell? ⟨A, 0, none⟩ = some x ∧ w.cell? ⟨A, 1, none⟩ = some y := ⟨blk_cell h1 0, blk_cell h1 1⟩
theorem two_stored {w : World} {A g : Nat} {x y : Value} {t : TypeId} (h1 : w.heap[A]? = some (.cells #[x, y] t (0, 0))) (hA : A ≠ g) (p q : Value) :
    ((w.setCell ⟨g, 0, none⟩ p).setCell ⟨g, 1, none⟩ q).cell? ⟨A, 0, none⟩ = some x ∧ ((w.setCell ⟨g, 0, none⟩ p).setCell ⟨g, 1, none⟩ q).cell? ⟨A, 1, none⟩ = some y := two_cells (blk_apart (blk_apart h1 hA 0 p) hA 1 q)
theorem whole_signed (neg : Bool) (a : Option Addr) (n cap v : Nat) (w : World) (h : Wd w a n cap (dg v)) (hn : n ≤ 17592183947264) : Calls Tryz.prog 94 #[.bool neg, .slice a n cap] w (LstZ (zval neg v) w) := by
  have HA : Hid ((zval neg v).natAbs = v) := Lib.hid (zval_abs _ _)
  have H := Lib.hid h
  clear h
  cases neg with
  | false =>
    have HZ : Hid (zneg (zval false v) = false) := Lib.hid (by rw [zval_neg]; rfl)
    have HG := Lib.hid (blk_new w #[.bool false, .slice a n cap] 34)
    go_enter Tryz.func94, Tryz.ntmps94
    go_wp2
    refine bodyPost_ret (results_cell_row Tryz.results94 _ _ (w.heap.size) 34 #[.bool false, .slice a n cap] (0, 0) _ rfl HG.out Tryz.underlying34 rfl (by kernel_rfl)) rfl ?_
    exact ⟨a, n, cap, by rw [HZ.out]; rfl, by rw [HA.out]; exact H.out.later (below_alloc _ _), below_alloc _ _⟩
  | true =>
    go_enter Tryz.func94, Tryz.ntmps94
    go_wp2_with fail
    refine (natSaid.zero _ _ _ _ _ (H.out.later (below_alloc _ _)) hn).mono ?_
    rintro e w1 ⟨rfl, b1⟩
    rw [val_dg]
    have hR := box_at w w1 _ _ b1
    have r0 := blk_cell hR 0
    have r1 := blk_cell hR 1
    have f0 := blk_free hR 0
    have f1 := blk_free hR 1
    simp only [List.getElem?_toArray, List.getElem?_cons_zero, List.getElem?_cons_succ] at r0 r1
    have HR := Lib.hid hR
    have HB := Lib.hid (below_then (below_alloc _ _) b1)
    have H1 := Lib.hid (H.out.later HB.out)
    clear hR b1
    by_cases hv : v = 0
    · have HZ : Hid (zneg (zval true v) = false) := Lib.hid (by rw [hv]; rfl)
      rw [decide_eq_true hv]
      clear hv
      have HG := Lib.hid (blk_set2 HR.out (.bool false) (.slice a n cap))
      have HS := Lib.hid (H1.out.stored2 HR.out false (.slice a n cap))
      have HB2 := Lib.hid (below_set2 HB.out (show w.heap.size ≤ w.heap.size from Nat.le_refl _) (.bool false) (.slice a n cap))
      go_wp2
      refine bodyPost_ret (results_cell_row Tryz.results94 _ _ (w.heap.size) 34 #[.bool false, .slice a n cap] (0, 0) _ rfl HG.out Tryz.underlying34 rfl (by kernel_rfl)) rfl ?_
      exact ⟨a, n, cap, by rw [HZ.out]; rfl, by rw [HA.out]; exact HS.out, HB2.out⟩
    · have HZ : Hid (zneg (zval true v) = true) := Lib.hid (by rw [zval_neg, decide_eq_true hv]; rfl)
      rw [decide_eq_false hv]
      clear hv
      have HG := Lib.hid (blk_set2 HR.out (.bool true) (.slice a n cap))
      have HS := Lib.hid (H1.out.stored2 HR.out true (.slice a n cap))
      have HB2 := Lib.hid (below_set2 HB.out (show w.heap.size ≤ w.heap.size from Nat.le_refl _) (.bool true) (.slice a n cap))
      go_wp2
      refine bodyPost_ret (results_cell_row Tryz.results94 _ _ (w.heap.size) 34 #[.bool true, .slice a n cap] (0, 0) _ rfl HG.out Tryz.underlying34 rfl (by kernel_rfl)) rfl ?_
      exact ⟨a, n, cap, by rw [HZ.out]; rfl, by rw [HA.out]; exact HS.out, HB2.out⟩
theorem cmp_isNaN (x : Int) (w : World) : Calls Tryz.prog 124 #[.int .i64 x] w (fun e w' => e = .returned (.bool false) ∧ w' = w) := by
  have hx : (x == x) = true := by simp
  go_enter Tryz.func124, Tryz.ntmps124
  go_wp2
  go_ret
  exact ⟨rfl, rfl⟩
theorem cmp_Compare (x y : Int) (w : World) : Calls Tryz.prog 114 #[.int .i64 x, .int .i64 y] w (fun e w' => e = .returned (.int .i64 (sgn (x - y))) ∧ w' = w) := by
  go_enter Tryz.func114, Tryz.ntmps114
  go_wp2_with fail
  refine (cmp_isNaN x _).mono ?_
  rintro e w' ⟨rfl, rfl⟩
  go_wp2_with fail
  refine (cmp_isNaN y _).mono ?_
  rintro e w' ⟨rfl, rfl⟩
  by_cases h1 : x < y
  · have HS : Hid (sgn (x - y) = -1) := Lib.hid (by unfold sgn; rw [if_neg (by omega), if_pos (by omega)])
    go_wp2
    go_ret
    exact ⟨by rw [HS.out]; rfl, rfl⟩
  · by_cases h2 : y < x
    · have HS : Hid (sgn (x - y) = 1) := Lib.hid (by unfold sgn; rw [if_neg (by omega), if_neg (by omega)])
      go_wp2
      go_ret
      exact ⟨by rw [HS.out]; rfl, rfl⟩
    · have HS : Hid (sgn (x - y) = 0) := Lib.hid (by unfold sgn; rw [if_pos (by omega)])
      go_wp2
      go_ret
      exact ⟨by rw [HS.out]; rfl, rfl⟩
set_option maxRecDepth 4096 in
set_option maxHeartbeats 2000000 in
theorem whole_norm (neg : Bool) (a : Option Addr) (n cap : Nat) (l : List Nat) (w : World) (h : Wd w a n cap l) (hn : n ≤ 104857600000) :
    Calls Tryz.prog 116 #[whV neg a n cap] w (LstZ (zval neg (val l)) w) := by
  have hB2 : Below w.heap.size w ((w.alloc (.cells #[.bool neg, .slice a n cap] 34)).alloc (.cells #[.bool false, .slice none 0 0] 34)) := below_then (below_alloc _ _) (below_alloc _ _)
  have Ha := Lib.hid (h.later hB2)
  have HB := Lib.hid hB2
  have hAR := boxes_at w ((w.alloc (.cells #[.bool neg, .slice a n cap] 34)).alloc (.cells #[.bool false, .slice none 0 0] 34)) #[.bool neg, .slice a n cap] #[.bool false, .slice none 0 0] 34 34 (Below.refl _ _)
  have hpl : (dg (val l)).length ≤ 104857600000 := Nat.le_trans h.trim_le hn
  clear h hB2
  go_enter Tryz.func116, Tryz.ntmps116
  unfold whV
  go_wp2
  generalize ((w.alloc (.cells #[.bool neg, .slice a n cap] 34)).alloc (.cells #[.bool false, .slice none 0 0] 34)) = W at *
  have HAd : Hid (W.drew.heap[w.heap.size]? = some (.cells #[.bool neg, .slice a n cap] 34 (0, 0))) := Lib.hid hAR.1
  have HRd : Hid (W.drew.heap[w.heap.size + 1]? = some (.cells #[.bool false, .slice none 0 0] 34 (0, 0))) := Lib.hid hAR.2
  have Hd : Below W.heap.size W W.drew := (Below.refl _ _).drew
  have Sd := two_cells HAd.out
  clear hAR
  go_region_held3 (fun w' => w'.cell? ⟨w.heap.size, 0, none⟩ = some (.bool neg) ∧ w'.cell? ⟨w.heap.size, 1, none⟩ = some (.slice a n cap)) (first | exact Sd | exact Sq1 | exact Sq2 | exact Sq3 _ _)
    (first
    | (go_at_call 108; (refine (natSaid.norm a n cap l _ (Ha.out.later Hd) ?q3).mono ?_); (case q3 => omega); rintro e w1 ⟨a1, n1, c1, rfl, h1, b1⟩; have hA1 := blk_later HAd.out b1; have Sq1 := two_cells hA1)
    | (go_at_call 94; (refine (whole_signed neg a1 n1 c1 _ _ h1 ?q5).mono ?_); (case q5 => have := h1.len; omega); rintro e w2 ⟨a2, n2, c2, rfl, h2, b2⟩; have Sq2 := two_cells (blk_later hA1 b2); have Sq3 := two_stored (g := w.heap.size + 1) (blk_later hA1 b2) (by omega); have hRb := blk_later (blk_later HRd.out b1) b2; have r0 := blk_cell hRb 0; have r1 := blk_cell hRb 1; have f0 := blk_free hRb 0; have f1 := blk_free hRb 1; simp only [List.getElem?_toArray, List.getElem?_cons_zero, List.getElem?_cons_succ] at r0 r1; unfold whV))
  have hBe := Lib.hid (below_then HB.out (below_then Hd (below_then b1 b2)))
  have H2 := Lib.hid h2
  have hl2 := Lib.hid hRb
  have HF := Lib.hid (H2.out.stored2 hl2.out (zneg (zval neg (val l))) (.slice a2 n2 c2))
  have HG := Lib.hid (blk_set2 hl2.out (.bool (zneg (zval neg (val l)))) (.slice a2 n2 c2))
  have HB2 := Lib.hid (below_set2 hBe.out (show w.heap.size ≤ w.heap.size + 1 by omega) (.bool (zneg (zval neg (val l)))) (.slice a2 n2 c2))
  generalize zval neg (val l) = z at *
  go_wp2
  refine bodyPost_ret (results_cell_row Tryz.results116 _ _ (w.heap.size + 1) 34 #[.bool (zneg z), .slice a2 n2 c2] (0, 0) _ rfl HG.out Tryz.underlying34 rfl (by kernel_rfl)) rfl ?_
  exact ⟨a2, n2, c2, rfl, HF.out, HB2.out⟩
theorem whole_sign (neg : Bool) (a : Option Addr) (n cap : Nat) (l : List Nat) (w : World) (h : Wd w a n cap l) (hn : n ≤ 104857600000) :
    Calls Tryz.prog 74 #[whV neg a n cap] w (Gives (.int .i64 (sgn (zval neg (val l)))) w) := by
  have H := Lib.hid h
  clear h
  go_enter Tryz.func74, Tryz.ntmps74
  unfold whV
  go_wp2_with fail
  refine (natSaid.zero _ _ _ _ _ (H.out.later (below_alloc _ _)) (by omega)).mono ?_
  rintro e w1 ⟨rfl, b1⟩
  have hA := box_at w w1 _ _ b1
  have r0 := blk_cell hA 0
  have r1 := blk_cell hA 1
  simp only [List.getElem?_toArray, List.getElem?_cons_zero, List.getElem?_cons_succ] at r0 r1
  have HB := Lib.hid (below_then (below_alloc _ _) b1)
  clear hA b1 H
  generalize val l = v at *
  by_cases hv : v = 0
  · have HS : Hid (sgn (zval neg v) = 0) := Lib.hid (by rw [hv]; cases neg <;> rfl)
    rw [decide_eq_true hv]
    clear hv
    go_wp2
    go_ret
    exact ⟨by rw [HS.out]; rfl, HB.out⟩
  · rw [decide_eq_false hv]
    cases neg with
    | true =>
      have HS : Hid (sgn (zval true v) = -1) := Lib.hid (by rw [zval_true]; exact sgn_neg (by omega))
      clear hv
      go_wp2
      go_ret
      exact ⟨by rw [HS.out]; rfl, HB.out⟩
    | false =>
      have HS : Hid (sgn (zval false v) = 1) := Lib.hid (by rw [zval_false]; unfold sgn; rw [if_neg (by omega), if_neg (by omega)])
      clear hv
      go_wp2
      go_ret
      exact ⟨by rw [HS.out]; rfl, HB.out⟩
set_option maxRecDepth 4096 in
set_option maxHeartbeats 4000000 in
theorem whole_mul (na : Bool) (a : Option Addr) (n cap : Nat) (la : List Nat) (nb : Bool) (b : Option Addr) (m cap' : Nat) (lb : List Nat) (w : World) (ha : Wd w a n cap la) (hb : Wd w b m cap' lb) (hn : n ≤ 104857600000) (hm : m ≤ 104857600000) :
    Calls Tryz.prog 107 #[whV na a n cap, whV nb b m cap'] w (LstZ (zval na (val la) * zval nb (val lb)) w) := by
  have hB3 : Below w.heap.size w (((w.alloc (.cells #[.bool na, .slice a n cap] 34)).alloc (.cells #[.bool nb, .slice b m cap'] 34)).alloc (.cells #[.bool false, .slice none 0 0] 34)) := below_then (below_then (below_alloc _ _) (below_alloc _ _)) (below_alloc _ _)
  have Ha := Lib.hid (ha.later hB3)
  have Hb := Lib.hid (hb.later hB3)
  have HB := Lib.hid hB3
  have h3b := boxes3_at w #[.bool na, .slice a n cap] #[.bool nb, .slice b m cap'] #[.bool false, .slice none 0 0] 34 34 34
  have HAo := Lib.hid h3b.1
  have HBo := Lib.hid h3b.2.1
  have HRo := Lib.hid h3b.2.2
  have HV := Lib.hid (zval_mul na nb (val la) (val lb))
  have hpl : Hid ((dg (val la * val lb)).length ≤ 209715200000) := Lib.hid (by
    have h1 := dg_mul_length (val la) (val lb)
    have h2 := ha.trim_le
    have h3 := hb.trim_le
    omega)
  clear ha hb hB3 h3b
  go_enter Tryz.func107, Tryz.ntmps107
  unfold whV
  go_wp2
  generalize (((w.alloc (.cells #[.bool na, .slice a n cap] 34)).alloc (.cells #[.bool nb, .slice b m cap'] 34)).alloc (.cells #[.bool false, .slice none 0 0] 34)) = W at *
  have HAd : Hid (W.drew.heap[w.heap.size]? = some (.cells #[.bool na, .slice a n cap] 34 (0, 0))) := Lib.hid HAo.out
  have HBd : Hid (W.drew.heap[w.heap.size + 1]? = some (.cells #[.bool nb, .slice b m cap'] 34 (0, 0))) := Lib.hid HBo.out
  have HRd : Hid (W.drew.heap[w.heap.size + 1 + 1]? = some (.cells #[.bool false, .slice none 0 0] 34 (0, 0))) := Lib.hid HRo.out
  have Hd : Below W.heap.size W W.drew := (Below.refl _ _).drew
  have Sd := four_cells HAd.out HBd.out
  clear HAo HBo HRo
  go_region_held3 (fun w' => w'.cell? ⟨w.heap.size, 0, none⟩ = some (.bool na) ∧ w'.cell? ⟨w.heap.size, 1, none⟩ = some (.slice a n cap) ∧ w'.cell? ⟨w.heap.size + 1, 0, none⟩ = some (.bool nb) ∧ w'.cell? ⟨w.heap.size + 1, 1, none⟩ = some (.slice b m cap')) (first | exact Sd | exact Sq0 | exact Sq1 | exact Sq2 | exact Sq3 _ _)
    (first
    | (go_at_call 82; (refine (prod_mul a n cap la b m cap' lb _ (Ha.out.later Hd) (Hb.out.later Hd) ?q3 ?q4).mono ?_); (case q3 => omega); (case q4 => omega); rintro e w1 ⟨a1, n1, c1, rfl, h1, bq1⟩; have hA1 := blk_later HAd.out bq1; have hB1 := blk_later HBd.out bq1; have Sq1 := four_cells hA1 hB1)
    | (go_at_call 94; (refine (whole_signed _ a1 n1 c1 _ _ h1 ?q5).mono ?_); (case q5 => have h7 := h1.len; have h8 := hpl.out; omega); rintro e w2 ⟨a2, n2, c2, rfl, h2, b2⟩; have Sq2 := four_cells (blk_later hA1 b2) (blk_later hB1 b2); have Sq3 := four_stored (g := w.heap.size + 1 + 1) (blk_later hA1 b2) (blk_later hB1 b2) (by omega) (by omega); have hRb := blk_later (blk_later HRd.out bq1) b2; have r0 := blk_cell hRb 0; have r1 := blk_cell hRb 1; have f0 := blk_free hRb 0; have f1 := blk_free hRb 1; simp only [List.getElem?_toArray, List.getElem?_cons_zero, List.getElem?_cons_succ] at r0 r1; unfold whV))
  have hBe := Lib.hid (below_then HB.out (below_then Hd (below_then bq1 b2)))
  have H2 := Lib.hid h2
  have hl2 := Lib.hid hRb
  have HF := Lib.hid (H2.out.stored2 hl2.out (zneg (zval (!(na == nb)) (val la * val lb))) (.slice a2 n2 c2))
  have HG := Lib.hid (blk_set2 hl2.out (.bool (zneg (zval (!(na == nb)) (val la * val lb)))) (.slice a2 n2 c2))
  have HB2 := Lib.hid (below_set2 hBe.out (show w.heap.size ≤ w.heap.size + 1 + 1 by omega) (.bool (zneg (zval (!(na == nb)) (val la * val lb)))) (.slice a2 n2 c2))
  rw [HV.out] at HF HG HB2
  rw [HV.out]
  generalize zval na (val la) * zval nb (val lb) = z at *
  go_wp2
  refine bodyPost_ret (results_cell_row Tryz.results107 _ _ (w.heap.size + 1 + 1) 34 #[.bool (zneg z), .slice a2 n2 c2] (0, 0) _ rfl HG.out Tryz.underlying34 rfl (by kernel_rfl)) rfl ?_
  exact ⟨a2, n2, c2, rfl, HF.out, HB2.out⟩
theorem sgn_vals {na nb : Bool} {u v : Nat} (h : sgn (zval na u) = sgn (zval nb v)) : sgn (zval na u) * cmpI u v = sgn (zval na u - zval nb v) := by
  unfold sgn zval cmpI at *
  cases na <;> cases nb <;> simp at h ⊢ <;> (repeat' split at h) <;> (repeat' split) <;> omega
theorem sgn_diff {x y : Int} (h : sgn x ≠ sgn y) : sgn (sgn x - sgn y) = sgn (x - y) := by
  unfold sgn at *
  (repeat' split at h) <;> (repeat' split) <;> omega
set_option maxRecDepth 4096 in
set_option maxHeartbeats 4000000 in
theorem whole_cmp (na : Bool) (a : Option Addr) (n cap : Nat) (la : List Nat) (nb : Bool) (b : Option Addr) (m cap' : Nat) (lb : List Nat) (w : World) (ha : Wd w a n cap la) (hb : Wd w b m cap' lb) (hn : n ≤ 104857600000) (hm : m ≤ 104857600000) :
    Calls Tryz.prog 115 #[whV na a n cap, whV nb b m cap'] w (Gives (.int .i64 (sgn (zval na (val la) - zval nb (val lb)))) w) := by
  have hB3 : Below w.heap.size w ((w.alloc (.cells #[.bool na, .slice a n cap] 34)).alloc (.cells #[.bool nb, .slice b m cap'] 34)) := below_then (below_alloc _ _) (below_alloc _ _)
  have Ha := Lib.hid (ha.later hB3)
  have Hb := Lib.hid (hb.later hB3)
  have HB := Lib.hid hB3
  have h3b := boxes_at w ((w.alloc (.cells #[.bool na, .slice a n cap] 34)).alloc (.cells #[.bool nb, .slice b m cap'] 34)) #[.bool na, .slice a n cap] #[.bool nb, .slice b m cap'] 34 34 (Below.refl _ _)
  have HAo := Lib.hid h3b.1
  have HBo := Lib.hid h3b.2
  have HE : Hid (sgn (zval na (val la)) = sgn (zval nb (val lb)) → sgn (zval na (val la)) * cmpI (val la) (val lb) = sgn (zval na (val la) - zval nb (val lb))) := Lib.hid sgn_vals
  have HN : Hid (sgn (zval na (val la)) ≠ sgn (zval nb (val lb)) → sgn (sgn (zval na (val la)) - sgn (zval nb (val lb))) = sgn (zval na (val la) - zval nb (val lb))) := Lib.hid sgn_diff
  have hra := sgn_range (zval na (val la))
  have hrb := sgn_range (zval nb (val lb))
  clear ha hb hB3 h3b
  go_enter Tryz.func115, Tryz.ntmps115
  unfold whV
  go_wp2
  generalize ((w.alloc (.cells #[.bool na, .slice a n cap] 34)).alloc (.cells #[.bool nb, .slice b m cap'] 34)) = W at *
  have HAd : Hid (W.drew.heap[w.heap.size]? = some (.cells #[.bool na, .slice a n cap] 34 (0, 0))) := Lib.hid HAo.out
  have HBd : Hid (W.drew.heap[w.heap.size + 1]? = some (.cells #[.bool nb, .slice b m cap'] 34 (0, 0))) := Lib.hid HBo.out
  have Hd : Below W.heap.size W W.drew := (Below.refl _ _).drew
  have Sd := four_cells HAd.out HBd.out
  clear HAo HBo
  go_region_held3 (fun w' => w'.cell? ⟨w.heap.size, 0, none⟩ = some (.bool na) ∧ w'.cell? ⟨w.heap.size, 1, none⟩ = some (.slice a n cap) ∧ w'.cell? ⟨w.heap.size + 1, 0, none⟩ = some (.bool nb) ∧ w'.cell? ⟨w.heap.size + 1, 1, none⟩ = some (.slice b m cap')) (first | exact Sd | exact Sq1 | exact Sq2)
    (first
    | (go_at_call 74; (first
    | (have qm := M1; (refine (whole_sign nb b m cap' lb _ (Hb.out.later (below_then Hd b1)) ?q3).mono ?_); (case q3 => omega); rintro e w2 ⟨rfl, b2⟩; have Sq2 := four_cells (blk_later hA1 b2) (blk_later hB1 b2))
    | ((refine (whole_sign na a n cap la _ (Ha.out.later Hd) ?q4).mono ?_); (case q4 => omega); rintro e w1 ⟨rfl, b1⟩; have M1 := True.intro; have hA1 := blk_later HAd.out b1; have hB1 := blk_later HBd.out b1; have Sq1 := four_cells hA1 hB1))))
  have HBe := Lib.hid (below_then HB.out (below_then Hd (below_then b1 b2)))
  have Ha2 := Lib.hid (Ha.out.later (below_then Hd (below_then b1 b2)))
  have Hb2 := Lib.hid (Hb.out.later (below_then Hd (below_then b1 b2)))
  clear Hd b1 b2 HAd HBd Sd hA1 hB1 Sq1 M1 Ha Hb HB
  generalize hx : sgn (zval na (val la)) = x at *
  generalize hy : sgn (zval nb (val lb)) = y at *
  clear hx hy
  by_cases hxy : x = y
  · have hq : (x == y) = true := by simp [hxy]
    have HE2 := Lib.hid (HE.out hxy)
    have hc : -1 ≤ cmpI (val la) (val lb) ∧ cmpI (val la) (val lb) ≤ 1 := by unfold cmpI; split <;> (try split) <;> omega
    clear HE HN hxy
    obtain ⟨s0, s1, s2, s3⟩ := Sq2
    go_wp2_with fail
    refine (natSaid.cmp _ _ _ _ _ _ _ _ _ Ha2.out Hb2.out (by omega) (by omega)).mono ?_
    rintro e w3 ⟨rfl, b3⟩
    generalize cmpI (val la) (val lb) = c at *
    have hm1 : -1 ≤ x * c ∧ x * c ≤ 1 := by
      rcases (show x = -1 ∨ x = 0 ∨ x = 1 by omega) with rfl | rfl | rfl <;> omega
    go_wp2
    go_ret
    exact ⟨by rw [← HE2.out]; rfl, below_then HBe.out b3⟩
  · have hq : (x == y) = false := by simp [hxy]
    have HN2 := Lib.hid (HN.out hxy)
    clear HE HN hxy
    go_wp2_with fail
    refine (cmp_Compare x y _).mono ?_
    rintro e w' ⟨rfl, rfl⟩
    go_wp2
    go_ret
    exact ⟨by rw [← HN2.out]; rfl, HBe.out⟩
end Go.Proofs.YtipcgehcineblaaGreat

/-
  The contracts of the document's answer for layer 8: Add.
-/
namespace Go.Proofs.YtipcgehcineblaaGreat
open Go.RowKit

set_option maxRecDepth 4096 in
set_option maxHeartbeats 4000000 in
theorem ref08_add (na : Bool) (a : Option Addr) (n cap : Nat) (la : List Nat) (nb : Bool) (b : Option Addr) (m cap' : Nat) (lb : List Nat) (w : World) (ha : Wd w a n cap la) (hb : Wd w b m cap' lb) (hn : n ≤ 104857600000) (hm : m ≤ 104857600000) :
    Calls Tryz.prog 87 #[whV na a n cap, whV nb b m cap'] w (LstZ (zval na (val la) + zval nb (val lb)) w) := by
  have hB3 : Below w.heap.size w (((w.alloc (.cells #[.bool na, .slice a n cap] 95)).alloc (.cells #[.bool nb, .slice b m cap'] 95)).alloc (.cells #[.bool false, .slice none 0 0] 95)) := below_then (below_then (below_alloc _ _) (below_alloc _ _)) (below_alloc _ _)
  have Ha := Lib.hid (ha.later hB3)
  have Hb := Lib.hid (hb.later hB3)
  have HB := Lib.hid hB3
  have hpl0 : (dg (val la + val lb)).length ≤ 209715200001 := by
    have h1 := dg_add_length (val la) (val lb)
    have h2 := ha.trim_le
    have h3 := hb.trim_le
    omega
  have hpl1 : (dg (val la - val lb)).length ≤ 209715200001 := Nat.le_trans (dg_length_mono (by omega)) hpl0
  have hpl2 : (dg (val lb - val la)).length ≤ 209715200001 := Nat.le_trans (dg_length_mono (by omega)) hpl0
  have h3b := boxes3_at w #[.bool na, .slice a n cap] #[.bool nb, .slice b m cap'] #[.bool false, .slice none 0 0] 95 95 95
  have hA := Lib.hid h3b.1
  have hBb := Lib.hid h3b.2.1
  have hR := Lib.hid h3b.2.2
  clear ha hb hB3 h3b
  by_cases hne : na = nb
  · subst hne
    have hpl := Lib.hid hpl0
    have hq : (na == na) = true := by simp
    clear hpl0 hpl1 hpl2
    go_enter Tryz.func87, Tryz.ntmps87
    unfold whV
    go_wp2
    generalize ((w.alloc (.cells #[.bool na, .slice a n cap] 95)).alloc (.cells #[.bool na, .slice b m cap'] 95)).alloc (.cells #[.bool false, .slice none 0 0] 95) = W at *
    have hAd : W.drew.heap[w.heap.size]? = some (.cells #[.bool na, .slice a n cap] 95 (0, 0)) := hA.out
    have hBd : W.drew.heap[w.heap.size + 1]? = some (.cells #[.bool na, .slice b m cap'] 95 (0, 0)) := hBb.out
    have hRd : W.drew.heap[w.heap.size + 1 + 1]? = some (.cells #[.bool false, .slice none 0 0] 95 (0, 0)) := hR.out
    have Hd : Below W.heap.size W W.drew := (Below.refl _ _).drew
    have Sd := four_cells hAd hBd
    have HAd := Lib.hid hAd
    have HBd := Lib.hid hBd
    have HRd := Lib.hid hRd
    clear hAd hBd hRd
    go_region_held3 (fun w' => w'.cell? ⟨w.heap.size, 0, none⟩ = some (.bool na) ∧ w'.cell? ⟨w.heap.size, 1, none⟩ = some (.slice a n cap) ∧ w'.cell? ⟨w.heap.size + 1, 0, none⟩ = some (.bool na) ∧ w'.cell? ⟨w.heap.size + 1, 1, none⟩ = some (.slice b m cap')) (first | exact Sd | exact S1 | exact S2 | exact S3 _ _)
      (first
      | (go_at_call 84; (refine (ref02_add a n cap la b m cap' lb _ (Ha.out.later Hd) (Hb.out.later Hd) ?q3 ?q4).mono ?_); (case q3 => omega); (case q4 => omega); rintro e w1 ⟨a1, n1, c1, rfl, h1, b1⟩; have hA1 := blk_later HAd.out b1; have hB1 := blk_later HBd.out b1; have S1 := four_cells hA1 hB1)
      | (go_at_call 110; (refine (ref08_norm _ a1 n1 c1 _ _ h1 ?q5).mono ?_); (case q5 => have h7 := h1.len; have h8 := hpl.out; omega); rintro e w2 ⟨a2, n2, c2, rfl, h2, b2⟩; have S2 := four_cells (blk_later hA1 b2) (blk_later hB1 b2); have S3 := four_stored (g := w.heap.size + 1 + 1) (blk_later hA1 b2) (blk_later hB1 b2) (by omega) (by omega); have hRb := blk_later (blk_later HRd.out b1) b2; have r0 := blk_cell hRb 0; have r1 := blk_cell hRb 1; have f0 := blk_free hRb 0; have f1 := blk_free hRb 1; simp only [List.getElem?_toArray, List.getElem?_cons_zero, List.getElem?_cons_succ] at r0 r1; unfold whV))
    have H2 := Lib.hid h2
    have hl2 := Lib.hid hRb
    have hBe := Lib.hid (below_then HB.out (below_then Hd (below_then b1 b2)))
    have HF := Lib.hid (H2.out.stored2 hl2.out (zneg (zval na (val (dg (val la + val lb))))) (.slice a2 n2 c2))
    have HG := Lib.hid (blk_set2 hl2.out (.bool (zneg (zval na (val (dg (val la + val lb)))))) (.slice a2 n2 c2))
    have HB2 := Lib.hid (below_set2 hBe.out (show w.heap.size ≤ w.heap.size + 1 + 1 by omega) (.bool (zneg (zval na (val (dg (val la + val lb)))))) (.slice a2 n2 c2))
    have HV : Hid (zval na (val (dg (val la + val lb))) = zval na (val la) + zval na (val lb)) := Lib.hid (by rw [val_dg]; exact zval_add_same na _ _)
    rw [HV.out] at HF HG HB2
    rw [HV.out]
    generalize hzz : zval na (val la) + zval na (val lb) = z at *
    go_wp2
    refine bodyPost_ret (results_cell_row Tryz.results87 _ _ (w.heap.size + 1 + 1) 95 #[.bool (zneg z), .slice a2 n2 c2] (0, 0) _ rfl HG.out Tryz.underlying95 rfl (by kernel_rfl)) rfl ?_
    exact ⟨a2, n2, c2, rfl, HF.out, HB2.out⟩
  · have hq : (na == nb) = false := by simp [hne]
    have Hne := Lib.hid hne
    clear hne
    go_enter Tryz.func87, Tryz.ntmps87
    unfold whV
    go_wp2_with fail
    refine (ref02_cmp _ _ _ _ _ _ _ _ _ Ha.out Hb.out (by omega) (by omega)).mono ?_
    rintro e w' ⟨rfl, rfl⟩
    by_cases hlt : val la < val lb
    · have hc : cmpI (val la) (val lb) < 0 := by rw [cmpI_lt hlt]; omega
      have hpl := Lib.hid hpl2
      have Hle : Hid (val la ≤ val lb) := Lib.hid (by omega)
      have Hlt := Lib.hid hlt
      clear hlt hpl0 hpl1 hpl2
      generalize cmpI (val la) (val lb) = cc at *
      go_wp2
      generalize ((w.alloc (.cells #[.bool na, .slice a n cap] 95)).alloc (.cells #[.bool nb, .slice b m cap'] 95)).alloc (.cells #[.bool false, .slice none 0 0] 95) = W at *
      have hAd : W.drew.heap[w.heap.size]? = some (.cells #[.bool na, .slice a n cap] 95 (0, 0)) := hA.out
      have hBd : W.drew.heap[w.heap.size + 1]? = some (.cells #[.bool nb, .slice b m cap'] 95 (0, 0)) := hBb.out
      have hRd : W.drew.heap[w.heap.size + 1 + 1]? = some (.cells #[.bool false, .slice none 0 0] 95 (0, 0)) := hR.out
      have Hd : Below W.heap.size W W.drew := (Below.refl _ _).drew
      have Sd := four_cells hAd hBd
      have HAd := Lib.hid hAd
      have HBd := Lib.hid hBd
      have HRd := Lib.hid hRd
      clear hAd hBd hRd
      go_region_held3 (fun w' => w'.cell? ⟨w.heap.size, 0, none⟩ = some (.bool na) ∧ w'.cell? ⟨w.heap.size, 1, none⟩ = some (.slice a n cap) ∧ w'.cell? ⟨w.heap.size + 1, 0, none⟩ = some (.bool nb) ∧ w'.cell? ⟨w.heap.size + 1, 1, none⟩ = some (.slice b m cap')) (first | exact Sd | exact S1 | exact S2 | exact S3 _ _)
        (first
        | (go_at_call 111; (refine (ref02_sub b m cap' lb a n cap la _ (Hb.out.later Hd) (Ha.out.later Hd) ?q3 ?q4 Hle).mono ?_); (case q3 => omega); (case q4 => omega); rintro e w1 ⟨a1, n1, c1, rfl, h1, b1⟩; have hA1 := blk_later HAd.out b1; have hB1 := blk_later HBd.out b1; have S1 := four_cells hA1 hB1)
        | (go_at_call 110; (refine (ref08_norm _ a1 n1 c1 _ _ h1 ?q5).mono ?_); (case q5 => have h7 := h1.len; have h8 := hpl.out; omega); rintro e w2 ⟨a2, n2, c2, rfl, h2, b2⟩; have S2 := four_cells (blk_later hA1 b2) (blk_later hB1 b2); have S3 := four_stored (g := w.heap.size + 1 + 1) (blk_later hA1 b2) (blk_later hB1 b2) (by omega) (by omega); have hRb := blk_later (blk_later HRd.out b1) b2; have r0 := blk_cell hRb 0; have r1 := blk_cell hRb 1; have f0 := blk_free hRb 0; have f1 := blk_free hRb 1; simp only [List.getElem?_toArray, List.getElem?_cons_zero, List.getElem?_cons_succ] at r0 r1; unfold whV))
      have H2 := Lib.hid h2
      have hl2 := Lib.hid hRb
      have hBe := Lib.hid (below_then HB.out (below_then Hd (below_then b1 b2)))
      have HF := Lib.hid (H2.out.stored2 hl2.out (zneg (zval nb (val (dg (val lb - val la))))) (.slice a2 n2 c2))
      have HG := Lib.hid (blk_set2 hl2.out (.bool (zneg (zval nb (val (dg (val lb - val la)))))) (.slice a2 n2 c2))
      have HB2 := Lib.hid (below_set2 hBe.out (show w.heap.size ≤ w.heap.size + 1 + 1 by omega) (.bool (zneg (zval nb (val (dg (val lb - val la)))))) (.slice a2 n2 c2))
      have HV : Hid (zval nb (val (dg (val lb - val la))) = zval na (val la) + zval nb (val lb)) := Lib.hid (by rw [val_dg]; exact zval_add_less Hne.out Hlt.out)
      rw [HV.out] at HF HG HB2
      rw [HV.out]
      generalize hzz : zval na (val la) + zval nb (val lb) = z at *
      go_wp2
      refine bodyPost_ret (results_cell_row Tryz.results87 _ _ (w.heap.size + 1 + 1) 95 #[.bool (zneg z), .slice a2 n2 c2] (0, 0) _ rfl HG.out Tryz.underlying95 rfl (by kernel_rfl)) rfl ?_
      exact ⟨a2, n2, c2, rfl, HF.out, HB2.out⟩
    · have hc : ¬ cmpI (val la) (val lb) < 0 := by unfold cmpI; split <;> (try split) <;> omega
      have hpl := Lib.hid hpl1
      have Hle : Hid (val lb ≤ val la) := Lib.hid (by omega)
      clear hlt hpl0 hpl1 hpl2
      generalize cmpI (val la) (val lb) = cc at *
      go_wp2
      generalize ((w.alloc (.cells #[.bool na, .slice a n cap] 95)).alloc (.cells #[.bool nb, .slice b m cap'] 95)).alloc (.cells #[.bool false, .slice none 0 0] 95) = W at *
      have hAd : W.drew.heap[w.heap.size]? = some (.cells #[.bool na, .slice a n cap] 95 (0, 0)) := hA.out
      have hBd : W.drew.heap[w.heap.size + 1]? = some (.cells #[.bool nb, .slice b m cap'] 95 (0, 0)) := hBb.out
      have hRd : W.drew.heap[w.heap.size + 1 + 1]? = some (.cells #[.bool false, .slice none 0 0] 95 (0, 0)) := hR.out
      have Hd : Below W.heap.size W W.drew := (Below.refl _ _).drew
      have Sd := four_cells hAd hBd
      have HAd := Lib.hid hAd
      have HBd := Lib.hid hBd
      have HRd := Lib.hid hRd
      clear hAd hBd hRd
      go_region_held3 (fun w' => w'.cell? ⟨w.heap.size, 0, none⟩ = some (.bool na) ∧ w'.cell? ⟨w.heap.size, 1, none⟩ = some (.slice a n cap) ∧ w'.cell? ⟨w.heap.size + 1, 0, none⟩ = some (.bool nb) ∧ w'.cell? ⟨w.heap.size + 1, 1, none⟩ = some (.slice b m cap')) (first | exact Sd | exact S1 | exact S2 | exact S3 _ _)
        (first
        | (go_at_call 111; (refine (ref02_sub a n cap la b m cap' lb _ (Ha.out.later Hd) (Hb.out.later Hd) ?q3 ?q4 Hle).mono ?_); (case q3 => omega); (case q4 => omega); rintro e w1 ⟨a1, n1, c1, rfl, h1, b1⟩; have hA1 := blk_later HAd.out b1; have hB1 := blk_later HBd.out b1; have S1 := four_cells hA1 hB1)
        | (go_at_call 110; (refine (ref08_norm _ a1 n1 c1 _ _ h1 ?q5).mono ?_); (case q5 => have h7 := h1.len; have h8 := hpl.out; omega); rintro e w2 ⟨a2, n2, c2, rfl, h2, b2⟩; have S2 := four_cells (blk_later hA1 b2) (blk_later hB1 b2); have S3 := four_stored (g := w.heap.size + 1 + 1) (blk_later hA1 b2) (blk_later hB1 b2) (by omega) (by omega); have hRb := blk_later (blk_later HRd.out b1) b2; have r0 := blk_cell hRb 0; have r1 := blk_cell hRb 1; have f0 := blk_free hRb 0; have f1 := blk_free hRb 1; simp only [List.getElem?_toArray, List.getElem?_cons_zero, List.getElem?_cons_succ] at r0 r1; unfold whV))
      have H2 := Lib.hid h2
      have hl2 := Lib.hid hRb
      have hBe := Lib.hid (below_then HB.out (below_then Hd (below_then b1 b2)))
      have HF := Lib.hid (H2.out.stored2 hl2.out (zneg (zval na (val (dg (val la - val lb))))) (.slice a2 n2 c2))
      have HG := Lib.hid (blk_set2 hl2.out (.bool (zneg (zval na (val (dg (val la - val lb)))))) (.slice a2 n2 c2))
      have HB2 := Lib.hid (below_set2 hBe.out (show w.heap.size ≤ w.heap.size + 1 + 1 by omega) (.bool (zneg (zval na (val (dg (val la - val lb)))))) (.slice a2 n2 c2))
      have HV : Hid (zval na (val (dg (val la - val lb))) = zval na (val la) + zval nb (val lb)) := Lib.hid (by rw [val_dg]; exact zval_add_more Hne.out Hle.out)
      rw [HV.out] at HF HG HB2
      rw [HV.out]
      generalize hzz : zval na (val la) + zval nb (val lb) = z at *
      go_wp2
      refine bodyPost_ret (results_cell_row Tryz.results87 _ _ (w.heap.size + 1 + 1) 95 #[.bool (zneg z), .slice a2 n2 c2] (0, 0) _ rfl HG.out Tryz.underlying95 rfl (by kernel_rfl)) rfl ?_
      exact ⟨a2, n2, c2, rfl, HF.out, HB2.out⟩
end Go.Proofs.YtipcgehcineblaaGreat

/-
  Package whole at this seat: Add, Sub.
-/
namespace Go.Proofs.YtipcgehcineblaaGreat
open Go.RowKit

set_option maxRecDepth 4096 in
set_option maxHeartbeats 4000000 in
theorem whole_add (na : Bool) (a : Option Addr) (n cap : Nat) (la : List Nat) (nb : Bool) (b : Option Addr) (m cap' : Nat) (lb : List Nat) (w : World) (ha : Wd w a n cap la) (hb : Wd w b m cap' lb) (hn : n ≤ 104857600000) (hm : m ≤ 104857600000) :
    Calls Tryz.prog 80 #[whV na a n cap, whV nb b m cap'] w (LstZ (zval na (val la) + zval nb (val lb)) w) := by
  have hB3 : Below w.heap.size w (((w.alloc (.cells #[.bool na, .slice a n cap] 34)).alloc (.cells #[.bool nb, .slice b m cap'] 34)).alloc (.cells #[.bool false, .slice none 0 0] 34)) := below_then (below_then (below_alloc _ _) (below_alloc _ _)) (below_alloc _ _)
  have Ha := Lib.hid (ha.later hB3)
  have Hb := Lib.hid (hb.later hB3)
  have HB := Lib.hid hB3
  have h3b := boxes3_at w #[.bool na, .slice a n cap] #[.bool nb, .slice b m cap'] #[.bool false, .slice none 0 0] 34 34 34
  have HAo := Lib.hid h3b.1
  have HBo := Lib.hid h3b.2.1
  have HRo := Lib.hid h3b.2.2
  have hla := ha.trim_le
  have hlb := hb.trim_le
  have Hla := Lib.hid ha.len
  have Hlb := Lib.hid hb.len
  clear ha hb hB3 h3b
  by_cases hne : na = nb
  · subst hne
    have HV : Hid (zval na (val la + val lb) = zval na (val la) + zval na (val lb)) := Lib.hid (zval_add_same na _ _)
    have hva : Hid (vals [la, lb] = val la + val lb) := Lib.hid (by simp [vals])
    have hpl : Hid ((dg (vals [la, lb])).length ≤ 209715200001) := Lib.hid (by have := dg_add_length (val la) (val lb); rw [hva.out]; omega)
    have hq : (na == na) = true := by simp
    clear hla hlb
    go_enter Tryz.func80, Tryz.ntmps80
    unfold whV
    go_wp2
    generalize (((w.alloc (.cells #[.bool na, .slice a n cap] 34)).alloc (.cells #[.bool na, .slice b m cap'] 34)).alloc (.cells #[.bool false, .slice none 0 0] 34)) = W at *
    have HAd : Hid (W.drew.heap[w.heap.size]? = some (.cells #[.bool na, .slice a n cap] 34 (0, 0))) := Lib.hid HAo.out
    have HBd : Hid (W.drew.heap[w.heap.size + 1]? = some (.cells #[.bool na, .slice b m cap'] 34 (0, 0))) := Lib.hid HBo.out
    have HRd : Hid (W.drew.heap[w.heap.size + 1 + 1]? = some (.cells #[.bool false, .slice none 0 0] 34 (0, 0))) := Lib.hid HRo.out
    have Hd : Below W.heap.size W W.drew := (Below.refl _ _).drew
    have Sd := four_cells HAd.out HBd.out
    clear HAo HBo HRo
    have Sal := fun o => four_cells (blk_later HAd.out (below_alloc W.drew o)) (blk_later HBd.out (below_alloc W.drew o))
    go_region_held3 (fun w' => w'.cell? ⟨w.heap.size, 0, none⟩ = some (.bool na) ∧ w'.cell? ⟨w.heap.size, 1, none⟩ = some (.slice a n cap) ∧ w'.cell? ⟨w.heap.size + 1, 0, none⟩ = some (.bool na) ∧ w'.cell? ⟨w.heap.size + 1, 1, none⟩ = some (.slice b m cap')) (first | exact Sd | exact Sal _ | exact Sq1 | exact Sq2 | exact Sq3 _ _)
      (first
      | (go_at_call 105; (refine (natSaid.add _ _ _ _ _ (Wds.lit2 W.drew 23 (Ha.out.later Hd) (Hb.out.later Hd)) (by omega) ?q3).mono ?_); (case q3 => have h7 := Hla.out; have h8 := Hlb.out; simp only [words]; omega); rintro e w1 ⟨a1, n1, c1, rfl, h1, b1⟩; have bq1 := below_then (below_alloc W.drew _) b1; have hA1 := blk_later HAd.out bq1; have hB1 := blk_later HBd.out bq1; have Sq1 := four_cells hA1 hB1)
      | (go_at_call 94; (refine (whole_signed na a1 n1 c1 _ _ h1 ?q5).mono ?_); (case q5 => have h7 := h1.len; have h8 := hpl.out; omega); rintro e w2 ⟨a2, n2, c2, rfl, h2, b2⟩; have Sq2 := four_cells (blk_later hA1 b2) (blk_later hB1 b2); have Sq3 := four_stored (g := w.heap.size + 1 + 1) (blk_later hA1 b2) (blk_later hB1 b2) (by omega) (by omega); have hRb := blk_later (blk_later HRd.out bq1) b2; have r0 := blk_cell hRb 0; have r1 := blk_cell hRb 1; have f0 := blk_free hRb 0; have f1 := blk_free hRb 1; simp only [List.getElem?_toArray, List.getElem?_cons_zero, List.getElem?_cons_succ] at r0 r1; unfold whV))
    have hBe := Lib.hid (below_then HB.out (below_then Hd (below_then bq1 b2)))
    have H2 := Lib.hid h2
    have hl2 := Lib.hid hRb
    have HF := Lib.hid (H2.out.stored2 hl2.out (zneg (zval na (vals [la, lb]))) (.slice a2 n2 c2))
    have HG := Lib.hid (blk_set2 hl2.out (.bool (zneg (zval na (vals [la, lb])))) (.slice a2 n2 c2))
    have HB2 := Lib.hid (below_set2 hBe.out (show w.heap.size ≤ w.heap.size + 1 + 1 by omega) (.bool (zneg (zval na (vals [la, lb])))) (.slice a2 n2 c2))
    rw [hva.out, HV.out] at HF HG HB2
    rw [hva.out, HV.out]
    generalize zval na (val la) + zval na (val lb) = z at *
    go_wp2
    refine bodyPost_ret (results_cell_row Tryz.results80 _ _ (w.heap.size + 1 + 1) 34 #[.bool (zneg z), .slice a2 n2 c2] (0, 0) _ rfl HG.out Tryz.underlying34 rfl (by kernel_rfl)) rfl ?_
    exact ⟨a2, n2, c2, rfl, HF.out, HB2.out⟩
  · have hq : (na == nb) = false := by simp [hne]
    have Hne := Lib.hid hne
    have hpl : Hid ((dg (val la - val lb + (val lb - val la))).length ≤ 209715200001) := Lib.hid (by
      have h1 := dg_length_mono (show val la - val lb + (val lb - val la) ≤ val la + val lb by omega)
      have h2 := dg_add_length (val la) (val lb)
      omega)
    clear hne hla hlb
    go_enter Tryz.func80, Tryz.ntmps80
    unfold whV
    by_cases hlt : val la < val lb
    · have hc : cmpI (val la) (val lb) < 0 := by rw [cmpI_lt hlt]; omega
      have Hlt := Lib.hid hlt
      clear hlt
      go_wp2_with fail
      refine (natSaid.gap a n cap la b m cap' lb _ Ha.out Hb.out (by omega) (by omega)).mono ?_
      rintro e w1 ⟨a1, n1, c1, rfl, h1, b1⟩
      obtain ⟨s0, s1, s2, s3⟩ := four_cells (blk_later HAo.out b1) (blk_later HBo.out b1)
      have HR1 := Lib.hid (blk_later HRo.out b1)
      have hn1 : n1 ≤ 209715200001 := by rw [← h1.len]; exact hpl.out
      have H1 := Lib.hid h1
      have HV : Hid (zval nb (val la - val lb + (val lb - val la)) = zval na (val la) + zval nb (val lb)) := Lib.hid (by rw [Nat.sub_eq_zero_of_le (Nat.le_of_lt Hlt.out), Nat.zero_add]; exact zval_add_less Hne.out Hlt.out)
      clear h1 HAo HBo HRo Ha Hb
      generalize cmpI (val la) (val lb) = cc at *
      go_wp2_with fail
      refine (whole_signed nb a1 n1 c1 _ _ H1.out (by omega)).mono ?_
      rintro e w2 ⟨a2, n2, c2, rfl, h2, b2⟩
      clear s0 s1 s2 s3
      have hRb := blk_later HR1.out b2
      have r0 := blk_cell hRb 0
      have r1 := blk_cell hRb 1
      have f0 := blk_free hRb 0
      have f1 := blk_free hRb 1
      simp only [List.getElem?_toArray, List.getElem?_cons_zero, List.getElem?_cons_succ] at r0 r1
      have hBe := Lib.hid (below_then HB.out (below_then b1 b2))
      have H2 := Lib.hid h2
      have hl2 := Lib.hid hRb
      have HF := Lib.hid (H2.out.stored2 hl2.out (zneg (zval nb (val la - val lb + (val lb - val la)))) (.slice a2 n2 c2))
      have HG := Lib.hid (blk_set2 hl2.out (.bool (zneg (zval nb (val la - val lb + (val lb - val la))))) (.slice a2 n2 c2))
      have HB2 := Lib.hid (below_set2 hBe.out (show w.heap.size ≤ w.heap.size + 1 + 1 by omega) (.bool (zneg (zval nb (val la - val lb + (val lb - val la))))) (.slice a2 n2 c2))
      clear hRb h2 b1 b2 hBe
      rw [HV.out] at HF HG HB2
      rw [HV.out]
      generalize zval na (val la) + zval nb (val lb) = z at *
      unfold whV
      go_wp2
      refine bodyPost_ret (results_cell_row Tryz.results80 _ _ (w.heap.size + 1 + 1) 34 #[.bool (zneg z), .slice a2 n2 c2] (0, 0) _ rfl HG.out Tryz.underlying34 rfl (by kernel_rfl)) rfl ?_
      exact ⟨a2, n2, c2, rfl, HF.out, HB2.out⟩
    · have hc : ¬ cmpI (val la) (val lb) < 0 := by unfold cmpI; split <;> (try split) <;> omega
      have Hle : Hid (val lb ≤ val la) := Lib.hid (by omega)
      clear hlt
      go_wp2_with fail
      refine (natSaid.gap a n cap la b m cap' lb _ Ha.out Hb.out (by omega) (by omega)).mono ?_
      rintro e w1 ⟨a1, n1, c1, rfl, h1, b1⟩
      obtain ⟨s0, s1, s2, s3⟩ := four_cells (blk_later HAo.out b1) (blk_later HBo.out b1)
      have HR1 := Lib.hid (blk_later HRo.out b1)
      have hn1 : n1 ≤ 209715200001 := by rw [← h1.len]; exact hpl.out
      have H1 := Lib.hid h1
      have HV : Hid (zval na (val la - val lb + (val lb - val la)) = zval na (val la) + zval nb (val lb)) := Lib.hid (by rw [Nat.sub_eq_zero_of_le Hle.out, Nat.add_zero]; exact zval_add_more Hne.out Hle.out)
      clear h1 HAo HBo HRo Ha Hb
      generalize cmpI (val la) (val lb) = cc at *
      go_wp2_with fail
      refine (whole_signed na a1 n1 c1 _ _ H1.out (by omega)).mono ?_
      rintro e w2 ⟨a2, n2, c2, rfl, h2, b2⟩
      clear s0 s1 s2 s3
      have hRb := blk_later HR1.out b2
      have r0 := blk_cell hRb 0
      have r1 := blk_cell hRb 1
      have f0 := blk_free hRb 0
      have f1 := blk_free hRb 1
      simp only [List.getElem?_toArray, List.getElem?_cons_zero, List.getElem?_cons_succ] at r0 r1
      have hBe := Lib.hid (below_then HB.out (below_then b1 b2))
      have H2 := Lib.hid h2
      have hl2 := Lib.hid hRb
      have HF := Lib.hid (H2.out.stored2 hl2.out (zneg (zval na (val la - val lb + (val lb - val la)))) (.slice a2 n2 c2))
      have HG := Lib.hid (blk_set2 hl2.out (.bool (zneg (zval na (val la - val lb + (val lb - val la))))) (.slice a2 n2 c2))
      have HB2 := Lib.hid (below_set2 hBe.out (show w.heap.size ≤ w.heap.size + 1 + 1 by omega) (.bool (zneg (zval na (val la - val lb + (val lb - val la))))) (.slice a2 n2 c2))
      clear hRb h2 b1 b2 hBe
      rw [HV.out] at HF HG HB2
      rw [HV.out]
      generalize zval na (val la) + zval nb (val lb) = z at *
      unfold whV
      go_wp2
      refine bodyPost_ret (results_cell_row Tryz.results80 _ _ (w.heap.size + 1 + 1) 34 #[.bool (zneg z), .slice a2 n2 c2] (0, 0) _ rfl HG.out Tryz.underlying34 rfl (by kernel_rfl)) rfl ?_
      exact ⟨a2, n2, c2, rfl, HF.out, HB2.out⟩
end Go.Proofs.YtipcgehcineblaaGreat

/-
  Package whole at this seat: Of, Int, Text.
-/
namespace Go.Proofs.YtipcgehcineblaaGreat
open Go.RowKit

set_option maxRecDepth 4096 in
theorem whole_of (z : Int) (w : World) (hz : isInt z) : Calls Tryz.prog 66 #[.int .i64 z] w (LstZ z w) := by
  unfold isInt at hz
  by_cases hlt : z < 0
  · skip
    have HA : Hid (zval true z.natAbs = z) := Lib.hid (by unfold zval; simp; omega)
    have hv : ((z.natAbs : Nat) : Int) = -z := by omega
    have hvb : z.natAbs ≤ 18446744073709551615 := by omega
    generalize z.natAbs = v at *
    have hw : IntKind.u64.wrap (-IntKind.u64.wrap z) = (v : Int) := by rw [IntKind.wrap_u64, IntKind.wrap_u64]; omega
    go_enter Tryz.func66, Tryz.ntmps66
    go_wp2_with fail
    rw [← hv]
    refine (natSaid.of v _ hvb).mono ?_
    rintro e w1 ⟨a1, n1, c1, rfl, h1, b1⟩
    have hn1 : n1 ≤ 2 := by rw [← h1.len]; exact dg_length_le (by omega)
    have hR := box_at w w1 _ _ b1
    have H1 := Lib.hid h1
    go_wp2_with fail
    refine (whole_signed true a1 n1 c1 _ _ H1.out (by omega)).mono ?_
    rintro e w2 ⟨a2, n2, c2, rfl, h2, b2⟩
    have hRb := blk_later hR b2
    have r0 := blk_cell hRb 0
    have r1 := blk_cell hRb 1
    have f0 := blk_free hRb 0
    have f1 := blk_free hRb 1
    simp only [List.getElem?_toArray, List.getElem?_cons_zero, List.getElem?_cons_succ] at r0 r1
    have hBe := Lib.hid (below_then (below_alloc w _) (below_then b1 b2))
    have H2 := Lib.hid h2
    have hl2 := Lib.hid hRb
    have HF := Lib.hid (H2.out.stored2 hl2.out (zneg (zval true v)) (.slice a2 n2 c2))
    have HG := Lib.hid (blk_set2 hl2.out (.bool (zneg (zval true v))) (.slice a2 n2 c2))
    have HB2 := Lib.hid (below_set2 hBe.out (show w.heap.size ≤ w.heap.size by omega) (.bool (zneg (zval true v))) (.slice a2 n2 c2))
    clear hRb h2 b1 b2 hBe hR h1
    rw [HA.out] at HF HG HB2
    rw [HA.out]
    generalize hzz : zneg z = zb at *
    have Hzz := Lib.hid hzz
    clear hzz
    unfold whV
    go_wp2
    refine bodyPost_ret (results_cell_row Tryz.results66 _ _ (w.heap.size) 34 #[.bool zb, .slice a2 n2 c2] (0, 0) _ rfl HG.out Tryz.underlying34 rfl (by kernel_rfl)) rfl ?_
    exact ⟨a2, n2, c2, by rw [Hzz.out]; rfl, HF.out, HB2.out⟩
  · skip
    have HA : Hid (zval false z.natAbs = z) := Lib.hid (by unfold zval; simp; omega)
    have hv : ((z.natAbs : Nat) : Int) = z := by omega
    have hvb : z.natAbs ≤ 18446744073709551615 := by omega
    generalize z.natAbs = v at *
    have hw : IntKind.u64.wrap z = (v : Int) := by rw [IntKind.wrap_u64]; omega
    go_enter Tryz.func66, Tryz.ntmps66
    go_wp2_with fail
    rw [← hv]
    refine (natSaid.of v _ hvb).mono ?_
    rintro e w1 ⟨a1, n1, c1, rfl, h1, b1⟩
    have hn1 : n1 ≤ 2 := by rw [← h1.len]; exact dg_length_le (by omega)
    have hR := box_at w w1 _ _ b1
    have H1 := Lib.hid h1
    go_wp2_with fail
    refine (whole_signed false a1 n1 c1 _ _ H1.out (by omega)).mono ?_
    rintro e w2 ⟨a2, n2, c2, rfl, h2, b2⟩
    have hRb := blk_later hR b2
    have r0 := blk_cell hRb 0
    have r1 := blk_cell hRb 1
    have f0 := blk_free hRb 0
    have f1 := blk_free hRb 1
    simp only [List.getElem?_toArray, List.getElem?_cons_zero, List.getElem?_cons_succ] at r0 r1
    have hBe := Lib.hid (below_then (below_alloc w _) (below_then b1 b2))
    have H2 := Lib.hid h2
    have hl2 := Lib.hid hRb
    have HF := Lib.hid (H2.out.stored2 hl2.out (zneg (zval false v)) (.slice a2 n2 c2))
    have HG := Lib.hid (blk_set2 hl2.out (.bool (zneg (zval false v))) (.slice a2 n2 c2))
    have HB2 := Lib.hid (below_set2 hBe.out (show w.heap.size ≤ w.heap.size by omega) (.bool (zneg (zval false v))) (.slice a2 n2 c2))
    clear hRb h2 b1 b2 hBe hR h1
    rw [HA.out] at HF HG HB2
    rw [HA.out]
    generalize hzz : zneg z = zb at *
    have Hzz := Lib.hid hzz
    clear hzz
    unfold whV
    go_wp2
    refine bodyPost_ret (results_cell_row Tryz.results66 _ _ (w.heap.size) 34 #[.bool zb, .slice a2 n2 c2] (0, 0) _ rfl HG.out Tryz.underlying34 rfl (by kernel_rfl)) rfl ?_
    exact ⟨a2, n2, c2, by rw [Hzz.out]; rfl, HF.out, HB2.out⟩
end Go.Proofs.YtipcgehcineblaaGreat

/-
  The contracts of package twos (layer 3) at this seat: telling functions.
-/
namespace Go.Proofs.YtipcgehcineblaaGreat
open Go.RowKit

theorem limb_len_nat (x : Nat) (w : World) (hx : x < 4294967296) : Calls Tryz.prog 138 #[.int .u32 (x : Int)] w fun e w' => e = .returned (.int .i64 ((blen x : Nat) : Int)) ∧ w = w' :=
  (limb_len (x : Int) w (by omega) (by omega)).mono fun e w' ⟨he, hw⟩ => ⟨by rw [he]; simp only [Int.toNat_natCast, bitLen_blen (show x < 18446744073709551616 by omega)], hw⟩
theorem twos_len (a : Option Addr) (n cap : Nat) (l : List Nat) (w : World) (h : Wd w a n cap l) (hn : n ≤ 17592183947264) :
    Calls Tryz.prog 147 #[.slice a n cap] w fun e w' => e = .returned (.int .i64 ((blen (val l) : Nat) : Int)) ∧ w = w' := by
  obtain ⟨hb1, hb2⟩ := h.bound
  have H := Lib.hid h
  clear h
  go_enter Tryz.func147, Tryz.ntmps147
  go_wp2
  go_loop [3] (fun i => ∃ k : Nat, k ≤ n ∧ i = .int .i64 ((k : Int) - 1) ∧ Hid (top l k = 0)) (fun i => (intOf i + 1).toNat)
  case atStart => exact ⟨n, by omega, by go_num, Lib.hid (top_ge (by have := H.out.len; omega))⟩
  case round =>
    obtain ⟨k, hk, rfl, Ht⟩ := hrel
    cases k with
    | zero =>
      have Hv : Hid (blen (val l) = 0) := Lib.hid (by rw [← top_zero, Ht.out]; rfl)
      go_wp2
      go_ret
      exact ⟨ret_i64 (by rw [Hv.out]; rfl), rfl⟩
    | succ k =>
      have e1 : ((k + 1 : Nat) : Int) - 1 = (k : Int) := by omega
      rw [e1]
      clear e1
      obtain ⟨b, off, rfl, hc⟩ := H.out.at (by omega)
      have hck := hc k (by omega)
      have hx := atw_lt H.out.ok k
      clear hc
      by_cases hz : atw l k = 0
      · have hzb : (((atw l k : Nat) : Int) == 0) = true := by simp [hz]
        have Hz := Lib.hid hz
        clear hz
        go_wp2
        go_round
        case rel => exact ⟨k, by omega, by go_num, Lib.hid (by rw [top_succ, Hz.out, Ht.out])⟩
        case measure => simp [intOf]
      · have hzb : (((atw l k : Nat) : Int) == 0) = false := by simp [hz]
        have Hfin := Lib.hid (blen_top H.out.ok Ht.out hz)
        have hbl : blen (atw l k) ≤ 32 := blen_le.2 (atw_lt H.out.ok k)
        clear hz
        go_wp2_with fail
        refine (limb_len_nat _ _ hx).mono ?_
        rintro e w' ⟨rfl, rfl⟩
        generalize blen (atw l k) = y at *
        go_wp2
        go_ret
        exact ⟨ret_i64 (by rw [Hfin.out]; omega), rfl⟩
end Go.Proofs.YtipcgehcineblaaGreat
