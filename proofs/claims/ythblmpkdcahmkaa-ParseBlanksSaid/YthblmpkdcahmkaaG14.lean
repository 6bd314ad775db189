/-
  Several texts of this claim as one, group 14.
-/
import Derived.Test.YthblmpkdcahmkaaG13
import Derived.Test.YthblmpkdcahmkaaG5
import Derived.Recover
import Derived.WalkKit
import Derived.RegionDies
import Derived.Deep.RegionHeld3
import Derived.Test.YthblmpkdcahmkaaG2
import Derived.Test.YthblmpkdcahmkaaG9
import Derived.Lib.AppendIntMem
import Derived.Lib.AppendStr
import Derived.Laws.IdiomStrings
import Derived.Laws.Slices
import Derived.OwnWalk
import Derived.BigCall
import Derived.BigGuard
import Derived.Test.YthblmpkdcahmkaaG8
import Derived.Test.YthblmpkdcahmkaaG1
import Derived.Test.YthblmpkdcahmkaaG7
import Derived.Deep.DeepMust
import Derived.BigRegion
import Derived.Laws.CopyOwn
import Derived.BigQuiet
import Derived.Deep.QuietTactic
import Derived.Deep.AppendSrc
import Derived.Deep.RegionWith
/-
  Package parse: slices.Index and slices.Contains of strings; the reader's next, refuse, sees, take.
-/
namespace Go.Proofs.Ythblmpkdcahmkaa
open Go.WideShapes Go.RowKit Go.Deep

theorem rd_set3 {w : World} {g : Nat} {x y z : Value} {t : TypeId} (h : w.heap[g]? = some (.cells #[x, y, z] t (0, 0))) (u v q : Value) : (((w.setCell ⟨g, 0, none⟩ u).setCell ⟨g, 1, none⟩ v).setCell ⟨g, 2, none⟩ q).heap[g]? = some (.cells #[u, v, q] t (0, 0)) := by
  have h1 := blk_set (blk_set (blk_set h 0 u) 1 v) 2 q
  simpa using h1
theorem rd_below3 {w w1 : World} {g : Nat} (h : Below w.heap.size w w1) (hg : w.heap.size ≤ g) (u v q : Value) : Below w.heap.size w (((w1.setCell ⟨g, 0, none⟩ u).setCell ⟨g, 1, none⟩ v).setCell ⟨g, 2, none⟩ q) :=
  ((h.setCell (p := ⟨g, 0, none⟩) hg u).setCell (p := ⟨g, 1, none⟩) hg v).setCell (p := ⟨g, 2, none⟩) hg q
theorem word_text (x : Lw) (w : World) : (Instr.field 88 (.agg #[.int .i64 (x.k : Int), .string (bs x.t), .int .i64 (x.p : Int)]) 1).run Try.prog w = .ok (.string (bs x.t)) w := by kernel_rfl
theorem word_place (x : Lw) (w : World) : (Instr.field 88 (.agg #[.int .i64 (x.k : Int), .string (bs x.t), .int .i64 (x.p : Int)]) 2).run Try.prog w = .ok (.int .i64 (x.p : Int)) w := by kernel_rfl
theorem pFind_sign (t : List UInt8) : ∀ (N : List (List UInt8)) (k : Nat), decide ((0 : Int) ≤ pFind t N k) = decide (t ∈ N)
  | [], k => by simp [pFind]
  | x :: r, k => by
    unfold pFind
    by_cases h : x = t
    · rw [if_pos h]; simp [h]
    · rw [if_neg h, pFind_sign t r (k + 1)]
      have : ¬ t = x := fun e => h e.symm
      simp [this]
set_option maxRecDepth 4096 in
set_option maxHeartbeats 8000000 in
theorem strs_index (a : Option Addr) (n c : Nat) (N : List (List UInt8)) (t : List UInt8) (w : World) (h : stC.Has w a n c N) (hn : n ≤ 1000000) :
    Calls Try.prog 84 #[.slice a n c, .string (bs t)] w (Same1 (.int .i64 (pFind t N 0)) w) := by
  obtain rfl := h.len
  have HN := Lib.hid h
  have hbd := h.bound
  obtain ⟨R, hR⟩ : ∃ R, pFind t N 0 = R := ⟨_, rfl⟩
  rw [hR]
  have HR := Lib.hid hR
  clear hR h
  go_enter Try.func84, Try.ntmps84
  go_wp2
  go_loop [8] (fun iv => ∃ j : Nat, j ≤ N.length ∧ iv = .int .i64 (j : Int) ∧ Hid (pFind t (N.drop j) j = R)) (fun iv => N.length - (intOf iv).toNat)
  case atStart => exact ⟨0, by omega, by go_num, HR⟩
  case round =>
    obtain ⟨j, hj, rfl, HF⟩ := hrel
    by_cases hlt : j < N.length
    · have hji : (j : Int) < (N.length : Int) := by omega
      obtain ⟨x, hx⟩ : ∃ x, N[j]? = some x := ⟨N[j]'hlt, List.getElem?_eq_getElem _⟩
      obtain ⟨b, off, rfl, hc⟩ := HN.out.at (by omega)
      have f0 : w.cell? ⟨b, off + j, none⟩ = some (.string (bs x)) := by
        have h9 := hc j x hx 0 _ rfl
        simpa [stC] using h9
      have HF2 : Hid ((if x = t then (j : Int) else pFind t (N.drop (j + 1)) (j + 1)) = R) := Lib.hid (by
        have h9 := HF.out
        rw [List.drop_eq_getElem_cons hlt, pFind] at h9
        rw [List.getElem?_eq_getElem hlt] at hx
        rw [← Option.some.inj hx]; exact h9)
      clear hx hc HF
      by_cases hq : x = t
      · have q1 : ((bs t).toList == (bs x).toList) = true := by rw [bs_list, bs_list]; simp [hq]
        obtain rfl : R = (j : Int) := by rw [← HF2.out, if_pos hq]
        clear hq HF2
        go_wp2
        go_ret
        exact ⟨rfl, rfl⟩
      · have hq2 : ¬ t = x := fun e => hq e.symm
        have q1 : ((bs t).toList == (bs x).toList) = false := by rw [bs_list, bs_list]; simp [hq2]
        have HF3 : Hid (pFind t (N.drop (j + 1)) (j + 1) = R) := Lib.hid (by rw [← HF2.out, if_neg hq])
        clear hq hq2 HF2
        go_wp2
        go_round
        case rel => exact ⟨j + 1, by omega, by go_num, HF3⟩
        case measure => simp [intOf]; omega
    · obtain rfl : j = N.length := by omega
      obtain rfl : R = -1 := by
        have h9 := HF.out
        rw [List.drop_length] at h9
        exact h9.symm
      clear HF
      go_wp2
      go_ret
      exact ⟨rfl, rfl⟩
set_option maxRecDepth 4096 in
set_option maxHeartbeats 8000000 in
theorem strs_contains (a : Option Addr) (n c : Nat) (N : List (List UInt8)) (t : List UInt8) (w : World) (h : stC.Has w a n c N) (hn : n ≤ 1000000) :
    Calls Try.prog 71 #[.slice a n c, .string (bs t)] w (Same1 (.bool (decide (t ∈ N))) w) := by
  have HI := Lib.hid (strs_index a n c N t w h hn)
  have HS := Lib.hid (pFind_sign t N 0)
  clear h
  generalize pFind t N 0 = z at *
  obtain ⟨R, hR⟩ : ∃ R, decide (t ∈ N) = R := ⟨_, rfl⟩
  rw [hR]
  have hz : decide ((0 : Int) ≤ z) = R := by rw [← hR]; exact HS.out
  clear hR HS
  go_enter Try.func71, Try.ntmps71
  go_wp2_with fail
  refine HI.out.mono ?_
  rintro e w1 ⟨rfl, rfl⟩
  go_wp2
  go_ret
  exact ⟨rfl, rfl⟩
set_option maxRecDepth 4096 in
set_option maxHeartbeats 8000000 in
theorem parse_next (g : Nat) (a : Option Addr) (n c : Nat) (W : List Lw) (E : Nat) (nv cv : Value) (s : Ps) (w : World) (h : RW 77 w g a n c W E nv cv s) :
    Calls Try.prog 72 #[.pointer (some ⟨g, 0, none⟩)] w (Gives (lwV (lwNext W E s)) w) := by
  obtain ⟨e0, e1, e2, e3, e4⟩ := (h.later (below_alloc w (.cells #[.int .i64 0, .string ⟨#[]⟩, .int .i64 0] 88))).cells
  have hn := h.len
  have hbd := h.words.bound
  by_cases hi : s.i < W.length
  · obtain ⟨x, hx⟩ : ∃ x, W[s.i]? = some x := ⟨W[s.i]'hi, List.getElem?_eq_getElem _⟩
    obtain ⟨b, off, rfl, hp, f0, f1, f2⟩ := (h.later (below_alloc w (.cells #[.int .i64 0, .string ⟨#[]⟩, .int .i64 0] 88))).word hx
    rw [lwNext_some hx]
    have q0 : ((n : Int) == 0) = false := by simp; omega
    have k1 : (0 : Int) < (n : Int) := by omega
    have HG := Lib.hid (blk_new w #[.int .i64 (x.k : Int), .string (bs x.t), .int .i64 (x.p : Int)] 88)
    have HB := Lib.hid (below_alloc w (.cells #[.int .i64 (x.k : Int), .string (bs x.t), .int .i64 (x.p : Int)] 88))
    clear hx h hn hi
    go_enter Try.func72, Try.ntmps72
    go_wp2
    refine bodyPost_ret (results_cell_row Try.results72 _ _ w.heap.size 88 #[.int .i64 (x.k : Int), .string (bs x.t), .int .i64 (x.p : Int)] (0, 0) _ rfl HG.out Try.underlying88 rfl (by kernel_rfl)) rfl ?_
    exact ⟨rfl, HB.out⟩
  · rw [lwNext_none (by omega)]
    obtain rfl : n = 0 := by omega
    have HG := Lib.hid (blk_new w #[.int .i64 0, .string ⟨#[]⟩, .int .i64 (E : Int)] 88)
    have HB := Lib.hid (below_alloc w (.cells #[.int .i64 0, .string ⟨#[]⟩, .int .i64 (E : Int)] 88))
    clear h hn hi
    go_enter Try.func72, Try.ntmps72
    go_wp2
    refine bodyPost_ret (results_cell_row Try.results72 _ _ w.heap.size 88 #[.int .i64 0, .string ⟨#[]⟩, .int .i64 (E : Int)] (0, 0) _ rfl HG.out Try.underlying88 rfl (by kernel_rfl)) rfl ?_
    exact ⟨rfl, HB.out⟩
set_option maxRecDepth 4096 in
set_option maxHeartbeats 8000000 in
theorem parse_refuse (g : Nat) (a : Option Addr) (n c : Nat) (W : List Lw) (E : Nat) (nv cv : Value) (s : Ps) (w : World) (h : RW 77 w g a n c W E nv cv s) :
    Calls Try.prog 53 #[.pointer (some ⟨g, 0, none⟩)] w (fun e w' => e = badP 28 (pBad W E s).bad ∧ w.grownBy w' (some g)) := by
  have HN := Lib.hid (parse_next g a n c W E nv cv s w h)
  rw [lwNext_bad h.fine]
  generalize lwNext W E s = x at *
  clear h
  go_enter Try.func53, Try.ntmps53
  go_wp2_with fail
  refine HN.out.mono ?_
  rintro e w1 ⟨rfl, b1⟩
  have hfd := word_place x
  unfold lwV
  go_wp2
  exact ⟨rfl, rfl, below_grown b1 _⟩
set_option maxRecDepth 4096 in
set_option maxHeartbeats 8000000 in
theorem parse_sees (g : Nat) (a : Option Addr) (n c : Nat) (W : List Lw) (E : Nat) (nv cv : Value) (s : Ps) (ta : Option Addr) (tn tc : Nat) (T : List (List UInt8)) (w : World) (h : RW 77 w g a n c W E nv cv s) (ht : stC.Has w ta tn tc T) (hn : tn ≤ 10) :
    Calls Try.prog 49 #[.pointer (some ⟨g, 0, none⟩), .slice ta tn tc] w (Gives (.bool (decide ((lwNext W E s).t ∈ T))) w) := by
  have HN := Lib.hid (parse_next g a n c W E nv cv s w h)
  have HT := Lib.hid ht
  generalize lwNext W E s = x at *
  clear h ht
  go_enter Try.func49, Try.ntmps49
  go_wp2_with fail
  refine HN.out.mono ?_
  rintro e w1 ⟨rfl, b1⟩
  have B1 := Lib.hid b1
  have HC := Lib.hid (strs_contains ta tn tc T x.t w1 (HT.out.later b1) (by omega))
  clear b1
  have hfd := word_text x
  unfold lwV
  go_wp2_with fail
  refine HC.out.mono ?_
  rintro e w2 ⟨rfl, rfl⟩
  go_wp2
  go_ret
  exact ⟨rfl, B1.out⟩
set_option maxRecDepth 4096 in
set_option maxHeartbeats 8000000 in
theorem parse_take (g : Nat) (a : Option Addr) (n c : Nat) (W : List Lw) (E : Nat) (nv cv : Value) (s : Ps) (w : World) (h : RW 77 w g a n c W E nv cv s) (hi : s.i < W.length) :
    Calls Try.prog 50 #[.pointer (some ⟨g, 0, none⟩)] w (fun e w' => e = .returned (lwV (lwNext W E s)) ∧ (∃ a n c, RW 77 w' g a n c W E nv cv { s with i := s.i + 1 }) ∧ w.grownBy w' (some g)) := by
  obtain ⟨x, hx⟩ : ∃ x, W[s.i]? = some x := ⟨W[s.i]'hi, List.getElem?_eq_getElem _⟩
  rw [lwNext_some hx]
  have b1 := below_alloc w (.cells #[.int .i64 0, .string ⟨#[]⟩, .int .i64 0] 88)
  have b2 := below_alloc (w.alloc (.cells #[.int .i64 0, .string ⟨#[]⟩, .int .i64 0] 88)) (.cells #[.int .i64 (x.k : Int), .string (bs x.t), .int .i64 (x.p : Int)] 88)
  have hlt := h.lt
  obtain ⟨e0, -, -, -, -⟩ := (h.later b1).cells
  obtain ⟨d0, -, -, -, -⟩ := ((h.later b1).later b2).cells
  have df := ((h.later b1).later b2).free 0
  obtain ⟨b, off, rfl, hp, f0, f1, f2⟩ := (h.later b1).word hx
  have hbd := h.words.bound
  have hap := h.apart b off rfl hp
  have k1 : (0 : Int) < (n : Int) := by omega
  clear b1 b2 hx
  by_cases hc : c = 1
  · subst hc
    obtain rfl : n = 1 := by omega
    have HW := Lib.hid (show Wxs _ (some ⟨b, off, none⟩) 0 0 ((W.drop (s.i + 1)).map Lw.x) by
      have h9 := h.words.tail_end rfl
      rw [← List.map_drop, List.drop_drop] at h9
      exact h9)
    obtain ⟨h3, g3⟩ := h.set0 HW.out (fun b' off' e h0 => by omega) hi
    have hz : (w.setCell ⟨g, 0, none⟩ (.slice (some ⟨b, off, none⟩) 0 0)).heap.size = w.heap.size := by simp
    have b4 := below_alloc (w.setCell ⟨g, 0, none⟩ (.slice (some ⟨b, off, none⟩) 0 0)) (.cells #[.int .i64 (x.k : Int), .string (bs x.t), .int .i64 (x.p : Int)] 88)
    have b5 := below_alloc ((w.setCell ⟨g, 0, none⟩ (.slice (some ⟨b, off, none⟩) 0 0)).alloc (.cells #[.int .i64 (x.k : Int), .string (bs x.t), .int .i64 (x.p : Int)] 88)) (.cells #[.int .i64 (x.k : Int), .string (bs x.t), .int .i64 (x.p : Int)] 88)
    have R5 := blk_later (blk_new (w.setCell ⟨g, 0, none⟩ (.slice (some ⟨b, off, none⟩) 0 0)) #[.int .i64 (x.k : Int), .string (bs x.t), .int .i64 (x.p : Int)] 88) b5
    rw [hz] at R5
    have HR5 := Lib.hid R5
    have H5 := Lib.hid ((h3.later b4).later b5)
    have G5 := Lib.hid (grown_pass (grown_pass g3 b4) b5)
    clear h3 g3 b4 b5 R5 h HW
    go_enter Try.func50, Try.ntmps50
    go_wp2
    refine bodyPost_ret (results_cell_row Try.results50 _ _ w.heap.size 88 #[.int .i64 (x.k : Int), .string (bs x.t), .int .i64 (x.p : Int)] (0, 0) _ rfl HR5.out Try.underlying88 rfl (by kernel_rfl)) rfl ?_
    exact ⟨rfl, ⟨_, _, _, H5.out⟩, G5.out⟩
  · have HW := Lib.hid (show Wxs _ (some ⟨b, off + 3, none⟩) (n - 1) (c - 1) ((W.drop (s.i + 1)).map Lw.x) by
      have h9 := h.words.tail hp
      rw [← List.map_drop, List.drop_drop] at h9
      exact h9)
    have k2 : (1 : Int) ≤ (n : Int) := by omega
    have k3 : ¬ (c : Int) = 1 := by omega
    obtain ⟨h3, g3⟩ := h.set0 HW.out (fun b' off' e h0 => by obtain ⟨rfl, rfl, _⟩ := Addr.mk.inj (Option.some.inj e); exact hap) hi
    have hz : (w.setCell ⟨g, 0, none⟩ (.slice (some ⟨b, off + 3, none⟩) (n - 1) (c - 1))).heap.size = w.heap.size := by simp
    have b4 := below_alloc (w.setCell ⟨g, 0, none⟩ (.slice (some ⟨b, off + 3, none⟩) (n - 1) (c - 1))) (.cells #[.int .i64 (x.k : Int), .string (bs x.t), .int .i64 (x.p : Int)] 88)
    have b5 := below_alloc ((w.setCell ⟨g, 0, none⟩ (.slice (some ⟨b, off + 3, none⟩) (n - 1) (c - 1))).alloc (.cells #[.int .i64 (x.k : Int), .string (bs x.t), .int .i64 (x.p : Int)] 88)) (.cells #[.int .i64 (x.k : Int), .string (bs x.t), .int .i64 (x.p : Int)] 88)
    have R5 := blk_later (blk_new (w.setCell ⟨g, 0, none⟩ (.slice (some ⟨b, off + 3, none⟩) (n - 1) (c - 1))) #[.int .i64 (x.k : Int), .string (bs x.t), .int .i64 (x.p : Int)] 88) b5
    rw [hz] at R5
    have HR5 := Lib.hid R5
    have H5 := Lib.hid ((h3.later b4).later b5)
    have G5 := Lib.hid (grown_pass (grown_pass g3 b4) b5)
    clear h3 g3 b4 b5 R5 h HW
    go_enter Try.func50, Try.ntmps50
    go_wp2
    refine bodyPost_ret (results_cell_row Try.results50 _ _ w.heap.size 88 #[.int .i64 (x.k : Int), .string (bs x.t), .int .i64 (x.p : Int)] (0, 0) _ rfl HR5.out Try.underlying88 rfl (by kernel_rfl)) rfl ?_
    exact ⟨rfl, ⟨_, _, _, H5.out⟩, G5.out⟩
end Go.Proofs.Ythblmpkdcahmkaa

/-
  Package parse: the reader's must, open, end, put; operation.
-/
namespace Go.Proofs.Ythblmpkdcahmkaa
open Go.WideShapes Go.RowKit Go.Deep

theorem st_lit1 (w : World) (t : List UInt8) (e : TypeId) : stC.Has (w.alloc (.cells #[.string (bs t)] e)) (some ⟨w.heap.size, 0, none⟩) 1 1 [t] := Cls.Has.lit (C := stC) w [t] e (n := 1) rfl (by omega)
theorem st_lit2 (w : World) (t u : List UInt8) (e : TypeId) : stC.Has (w.alloc (.cells #[.string (bs t), .string (bs u)] e)) (some ⟨w.heap.size, 0, none⟩) 2 2 [t, u] := Cls.Has.lit (C := stC) w [t, u] e (n := 2) rfl (by omega)
theorem st_lit4 (w : World) (t u v x : List UInt8) (e : TypeId) : stC.Has (w.alloc (.cells #[.string (bs t), .string (bs u), .string (bs v), .string (bs x)] e)) (some ⟨w.heap.size, 0, none⟩) 4 4 [t, u, v, x] := Cls.Has.lit (C := stC) w [t, u, v, x] e (n := 4) rfl (by omega)
section
variable {R F : TypeId} {W : List Lw} {E : Nat} {nv cv : Value} {g : Nat} {w0 w w' : World} {e : Ending}
theorem Took.back {v : Value} {s' : Ps} {a : Option Addr} {n c : Nat} (h : RW R w g a n c W E nv cv s') (hg : w0.grownBy w (some g)) : Took R F g W E nv cv v s' w0 (.returned v) w := .inl ⟨h.fine, rfl, ⟨_, _, _, h⟩, hg⟩
theorem Took.gone {v : Value} {s s' : Ps} (he : e = badP F (pBad W E s).bad) (hs : s' = pBad W E s) (hg : w0.grownBy w (some g)) : Took R F g W E nv cv v s' w0 e w := by
  subst hs
  exact .inr ⟨(pBad_i W E s).2.2.1, he, hg⟩
end
set_option maxRecDepth 4096 in
set_option maxHeartbeats 8000000 in
theorem parse_must (g : Nat) (a : Option Addr) (n c : Nat) (W : List Lw) (E : Nat) (nv cv : Value) (s : Ps) (t : List UInt8) (ht : t ≠ []) (w : World) (h : RW 77 w g a n c W E nv cv s) :
    Calls Try.prog 52 #[.pointer (some ⟨g, 0, none⟩), .string (bs t)] w (Took 77 28 g W E nv cv (.tuple #[]) (pMust W E t s) w) := by
  have b1 := below_alloc w (.cells #[.string (bs t)] 9)
  have HS := Lib.hid (parse_sees g a n c W E nv cv s _ 1 1 [t] _ (h.later b1) (st_lit1 w t 9) (by omega))
  have hS := lwNext_sees (W := W) (E := E) h.fine ht
  have H1 := Lib.hid (h.later b1)
  have B1 := Lib.hid b1
  rw [show decide ((lwNext W E s).t ∈ [t]) = pSees W s t by rw [hS]; simp] at HS
  clear b1 h
  by_cases hr : pSees W s t = true
  · have hR : pMust W E t s = { s with i := s.i + 1 } := if_pos hr
    have hi := (pSees_i W hr).2
    rw [hR]
    rw [hr] at HS
    clear hR hr hS
    go_enter Try.func52, Try.ntmps52
    go_wp2_with fail
    refine HS.out.mono ?_
    rintro e w1 ⟨rfl, b2⟩
    have HT := Lib.hid (parse_take g a n c W E nv cv s w1 (H1.out.later b2) hi)
    have B2 := Lib.hid (below_then B1.out b2)
    clear b2 HS
    go_wp2_with fail
    refine HT.out.mono ?_
    rintro e w2 ⟨rfl, ⟨a2, n2, c2, h2⟩, g2⟩
    go_wp2
    go_end0
    exact Took.back h2 (grown_then (below_grown B2.out _) g2)
  · have hR : pMust W E t s = pBad W E s := if_neg hr
    rw [Bool.not_eq_true] at hr
    rw [hR]
    rw [hr] at HS
    clear hr hS hR
    go_enter Try.func52, Try.ntmps52
    go_wp2_with fail
    refine HS.out.mono ?_
    rintro e w1 ⟨rfl, b2⟩
    have HT := Lib.hid (parse_refuse g a n c W E nv cv s w1 (H1.out.later b2))
    have B2 := Lib.hid (below_then B1.out b2)
    clear b2 HS
    go_wp2_with fail
    refine HT.out.mono ?_
    rintro e w2 ⟨rfl, g2⟩
    exact ⟨rfl, Took.gone rfl rfl (grown_then (below_grown B2.out _) g2)⟩
set_option maxRecDepth 4096 in
set_option maxHeartbeats 8000000 in
theorem parse_open (g : Nat) (a : Option Addr) (n c : Nat) (W : List Lw) (E : Nat) (nv cv : Value) (s : Ps) (w : World) (h : RW 77 w g a n c W E nv cv s) (hi : s.i < W.length) (hd : s.deep ≤ 40) :
    Calls Try.prog 92 #[.pointer (some ⟨g, 0, none⟩)] w (Took 77 28 g W E nv cv (.tuple #[]) (pLevel W E s) w) := by
  obtain ⟨e0, e1, e2, e3, e4⟩ := h.cells
  have ef := h.free 2
  by_cases hq : 40 ≤ s.deep
  · have hR : (pLevel W E s).bad = (pBad W E s).bad := by unfold pLevel; rw [if_pos hq]
    have q0 : (((s.deep : Nat) : Int) == 40) = true := by simp; omega
    have HT := Lib.hid (parse_refuse g a n c W E nv cv s w h)
    clear h
    go_enter Try.func92, Try.ntmps92
    go_wp2_with fail
    refine HT.out.mono ?_
    rintro e w2 ⟨rfl, g2⟩
    exact ⟨rfl, .inr ⟨by rw [hR]; exact (pBad_i W E s).2.2.1, by rw [hR]; rfl, g2⟩⟩
  · have hR : pLevel W E s = { s with deep := s.deep + 1, i := s.i + 1 } := by unfold pLevel; rw [if_neg hq]
    rw [hR]
    have q0 : (((s.deep : Nat) : Int) == 40) = false := by simp; omega
    have k2 : IntKind.i64.wrap ((s.deep : Int) + 1) = ((s.deep + 1 : Nat) : Int) := by rw [IntKind.wrap_i64]; omega
    obtain ⟨h1, g1⟩ := h.set2 (s.deep + 1)
    have HT := Lib.hid (parse_take g a n c W E nv cv _ _ h1 hi)
    have G1 := Lib.hid g1
    clear h h1 g1 hR
    go_enter Try.func92, Try.ntmps92
    go_wp2_with fail
    refine HT.out.mono ?_
    rintro e w2 ⟨rfl, ⟨a2, n2, c2, h2⟩, g2⟩
    go_wp2
    go_end0
    exact Took.back h2 (grown_then G1.out g2)
set_option maxRecDepth 4096 in
set_option maxHeartbeats 8000000 in
theorem parse_end (g : Nat) (a : Option Addr) (n c : Nat) (W : List Lw) (E : Nat) (nv cv : Value) (s : Ps) (w : World) (h : RW 77 w g a n c W E nv cv s) :
    Calls Try.prog 26 #[.pointer (some ⟨g, 0, none⟩)] w (Took 77 28 g W E nv cv (.tuple #[]) (pOver W E s) w) := by
  obtain ⟨e0, e1, e2, e3, e4⟩ := h.cells
  have hl := h.len
  have hfi := h.fine
  have H := Lib.hid h
  by_cases hq : s.i < W.length
  · have hR : pOver W E s = pBad W E s := if_pos ⟨hfi, hq⟩
    rw [hR]
    have q0 : (0 : Int) < (n : Int) := by omega
    have HT := Lib.hid (parse_refuse g a n c W E nv cv s w h)
    clear h hR
    go_enter Try.func26, Try.ntmps26
    go_wp2_with fail
    refine HT.out.mono ?_
    rintro e w2 ⟨rfl, g2⟩
    exact ⟨rfl, Took.gone rfl rfl g2⟩
  · have hR : pOver W E s = s := if_neg (fun h9 => hq h9.2)
    rw [hR]
    obtain rfl : n = 0 := by omega
    clear h hR
    go_enter Try.func26, Try.ntmps26
    go_wp2
    go_end0
    exact Took.back H.out (grown_refl _ _)
/-- The operation of a sign. -/
def signOp (t : List UInt8) : Int := if t = [43] then 7 else if t = [45] then 8 else if t = [42] then 9 else 10
set_option maxRecDepth 4096 in
set_option maxHeartbeats 8000000 in
theorem parse_operation (x : Lw) (w : World) : Calls Try.prog 78 #[lwV x] w (Gives (.int .i64 (signOp x.t)) w) := by
  have hb := below_alloc w (.cells #[.int .i64 (x.k : Int), .string (bs x.t), .int .i64 (x.p : Int)] 88)
  have HB := Lib.hid hb
  have key : ∀ t : List UInt8, ((bs x.t).toList == t) = decide (x.t = t) := fun t => by
    rw [bs_list]
    by_cases h9 : x.t = t <;> simp [h9]
  have k43 := key [43]
  have k45 := key [45]
  have k42 := key [42]
  clear key hb
  unfold lwV signOp
  generalize x.t = t at *
  by_cases h1 : t = [43]
  · rw [decide_eq_true h1] at k43
    rw [if_pos h1]
    clear k45 k42 h1
    go_enter Try.func78, Try.ntmps78
    go_wp2
    go_ret
    exact ⟨rfl, HB.out⟩
  rw [decide_eq_false h1] at k43
  rw [if_neg h1]
  by_cases h2 : t = [45]
  · rw [decide_eq_true h2] at k45
    rw [if_pos h2]
    clear k42 h1 h2
    go_enter Try.func78, Try.ntmps78
    go_wp2
    go_ret
    exact ⟨rfl, HB.out⟩
  rw [decide_eq_false h2] at k45
  rw [if_neg h2]
  by_cases h3 : t = [42]
  · rw [decide_eq_true h3] at k42
    rw [if_pos h3]
    clear h1 h2 h3
    go_enter Try.func78, Try.ntmps78
    go_wp2
    go_ret
    exact ⟨rfl, HB.out⟩
  rw [decide_eq_false h3] at k42
  rw [if_neg h3]
  clear h1 h2 h3
  go_enter Try.func78, Try.ntmps78
  go_wp2
  go_ret
  exact ⟨rfl, HB.out⟩
end Go.Proofs.Ythblmpkdcahmkaa

/-
  Package parse: the reader's put.
-/
namespace Go.Proofs.Ythblmpkdcahmkaa
open Go.WideShapes Go.RowKit Go.Deep

theorem infoNode18p : (Try.prog.info? 60).map (fun i => (i.zero, i.size, i.bytes)) = some (some (.agg #[.int .i64 0, .int .i64 0, .slice none 0 0]), 3, 40) := by kernel_rfl
theorem nd_news_b (w : World) (x : Nd) (e : TypeId) {z : Nat} (hz : w.heap.size = z) : ∀ j u, ([x].flatMap ndK.cells)[j]? = some u → (w.alloc (.cells #[.int .i64 x.op, .int .i64 x.i, .slice x.a x.n x.c] e)).cell? ((⟨z, 0, none⟩ : Addr).add j) = some u := by
  subst hz
  exact nd_news w x e
set_option maxRecDepth 4096 in
set_option maxHeartbeats 8000000 in
theorem parse_put (g b : Nat) (a : Option Addr) (n c : Nat) (W : List Lw) (E : Nat) (an : Option Addr) (nn cn : Nat) (N : List (List UInt8)) (cv : Value) (s : Ps) (C : List Nd) (x : Nd) (w : World) (h : RD 77 60 w g b a n c W E an nn cn N cv s C)
    (hx : Wd w x.a x.n x.c x.l) (hl : x.l.length ≤ 20) (hf : C.length < s.i) (hW : W.length ≤ 100000) :
    Calls Try.prog 79 #[.pointer (some ⟨g, 0, none⟩), .agg #[.int .i64 x.op, .int .i64 x.i, .slice x.a x.n x.c]] w (fun e w' => e = .returned (.tuple #[]) ∧ (∃ cv', RD 77 60 w' g b a n c W E an nn cn N cv' s (C ++ [x])) ∧ Fr b g w w') := by
  have hA := nd_at Try.underlying42 infoNode18p
  have hwi := h.rw.within
  have b1 := below_alloc w (.cells #[.int .i64 x.op, .int .i64 x.i, .slice x.a x.n x.c] 60)
  obtain ⟨e0, e1, e2, e3, e4⟩ := (h.later b1).rw.cells
  have ef := (h.later b1).rw.free 4
  have e4b := ((h.later b1).later (below_alloc _ (.cells #[.int .i64 x.op, .int .i64 x.i, .slice x.a x.n x.c] 60))).rw.cells.2.2.2.2
  have hrm := h.room
  have H := Lib.hid h
  have B1 := Lib.hid b1
  have HX := Lib.hid hx
  clear h b1 hx
  go_enter Try.func79, Try.ntmps79
  go_wp2
  go_region_law (first
    | (refine Kin.step_append hA rfl _ _ rfl b _ C rfl (Kin.Mine.later H.out.mine ((B1.out.trans ((below_draws _ 1).mono B1.out.size)).alloc (by simp) _)) ⟨_, 0, none⟩ 1 1 [x] rfl rfl (nd_news_b _ x _ (by simp)) (fun y hy => by rw [List.mem_singleton.1 hy]; exact Wd.later HX.out ((B1.out.trans ((below_draws _ 1).mono B1.out.size)).alloc (by simp) _)) (by unfold maxLen; omega) (by show (C.length + 1) * 40 ≤ _; omega) (by simp; omega) ?_; intro v' w5 hrow hgrow hnew; obtain ⟨a9, c9, rfl, -⟩ := hrow.slice; have H5 := Lib.hid ((H.out.rw.later ((B1.out.trans ((below_draws _ 1).mono B1.out.size)).alloc (by simp) _)).stay hgrow (fun k hk => by have := H.out.mine.1.base k hk; have := H.out.lt; omega)); have q4 := H5.out.cells.2.2.2.2; have qf := H5.out.free 4))
  all_goals (
    rw [show C.length + 1 = (C ++ [x]).length by simp]
    obtain ⟨h6, f6⟩ := H.out.push hrow (grown_then (below_grown ((B1.out.trans ((below_draws _ 1).mono B1.out.size)).alloc (by simp) _) _) hgrow) hl hf ⟨_, _, _, rfl⟩
    have H6 := Lib.hid h6
    have F6 := Lib.hid f6
    clear h6 f6 hrow hgrow hnew H5 q4 qf e0 e1 e2 e3 e4 e4b
    go_wp2
    go_end0
    exact ⟨rfl, ⟨_, H6.out⟩, F6.out⟩)
end Go.Proofs.Ythblmpkdcahmkaa

/-
  Plain mathematics: decimal digits in groups of nine. Nothing of the program.
-/
namespace Go.Proofs.Ythblmpkdcahmkaa

/-- The last k digits of a number. -/
def lowd : Nat → Nat → List UInt8
  | 0, _ => []
  | k + 1, n => lowd k (n / 10) ++ [dig (n % 10)]
theorem lowd_length (k n : Nat) : (lowd k n).length = k := by
  induction k generalizing n with
  | zero => rfl
  | succ k ih => rw [lowd, List.length_append, ih]; rfl
theorem txt_split (k n : Nat) (h : 10 ^ k ≤ n) : txt n = txt (n / 10 ^ k) ++ lowd k n := by
  induction k generalizing n with
  | zero => rw [lowd, List.append_nil, Nat.pow_zero, Nat.div_one]
  | succ k ih =>
    have hp : 0 < 10 ^ k := Nat.pow_pos (by decide)
    rw [Nat.pow_succ] at h
    rw [txt_big (by omega), ih (n / 10) (by omega), lowd, Nat.div_div_eq_div_mul, Nat.pow_succ, Nat.mul_comm 10, List.append_assoc]
theorem lowd_mod (k n : Nat) : lowd k (n % 10 ^ k) = lowd k n := by
  induction k generalizing n with
  | zero => rfl
  | succ k ih =>
    have h1 : n % 10 ^ (k + 1) / 10 = n / 10 % 10 ^ k := by
      rw [Nat.pow_succ, Nat.mul_comm, Nat.mod_mul_right_div_self]
    have h2 : n % 10 ^ (k + 1) % 10 = n % 10 := by rw [Nat.pow_succ]; exact Nat.mod_mod_of_dvd _ (Nat.dvd_mul_left _ _)
    rw [lowd, lowd, h1, h2, ih]
/-- A number in groups of nine digits, the lowest ones first. -/
def bil (n : Nat) : List Nat := if h : n < 1000000000 then [n] else (n % 1000000000) :: bil (n / 1000000000)
termination_by n
decreasing_by omega
theorem bil_small {n : Nat} (h : n < 1000000000) : bil n = [n] := by rw [bil]; simp [h]
theorem bil_big {n : Nat} (h : 1000000000 ≤ n) : bil n = (n % 1000000000) :: bil (n / 1000000000) := by rw [bil]; simp [show ¬ n < 1000000000 by omega]
def tx : List Nat → List UInt8
  | [] => []
  | [g] => txt g
  | g :: h :: r => tx (h :: r) ++ lowd 9 g
theorem bil_ne (n : Nat) : ∃ g r, bil n = g :: r := by
  by_cases h : n < 1000000000
  · exact ⟨_, _, bil_small h⟩
  · exact ⟨_, _, bil_big (by omega)⟩
theorem tx_cons (g : Nat) (r : List Nat) (h : r ≠ []) : tx (g :: r) = tx r ++ lowd 9 g := by
  cases r with
  | nil => exact absurd rfl h
  | cons x r => rfl
theorem tx_bil (n : Nat) : tx (bil n) = txt n := by
  induction n using Nat.strongRecOn with
  | _ n ih =>
    by_cases h : n < 1000000000
    · rw [bil_small h]; rfl
    · obtain ⟨g, r, hg⟩ := bil_ne (n / 1000000000)
      rw [bil_big (by omega), tx_cons _ _ (by rw [hg]; simp), ih _ (by omega), txt_split 9 n (by omega), show (10 : Nat) ^ 9 = 1000000000 from by decide]
      have := lowd_mod 9 n
      rw [show (10 : Nat) ^ 9 = 1000000000 from by decide] at this
      rw [this]
theorem bil_lt (n : Nat) : ∀ g ∈ bil n, g < 1000000000 := by
  induction n using Nat.strongRecOn with
  | _ n ih =>
    by_cases h : n < 1000000000
    · rw [bil_small h]; intro g hg; simp at hg; omega
    · rw [bil_big (by omega)]
      intro g hg
      rcases List.mem_cons.1 hg with h1 | h1
      · omega
      · exact ih _ (by omega) g h1
theorem okw_bil (n : Nat) : okw (bil n) := fun g hg => by have := bil_lt n g hg; omega
theorem atw_bil (n k : Nat) : atw (bil n) k < 1000000000 := by
  by_cases h : k < (bil n).length
  · unfold atw
    rw [List.getD_eq_getElem?_getD, List.getElem?_eq_getElem h]
    exact bil_lt n _ (List.getElem_mem h)
  · unfold atw
    rw [List.getD_eq_getElem?_getD, List.getElem?_eq_none (by omega)]
    decide
theorem bil_length_le {n k : Nat} (h : n < 2 ^ k) : (bil n).length ≤ k + 1 := by
  induction k generalizing n with
  | zero => rw [bil_small (by simp at h; omega)]; simp
  | succ k ih =>
    by_cases h1 : n < 1000000000
    · rw [bil_small h1]; simp
    · rw [bil_big (by omega), List.length_cons]
      have := ih (n := n / 1000000000) (by rw [Nat.pow_succ] at h; omega)
      omega
/-- Nine digits, noughts ahead and all. -/
theorem pad_txt {g : Nat} (h : g < 1000000000) : txt (1000000000 + g) = 49 :: lowd 9 g := by
  have h1 := lowd_mod 9 (1000000000 + g)
  have hp : (10 : Nat) ^ 9 = 1000000000 := by decide
  rw [txt_split 9 _ (by omega), ← h1, hp, show (1000000000 + g) / 1000000000 = 1 by omega, show (1000000000 + g) % 1000000000 = g by omega, txt_small (by decide)]
  rfl
/-- Groups are written from the highest one down: s is the text of those from place k on. -/
def TxAt (L : List Nat) (k : Nat) (s : List UInt8) : Prop := k < L.length ∧ s = tx (L.drop k)
theorem tx_start {L : List Nat} {m : Nat} (h : L.length = m + 1) : TxAt L m (txt (atw L m)) := by
  refine ⟨by omega, ?_⟩
  rw [List.drop_eq_getElem_cons (show m < L.length by omega), List.drop_of_length_le (show L.length ≤ m + 1 by omega)]
  unfold atw
  rw [List.getD_eq_getElem?_getD, List.getElem?_eq_getElem (show m < L.length by omega)]
  rfl
theorem tx_step {L : List Nat} {k : Nat} {s : List UInt8} (h : TxAt L (k + 1) s) : TxAt L k (s ++ lowd 9 (atw L k)) := by
  obtain ⟨h1, h2⟩ := h
  refine ⟨by omega, ?_⟩
  have h3 : L.drop (k + 1) ≠ [] := by
    intro h4
    have := congrArg List.length h4
    rw [List.length_drop] at this
    simp at this
    omega
  rw [List.drop_eq_getElem_cons (show k < L.length by omega), tx_cons _ _ h3, ← h2]
  unfold atw
  rw [List.getD_eq_getElem?_getD, List.getElem?_eq_getElem (show k < L.length by omega)]
  rfl
theorem tx_end {n : Nat} {s : List UInt8} (h : TxAt (bil n) 0 s) : s = txt n := by
  rw [h.2, List.drop_zero, tx_bil]
theorem tx_length {n k : Nat} {s : List UInt8} (h : TxAt (bil n) k s) : s.length ≤ (txt n).length := by
  have key : ∀ (k : Nat) (s : List UInt8), TxAt (bil n) k s → s.length ≤ (txt n).length := by
    intro k
    induction k with
    | zero => intro s h; rw [tx_end h]; exact Nat.le_refl _
    | succ k ih =>
      intro s h
      have := ih _ (tx_step h)
      rw [List.length_append] at this
      omega
  exact key k s h
end Go.Proofs.Ythblmpkdcahmkaa

/-
  Numerals by the library (strconv.AppendUint, FormatUint at base 10) at this seat, out of the shelf's contracts.
-/
namespace Go.Proofs.Ythblmpkdcahmkaa
open Go.RowKit

theorem dec_txt (u : Nat) : Lib.decDigits u = txt u := by
  induction u using Nat.strongRecOn with
  | _ u ih =>
    by_cases h : u < 10
    · rw [Lib.decDigits, dif_pos h, txt_small h]; rfl
    · rw [Lib.decDigits, dif_neg h, txt_big (by omega), ih _ (by omega)]; rfl
end Go.Proofs.Ythblmpkdcahmkaa

/-
  The public strconv.AppendUint and FormatUint at base 10.
-/
namespace Go.Proofs.Ythblmpkdcahmkaa
open Go.RowKit

end Go.Proofs.Ythblmpkdcahmkaa

/-
  The contracts of package nat (layer 2) at this seat: addTo, Add.
-/
namespace Go.Proofs.Ythblmpkdcahmkaa
open Go.RowKit

/-- A right list in a row of the call's own comes back. -/
def OwnPost (w0 : World) (v : Nat) (e : Ending) (w' : World) : Prop :=
  ∃ g n cap : Nat, e = .returned (.slice (some ⟨g, 0, none⟩) n cap) ∧ Hid (Own w' w0.heap.size g n cap (dg v)) ∧ Below w0.heap.size w0 w'

end Go.Proofs.Ythblmpkdcahmkaa

/-
  The contracts of package nat (layer 2) at this seat: Add, less, Sub, Gap.
-/
namespace Go.Proofs.Ythblmpkdcahmkaa
open Go.RowKit

end Go.Proofs.Ythblmpkdcahmkaa

/-
  Package nat keeps what the laws of layer 2 lean on.
-/
namespace Go.Proofs.Ythblmpkdcahmkaa
open Go.RowKit
theorem natSaid : NatSaid where
  norm := fun a n cap l w h hn => (nat_norm a n cap l w h hn).mono fun _ _ ⟨_, _, he, _, HO, hB⟩ => ⟨_, _, _, he, Wd.own HO.out (okw_dg _), hB⟩
  small := fun a n cap l w h _ => nat_small a n cap l w h
  cmp := fun a n cap la b m cap' lb w ha hb _ _ => nat_cmp a n cap la b m cap' lb w ha hb
end Go.Proofs.Ythblmpkdcahmkaa

/-
  The contracts of package twos (layer 3) at this seat: telling functions.
-/
namespace Go.Proofs.Ythblmpkdcahmkaa
open Go.RowKit

/-- The bit at a place that may be below 0. -/
def bitI (v : Nat) (i : Int) : Bool := decide (0 ≤ i) && v.testBit i.toNat
/-- A number of places, below 0 as 0. -/
def natI (n : Int) : Nat := n.toNat

end Go.Proofs.Ythblmpkdcahmkaa

/-
  The contracts of package twos (layer 3) at this seat: shifts.
-/
namespace Go.Proofs.Ythblmpkdcahmkaa
open Go.RowKit

theorem limb_mul_nat (x y c : Nat) (w : World) (hx : x < 4294967296) (hy : y < 4294967296) (hc : c < 4294967296) : Calls Try.prog 107 #[.int .u32 (x : Int), .int .u32 (y : Int), .int .u32 (c : Int), .int .u32 0] w fun e w' =>
    ∃ z r : Nat, e = .returned (.tuple #[.int .u32 (z : Int), .int .u32 (r : Int)]) ∧ z < 4294967296 ∧ r < 4294967296 ∧ Hid (r + 4294967296 * z = x * y + c) ∧ w = w' :=
  (limb_mul x y c 0 w (by omega) (by omega) (by omega) (by omega) (by omega) (by omega) (by omega) (by omega)).mono fun e w' ⟨he, hw⟩ => by
    have h1 : x * y ≤ 4294967295 * 4294967295 := Nat.mul_le_mul (by omega) (by omega)
    have e0 : (x : Int) * (y : Int) = ((x * y : Nat) : Int) := by simp
    rw [e0] at he
    generalize x * y = p at *
    exact ⟨(p + c) / 4294967296, (p + c) % 4294967296, by rw [he, show ((p : Int) + c + 0) / 4294967296 = (((p + c) / 4294967296 : Nat) : Int) by omega, show ((p : Int) + c + 0) % 4294967296 = (((p + c) % 4294967296 : Nat) : Int) by omega], by omega, by omega, Lib.hid (by omega), hw⟩
/-- The right list of v comes back, and, if v isn't 0, in a row of the call's own. -/
def LstOwn (v : Nat) (w : World) (e : Ending) (w' : World) : Prop :=
  ∃ (a : Option Addr) (n cap : Nat), e = .returned (.slice a n cap) ∧ Wd w' a n cap (dg v) ∧ Below w.heap.size w w' ∧ (v ≠ 0 → ∃ g, a = some ⟨g, 0, none⟩ ∧ Hid (Own w' w.heap.size g n cap (dg v)))
theorem LstOwn.lst {v : Nat} {w : World} {e : Ending} {w' : World} (h : LstOwn v w e w') : Lst (dg v) w e w' := by
  obtain ⟨a, n, cap, h1, h2, h3, _⟩ := h
  exact ⟨a, n, cap, h1, h2, h3⟩
theorem Wd.drop {w : World} {b off m cap q : Nat} {l : List Nat} (h : Wd w (some ⟨b, off, none⟩) (q + m) cap l) : Wd w (some ⟨b, off + q, none⟩) m (cap - q) (l.drop q) := by
  have h1 := h.bound
  have h2 := h.len
  refine ⟨by rw [List.length_drop]; omega, by omega, by omega, okw_drop h.ok q, fun e => (by cases e), ?_⟩
  by_cases h0 : m = 0
  · exact .inl h0
  · obtain ⟨b', off', e, hc⟩ := h.at (by omega)
    simp only [Option.some.injEq, Addr.mk.injEq, and_true] at e
    obtain ⟨rfl, rfl⟩ := e
    exact .inr ⟨b, off + q, rfl, fun j hj => by rw [Nat.add_assoc, hc (q + j) (by omega), atw_drop]⟩
end Go.Proofs.Ythblmpkdcahmkaa

/-
  The contracts of package prod (layer 4) at this seat: Mul, Square.
-/
namespace Go.Proofs.Ythblmpkdcahmkaa
open Go.RowKit

theorem limb_mul_nat4 (x y c d : Nat) (w : World) (hx : x < 4294967296) (hy : y < 4294967296) (hc : c < 4294967296) (hd : d < 4294967296) : Calls Try.prog 107 #[.int .u32 (x : Int), .int .u32 (y : Int), .int .u32 (c : Int), .int .u32 (d : Int)] w fun e w' =>
    ∃ z r : Nat, e = .returned (.tuple #[.int .u32 (z : Int), .int .u32 (r : Int)]) ∧ z < 4294967296 ∧ r < 4294967296 ∧ Hid (r + 4294967296 * z = x * y + (c + d)) ∧ w = w' :=
  (limb_mul x y c d w (by omega) (by omega) (by omega) (by omega) (by omega) (by omega) (by omega) (by omega)).mono fun e w' ⟨he, hw⟩ => by
    have h1 : x * y ≤ 4294967295 * 4294967295 := Nat.mul_le_mul (by omega) (by omega)
    have e0 : (x : Int) * (y : Int) = ((x * y : Nat) : Int) := by simp
    rw [e0] at he
    generalize x * y = p at *
    exact ⟨(p + (c + d)) / 4294967296, (p + (c + d)) % 4294967296, by rw [he, show ((p : Int) + c + d) / 4294967296 = (((p + (c + d)) / 4294967296 : Nat) : Int) by omega, show ((p : Int) + c + d) % 4294967296 = (((p + (c + d)) % 4294967296 : Nat) : Int) by omega], by omega, by omega, Lib.hid (by omega), hw⟩
theorem limb_mul_nat3 (x y c : Nat) (w : World) (hx : x < 4294967296) (hy : y < 4294967296) (hc : c < 4294967296) : Calls Try.prog 107 #[.int .u32 (x : Int), .int .u32 (y : Int), .int .u32 (c : Int), .int .u32 0] w fun e w' =>
    ∃ z r : Nat, e = .returned (.tuple #[.int .u32 (z : Int), .int .u32 (r : Int)]) ∧ z < 4294967296 ∧ r < 4294967296 ∧ Hid (r + 4294967296 * z = x * y + c) ∧ w = w' :=
  limb_mul_nat4 x y c 0 w hx hy hc (by omega)
end Go.Proofs.Ythblmpkdcahmkaa

/-
  The contracts of package quot (layer 5) at this seat: what long division does word by word.
-/
namespace Go.Proofs.Ythblmpkdcahmkaa
open Go.RowKit

end Go.Proofs.Ythblmpkdcahmkaa

/-
  The contracts of package quot (layer 5) at this seat: the guess at a word, and the word that is taken away.
-/
namespace Go.Proofs.Ythblmpkdcahmkaa
open Go.RowKit

theorem Own.window {w : World} {base g N cap : Nat} {P : List Nat} (h : Own w base g N cap P) {i k c : Nat} (hi : i + k ≤ N) (hk : 0 < k) (hc : k ≤ c) (hc2 : c ≤ 9223372036854775807) : Wd w (some ⟨g, i, none⟩) k c ((P.drop i).take k) := by
  have hl := h.len
  exact ⟨by rw [List.length_take, List.length_drop]; omega, hc, hc2, okw_take (okw_drop h.2 i) k, fun e => (by cases e), .inr ⟨g, i, rfl, fun j hj => by rw [h.cell (by omega), atw_take hj, atw_drop]⟩⟩

end Go.Proofs.Ythblmpkdcahmkaa

/-
  The contracts of package quot (layer 5) at this seat: Word, long.
-/
namespace Go.Proofs.Ythblmpkdcahmkaa
open Go.RowKit

end Go.Proofs.Ythblmpkdcahmkaa

/-
  Package digits at this seat: full, groups.
-/
namespace Go.Proofs.Ythblmpkdcahmkaa
open Go.RowKit

theorem Wd.heldA {w : World} {a : Option Addr} {n cap : Nat} {l : List Nat} (h : Wd w a n cap l) : heldVal w (.slice a n cap) = val l := by
  cases a with
  | none => obtain ⟨rfl, rfl, rfl⟩ := h.ofNone; rfl
  | some ad =>
    by_cases hn : n = 0
    · subst hn
      have h0 : l = [] := List.eq_nil_of_length_eq_zero h.len
      subst h0
      rfl
    · obtain ⟨b, off, e, _⟩ := h.at (by omega)
      cases e
      exact h.held
end Go.Proofs.Ythblmpkdcahmkaa

/-
  Package digits at this seat: Text, Len.
-/
namespace Go.Proofs.Ythblmpkdcahmkaa
open Go.RowKit

theorem infoU8 : (Try.prog.info? 5).map (fun i => (i.zero, i.size, i.bytes)) = some (some (.int .u8 0), 1, 1) := by kernel_rfl
theorem strCells_bs (s : List UInt8) : Lib.strCells (bs s) = Lib.byteCells s := rfl
theorem txAt_zero {v : Nat} {s : List UInt8} (h : TxAt (bil v) 0 s) : s = txt v := tx_end h
end Go.Proofs.Ythblmpkdcahmkaa

/-
  The contracts of package prod (layer 4) at this seat: Word, All.
-/
namespace Go.Proofs.Ythblmpkdcahmkaa
open Go.RowKit

theorem Wds.take {w : World} {a : Option Addr} {n cap : Nat} {ls : List (List Nat)} (h : Wds w a n cap ls) {k : Nat} (hk : k ≤ n) : Wds w a k cap (ls.take k) := by
  obtain ⟨h1, h2, h3, h4, h5⟩ := h
  refine ⟨by rw [List.length_take]; omega, by omega, h3, h4, ?_⟩
  rcases h5 with h0 | ⟨b, off, e, hc⟩
  · exact .inl (by omega)
  · refine .inr ⟨b, off, e, fun j hj => ?_⟩
    obtain ⟨a', n', c', h6, h7⟩ := hc j (by omega)
    refine ⟨a', n', c', h6, ?_⟩
    rwa [List.getD_eq_getElem?_getD, List.getElem?_take, if_pos hj, ← List.getD_eq_getElem?_getD]
theorem Wds.drop {w : World} {b off m cap q : Nat} {ls : List (List Nat)} (h : Wds w (some ⟨b, off, none⟩) (q + m) cap ls) : Wds w (some ⟨b, off + q, none⟩) m (cap - q) (ls.drop q) := by
  have h1 := h.bound
  have h2 := h.len
  refine ⟨by rw [List.length_drop]; omega, by omega, by omega, fun e => (by cases e), ?_⟩
  rcases h.2.2.2.2 with h0 | ⟨b', off', e, hc⟩
  · exact .inl (by omega)
  · simp only [Option.some.injEq, Addr.mk.injEq, and_true] at e
    obtain ⟨rfl, rfl⟩ := e
    refine .inr ⟨b, off + q, rfl, fun j hj => ?_⟩
    obtain ⟨a', n', c', h6, h7⟩ := hc (q + j) (by omega)
    exact ⟨a', n', c', by rw [Nat.add_assoc]; exact h6, by rwa [List.getD_eq_getElem?_getD, List.getElem?_drop, ← List.getD_eq_getElem?_getD]⟩

set_option maxRecDepth 4096 in
set_option maxHeartbeats 1000000 in
theorem prod_word (a : Option Addr) (n cap : Nat) (l : List Nat) (x c0 : Nat) (w : World) (h : Wd w a n cap l) (hn : n ≤ 4194304000000) (hx : x < 4294967296) (hc0 : c0 < 4294967296) :
    Calls Try.prog 106 #[.slice a n cap, .int .u32 (x : Int), .int .u32 (c0 : Int)] w (Lst (dg (val l * x + c0)) w) := by
  obtain ⟨i0, hi, hz0, hz1, hz2⟩ := info_parts infoU32
  have H := Lib.hid h
  clear h
  go_enter Try.func106, Try.ntmps106
  go_wp2_with (at_make; refine wpList_make_words _ rfl _ _ 58 rfl w.heap.size 112 i0 (.int .u32 0) Try.underlying58 hi hz0 hz1 rfl .i64 .i64 _ _ 0 (n + 1) rfl rfl (by omega) (by omega) (by omega) (by rw [hz2]; omega) (by unfold maxLen; omega) (Nat.le_refl _) ?_; intro w1 hown1 hgrow1)
  rw [zeros_cells] at hown1
  have HO1 : Hid (Own w1 w.heap.size w.heap.size 0 (n + 1) []) := Lib.hid ⟨hown1, okw_nil⟩
  have hB1 : Below w.heap.size w w1 := (Below.refl _ _).grown hgrow1 (Nat.le_refl _) (fun k hk => by cases hk)
  clear hown1 hgrow1
  go_loopw [7, 8, 19] (fun s cv i wr => ∃ (j c g cap2 : Nat) (o : List Nat), j ≤ n ∧ i = .int .i64 (j : Int) ∧ cv = .int .u32 (c : Int) ∧ c < 4294967296 ∧ s = .slice (some ⟨g, 0, none⟩) j cap2 ∧ Hid (o.length = j) ∧ Hid (val o + 4294967296 ^ j * c = low l j * x + c0) ∧ Hid (Own wr w.heap.size g j cap2 o) ∧ Below w.heap.size w wr) (fun _ _ i _ => n - (intOf i).toNat)
  case atStart => exact ⟨0, c0, _, _, [], by omega, rfl, rfl, hc0, rfl, Lib.hid rfl, Lib.hid (by rw [low_zero]; simp [val]), HO1, hB1⟩
  case round =>
    clear HO1 hB1
    obtain ⟨j, c, g, cap2, o, hj, rfl, rfl, hc, rfl, Hol, Hv, HO, hB⟩ := hrel
    have hbase : w.heap.size ≤ wr.heap.size := hB.size
    by_cases hlt : j < n
    · obtain ⟨b, off, rfl, hcl⟩ := (H.out.later hB).at (by omega)
      have hck := hcl j hlt
      have hyw := atw_lt H.out.ok j
      obtain ⟨y, hyy⟩ : ∃ y, y = atw l j := ⟨_, rfl⟩
      rw [← hyy] at hyw hck
      have Hy := Lib.hid hyy
      have hj1 : (j : Int) < (n : Int) := by omega
      clear hcl hyy
      go_wp2_with fail
      refine (limb_mul_nat3 y x c _ hyw hx hc).mono ?_
      rintro e w' ⟨c2, z, rfl, hc2, hz, Hs, rfl⟩
      go_wp2_with (at_builtin; refine wpList_append_own _ rfl _ _ 58 rfl w.heap.size 112 i0 (.int .u32 0) 1 4 Try.underlying58 hi hz0 hz1 hz2 rfl (by decide) _ j _ rfl (HO.out.1.alloc _) ⟨wr.heap.size, 0, none⟩ 1 1 (wcells [z]) rfl rfl (Wd.lit1 wr 112 (x := z) hz).cells (wcells_one _) (by unfold maxLen; omega) (by omega) (by simp; omega) ?_)
      intro v' w2 hown hgrow _
      obtain ⟨g2, cap3, rfl, HO2⟩ := Own.push (r := z) hown HO.out.2 hz
      have HO' := Lib.hid HO2
      have hb := HO.out.base
      have hB1 : Below w.heap.size w w2 := (hB.alloc hbase _).grown hgrow (by simp; omega) (by intro k hk; simp [Value.ownBlock] at hk; omega)
      clear HO2 hown hgrow
      go_wp2
      go_roundw
      case rel => exact ⟨j + 1, c2, g2, cap3, o ++ [z], by omega, by go_num, rfl, hc2, rfl, Lib.hid (by have := Hol.out; simp; omega), Lib.hid (word_step Hol.out Hv.out (by rw [← Hy.out]; exact Hs.out)), HO', hB1⟩
      case measure => simp [intOf]; omega
    · obtain rfl : j = n := by omega
      have Hv2 : Hid (val (o ++ [c]) = val l * x + c0) := Lib.hid (by rw [val_snoc, Hol.out, Hv.out, low_ge (by rw [H.out.len]; omega)])
      clear hlt Hv
      go_wp2_with (at_builtin; refine wpList_append_own _ rfl _ _ 58 rfl w.heap.size 112 i0 (.int .u32 0) 1 4 Try.underlying58 hi hz0 hz1 hz2 rfl (by decide) _ j _ rfl (HO.out.1.alloc _) ⟨_, 0, none⟩ 1 1 (wcells [c]) rfl rfl (Wd.lit1 _ 112 (x := c) hc).cells (wcells_one _) (by unfold maxLen; omega) (by omega) (by simp; omega) ?_)
      intro v' w2 hown hgrow _
      obtain ⟨g2, cap3, rfl, HO2⟩ := Own.push (r := c) hown HO.out.2 hc
      have HO' := Lib.hid HO2
      have hb := HO.out.base
      have hB1 : Below w.heap.size w w2 := (hB.alloc hbase _).grown hgrow (by simp; omega) (by intro k hk; simp [Value.ownBlock] at hk; omega)
      clear HO2 hown hgrow
      go_wp2_with fail
      refine (natSaid.norm _ _ _ _ _ HO'.out.wd (by omega)).mono ?_
      rintro e w' ⟨a', n', c', rfl, hwd, hbel⟩
      rw [Hv2.out] at hwd
      have HWD := Lib.hid hwd
      clear hwd
      go_wp2
      go_ret
      exact ⟨_, _, _, rfl, HWD.out, below_then hB1 hbel⟩
end Go.Proofs.Ythblmpkdcahmkaa

/-
  Package digits at this seat: wrongAt, Read.
-/
namespace Go.Proofs.Ythblmpkdcahmkaa
open Go.RowKit

set_option maxRecDepth 4096 in
theorem digits_wrongAt (i : Int) (w : World) : Calls Try.prog 105 #[.int .i64 i] w (Gives (faultV 1 0 0 i) w) := by
  go_enter Try.func105, Try.ntmps105
  go_wp2
  refine bodyPost_ret (results_cell_row Try.results105 _ _ w.heap.size 28 #[.int .i64 1, .int .i64 0, .int .i64 0, .int .i64 i] (0, 0) _ rfl (blk_new _ _ _) Try.underlying28 rfl (by kernel_rfl)) rfl ?_
  exact ⟨rfl, below_alloc _ _⟩
def ReadPost (l : List UInt8) (w : World) (e : Ending) (w' : World) : Prop :=
  (wrongI l < 0 ∧ Lst2 (dg (readV l)) (faultV 0 0 0 0) w e w') ∨ (0 ≤ wrongI l ∧ Lst2 [] (faultV 1 0 0 (wrongI l)) w e w')
set_option maxRecDepth 4096 in
set_option maxHeartbeats 2000000 in
theorem digits_read (l : List UInt8) (w : World) (hl : l.length ≤ 1000) : Calls Try.prog 103 #[.string (bs l)] w (ReadPost l w) := by
  cases l with
  | nil =>
    have hem : (bs []).toList.isEmpty = true := by rw [bs_list]; rfl
    go_enter Try.func103, Try.ntmps103
    go_wp2_with fail
    refine (digits_wrongAt 0 _).mono ?_
    rintro e w1 ⟨rfl, b1⟩
    unfold faultV
    have hR := blk_later (blk_new w #[.int .i64 0, .int .i64 0, .int .i64 0, .int .i64 0] 28) b1
    have hR0 := blk_cell hR 0
    have hR1 := blk_cell hR 1
    have hR2 := blk_cell hR 2
    have hR3 := blk_cell hR 3
    have hF0 := blk_free hR 0
    have hF1 := blk_free hR 1
    have hF2 := blk_free hR 2
    have hF3 := blk_free hR 3
    have HG4 := Lib.hid (blk_set4 hR (.int .i64 1) (.int .i64 0) (.int .i64 0) (.int .i64 0))
    have HB4 := Lib.hid (below_set4 (below_then (below_alloc w _) b1) (show w.heap.size ≤ w.heap.size from Nat.le_refl _) (.int .i64 1) (.int .i64 0) (.int .i64 0) (.int .i64 0))
    simp only [List.getElem?_toArray, List.getElem?_cons_zero, List.getElem?_cons_succ] at hR0 hR1 hR2 hR3
    clear hR b1
    go_wp2
    refine bodyPost_ret (results_tmp_cell Try.results103 _ _ w.heap.size 28 #[.int .i64 1, .int .i64 0, .int .i64 0, .int .i64 0] (0, 0) _ rfl HG4.out Try.underlying28 rfl (by kernel_rfl)) rfl ?_
    exact .inr ⟨by decide, none, 0, 0, rfl, Wd.ofNil _, HB4.out⟩
  | cons y r =>
    have hem : (bs (y :: r)).toList.isEmpty = false := by rw [bs_list]; rfl
    have HW : Hid (wrongI (y :: r) = wrongFrom (y :: r) 0) := Lib.hid rfl
    have hsz := bs_size (y :: r)
    generalize y :: r = L at *
    go_enter Try.func103, Try.ntmps103
    go_wp2_with fail
    go_loopw [4, 12] (fun av iv wr => ∃ (k : Nat) (a : Option Addr) (n c : Nat), k ≤ L.length ∧ k ≤ 60 ∧ iv = .int .i64 (k : Int) ∧ av = .slice a n c ∧ Hid (alldig (L.take k)) ∧ Hid (wrongFrom L 0 = wrongFrom (L.drop k) k) ∧ Hid (Wd wr a n c (dg (readV (L.take k)))) ∧ Hid (wr.heap[w.heap.size]? = some (.cells #[.int .i64 0, .int .i64 0, .int .i64 0, .int .i64 0] 28 (0, 0))) ∧ Below w.heap.size w wr) (fun _ iv _ => L.length - (intOf iv).toNat)
    case atStart => exact ⟨0, none, 0, 0, by omega, by omega, rfl, rfl, Lib.hid (fun x hx => by rw [List.take_zero] at hx; cases hx), Lib.hid rfl, Lib.hid (by rw [List.take_zero]; show Wd _ _ _ _ (dg 0); rw [dg_zero]; exact Wd.ofNil _), Lib.hid (blk_new w _ _), below_alloc _ _⟩
    case round =>
      obtain ⟨k, a, n, c, hk, hk60, rfl, rfl, HD, Hk, HA, HR, hB⟩ := hrel
      by_cases hlt : k < L.length
      · have hki : (k : Int) < (L.length : Int) := by omega
        have hget := bs_get L k hlt (by rw [bs_size]; exact hlt)
        have Hx : Hid (L.getD k 0 = L[k]) := Lib.hid (by rw [List.getD_eq_getElem?_getD, List.getElem?_eq_getElem hlt]; rfl)
        have Hst : Hid (wrongFrom (L.drop k) k = if (L.getD k 0).toNat < 48 ∨ 57 < (L.getD k 0).toNat ∨ 60 ≤ k then (k : Int) else wrongFrom (L.drop (k + 1)) (k + 1)) := Lib.hid (by
          rw [List.drop_eq_getElem_cons hlt, wrongFrom, Hx.out])
        have Hv := Lib.hid (readV_take hlt)
        have hxb : (L.getD k 0).toNat < 256 := (L.getD k 0).toNat_lt
        have HD2 : Hid (48 ≤ (L.getD k 0).toNat → (L.getD k 0).toNat ≤ 57 → alldig (L.take (k + 1))) := Lib.hid (fun h1 h2 x hx => by
          rw [List.take_succ_eq_append_getElem hlt] at hx
          rcases List.mem_append.1 hx with h3 | h3
          · exact HD.out x h3
          · simp only [List.mem_singleton] at h3
            rw [h3, ← Hx.out]
            exact ⟨h1, h2⟩)
        clear Hx
        generalize (L.getD k 0).toNat = x at *
        obtain ⟨d, hd⟩ : ∃ d : Nat, ((x : Int) - 48) % 256 = (d : Int) := ⟨(((x : Int) - 48) % 256).toNat, by omega⟩
        have hdb : d < 256 := by omega
        by_cases hbad : x < 48 ∨ 57 < x ∨ 60 ≤ k
        · have Hfin : Hid (wrongI L = (k : Int)) := Lib.hid (by rw [HW.out, Hk.out, Hst.out, if_pos hbad])
          have hbd : k = 60 ∨ (k < 60 ∧ 10 ≤ d) := by omega
          clear hbad HD2 Hv
          rcases hbd with h60 | ⟨h60, hd10⟩
          · have h6 : ((k : Int) == 60) = true := by simp; omega
            clear h60
            go_wp2_with fail
            refine (digits_wrongAt (k : Int) _).mono ?_
            rintro e w1 ⟨rfl, b1⟩
            unfold faultV
            have hR := blk_later HR.out b1
            have hR0 := blk_cell hR 0
            have hR1 := blk_cell hR 1
            have hR2 := blk_cell hR 2
            have hR3 := blk_cell hR 3
            have hF0 := blk_free hR 0
            have hF1 := blk_free hR 1
            have hF2 := blk_free hR 2
            have hF3 := blk_free hR 3
            have HG4 := Lib.hid (blk_set4 hR (.int .i64 1) (.int .i64 0) (.int .i64 0) (.int .i64 (k : Int)))
            have HB4 := Lib.hid (below_set4 (below_then hB b1) (show w.heap.size ≤ w.heap.size from Nat.le_refl _) (.int .i64 1) (.int .i64 0) (.int .i64 0) (.int .i64 (k : Int)))
            simp only [List.getElem?_toArray, List.getElem?_cons_zero, List.getElem?_cons_succ] at hR0 hR1 hR2 hR3
            clear hR b1 hB HA
            go_wp2
            refine bodyPost_ret (results_tmp_cell Try.results103 _ _ w.heap.size 28 #[.int .i64 1, .int .i64 0, .int .i64 0, .int .i64 (k : Int)] (0, 0) _ rfl HG4.out Try.underlying28 rfl (by kernel_rfl)) rfl ?_
            exact .inr ⟨by rw [Hfin.out]; omega, none, 0, 0, by rw [Hfin.out]; rfl, Wd.ofNil _, HB4.out⟩
          · have h6 : ((k : Int) == 60) = false := by simp; omega
            have h7 : (10 : Int) ≤ (d : Int) := by omega
            rcases (show x < 48 ∨ 57 < x by omega) with hx | hx
            · clear h60 hd10
              go_wp2_with fail
              refine (digits_wrongAt (k : Int) _).mono ?_
              rintro e w1 ⟨rfl, b1⟩
              unfold faultV
              have hR := blk_later HR.out b1
              have hR0 := blk_cell hR 0
              have hR1 := blk_cell hR 1
              have hR2 := blk_cell hR 2
              have hR3 := blk_cell hR 3
              have hF0 := blk_free hR 0
              have hF1 := blk_free hR 1
              have hF2 := blk_free hR 2
              have hF3 := blk_free hR 3
              have HG4 := Lib.hid (blk_set4 hR (.int .i64 1) (.int .i64 0) (.int .i64 0) (.int .i64 (k : Int)))
              have HB4 := Lib.hid (below_set4 (below_then hB b1) (show w.heap.size ≤ w.heap.size from Nat.le_refl _) (.int .i64 1) (.int .i64 0) (.int .i64 0) (.int .i64 (k : Int)))
              simp only [List.getElem?_toArray, List.getElem?_cons_zero, List.getElem?_cons_succ] at hR0 hR1 hR2 hR3
              clear hR b1 hB HA
              go_wp2
              refine bodyPost_ret (results_tmp_cell Try.results103 _ _ w.heap.size 28 #[.int .i64 1, .int .i64 0, .int .i64 0, .int .i64 (k : Int)] (0, 0) _ rfl HG4.out Try.underlying28 rfl (by kernel_rfl)) rfl ?_
              exact .inr ⟨by rw [Hfin.out]; omega, none, 0, 0, by rw [Hfin.out]; rfl, Wd.ofNil _, HB4.out⟩
            · have hd2 : (x : Int) - 48 = (d : Int) := by omega
              clear h60 hd10 hd
              go_wp2_with fail
              refine (digits_wrongAt (k : Int) _).mono ?_
              rintro e w1 ⟨rfl, b1⟩
              unfold faultV
              have hR := blk_later HR.out b1
              have hR0 := blk_cell hR 0
              have hR1 := blk_cell hR 1
              have hR2 := blk_cell hR 2
              have hR3 := blk_cell hR 3
              have hF0 := blk_free hR 0
              have hF1 := blk_free hR 1
              have hF2 := blk_free hR 2
              have hF3 := blk_free hR 3
              have HG4 := Lib.hid (blk_set4 hR (.int .i64 1) (.int .i64 0) (.int .i64 0) (.int .i64 (k : Int)))
              have HB4 := Lib.hid (below_set4 (below_then hB b1) (show w.heap.size ≤ w.heap.size from Nat.le_refl _) (.int .i64 1) (.int .i64 0) (.int .i64 0) (.int .i64 (k : Int)))
              simp only [List.getElem?_toArray, List.getElem?_cons_zero, List.getElem?_cons_succ] at hR0 hR1 hR2 hR3
              clear hR b1 hB HA
              go_wp2
              refine bodyPost_ret (results_tmp_cell Try.results103 _ _ w.heap.size 28 #[.int .i64 1, .int .i64 0, .int .i64 0, .int .i64 (k : Int)] (0, 0) _ rfl HG4.out Try.underlying28 rfl (by kernel_rfl)) rfl ?_
              exact .inr ⟨by rw [Hfin.out]; omega, none, 0, 0, by rw [Hfin.out]; rfl, Wd.ofNil _, HB4.out⟩
        · have h1 : 48 ≤ x := by omega
          have h2 : x ≤ 57 := by omega
          have h3 : (k : Int) < 60 := by omega
          have hdd : d = x - 48 := by omega
          have h4 : (d : Int) < 10 := by omega
          have h5 : (x : Int) - 48 = (d : Int) := by omega
          have h6 : ((k : Int) == 60) = false := by simp; omega
          have hn7 : n ≤ 7 := by
            rw [← HA.out.len]
            apply dg_length_le
            have h7 := readV_lt HD.out
            have h8 : (10 : Nat) ^ (L.take k).length ≤ 10 ^ 60 := Nat.pow_le_pow_right (by decide) (by rw [List.length_take]; omega)
            have h9 : (10 : Nat) ^ 60 ≤ 4294967296 ^ 7 := by decide
            omega
          have Hnx : Hid (wrongFrom L 0 = wrongFrom (L.drop (k + 1)) (k + 1)) := Lib.hid (by rw [Hk.out, Hst.out, if_neg hbad])
          have HDn := Lib.hid (HD2.out h1 h2)
          have HVn : Hid (readV (L.take k) * 10 + d = readV (L.take (k + 1))) := Lib.hid (by rw [Hv.out, hdd])
          clear hbad HD2 Hv hdd Hst hd
          go_wp2_with fail
          refine (prod_word _ _ _ _ 10 d _ HA.out (by omega) (by omega) (by omega)).mono ?_
          rintro e w1 ⟨a1, n1, c1, rfl, h8, b1⟩
          rw [val_dg, HVn.out] at h8
          have HA2 := Lib.hid h8
          have HR2 := Lib.hid (blk_later HR.out b1)
          have hB2 := below_then hB b1
          clear h8 b1 hB HA HR
          go_wp2
          go_roundw
          case rel => exact ⟨k + 1, a1, n1, c1, by omega, by omega, by go_num, rfl, HDn, Hnx, HA2, HR2, hB2⟩
          case measure => simp [intOf]; omega
      · have htk : L.take k = L := List.take_of_length_le (by omega)
        have Hfin : Hid (wrongI L = -1) := Lib.hid (by rw [HW.out, Hk.out, List.drop_of_length_le (by omega)]; rfl)
        have hki : ¬ ((k : Int) < (L.length : Int)) := by omega
        rw [htk] at HA
        clear htk
        have hR := HR.out
        have hR0 := blk_cell hR 0
        have hR1 := blk_cell hR 1
        have hR2 := blk_cell hR 2
        have hR3 := blk_cell hR 3
        have hF0 := blk_free hR 0
        have hF1 := blk_free hR 1
        have hF2 := blk_free hR 2
        have hF3 := blk_free hR 3
        have HG4 := Lib.hid (blk_set4 hR (.int .i64 0) (.int .i64 0) (.int .i64 0) (.int .i64 0))
        have HB4 := Lib.hid (below_set4 hB (show w.heap.size ≤ w.heap.size from Nat.le_refl _) (.int .i64 0) (.int .i64 0) (.int .i64 0) (.int .i64 0))
        simp only [List.getElem?_toArray, List.getElem?_cons_zero, List.getElem?_cons_succ] at hR0 hR1 hR2 hR3
        have HS4 := Lib.hid (HA.out.stored4 hR 0 0 0 0)
        clear hR HA hB
        go_wp2
        refine bodyPost_ret (results_tmp_cell Try.results103 _ _ w.heap.size 28 #[.int .i64 0, .int .i64 0, .int .i64 0, .int .i64 0] (0, 0) _ rfl HG4.out Try.underlying28 rfl (by kernel_rfl)) rfl ?_
        exact .inl ⟨by rw [Hfin.out]; decide, a, n, c, rfl, HS4.out, HB4.out⟩
theorem digits_read_ok (l : List UInt8) (w : World) (hl : l.length ≤ 1000) (hw : Hid (wrongI l < 0)) : Calls Try.prog 103 #[.string (bs l)] w (Lst2 (dg (readV l)) (faultV 0 0 0 0) w) :=
  (digits_read l w hl).mono fun _ _ h => h.elim (fun h => h.2) fun h => absurd hw.out (by have := h.1; omega)
theorem digits_read_no (l : List UInt8) (w : World) (hl : l.length ≤ 1000) (hw : Hid (0 ≤ wrongI l)) : Calls Try.prog 103 #[.string (bs l)] w (Lst2 [] (faultV 1 0 0 (wrongI l)) w) :=
  (digits_read l w hl).mono fun _ _ h => h.elim (fun h => absurd hw.out (by have := h.1; omega)) fun h => h.2
end Go.Proofs.Ythblmpkdcahmkaa
