/-
  The document's answer of layer 17: Depth, Parts, Same.
-/
import Derived.Test.YtdhfnlpolelcpaaRef17
import Derived.Test.YtdhfnlpolelcpaaRef02b
import Derived.WalkKit
import Derived.BigQuiet
namespace Go.Proofs.Ytdhfnlpolelcpaa
open Go.RowKit

/-- A part of an expression in memory. -/
theorem Nds.cut {w : World} {b off n c : Nat} {L : List Nd} (h : Nds w (some ⟨b, off, none⟩) n c L) {i j : Nat} (hi : i ≤ j) (hj : j ≤ n) : Nds w (some ⟨b, off + i * 3, none⟩) (j - i) (c - i) ((L.drop i).take (j - i)) := by
  have hb := Kin.All.bound h
  exact Kin.All.part h hi hj (by omega) (by omega)
theorem Nds.head {w : World} {b off n c : Nat} {L : List Nd} (h : Nds w (some ⟨b, off, none⟩) n c L) {j : Nat} (hj : j ≤ n) : Nds w (some ⟨b, off, none⟩) j c (L.take j) := by
  have h9 := Nds.cut h (Nat.zero_le j) hj
  simpa using h9
/-- Expressions side by side in a literal. -/
theorem sns_one (w : World) (e : TypeId) {a : Option Addr} {n c : Nat} {L : List Nd} (h : Nds w a n c L) : Sns (w.alloc (.cells #[.slice a n c] e)) (some ⟨w.heap.size, 0, none⟩) 1 1 [⟨a, n, c, L⟩] := by
  refine ⟨⟨rfl, Nat.le_refl _, by omega, fun e => (by cases e), .inr ⟨w.heap.size, 0, rfl, fun j x hj i u hu => ?_⟩⟩, fun x hx => ?_⟩
  · match j, hj with
    | 0, hj =>
      simp at hj
      subst hj
      match i, hu with
      | 0, hu =>
        simp [snK] at hu
        subst hu
        simp [snK]
      | i + 1, hu => simp [snK] at hu
    | j + 1, hj => simp at hj
  · rw [List.mem_singleton.1 hx]
    exact Kin.All.later h (below_alloc w _)
theorem sns_two (w : World) (e : TypeId) {a a' : Option Addr} {n c n' c' : Nat} {L L' : List Nd} (h : Nds w a n c L) (h' : Nds w a' n' c' L') : Sns (w.alloc (.cells #[.slice a n c, .slice a' n' c'] e)) (some ⟨w.heap.size, 0, none⟩) 2 2 [⟨a, n, c, L⟩, ⟨a', n', c', L'⟩] := by
  refine ⟨⟨rfl, Nat.le_refl _, by omega, fun e => (by cases e), .inr ⟨w.heap.size, 0, rfl, fun j x hj i u hu => ?_⟩⟩, fun x hx => ?_⟩
  · match j, hj with
    | 0, hj =>
      simp at hj
      subst hj
      match i, hu with
      | 0, hu =>
        simp [snK] at hu
        subst hu
        simp [snK]
      | i + 1, hu => simp [snK] at hu
    | 1, hj =>
      simp at hj
      subst hj
      match i, hu with
      | 0, hu =>
        simp [snK] at hu
        subst hu
        simp [snK]
      | i + 1, hu => simp [snK] at hu
    | j + 2, hj => simp at hj
  · simp at hx
    rcases hx with rfl | rfl
    · exact Kin.All.later h (below_alloc w _)
    · exact Kin.All.later h' (below_alloc w _)
/-- These expressions, side by side. -/
def LstK (LL : List (List Nd)) (w : World) (e : Ending) (w' : World) : Prop :=
  ∃ (a : Option Addr) (n c : Nat) (K : List Sn), e = .returned (.slice a n c) ∧ Sns w' a n c K ∧ K.map Sn.L = LL ∧ Below w.heap.size w w'
set_option maxRecDepth 4096 in
set_option maxHeartbeats 8000000 in
theorem ref17_depth (a : Option Addr) (n c : Nat) (L : List Nd) (w : World) (h : Nds w a n c L) (hn : n ≤ 1000000) : Calls Try.prog 16 #[.slice a n c] w (Same1 (.int .i64 (tDepth (L.map Nd.op) : Int)) w) := by
  have HW := Lib.hid (ref17_wrong a n c L w h)
  by_cases hw : tWrong (L.map Nd.op) < 0
  · obtain ⟨t, ht, hf⟩ := Ex.of_wrong Nd.op hw
    have hd : tDepth (L.map Nd.op) = t.depth := by rw [← hf]; exact tDepth_flat _ ht
    have hlen : t.flat.length = n := by rw [hf]; exact h.len
    have HD := Lib.hid (ref17_deep a n c L w h hn t [] [] ht (by rw [hf]; simp) ((n : Int) - 1) (by rw [hlen]; simp))
    rw [hd]
    have hpos := t.flat_pos
    rw [hlen] at hpos
    have hbd := h.bound
    have k1 : IntKind.i64.wrap ((n : Int) - 1) = (n : Int) - 1 := by rw [IntKind.wrap_i64]; omega
    generalize tWrong (L.map Nd.op) = z at *
    have hz : ¬ (0 : Int) ≤ z := by omega
    generalize t.depth = d at *
    clear hw hf hd ht h hlen
    go_enter Try.func16, Try.ntmps16
    go_wp2_with fail
    refine HW.out.mono ?_
    rintro e w1 ⟨rfl, rfl⟩
    go_wp2_with fail
    refine HD.out.mono ?_
    rintro e w1 ⟨rfl, rfl⟩
    go_wp2
    go_ret
    exact ⟨rfl, rfl⟩
  · rw [tDepth_none (by omega)]
    generalize tWrong (L.map Nd.op) = z at *
    have hz : (0 : Int) ≤ z := by omega
    clear hw h
    go_enter Try.func16, Try.ntmps16
    go_wp2_with fail
    refine HW.out.mono ?_
    rintro e w1 ⟨rfl, rfl⟩
    go_wp2
    go_ret
    exact ⟨rfl, rfl⟩
set_option maxRecDepth 4096 in
set_option maxHeartbeats 8000000 in
theorem ref17_parts (a : Option Addr) (n c : Nat) (L : List Nd) (w : World) (h : Nds w a n c L) (hn : n ≤ 1000000) (t : Ex Nd) (ht : t.ok Nd.op) (hf : t.flat = L) : Calls Try.prog 19 #[.slice a n c] w (LstK (t.kids.map Ex.flat) w) := by
  have HL := Lib.hid h
  have hll := h.len
  have hbd := h.bound
  have HC := Lib.hid fun op => ref17_arity op w
  have HDp := Lib.hid (ref17_deep a n c L w h hn)
  clear h
  cases t with
  | leaf x =>
    obtain rfl : L = [x] := hf.symm
    obtain rfl : n = 1 := hll.symm
    obtain ⟨b, off, rfl, e0, -, -, -⟩ := HL.out.get (j := 0) (x := x) rfl
    rw [Nat.zero_mul, Nat.add_zero] at e0
    have HX := Lib.hid (HC.out x.op)
    rw [show tAr x.op = 0 from ht] at HX
    clear HDp HC hll ht hf
    go_enter Try.func19, Try.ntmps19
    go_wp2_with fail
    refine HX.out.mono ?_
    rintro e w1 ⟨rfl, rfl⟩
    go_wp2
    go_ret
    exact ⟨_, _, _, [], rfl, Kin.All.void _ _ (by omega), rfl, below_alloc _ _⟩
  | one t x =>
    have hpos := t.flat_pos
    have hdl := t.depth_le
    have hL : L = t.flat ++ [x] := hf.symm
    have hlen : n = t.flat.length + 1 := by rw [← hll, hL]; simp
    obtain ⟨hx, -⟩ := at_mid (L := L) (A := t.flat) (S := []) (x := x) (k := t.flat.length) (by rw [hL]; simp) rfl
    have HD := Lib.hid (HDp.out t [] [x] ht.1 (by rw [hL]; simp) ((t.flat.length : Int) - 1) (by simp))
    have HT : Hid (L.take t.flat.length = t.flat) := Lib.hid (by rw [hL]; simp)
    simp only [Ex.kids, List.map_cons, List.map_nil]
    obtain ⟨b, off, rfl, e0, -, -, -⟩ := HL.out.get hx
    have HX := Lib.hid (HC.out x.op)
    rw [show tAr x.op = 1 from ht.2] at HX
    generalize t.flat.length = q at *
    subst hlen
    have k1 : IntKind.i64.wrap ((q : Int) + 1 - 1) = (q : Int) := by rw [IntKind.wrap_i64]; omega
    have k2 : IntKind.i64.wrap ((q : Int) - 1) = (q : Int) - 1 := by rw [IntKind.wrap_i64]; omega
    have k3 : (q : Int) < (q : Int) + 1 := by omega
    have k4 : (q : Int) ≤ (c : Int) := by omega
    have k5 : IntKind.i64.wrap (q : Int) = (q : Int) := by rw [IntKind.wrap_i64]; omega
    have HN : Hid (Nds w (some ⟨b, off, none⟩) q c t.flat) := Lib.hid (by rw [← HT.out]; exact HL.out.head (by omega))
    clear HDp HC hll ht hf hx hL HT
    go_enter Try.func19, Try.ntmps19
    go_wp2_with fail
    refine HX.out.mono ?_
    rintro e w1 ⟨rfl, rfl⟩
    go_wp2_with fail
    refine HD.out.mono ?_
    rintro e w1 ⟨rfl, rfl⟩
    go_wp2
    go_ret
    exact ⟨_, _, _, [⟨some ⟨b, off, none⟩, q, c, t.flat⟩], rfl, sns_one w _ HN.out, rfl, below_alloc _ _⟩
  | two s t x =>
    have hpos := t.flat_pos
    have hpos2 := s.flat_pos
    have hdl := t.depth_le
    have hL : L = (s.flat ++ t.flat) ++ [x] := hf.symm
    have hlen : n = s.flat.length + t.flat.length + 1 := by rw [← hll, hL]; simp; omega
    obtain ⟨hx, -⟩ := at_mid (L := L) (A := s.flat ++ t.flat) (S := []) (x := x) (k := s.flat.length + t.flat.length) (by rw [hL]; simp) (by simp)
    have HD := Lib.hid (HDp.out t s.flat [x] ht.2.1 (by rw [hL]) (((s.flat.length + t.flat.length : Nat) : Int) - 1) rfl)
    have HT : Hid (L.take s.flat.length = s.flat) := Lib.hid (by rw [hL]; simp)
    have HU : Hid ((L.drop s.flat.length).take t.flat.length = t.flat) := Lib.hid (by rw [hL]; simp)
    simp only [Ex.kids, List.map_cons, List.map_nil]
    obtain ⟨b, off, rfl, e0, -, -, -⟩ := HL.out.get hx
    have HX := Lib.hid (HC.out x.op)
    rw [show tAr x.op = 2 from ht.2.2] at HX
    generalize t.flat.length = q at *
    generalize s.flat.length = p at *
    obtain ⟨m, hm⟩ : ∃ m, p + q = m := ⟨_, rfl⟩
    rw [hm] at hlen HD e0
    subst hlen
    have k1 : IntKind.i64.wrap ((m : Int) + 1 - 1) = (m : Int) := by rw [IntKind.wrap_i64]; omega
    have k2 : IntKind.i64.wrap ((m : Int) - 1) = (m : Int) - 1 := by rw [IntKind.wrap_i64]; omega
    have k3 : (m : Int) < (m : Int) + 1 := by omega
    have k4 : (m : Int) ≤ (c : Int) := by omega
    have k5 : IntKind.i64.wrap (m : Int) = (m : Int) := by rw [IntKind.wrap_i64]; omega
    have k6 : (p : Int) ≤ (c : Int) := by omega
    have k7 : (p : Int) ≤ (m : Int) := by omega
    have HN : Hid (Nds w (some ⟨b, off, none⟩) p c s.flat) := Lib.hid (by rw [← HT.out]; exact HL.out.head (by omega))
    have HM : Hid (Nds w (some ⟨b, off + p * 3, none⟩) (m - p) (c - p) t.flat) := Lib.hid (by
      have h9 := HL.out.cut (i := p) (j := m) (by omega) (by omega)
      rw [show m - p = q by omega, HU.out] at h9
      rw [show m - p = q by omega]
      exact h9)
    clear HDp HC hll ht hf hx hL HT HU
    go_enter Try.func19, Try.ntmps19
    go_wp2_with fail
    refine HX.out.mono ?_
    rintro e w1 ⟨rfl, rfl⟩
    go_wp2_with fail
    refine HD.out.mono ?_
    rintro e w1 ⟨rfl, rfl⟩
    go_wp2
    go_region
    go_wp2
    go_ret
    exact ⟨_, _, _, [⟨some ⟨b, off, none⟩, p, c, s.flat⟩, ⟨some ⟨b, off + p * 3, none⟩, m - p, c - p, t.flat⟩], rfl, Kin.All.later (sns_two w _ HN.out HM.out) (Below.refl _ _).drew, rfl, (below_alloc w _).drew⟩
theorem nd_sem_drop {L : List Nd} {k : Nat} {x : Nd} (h : L[k]? = some x) : (L.map Nd.sem).drop k = x.sem :: (L.map Nd.sem).drop (k + 1) := by
  have hl : k < L.length := by
    rcases Nat.lt_or_ge k L.length with h9 | h9
    · exact h9
    · rw [List.getElem?_eq_none h9] at h; cases h
  rw [List.getElem?_eq_getElem hl] at h
  rw [List.drop_eq_getElem_cons (by rw [List.length_map]; exact hl), List.getElem_map, Option.some.inj h]
set_option maxRecDepth 4096 in
set_option maxHeartbeats 8000000 in
theorem ref17_same (a : Option Addr) (n c : Nat) (L : List Nd) (b : Option Addr) (m d : Nat) (M : List Nd) (w : World) (h : Nds w a n c L) (h2 : Nds w b m d M) (hL : thinN 1000000 L) (hM : thinN 1000000 M) :
    Calls Try.prog 20 #[.slice a n c, .slice b m d] w (Gives (.bool (decide (L.map Nd.sem = M.map Nd.sem))) w) := by
  have HL := Lib.hid h
  have HM := Lib.hid h2
  have hl1 := h.len
  have hl2 := h2.len
  have hbd := h.bound
  have hbd2 := h2.bound
  have HTL := Lib.hid hL
  have HTM := Lib.hid hM
  clear h h2 hL hM
  obtain ⟨R, hR⟩ : ∃ R, decide (L.map Nd.sem = M.map Nd.sem) = R := ⟨_, rfl⟩
  rw [hR]
  have HR := Lib.hid hR
  clear hR
  by_cases hnm : n = m
  · subst hnm
    have q0 : ((n : Int) != (n : Int)) = false := by simp
    have HL1 := Lib.hid hl1
    have HL2 := Lib.hid hl2
    clear hl1 hl2
    go_enter Try.func20, Try.ntmps20
    go_wp2
    go_loopw [5] (fun iv wr => ∃ k : Nat, k ≤ n ∧ iv = .int .i64 (k : Int) ∧ Hid (R = decide ((L.map Nd.sem).drop k = (M.map Nd.sem).drop k)) ∧ Hid (Below w.heap.size w wr)) (fun iv _ => n - (intOf iv).toNat)
    case atStart => exact ⟨0, by omega, rfl, Lib.hid HR.out.symm, Lib.hid (Below.refl _ _)⟩
    case round =>
      obtain ⟨k, hk, rfl, HK, HB⟩ := hrel
      by_cases hlt : k < n
      · obtain ⟨x, hx⟩ : ∃ x, L[k]? = some x := ⟨L[k]'(by rw [HL1.out]; exact hlt), List.getElem?_eq_getElem _⟩
        obtain ⟨y, hy⟩ : ∃ y, M[k]? = some y := ⟨M[k]'(by rw [HL2.out]; exact hlt), List.getElem?_eq_getElem _⟩
        obtain ⟨b0, o0, rfl, e0, e1, e2, hw1⟩ := Nds.get (Kin.All.later HL.out HB.out) hx
        obtain ⟨b1, o1, rfl, f0, f1, f2, hw2⟩ := Nds.get (Kin.All.later HM.out HB.out) hy
        have hki : (k : Int) < (n : Int) := by omega
        have HK2 : Hid (R = decide (x.sem :: (L.map Nd.sem).drop (k + 1) = y.sem :: (M.map Nd.sem).drop (k + 1))) := Lib.hid (by rw [← nd_sem_drop hx, ← nd_sem_drop hy]; exact HK.out)
        have hx9 := HTL.out x (List.mem_of_getElem? hx)
        have hy9 := HTM.out y (List.mem_of_getElem? hy)
        have hxn := hw1.len
        have hyn := hw2.len
        have HC := Lib.hid fun w (h : Wd w x.a x.n x.c x.l) (h' : Wd w y.a y.n y.c y.l) => ref02_cmp x.a x.n x.c x.l y.a y.n y.c y.l w h h' (by omega) (by omega)
        have HW1 := Lib.hid hw1
        have HW2 := Lib.hid hw2
        obtain ⟨xo, xi, xa, xn, xc, xl⟩ := x
        obtain ⟨yo, yi, ya, yn, yc, yl⟩ := y
        simp only [Nd.sem] at HK2
        dsimp only at e0 e1 e2 f0 f1 f2 HC HW1 HW2
        clear hx hy hw1 hw2 hx9 hy9 hxn hyn HK
        by_cases h0 : xo = yo
        · have q1 : (xo != yo) = false := by simp [h0]
          by_cases h1 : xi = yi
          · have q2 : (xi != yi) = false := by simp [h1]
            obtain ⟨z, hz⟩ : ∃ z, cmpI (val xl) (val yl) = z := ⟨_, rfl⟩
            rw [hz] at HC
            by_cases h2 : z = 0
            · have q3 : (z != 0) = false := by simp [h2]
              have HK3 : Hid (R = decide ((L.map Nd.sem).drop (k + 1) = (M.map Nd.sem).drop (k + 1))) := Lib.hid (by
                rw [HK2.out]
                have hv : val xl = val yl := (by unfold cmpI at hz; split at hz <;> (try split at hz) <;> omega)
                simp [h0, h1, hv])
              clear h0 h1 h2 hz HK2
              go_wp2
              go_quiet ((go_at_call 36; exact quiet_here (HC.out _ (HW1.out.later (below_draws _ _)) (HW2.out.later (below_draws _ _))) ⟨_, rfl⟩))
              go_wp2
              go_roundw
              case rel => exact ⟨k + 1, by omega, by go_num, HK3, Lib.hid (below_then HB.out (below_draws _ _))⟩
              case measure => simp [intOf]; omega
            · have q3 : (z != 0) = true := by simp [h2]
              obtain rfl : R = false := by
                rw [HK2.out]
                have hv : val xl ≠ val yl := fun e => h2 (by rw [← hz, e]; exact cmpI_eq rfl)
                simp [hv]
              clear h0 h1 h2 hz HK2
              go_wp2
              go_quiet ((go_at_call 36; exact quiet_here (HC.out _ (HW1.out.later (below_draws _ _)) (HW2.out.later (below_draws _ _))) ⟨_, rfl⟩))
              go_wp2
              go_ret
              exact ⟨rfl, below_then HB.out (below_draws _ _)⟩
          · have q2 : (xi != yi) = true := by simp [h1]
            obtain rfl : R = false := by
              rw [HK2.out]; simp [h1]
            clear h0 h1 HK2 HC HW1 HW2
            go_wp2
            go_quiet (fail)
            go_wp2
            go_ret
            exact ⟨rfl, below_then HB.out (below_draws _ _)⟩
        · have q1 : (xo != yo) = true := by simp [h0]
          obtain rfl : R = false := by
            rw [HK2.out]; simp [h0]
          clear h0 HK2 HC HW1 HW2
          go_wp2
          go_quiet (fail)
          go_wp2
          go_ret
          exact ⟨rfl, below_then HB.out (below_draws _ _)⟩
      · obtain rfl : k = n := by omega
        obtain rfl : R = true := by
          rw [HK.out, List.drop_of_length_le (by rw [List.length_map, HL1.out]; exact Nat.le_refl _), List.drop_of_length_le (by rw [List.length_map, HL2.out]; exact Nat.le_refl _)]; simp
        go_wp2
        go_ret
        exact ⟨rfl, HB.out⟩
  · have q0 : ((n : Int) != (m : Int)) = true := by simp; omega
    obtain rfl : R = false := by
      rw [← HR.out, decide_eq_false_iff_not]
      intro h
      have := congrArg List.length h
      simp only [List.length_map] at this
      omega
    go_enter Try.func20, Try.ntmps20
    go_wp2
    go_ret
    exact ⟨rfl, Below.refl _ _⟩
end Go.Proofs.Ytdhfnlpolelcpaa
