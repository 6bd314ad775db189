/-
  The walks of the laws of layer 13: GaugePlays.
-/
import Derived.Test.YtenaopppkkhmcaaLaw13Walks2M
namespace Go.Proofs.Ytenaopppkkhmcaa
open Go.RowKit

theorem gshown_length {l : Nat} {K : List Fx} : (gshown l K).length = min (gat l K + 1) K.length := by unfold gshown; rw [List.length_take]
theorem rsize_snoc13 : ∀ (L : List Fx) (m : Nat) (x : Fx), rsizeFrom m (L ++ [x]) = max (rsizeFrom m L) (fsize x)
  | [], _, _ => rfl
  | y :: r, m, x => by
    show rsizeFrom (max m (fsize y)) (r ++ [x]) = _
    rw [rsize_snoc13 r]; rfl
theorem rsize_next13 {L : List Fx} {p k : Nat} (h : k < L.length) : rsizeFrom p (L.take (k + 1)) = max (rsizeFrom p (L.take k)) (fsize (L.getD k Fx.zero)) := by rw [fx_more h, rsize_snoc13]
set_option maxRecDepth 4096 in
set_option maxHeartbeats 16000000 in
theorem law13_plays_many {Is : World → Nat → Nat → Nat → Nat → Prop} (S : GaugeSaid Is) (FS : FracSaid) (z : Int) (a : Option Addr) (n c : Nat) (LL : List (List Fx)) (w : World) (hz : isInt z) (h : Fxss w a n c LL) (hn : 20 < n) : Calls Try.prog 3 #[.int .i64 z, .slice a n c] w (Gives (.bool true) w) := by
  have HB : Hid (Below w.heap.size w w) := Lib.hid (Below.refl _ _)
  have hbd := h.bound
  have hn2 : 20 < (n : Int) := by omega
  obtain ⟨l0, hl0⟩ : ∃ l0, glim z = l0 := ⟨_, rfl⟩
  have hl9 : l0 ≤ 4096 := by rw [← hl0]; unfold glim; omega
  have hM : (min (max z 0) 4096 : Int) = (l0 : Int) := by rw [← hl0]; unfold glim; omega
  have HNa : ∀ w' : World, Calls Try.prog 5 #[.int .i64 z] w' (fun e w'' => ∃ g, e = .returned (.pointer (some ⟨g, 0, none⟩)) ∧ w'.heap.size ≤ g ∧ Is w'' g l0 0 0 ∧ Below w'.heap.size w' w'') := fun w' => hl0 ▸ S.new z w' hz
  clear h hl0 hM hl9
  go_enter Try.func3, Try.ntmps3
  go_wp2_with fail
  refine (HNa _).mono ?_
  rintro e w1 ⟨g, rfl, hg9, hI, b⟩
  replace HB := Lib.hid (below_then HB.out b)
  clear hI hg9 b
  go_wp2_with fail
  refine (law13_works S FS _).mono ?_
  rintro e w2 ⟨rfl, b⟩
  replace HB := Lib.hid (below_then HB.out b)
  clear b
  go_wp2
  go_ret
  exact ⟨rfl, HB.out⟩
set_option maxRecDepth 4096 in
set_option maxHeartbeats 16000000 in
theorem law13_plays_few {Is : World → Nat → Nat → Nat → Nat → Prop} (S : GaugeSaid Is) (FS : FracSaid) (z : Int) (a : Option Addr) (n c : Nat) (LL : List (List Fx)) (w : World) (hz : isInt z) (h : Fxss w a n c LL) (hn : n ≤ 20) : Calls Try.prog 3 #[.int .i64 z, .slice a n c] w (Gives (.bool true) w) := by
  have HB : Hid (Below w.heap.size w w) := Lib.hid (Below.refl _ _)
  have HK := Lib.hid h
  have HLl := Lib.hid h.len
  have hbd := h.bound
  have hn2 : ¬ 20 < (n : Int) := by omega
  obtain ⟨l0, hl0⟩ : ∃ l0, glim z = l0 := ⟨_, rfl⟩
  have hl9 : l0 ≤ 4096 := by rw [← hl0]; unfold glim; omega
  have hM : (min (max z 0) 4096 : Int) = (l0 : Int) := by rw [← hl0]; unfold glim; omega
  have HNa : ∀ w' : World, Calls Try.prog 5 #[.int .i64 z] w' (fun e w'' => ∃ g, e = .returned (.pointer (some ⟨g, 0, none⟩)) ∧ w'.heap.size ≤ g ∧ Is w'' g l0 0 0 ∧ Below w'.heap.size w' w'') := fun w' => hl0 ▸ S.new z w' hz
  have HLM : ∀ (w' : World) (g : Nat), Is w' g l0 0 0 → Calls Try.prog 7 #[.pointer (some ⟨g, 0, none⟩)] w' (Gives (.int .i64 ((l0 : Nat) : Int)) w') := fun w' g h1 => S.limit w' g l0 0 0 h1 hl9
  have HOV0 : ∀ (w' : World) (g : Nat), Is w' g l0 0 0 → Calls Try.prog 8 #[.pointer (some ⟨g, 0, none⟩)] w' (Gives (.bool false) w') := fun w' g h1 => by
    have h9 := S.over w' g l0 0 0 h1 hl9 (by decide)
    rw [decide_eq_false (Nat.not_lt_zero l0)] at h9
    exact h9
  have HTL0 : ∀ (w' : World) (g : Nat), Is w' g l0 0 0 → Calls Try.prog 9 #[.pointer (some ⟨g, 0, none⟩)] w' (Gives (.agg #[.int .i64 0, .int .i64 0]) w') := fun w' g h1 => S.tells w' g l0 0 0 h1
  have HTL : ∀ (w' : World) (g s p : Nat), Is w' g l0 s p → Calls Try.prog 9 #[.pointer (some ⟨g, 0, none⟩)] w' (Gives (.agg #[.int .i64 ((s : Nat) : Int), .int .i64 ((p : Nat) : Int)]) w') := fun w' g s p h1 => S.tells w' g l0 s p h1
  have HOV : ∀ (w' : World) (g s p : Nat), Is w' g l0 s p → p ≤ 12800 → Calls Try.prog 8 #[.pointer (some ⟨g, 0, none⟩)] w' (Gives (.bool (decide (l0 < p))) w') := fun w' g s p h1 h2 => S.over w' g l0 s p h1 hl9 (by omega)
  clear h hl0 hz
  go_enter Try.func3, Try.ntmps3
  go_wp2_with fail
  refine (HNa _).mono ?_
  rintro e w1 ⟨g, rfl, hg9, hI, b⟩
  have hga : w.heap.size ≤ g := Nat.le_trans HB.out.size hg9
  have HI := Lib.hid hI
  replace HB := Lib.hid (below_then HB.out b)
  clear hI hg9 b
  go_wp2_with fail
  refine (HLM _ g HI.out).mono ?_
  rintro e w2 ⟨rfl, b⟩
  replace HB := Lib.hid (below_then HB.out b)
  replace HI := Lib.hid (S.keep HI.out (b.block _ (S.lt HI.out)))
  clear b
  go_wp2_with fail
  refine (HOV0 _ g HI.out).mono ?_
  rintro e w3 ⟨rfl, b⟩
  replace HB := Lib.hid (below_then HB.out b)
  replace HI := Lib.hid (S.keep HI.out (b.block _ (S.lt HI.out)))
  clear b
  go_wp2_with fail
  refine (HTL0 _ g HI.out).mono ?_
  rintro e w4 ⟨rfl, b⟩
  replace HB := Lib.hid (below_then HB.out b)
  replace HI := Lib.hid (S.keep HI.out (b.block _ (S.lt HI.out)))
  clear b
  clear HLM HOV0 HTL0 HNa
  go_wp2
  go_loopw [7, 8, 9] (fun sv pv iv wr => ∃ i s p : Nat, i ≤ n ∧ sv = .int .i64 (s : Int) ∧ pv = .int .i64 (p : Int) ∧ iv = .int .i64 (i : Int) ∧ s ≤ 21 * i ∧ p ≤ 12800 ∧ Hid (Is wr g l0 s p) ∧ Hid (Below w.heap.size w wr)) (fun _ _ iv _ => n - (intOf iv).toNat)
  case atStart => exact ⟨0, 0, 0, by omega, rfl, rfl, rfl, by omega, by omega, HI, HB⟩
  case round =>
    clear HI HB
    obtain ⟨i, s, p, hi, rfl, rfl, rfl, hs, hp, HI, HB⟩ := hrel
    by_cases hlt : i < n
    · obtain ⟨bb, off, hbe, a', n', c', e0, h1⟩ := HK.out.at hlt
      generalize hMM : LL.getD i [] = M at *
      have E0 := Lib.hid e0
      have H1 := Lib.hid h1
      have hl1 := h1.len
      have hbd1 := h1.bound
      have hki : (i : Int) < (n : Int) := by omega
      subst hbe
      clear e0 h1 hMM
      have e0 := cell_later HB.out E0.out
      by_cases hb : (n' : Int) ≤ 20 ∧ thinI 200 M
      case neg =>
        have HNM := Lib.hid hb
        clear hb
        go_wp2_with fail
        refine (ref11_long a' n' c' M 20 200 true _ (H1.out.later HB.out) (by decide) (Lib.hid ⟨fun _ => HNM.out, fun _ => rfl⟩)).mono ?_
        rintro e w5 ⟨rfl, b⟩
        replace HB := Lib.hid (below_then HB.out b)
        clear e0
        clear b
        go_wp2_with fail
        refine (law13_works S FS _).mono ?_
        rintro e w6 ⟨rfl, b⟩
        replace HB := Lib.hid (below_then HB.out b)
        clear b
        go_wp2
        go_ret
        exact ⟨rfl, HB.out⟩
      have HNM := Lib.hid hb
      have hn8 : n' ≤ 20 := by have := hb.1; omega
      have hth : thin 200 M := thinI.out (N := 200) hb.2
      have HTH := Lib.hid hth
      have HL1 := Lib.hid hl1
      have HOKS : Hid (∀ x ∈ M, fsize x ≤ 12800) := Lib.hid (fun x hx => fsize_thin (H1.out.ok hx) (hth x hx).1 (hth x hx).2)
      obtain ⟨z9, hz9⟩ : ∃ z9, gat l0 M = z9 := ⟨_, rfl⟩
      obtain ⟨sh, hsh⟩ : ∃ sh, (gshown l0 M).length = sh := ⟨_, rfl⟩
      obtain ⟨p9, hp9⟩ : ∃ p9, rsizeFrom p (gshown l0 M) = p9 := ⟨_, rfl⟩
      obtain ⟨o9, ho9⟩ : ∃ b, decide (gat l0 M = M.length) = b := ⟨_, rfl⟩
      have hsh2 : sh = min (z9 + 1) n' := by rw [← hsh, gshown_length, hz9, hl1]
      have hz8 : z9 ≤ n' := by rw [← hz9, ← hl1]; exact gat_le l0 M
      have HTK : Hid (M.take sh = gshown l0 M) := Lib.hid (by
        unfold gshown
        rw [hz9]
        by_cases h9 : z9 + 1 ≤ n'
        · rw [show sh = z9 + 1 by omega]
        · rw [List.take_of_length_le (by omega), List.take_of_length_le (by omega)])
      have HSH : Hid (sh ≤ n' ∧ sh ≤ z9 + 1 ∧ (n' ≤ sh ∨ z9 + 1 ≤ sh)) := Lib.hid (by omega)
      have HP9 : Hid (rsizeFrom p (M.take sh) = p9) := Lib.hid (by rw [HTK.out]; exact hp9)
      have hp8 : p9 ≤ 12800 := by rw [← hp9]; exact rsize_upto.2 ⟨hp, fun x hx => HOKS.out x (gshown_mem hx)⟩
      have q9 : ((z9 : Int) == (n' : Int)) = o9 := by rw [← ho9, hz9, hl1]; by_cases e : z9 = n' <;> simp [e] <;> omega
      have HRI : ∀ w' : World, Fxs w' a' n' c' M → Calls Try.prog 11 #[.slice a' n' c', .int .i64 (l0 : Int)] w' (Gives (.int .i64 (z9 : Int)) w') := fun w' k1 => hz9 ▸ ref13_row a' n' c' M l0 w' k1 (HTH.out.mono (by decide)) hl9
      have HTO : ∀ w' : World, Fxs w' a' n' c' M → Calls Try.prog 13 #[.slice a' n' c'] w' (fun e w'' => ∃ (a2 : Option Addr) (c2 : Nat), e = .returned (.slice a2 n' c2) ∧ Fxs w'' a2 n' c2 M ∧ Below w'.heap.size w' w'') := fun w' k1 => law11_to a' n' c' M w' k1 (by omega)
      have HRO : ∀ (w' : World) (a2 : Option Addr) (c2 : Nat), Is w' g l0 s p → Fxs w' a2 n' c2 M → Calls Try.prog 12 #[.pointer (some ⟨g, 0, none⟩), .slice a2 n' c2] w' (fun e w'' => e = .returned (.tuple #[.int .i64 (z9 : Int), .bool o9]) ∧ Is w'' g l0 (s + sh) p9 ∧ w'.grownBy w'' (some g)) := fun w' a2 c2 k1 k2 => by
        have h9 := S.row w' g l0 s p a2 n' c2 M k1 k2 (by omega) (HTH.out.mono (by decide)) hl9 (by omega) (by omega)
        rw [ho9, hz9, hsh, hp9] at h9
        exact h9
      have HSZ := Lib.hid (show ∀ (w' : World) (x : Fx), x ∈ M → x.ok w' → Calls Try.prog 14 #[frV x.s x.a x.n x.c x.b x.m x.d] w' (Gives (.int .i64 ((fsize x : Nat) : Int)) w') from fun w' x hx k1 => ref09_size x.s x.a x.n x.c x.la x.b x.m x.d x.lb w' k1.1 k1.2 (by have := (HTH.out x hx).1; omega) (by have := (HTH.out x hx).2; omega))
      clear hb hth hz9 hsh hp9 ho9 hl1 HTK hsh2
      go_wp2_with fail
      refine (ref11_long a' n' c' M 20 200 false _ (H1.out.later HB.out) (by decide) (Lib.hid ⟨fun h => absurd h (by decide), fun h => absurd HNM.out h⟩)).mono ?_
      rintro e w5 ⟨rfl, b⟩
      replace HB := Lib.hid (below_then HB.out b)
      replace HI := Lib.hid (S.keep HI.out (b.block _ (S.lt HI.out)))
      clear e0
      have e0 := cell_later HB.out E0.out
      clear b
      go_wp2_with fail
      refine (HRI _ (H1.out.later HB.out)).mono ?_
      rintro e w6 ⟨rfl, b⟩
      replace HB := Lib.hid (below_then HB.out b)
      replace HI := Lib.hid (S.keep HI.out (b.block _ (S.lt HI.out)))
      clear e0
      have e0 := cell_later HB.out E0.out
      clear b
      go_wp2_with fail
      refine (HTO _ (H1.out.later HB.out)).mono ?_
      rintro e w7 ⟨a7, c7, rfl, h7, b⟩
      replace HB := Lib.hid (below_then HB.out b)
      replace HI := Lib.hid (S.keep HI.out (b.block _ (S.lt HI.out)))
      have HX := Lib.hid h7
      clear e0 h7
      clear b
      go_wp2_with fail
      refine (HRO _ a7 c7 HI.out HX.out).mono ?_
      rintro e w8 ⟨rfl, hI, hgr⟩
      have HB8 := Lib.hid (HB.out.grown hgr HB.out.size (fun k hk => by have := Option.some.inj hk; omega))
      have HI8 := Lib.hid hI
      clear hI hgr HX HI HB HRO HRI HTO
      go_wp2
      go_loopw [7, 8, 13] (fun sv pv kv wi => ∃ k q : Nat, k ≤ sh ∧ sv = .int .i64 ((s + k : Nat) : Int) ∧ pv = .int .i64 (q : Int) ∧ kv = .int .i64 (k : Int) ∧ q ≤ 12800 ∧ Hid (rsizeFrom p (M.take k) = q) ∧ Hid (Is wi g l0 (s + sh) p9) ∧ Hid (Below w.heap.size w wi)) (fun _ _ kv _ => sh - (intOf kv).toNat)
      case atStart => exact ⟨0, p, by omega, rfl, rfl, rfl, hp, Lib.hid rfl, HI8, HB8⟩
      case round =>
        clear HI8 HB8
        obtain ⟨k, q, hk, rfl, rfl, rfl, hq, HQ, HI, HB⟩ := hrel
        have e0 := cell_later HB.out E0.out
        by_cases hks : k < sh
        · obtain ⟨sk, hsk⟩ : ∃ sk, s + k = sk := ⟨_, rfl⟩
          have hkn : k < n' := Nat.lt_of_lt_of_le hks HSH.out.1
          have hkz : (k : Int) ≤ (z9 : Int) := Int.ofNat_le.2 (Nat.le_of_lt_succ (Nat.lt_of_lt_of_le hks HSH.out.2.1))
          have hki2 : (k : Int) < (n' : Int) := Int.ofNat_lt.2 hkn
          obtain ⟨b2, of2, hbf, q0, q1, q2, hok⟩ := (H1.out.later HB.out).at hkn
          have hmem := fx_mem (L := M) (k := k) (by rw [HL1.out]; exact hkn)
          have HN := Lib.hid (rsize_next13 (p := p) (L := M) (k := k) (by rw [HL1.out]; exact hkn))
          have hfs := HOKS.out _ hmem
          generalize M.getD k Fx.zero = x at *
          have HS9 := HSZ.out wr x hmem hok
          obtain ⟨fs, hfe⟩ : ∃ fs, fsize x = fs := ⟨_, rfl⟩
          rw [hfe] at HS9 hfs
          obtain ⟨q3, hq3⟩ : ∃ q3, max q fs = q3 := ⟨_, rfl⟩
          have HQ3 : Hid (rsizeFrom p (M.take (k + 1)) = q3) := Lib.hid (by rw [HN.out, HQ.out, hfe, hq3])
          have hq4 : q3 ≤ 12800 := by omega
          have hqm : (max (q : Int) (fs : Int)) = (q3 : Int) := by omega
          have hsk1 : (sk : Int) + 1 = ((s + (k + 1) : Nat) : Int) := by omega
          rw [hsk]
          subst hbf
          unfold frV at HS9
          have HSC := Lib.hid HS9
          obtain ⟨sx, ax, nx, cx, lax, bx, mx, dx, lbx⟩ := x
          simp only at q0 q1 q2 HSC
          clear hok hmem HN HQ hfe hq3 HS9
          go_wp2_with fail
          refine (HSC.out).mono ?_
          rintro e w10 ⟨rfl, b⟩
          clear e0 q0 q1 q2 HSC
          replace HI := Lib.hid (S.keep HI.out (b.block _ (S.lt HI.out)))
          replace HB := Lib.hid (below_then HB.out b)
          clear b
          go_wp2
          go_roundw
          case rel => exact ⟨k + 1, q3, by omega, by first | rfl | go_num | (simp only [Value.int.injEq, true_and]; omega), rfl, by go_num, hq4, HQ3, HI, HB⟩
          case measure => simp [intOf]; omega
        · obtain rfl : k = sh := by omega
          obtain rfl : q = p9 := HQ.out.symm.trans HP9.out
          have hsks : s + k ≤ 21 * (i + 1) := by have := HSH.out; omega
          go_upto_region 17 with fail
          go_cut [80] from 69 to 80 (fun v wx => v = .bool false ∧ wx = wr)
          case first =>
            by_cases hkn : k < n'
            · have hkz : ¬ (k : Int) ≤ (z9 : Int) := fun h9 => by
                have h8 := Int.ofNat_le.1 h9
                rcases HSH.out.2.2 with h7 | h7
                · exact absurd hkn (Nat.not_lt.2 h7)
                · exact absurd h8 (Nat.not_le.2 (Nat.lt_of_lt_of_le (Nat.lt_succ_self _) h7))
              have hki2 : (k : Int) < (n' : Int) := Int.ofNat_lt.2 hkn
              go_wp2
              go_meet
              exact ⟨rfl, rfl⟩
            · have hki2 : ¬ (k : Int) < (n' : Int) := fun h9 => hkn (Int.ofNat_lt.1 h9)
              go_wp2
              go_meet
              exact ⟨rfl, rfl⟩
          case rest =>
          obtain ⟨rfl, rfl⟩ := hcut
          go_upto_region 21 with fail
          go_cut [124] from 95 to 124 (fun v wx => v = .bool false ∧ Hid (Below wc.heap.size wc wx) ∧ Hid (Is wx g l0 (s + k) q))
          case first =>
            cases o9 with
            | true =>
              by_cases hpl : l0 < q
              · have hplz : (l0 : Int) < (q : Int) := Int.ofNat_lt.2 hpl
                have HOVr : ∀ w' : World, Is w' g l0 (s + k) q → Calls Try.prog 8 #[.pointer (some ⟨g, 0, none⟩)] w' (Gives (.bool true) w') := fun w' h9 => by
                  have h7 := HOV w' g (s + k) q h9 hq
                  rwa [decide_eq_true hpl] at h7
                go_wp2_with fail
                refine (HTL _ g (s + k) q HI.out).mono ?_
                rintro e w11 ⟨rfl, b⟩
                have HI2 := Lib.hid (S.keep HI.out (b.block _ (S.lt HI.out)))
                have HB2 := Lib.hid b
                clear b e0
                go_wp2_with fail
                refine (HOVr _ HI2.out).mono ?_
                rintro e w12 ⟨rfl, b⟩
                have HI3 := Lib.hid (S.keep HI2.out (b.block _ (S.lt HI2.out)))
                have HB3 := Lib.hid (below_then HB2.out b)
                clear b
                go_wp2
                go_meet
                exact ⟨rfl, HB3, HI3⟩
              · have hplz : ¬ (l0 : Int) < (q : Int) := fun h9 => hpl (Int.ofNat_lt.1 h9)
                have HOVr : ∀ w' : World, Is w' g l0 (s + k) q → Calls Try.prog 8 #[.pointer (some ⟨g, 0, none⟩)] w' (Gives (.bool false) w') := fun w' h9 => by
                  have h7 := HOV w' g (s + k) q h9 hq
                  rwa [decide_eq_false hpl] at h7
                go_wp2_with fail
                refine (HTL _ g (s + k) q HI.out).mono ?_
                rintro e w11 ⟨rfl, b⟩
                have HI2 := Lib.hid (S.keep HI.out (b.block _ (S.lt HI.out)))
                have HB2 := Lib.hid b
                clear b e0
                go_wp2_with fail
                refine (HOVr _ HI2.out).mono ?_
                rintro e w12 ⟨rfl, b⟩
                have HI3 := Lib.hid (S.keep HI2.out (b.block _ (S.lt HI2.out)))
                have HB3 := Lib.hid (below_then HB2.out b)
                clear b
                go_wp2
                go_meet
                exact ⟨rfl, HB3, HI3⟩
            | false =>
              by_cases hpl : l0 < q
              · have hplz : (l0 : Int) < (q : Int) := Int.ofNat_lt.2 hpl
                have HOVr : ∀ w' : World, Is w' g l0 (s + k) q → Calls Try.prog 8 #[.pointer (some ⟨g, 0, none⟩)] w' (Gives (.bool true) w') := fun w' h9 => by
                  have h7 := HOV w' g (s + k) q h9 hq
                  rwa [decide_eq_true hpl] at h7
                go_wp2_with fail
                refine (HTL _ g (s + k) q HI.out).mono ?_
                rintro e w11 ⟨rfl, b⟩
                have HI2 := Lib.hid (S.keep HI.out (b.block _ (S.lt HI.out)))
                have HB2 := Lib.hid b
                clear b e0
                go_wp2_with fail
                refine (HOVr _ HI2.out).mono ?_
                rintro e w12 ⟨rfl, b⟩
                have HI3 := Lib.hid (S.keep HI2.out (b.block _ (S.lt HI2.out)))
                have HB3 := Lib.hid (below_then HB2.out b)
                clear b
                go_wp2
                go_meet
                exact ⟨rfl, HB3, HI3⟩
              · have hplz : ¬ (l0 : Int) < (q : Int) := fun h9 => hpl (Int.ofNat_lt.1 h9)
                have HOVr : ∀ w' : World, Is w' g l0 (s + k) q → Calls Try.prog 8 #[.pointer (some ⟨g, 0, none⟩)] w' (Gives (.bool false) w') := fun w' h9 => by
                  have h7 := HOV w' g (s + k) q h9 hq
                  rwa [decide_eq_false hpl] at h7
                go_wp2_with fail
                refine (HTL _ g (s + k) q HI.out).mono ?_
                rintro e w11 ⟨rfl, b⟩
                have HI2 := Lib.hid (S.keep HI.out (b.block _ (S.lt HI.out)))
                have HB2 := Lib.hid b
                clear b e0
                go_wp2_with fail
                refine (HOVr _ HI2.out).mono ?_
                rintro e w12 ⟨rfl, b⟩
                have HI3 := Lib.hid (S.keep HI2.out (b.block _ (S.lt HI2.out)))
                have HB3 := Lib.hid (below_then HB2.out b)
                clear b
                go_wp2
                go_meet
                exact ⟨rfl, HB3, HI3⟩
          case rest =>
            obtain ⟨rfl, HBc, HIc⟩ := hcut
            have HB9 := Lib.hid (below_then HB.out HBc.out)
            clear HBc HB HI e0 HQ
            go_wp2
            go_roundw
            case rel => exact ⟨i + 1, s + k, q, by omega, by first | rfl | go_num | (simp only [Value.int.injEq, true_and]; omega), rfl, by go_num, hsks, hq, HIc, HB9⟩
            case measure => simp [intOf]; omega
    · obtain rfl : i = n := by omega
      go_wp2_with fail
      refine (law13_works S FS _).mono ?_
      rintro e w6 ⟨rfl, b⟩
      replace HB := Lib.hid (below_then HB.out b)
      clear b
      go_wp2
      go_ret
      exact ⟨rfl, HB.out⟩
theorem law13_plays {Is : World → Nat → Nat → Nat → Nat → Prop} (S : GaugeSaid Is) (FS : FracSaid) (z : Int) (a : Option Addr) (n c : Nat) (LL : List (List Fx)) (w : World) (hz : isInt z) (h : Fxss w a n c LL) : Calls Try.prog 3 #[.int .i64 z, .slice a n c] w (Gives (.bool true) w) := by
  by_cases hn : n ≤ 20
  · exact law13_plays_few S FS z a n c LL w hz h hn
  · exact law13_plays_many S FS z a n c LL w hz h (by omega)
end Go.Proofs.Ytenaopppkkhmcaa
