/-
  Several texts of this claim as one, group 16.
-/
import Derived.Test.YtipcgehcineblaaG15
import Derived.BigRegion
import Derived.Lib.SliceRun
/-
  Package poly at this seat: Add, Sub.
-/
namespace Go.Proofs.Ytipcgehcineblaa
open Go.RowKit

theorem co_append (l m : List Rat) (i : Nat) : co (l ++ m) i = if i < l.length then co l i else co m (i - l.length) := by
  unfold co
  rw [List.getD_eq_getElem?_getD]
  split
  · rw [List.getElem?_append_left ‹_›, List.getD_eq_getElem?_getD]
  · rw [List.getElem?_append_right (by omega), List.getD_eq_getElem?_getD]
theorem co_drop (l : List Rat) (k i : Nat) : co (l.drop k) i = co l (k + i) := by
  unfold co
  rw [List.getD_eq_getElem?_getD, List.getElem?_drop, List.getD_eq_getElem?_getD]
theorem co_radd {l m : List Rat} (h : l.length = m.length) (i : Nat) : co (radd l m) i = co l i + co m i := by
  rcases Nat.lt_or_ge i l.length with h1 | h1
  · exact radd_getD h1 (by omega)
  · rw [co_far (by rw [radd_length _ _ h]; exact h1), co_far h1, co_far (by omega)]; grind
theorem fqs_drop (L : List Fx) (k : Nat) : fqs (L.drop k) = (fqs L).drop k := by unfold fqs; rw [List.map_drop]
/-- What Add lays together. -/
theorem add_parts {A B : List Rat} {n : Nat} (hn : n = min A.length B.length) : peq (radd (A.take n) (B.take n) ++ pnorm (A.drop n) ++ pnorm (B.drop n)) (padd A B) := fun i => by
  have h1 : (A.take n).length = n := by rw [List.length_take]; omega
  have h2 : (B.take n).length = n := by rw [List.length_take]; omega
  have h3 : (radd (A.take n) (B.take n)).length = n := by rw [radd_length _ _ (by omega), h1]
  have hor : A.drop n = [] ∨ B.drop n = [] := by
    rcases Nat.le_total A.length B.length with h | h
    · exact .inl (List.drop_eq_nil_of_le (by omega))
    · exact .inr (List.drop_eq_nil_of_le (by omega))
  rw [co_padd]
  rcases hor with h | h
  · have h4 : A.length ≤ n := by rwa [List.drop_eq_nil_iff] at h
    rw [h]
    rw [show radd (A.take n) (B.take n) ++ pnorm [] ++ pnorm (B.drop n) = radd (A.take n) (B.take n) ++ pnorm (B.drop n) from by rw [show pnorm [] = [] from rfl, List.append_nil], co_append, h3]
    split
    · rw [co_radd (by omega), co_take, co_take, if_pos ‹_›, if_pos ‹_›]
    · rw [pnorm_co, co_drop, show n + (i - n) = i by omega, co_far (l := A) (by omega)]; grind
  · have h4 : B.length ≤ n := by rwa [List.drop_eq_nil_iff] at h
    rw [h]
    rw [show radd (A.take n) (B.take n) ++ pnorm (A.drop n) ++ pnorm [] = radd (A.take n) (B.take n) ++ pnorm (A.drop n) from by rw [show pnorm [] = [] from rfl, List.append_nil], co_append, h3]
    split
    · rw [co_radd (by omega), co_take, co_take, if_pos ‹_›, if_pos ‹_›]
    · rw [pnorm_co, co_drop, show n + (i - n) = i by omega, co_far (l := B) (by omega)]; grind
theorem Fxs.tail {w : World} {aa : Addr} {k c : Nat} {L : List Fx} {r : Nat} (h : Fxs w (some aa) k c L) (hr : r ≤ k) : Fxs w (some (aa.add (r * 3))) (k - r) (c - r) (L.drop r) := by
  have h1 := h.bound
  have h2 := h.len
  rcases h.2.2.2.2.2 with h0 | ⟨b, off, e, hc⟩
  · exact ⟨by rw [List.length_drop]; omega, by omega, by omega, fun e => (by cases e), fun x hx => h.ok (List.mem_of_mem_drop hx), .inl (by omega)⟩
  · simp only [Option.some.injEq] at e
    subst e
    have h3 := Fxs.drop (q := r) (m := k - r) (by rw [Nat.add_sub_cancel' hr]; exact h)
    rw [Go.WideShapes.add_plain]
    exact h3
theorem Fxs.tail_end {w : World} {aa : Addr} {k c : Nat} {L : List Fx} {r : Nat} (h : Fxs w (some aa) k c L) (hr : r ≤ k) (hc : c = r) : Fxs w (some aa) (k - r) 0 (L.drop r) := by
  have h1 := h.bound
  have h2 := h.len
  exact ⟨by rw [List.length_drop]; omega, by omega, by omega, fun e => (by cases e), fun x hx => h.ok (List.mem_of_mem_drop hx), .inl (by omega)⟩
theorem Fxs.tail_none {w : World} {k c : Nat} {L : List Fx} {r : Nat} (h : Fxs w none k c L) (hr : r ≤ k) : Fxs w none (k - r) (c - r) (L.drop r) := by
  have h1 := h.bound
  have h2 := h.len
  have h3 := h.2.2.2.1 rfl
  exact ⟨by rw [List.length_drop]; omega, by omega, by omega, fun e => (by omega), fun x hx => h.ok (List.mem_of_mem_drop hx), .inl (by omega)⟩
set_option maxRecDepth 4096 in
set_option maxHeartbeats 8000000 in
theorem poly_add (a : Option Addr) (n c : Nat) (L : List Fx) (b : Option Addr) (m d : Nat) (M : List Fx) (w : World) (h : Fxs w a n c L) (k : Fxs w b m d M) (hn : n ≤ 300) (hm : m ≤ 300) (ht : thin 1000000000 L) (hu : thin 1000000000 M) : Calls Try.prog 14 #[.slice a n c, .slice b m d] w (LstRw (pnorm (padd (fqs L) (fqs M))) w) := by
  have hbd := h.bound
  have hbd2 := k.bound
  have hk1 := plen_fqs_le h
  have hk2 := plen_fqs_le k
  have HU1 : ∀ w' : World, Below w.heap.size w w' → Calls Try.prog 22 #[.slice a n c] w' (Gives (.slice a (plen (fqs L)) c) w') := fun w' hb => poly_used a n c L w' (h.later hb) (by omega) (ht.mono (by decide))
  have HU2 : ∀ w' : World, Below w.heap.size w w' → Calls Try.prog 22 #[.slice b m d] w' (Gives (.slice b (plen (fqs M)) d) w') := fun w' hb => poly_used b m d M w' (k.later hb) (by omega) (hu.mono (by decide))
  have HA := Lib.hid (h.take hk1)
  have HM := Lib.hid (k.take hk2)
  have TA := Lib.hid (thin_take ht (plen (fqs L)))
  have TM := Lib.hid (thin_take hu (plen (fqs M)))
  have QA : Hid (fqs (L.take (plen (fqs L))) = pnorm (fqs L)) := Lib.hid (fqs_used L)
  have QM : Hid (fqs (M.take (plen (fqs M))) = pnorm (fqs M)) := Lib.hid (fqs_used M)
  have hE : pnorm (padd (fqs L) (fqs M)) = pnorm (padd (pnorm (fqs L)) (pnorm (fqs M))) := pnorm_congr (padd_congr (pnorm_co _).symm (pnorm_co _).symm)
  rw [hE]
  clear hE
  generalize plen (fqs L) = k1 at *
  generalize plen (fqs M) = k2 at *
  obtain ⟨L1, hL1⟩ : ∃ L1, L.take k1 = L1 := ⟨_, rfl⟩
  obtain ⟨M1, hM1⟩ : ∃ M1, M.take k2 = M1 := ⟨_, rfl⟩
  rw [hL1] at HA TA QA
  rw [hM1] at HM TM QM
  rw [← QA.out, ← QM.out]
  obtain ⟨r, hr⟩ : ∃ r, min k1 k2 = r := ⟨_, rfl⟩
  have hr1 : r ≤ k1 := by omega
  have hr2 : r ≤ k2 := by omega
  have hmin : min (k1 : Int) (k2 : Int) = (r : Int) := by omega
  have hI1 : (r : Int) ≤ (k1 : Int) := by omega
  have hI2 : (r : Int) ≤ (k2 : Int) := by omega
  have hI3 : (r : Int) ≤ (c : Int) := by omega
  have hI4 : (r : Int) ≤ (d : Int) := by omega
  have HB := Lib.hid (Below.refl w.heap.size w)
  clear h k ht hu hL1 hM1 QA QM
  have HADD : ∀ w' : World, Fxs w' a r c (L1.take r) → Fxs w' b r d (M1.take r) → Calls Try.prog 29 #[.slice (some ⟨w'.heap.size, 0, none⟩) 2 2] (w'.alloc (.cells #[.slice a r c, .slice b r d] 29)) (LstRwV (radd (fqs (L1.take r)) (fqs (M1.take r))) (.bool true) (w'.alloc (.cells #[.slice a r c, .slice b r d] 29))) := fun w' h1 h2 => by
    refine row_add_even _ 2 2 [L1.take r, M1.take r] _ (Fxss.lit2 w' 29 h1 h2) (by omega) 1000000000 (by decide) (by decide) (fun X hX => ?_) (by omega) (fun x hx y hy => ?_)
    · simp only [List.mem_cons, List.not_mem_nil, or_false] at hX
      rcases hX with rfl | rfl
      · exact ⟨by rw [h1.len]; omega, thin_take TA.out r⟩
      · exact ⟨by rw [h2.len]; omega, thin_take TM.out r⟩
    · have e1 := h1.len
      have e2 := h2.len
      simp only [List.map_cons, List.map_nil, List.mem_cons, List.not_mem_nil, or_false] at hx hy
      rcases hx with rfl | rfl <;> rcases hy with rfl | rfl <;> simp only [fqs_length] <;> omega
  have FA : Hid (Fxs w a r c (L1.take r)) := Lib.hid (HA.out.take hr1)
  have FM : Hid (Fxs w b r d (M1.take r)) := Lib.hid (HM.out.take hr2)
  have PE : Hid (peq (radd (fqs (L1.take r)) (fqs (M1.take r)) ++ pnorm (fqs (L1.drop r)) ++ pnorm (fqs (M1.drop r))) (padd (fqs L1) (fqs M1))) := Lib.hid (by
    have h9 := add_parts (A := fqs L1) (B := fqs M1) (n := r) (by rw [fqs_length, fqs_length, HA.out.len, HM.out.len, hr])
    rwa [← fqs_take, ← fqs_take, ← fqs_drop, ← fqs_drop] at h9)
  have DA : Hid (thin 1000000000 (L1.drop r)) := Lib.hid (fun x hx => TA.out x (List.mem_of_mem_drop hx))
  have DM : Hid (thin 1000000000 (M1.drop r)) := Lib.hid (fun x hx => TM.out x (List.mem_of_mem_drop hx))
  have QS : Hid (∀ q ∈ radd (fqs (L1.take r)) (fqs (M1.take r)) ++ pnorm (fqs (L1.drop r)) ++ pnorm (fqs (M1.drop r)), qlen q ≤ 2097152000) := Lib.hid (by
    have h1 := TA.out.qs HA.out.oks
    have h2 := TM.out.qs HM.out.oks
    intro q hq
    obtain ⟨i, hi, rfl⟩ := List.getElem_of_mem hq
    have h3 := PE.out i
    rw [co_padd] at h3
    have h4 : co (radd (fqs (L1.take r)) (fqs (M1.take r)) ++ pnorm (fqs (L1.drop r)) ++ pnorm (fqs (M1.drop r))) i = (radd (fqs (L1.take r)) (fqs (M1.take r)) ++ pnorm (fqs (L1.drop r)) ++ pnorm (fqs (M1.drop r)))[i] := by
      unfold co
      rw [List.getD_eq_getElem?_getD, List.getElem?_eq_getElem hi]; rfl
    rw [← h4, h3]
    have h5 := qlen_add (co (fqs L1) i) (co (fqs M1) i)
    have h6 := qlen_co (by decide) h1 i
    have h7 := qlen_co (by decide) h2 i
    omega)
  have LS : Hid ((radd (fqs (L1.take r)) (fqs (M1.take r)) ++ pnorm (fqs (L1.drop r)) ++ pnorm (fqs (M1.drop r))).length ≤ 1000) := Lib.hid (by
    rw [List.length_append, List.length_append, radd_length _ _ (by rw [fqs_length, fqs_length, FA.out.len, FM.out.len]), fqs_length, FA.out.len]
    have h1 := pnorm_length_le (fqs (L1.drop r))
    have h2 := pnorm_length_le (fqs (M1.drop r))
    rw [fqs_length, List.length_drop, HA.out.len] at h1
    rw [fqs_length, List.length_drop, HM.out.len] at h2
    omega)
  have HN1 : ∀ (w' : World) (a' : Option Addr) (c' : Nat), Fxs w' a' (k1 - r) c' (L1.drop r) → Calls Try.prog 31 #[.slice a' (k1 - r) c'] w' (LstRw (pnorm (fqs (L1.drop r))) w') := fun w' a' c' h9 => poly_norm a' _ c' _ w' h9 (by omega) (DA.out.mono (by decide))
  have HN2 : ∀ (w' : World) (a' : Option Addr) (c' : Nat), Fxs w' a' (k2 - r) c' (M1.drop r) → Calls Try.prog 31 #[.slice a' (k2 - r) c'] w' (LstRw (pnorm (fqs (M1.drop r))) w') := fun w' a' c' h9 => poly_norm a' _ c' _ w' h9 (by omega) (DM.out.mono (by decide))
  have hS : (radd (fqs (L1.take r)) (fqs (M1.take r))).length ≤ 300 := by
    rw [radd_length _ _ (by rw [fqs_length, fqs_length, FA.out.len, FM.out.len]), fqs_length, FA.out.len]; omega
  have hPA : (pnorm (fqs (L1.drop r))).length ≤ 300 := by
    have h1 := pnorm_length_le (fqs (L1.drop r))
    rw [fqs_length, List.length_drop, HA.out.len] at h1
    omega
  have hPB : (pnorm (fqs (M1.drop r))).length ≤ 300 := by
    have h1 := pnorm_length_le (fqs (M1.drop r))
    rw [fqs_length, List.length_drop, HM.out.len] at h1
    omega
  rw [← pnorm_congr PE.out]
  clear hr PE
  generalize radd (fqs (L1.take r)) (fqs (M1.take r)) = SS at *
  generalize pnorm (fqs (L1.drop r)) = PA at *
  generalize pnorm (fqs (M1.drop r)) = PB at *
  have HCC : ∀ (w' : World) (a4 : Option Addr) (n4 c4 : Nat) (a5 : Option Addr) (n5 c5 : Nat) (a6 : Option Addr) (n6 c6 : Nat), Rw w' a4 n4 c4 SS → Rw w' a5 n5 c5 PA → Rw w' a6 n6 c6 PB → Calls Try.prog 30 #[.slice (some ⟨w'.heap.size, 0, none⟩) 3 3] (w'.alloc (.cells #[.slice a4 n4 c4, .slice a5 n5 c5, .slice a6 n6 c6] 29)) (LstRw (SS ++ PA ++ PB) w') := fun w' a4 n4 c4 a5 n5 c5 a6 n6 c6 h4 h5 h6 => by
    obtain ⟨L4, x4, y4, z4⟩ := h4
    obtain ⟨L5, x5, y5, z5⟩ := h5
    obtain ⟨L6, x6, y6, z6⟩ := h6
    refine (fr_concat _ 3 3 [L4, L5, L6] _ (Fxss.lit3 w' 29 x4 x5 x6) (by omega) (fun X hX => ?_) (fun X hX => ?_)).mono fun e w2 h9 => ?_
    · simp only [List.mem_cons, List.not_mem_nil, or_false] at hX
      rcases hX with rfl | rfl | rfl
      · rw [← y4, List.length_map] at hS; exact hS
      · rw [← y5, List.length_map] at hPA; exact hPA
      · rw [← y6, List.length_map] at hPB; exact hPB
    · simp only [List.mem_cons, List.not_mem_nil, or_false] at hX
      rcases hX with rfl | rfl | rfl <;> assumption
    · obtain ⟨a7, n7, c7, e7, h7, b7⟩ := h9.out
      refine ⟨a7, n7, c7, e7, ?_, below_then (below_alloc _ _) b7⟩
      rwa [show fqs [L4, L5, L6].flatten = SS ++ PA ++ PB by rw [← y4, ← y5, ← y6]; unfold fqs; simp] at h7
  have HUR : ∀ (w' : World) (a' : Option Addr) (n' c' : Nat), Rw w' a' n' c' (SS ++ PA ++ PB) → Calls Try.prog 22 #[.slice a' n' c'] w' (fun e w'' => e = .returned (.slice a' (plen (SS ++ PA ++ PB)) c') ∧ Rw w'' a' (plen (SS ++ PA ++ PB)) c' (pnorm (SS ++ PA ++ PB)) ∧ Below w'.heap.size w' w'') := fun w' a' n' c' h9 => poly_used_rw a' n' c' _ w' h9 (by rw [← h9.len]; exact LS.out) QS.out
  generalize plen (SS ++ PA ++ PB) = k9 at *
  generalize pnorm (SS ++ PA ++ PB) = RR at *
  clear hS hPA hPB LS QS DA DM TA TM
  rcases a with _ | aa <;> rcases b with _ | bb
  · skip
    have XA := Lib.hid (HA.out.tail_none hr1)
    have XB := Lib.hid (HM.out.tail_none hr2)
    go_enter Try.func14, Try.ntmps14
    go_wp2_with fail
    refine (HU1 _ HB.out).mono ?_
    rintro e w1 ⟨rfl, bw⟩
    replace HB := Lib.hid (below_then HB.out bw)
    clear bw HU1
    go_wp2_with fail
    refine (HU2 _ HB.out).mono ?_
    rintro e w1 ⟨rfl, bw⟩
    replace HB := Lib.hid (below_then HB.out bw)
    clear bw HU2
    go_wp2
    have b0 : Below w1.heap.size w1 w1.drew := (Below.refl _ _).drew
    have HBd := Lib.hid (below_then HB.out b0)
    have HC := Lib.hid (HADD w1.drew (FA.out.later HBd.out) (FM.out.later HBd.out))
    have ba := below_alloc w1.drew (.cells #[.slice none r c, .slice none r d] 29)
    have HB6 := Lib.hid (below_then HBd.out ba)
    clear b0 ba HBd HB HADD FA FM
    go_region_with (first
      | (go_at_call 29; refine (HC.out).mono ?_; rintro e w4 ⟨a4, n4, c4, rfl, h4, bw⟩; have HB := Lib.hid (below_then HB6.out bw); have H4 := Lib.hid h4; clear bw h4 HC HB6))
    all_goals (
      go_wp2
      replace XA := Lib.hid (XA.out.later HB.out)
      replace XB := Lib.hid (XB.out.later HB.out)
      replace HB := Lib.hid (below_then HB.out ((Below.refl _ _).drew : Below w4.heap.size w4 w4.drew))
      replace XA := Lib.hid (XA.out.later ((Below.refl _ _).drew : Below w4.heap.size w4 w4.drew))
      replace XB := Lib.hid (XB.out.later ((Below.refl _ _).drew : Below w4.heap.size w4 w4.drew))
      replace H4 := Lib.hid (H4.out.later ((Below.refl _ _).drew : Below w4.heap.size w4 w4.drew))
      first | go_region_with (first
        | (go_at_call 31; (first
          | (have pm1 := pM1; refine (HN2 _ none (d - r) XB.out).mono ?_; rintro e wp2 ⟨a6, n6, c6, rfl, h, b⟩; replace HB := Lib.hid (below_then HB.out b); replace XA := Lib.hid (XA.out.later b); replace XB := Lib.hid (XB.out.later b); replace H4 := Lib.hid (H4.out.later b); replace R5 := Lib.hid (R5.out.later b); have R6 := Lib.hid h; clear h; clear b; clear pM1 pm1; have pM2 := True.intro)
          | (refine (HN1 _ none (c - r) XA.out).mono ?_; rintro e wp1 ⟨a5, n5, c5, rfl, h, b⟩; replace HB := Lib.hid (below_then HB.out b); replace XA := Lib.hid (XA.out.later b); replace XB := Lib.hid (XB.out.later b); replace H4 := Lib.hid (H4.out.later b); have R5 := Lib.hid h; clear h; clear b; have pM1 := True.intro)))
        | (go_at_call 30; (first
          | (have pm2 := pM2; refine (HCC _ a4 n4 c4 a5 n5 c5 a6 n6 c6 H4.out R5.out R6.out).mono ?_; rintro e wp3 ⟨a7, n7, c7, rfl, h, b⟩; replace HB := Lib.hid (below_then HB.out b); replace XA := Lib.hid (XA.out.later b); replace XB := Lib.hid (XB.out.later b); replace H4 := Lib.hid (H4.out.later b); clear R5; clear R6; have R7 := Lib.hid h; clear h; clear b; clear pM2 pm2; have pM3 := True.intro)))
        | (go_at_call 22; (first
          | (have pm3 := pM3; refine (HUR _ a7 n7 c7 R7.out).mono ?_; rintro e wp4 ⟨rfl, h, b⟩; replace HB := Lib.hid (below_then HB.out b); replace XA := Lib.hid (XA.out.later b); replace XB := Lib.hid (XB.out.later b); replace H4 := Lib.hid (H4.out.later b); clear R7; have R8 := Lib.hid h; clear h; clear b; clear pM3 pm3; have pM4 := True.intro)))) | fail
      all_goals (
        go_wp2
        go_ret
        exact ⟨a7, k9, c7, rfl, R8.out, HB.out⟩))
  · by_cases hd1 : d = r
    · skip
      obtain rfl : r = d := hd1.symm
      have XA := Lib.hid (HA.out.tail_none hr1)
      have XB := Lib.hid (HM.out.tail_end hr2 rfl)
      go_enter Try.func14, Try.ntmps14
      go_wp2_with fail
      refine (HU1 _ HB.out).mono ?_
      rintro e w1 ⟨rfl, bw⟩
      replace HB := Lib.hid (below_then HB.out bw)
      clear bw HU1
      go_wp2_with fail
      refine (HU2 _ HB.out).mono ?_
      rintro e w1 ⟨rfl, bw⟩
      replace HB := Lib.hid (below_then HB.out bw)
      clear bw HU2
      go_wp2
      have b0 : Below w1.heap.size w1 w1.drew := (Below.refl _ _).drew
      have HBd := Lib.hid (below_then HB.out b0)
      have HC := Lib.hid (HADD w1.drew (FA.out.later HBd.out) (FM.out.later HBd.out))
      have ba := below_alloc w1.drew (.cells #[.slice none r c, .slice (some bb) r r] 29)
      have HB6 := Lib.hid (below_then HBd.out ba)
      clear b0 ba HBd HB HADD FA FM
      go_region_with (first
        | (go_at_call 29; refine (HC.out).mono ?_; rintro e w4 ⟨a4, n4, c4, rfl, h4, bw⟩; have HB := Lib.hid (below_then HB6.out bw); have H4 := Lib.hid h4; clear bw h4 HC HB6))
      all_goals (
        go_wp2
        replace XA := Lib.hid (XA.out.later HB.out)
        replace XB := Lib.hid (XB.out.later HB.out)
        replace HB := Lib.hid (below_then HB.out ((Below.refl _ _).drew : Below w4.heap.size w4 w4.drew))
        replace XA := Lib.hid (XA.out.later ((Below.refl _ _).drew : Below w4.heap.size w4 w4.drew))
        replace XB := Lib.hid (XB.out.later ((Below.refl _ _).drew : Below w4.heap.size w4 w4.drew))
        replace H4 := Lib.hid (H4.out.later ((Below.refl _ _).drew : Below w4.heap.size w4 w4.drew))
        first | go_region_with (first
          | (go_at_call 31; (first
            | (have pm1 := pM1; refine (HN2 _ (some bb) 0 XB.out).mono ?_; rintro e wp2 ⟨a6, n6, c6, rfl, h, b⟩; replace HB := Lib.hid (below_then HB.out b); replace XA := Lib.hid (XA.out.later b); replace XB := Lib.hid (XB.out.later b); replace H4 := Lib.hid (H4.out.later b); replace R5 := Lib.hid (R5.out.later b); have R6 := Lib.hid h; clear h; clear b; clear pM1 pm1; have pM2 := True.intro)
            | (refine (HN1 _ none (c - r) XA.out).mono ?_; rintro e wp1 ⟨a5, n5, c5, rfl, h, b⟩; replace HB := Lib.hid (below_then HB.out b); replace XA := Lib.hid (XA.out.later b); replace XB := Lib.hid (XB.out.later b); replace H4 := Lib.hid (H4.out.later b); have R5 := Lib.hid h; clear h; clear b; have pM1 := True.intro)))
          | (go_at_call 30; (first
            | (have pm2 := pM2; refine (HCC _ a4 n4 c4 a5 n5 c5 a6 n6 c6 H4.out R5.out R6.out).mono ?_; rintro e wp3 ⟨a7, n7, c7, rfl, h, b⟩; replace HB := Lib.hid (below_then HB.out b); replace XA := Lib.hid (XA.out.later b); replace XB := Lib.hid (XB.out.later b); replace H4 := Lib.hid (H4.out.later b); clear R5; clear R6; have R7 := Lib.hid h; clear h; clear b; clear pM2 pm2; have pM3 := True.intro)))
          | (go_at_call 22; (first
            | (have pm3 := pM3; refine (HUR _ a7 n7 c7 R7.out).mono ?_; rintro e wp4 ⟨rfl, h, b⟩; replace HB := Lib.hid (below_then HB.out b); replace XA := Lib.hid (XA.out.later b); replace XB := Lib.hid (XB.out.later b); replace H4 := Lib.hid (H4.out.later b); clear R7; have R8 := Lib.hid h; clear h; clear b; clear pM3 pm3; have pM4 := True.intro)))) | fail
        all_goals (
          go_wp2
          go_ret
          exact ⟨a7, k9, c7, rfl, R8.out, HB.out⟩))
    · skip
      have XA := Lib.hid (HA.out.tail_none hr1)
      have XB := Lib.hid (HM.out.tail hr2)
      go_enter Try.func14, Try.ntmps14
      go_wp2_with fail
      refine (HU1 _ HB.out).mono ?_
      rintro e w1 ⟨rfl, bw⟩
      replace HB := Lib.hid (below_then HB.out bw)
      clear bw HU1
      go_wp2_with fail
      refine (HU2 _ HB.out).mono ?_
      rintro e w1 ⟨rfl, bw⟩
      replace HB := Lib.hid (below_then HB.out bw)
      clear bw HU2
      go_wp2
      have b0 : Below w1.heap.size w1 w1.drew := (Below.refl _ _).drew
      have HBd := Lib.hid (below_then HB.out b0)
      have HC := Lib.hid (HADD w1.drew (FA.out.later HBd.out) (FM.out.later HBd.out))
      have ba := below_alloc w1.drew (.cells #[.slice none r c, .slice (some bb) r d] 29)
      have HB6 := Lib.hid (below_then HBd.out ba)
      clear b0 ba HBd HB HADD FA FM
      go_region_with (first
        | (go_at_call 29; refine (HC.out).mono ?_; rintro e w4 ⟨a4, n4, c4, rfl, h4, bw⟩; have HB := Lib.hid (below_then HB6.out bw); have H4 := Lib.hid h4; clear bw h4 HC HB6))
      all_goals (
        go_wp2
        replace XA := Lib.hid (XA.out.later HB.out)
        replace XB := Lib.hid (XB.out.later HB.out)
        replace HB := Lib.hid (below_then HB.out ((Below.refl _ _).drew : Below w4.heap.size w4 w4.drew))
        replace XA := Lib.hid (XA.out.later ((Below.refl _ _).drew : Below w4.heap.size w4 w4.drew))
        replace XB := Lib.hid (XB.out.later ((Below.refl _ _).drew : Below w4.heap.size w4 w4.drew))
        replace H4 := Lib.hid (H4.out.later ((Below.refl _ _).drew : Below w4.heap.size w4 w4.drew))
        first | go_region_with (first
          | (go_at_call 31; (first
            | (have pm1 := pM1; refine (HN2 _ (some (bb.add (r * 3))) (d - r) XB.out).mono ?_; rintro e wp2 ⟨a6, n6, c6, rfl, h, b⟩; replace HB := Lib.hid (below_then HB.out b); replace XA := Lib.hid (XA.out.later b); replace XB := Lib.hid (XB.out.later b); replace H4 := Lib.hid (H4.out.later b); replace R5 := Lib.hid (R5.out.later b); have R6 := Lib.hid h; clear h; clear b; clear pM1 pm1; have pM2 := True.intro)
            | (refine (HN1 _ none (c - r) XA.out).mono ?_; rintro e wp1 ⟨a5, n5, c5, rfl, h, b⟩; replace HB := Lib.hid (below_then HB.out b); replace XA := Lib.hid (XA.out.later b); replace XB := Lib.hid (XB.out.later b); replace H4 := Lib.hid (H4.out.later b); have R5 := Lib.hid h; clear h; clear b; have pM1 := True.intro)))
          | (go_at_call 30; (first
            | (have pm2 := pM2; refine (HCC _ a4 n4 c4 a5 n5 c5 a6 n6 c6 H4.out R5.out R6.out).mono ?_; rintro e wp3 ⟨a7, n7, c7, rfl, h, b⟩; replace HB := Lib.hid (below_then HB.out b); replace XA := Lib.hid (XA.out.later b); replace XB := Lib.hid (XB.out.later b); replace H4 := Lib.hid (H4.out.later b); clear R5; clear R6; have R7 := Lib.hid h; clear h; clear b; clear pM2 pm2; have pM3 := True.intro)))
          | (go_at_call 22; (first
            | (have pm3 := pM3; refine (HUR _ a7 n7 c7 R7.out).mono ?_; rintro e wp4 ⟨rfl, h, b⟩; replace HB := Lib.hid (below_then HB.out b); replace XA := Lib.hid (XA.out.later b); replace XB := Lib.hid (XB.out.later b); replace H4 := Lib.hid (H4.out.later b); clear R7; have R8 := Lib.hid h; clear h; clear b; clear pM3 pm3; have pM4 := True.intro)))) | fail
        all_goals (
          go_wp2
          go_ret
          exact ⟨a7, k9, c7, rfl, R8.out, HB.out⟩))
  · by_cases hc1 : c = r
    · skip
      obtain rfl : r = c := hc1.symm
      have XA := Lib.hid (HA.out.tail_end hr1 rfl)
      have XB := Lib.hid (HM.out.tail_none hr2)
      go_enter Try.func14, Try.ntmps14
      go_wp2_with fail
      refine (HU1 _ HB.out).mono ?_
      rintro e w1 ⟨rfl, bw⟩
      replace HB := Lib.hid (below_then HB.out bw)
      clear bw HU1
      go_wp2_with fail
      refine (HU2 _ HB.out).mono ?_
      rintro e w1 ⟨rfl, bw⟩
      replace HB := Lib.hid (below_then HB.out bw)
      clear bw HU2
      go_wp2
      have b0 : Below w1.heap.size w1 w1.drew := (Below.refl _ _).drew
      have HBd := Lib.hid (below_then HB.out b0)
      have HC := Lib.hid (HADD w1.drew (FA.out.later HBd.out) (FM.out.later HBd.out))
      have ba := below_alloc w1.drew (.cells #[.slice (some aa) r r, .slice none r d] 29)
      have HB6 := Lib.hid (below_then HBd.out ba)
      clear b0 ba HBd HB HADD FA FM
      go_region_with (first
        | (go_at_call 29; refine (HC.out).mono ?_; rintro e w4 ⟨a4, n4, c4, rfl, h4, bw⟩; have HB := Lib.hid (below_then HB6.out bw); have H4 := Lib.hid h4; clear bw h4 HC HB6))
      all_goals (
        go_wp2
        replace XA := Lib.hid (XA.out.later HB.out)
        replace XB := Lib.hid (XB.out.later HB.out)
        replace HB := Lib.hid (below_then HB.out ((Below.refl _ _).drew : Below w4.heap.size w4 w4.drew))
        replace XA := Lib.hid (XA.out.later ((Below.refl _ _).drew : Below w4.heap.size w4 w4.drew))
        replace XB := Lib.hid (XB.out.later ((Below.refl _ _).drew : Below w4.heap.size w4 w4.drew))
        replace H4 := Lib.hid (H4.out.later ((Below.refl _ _).drew : Below w4.heap.size w4 w4.drew))
        first | go_region_with (first
          | (go_at_call 31; (first
            | (have pm1 := pM1; refine (HN2 _ none (d - r) XB.out).mono ?_; rintro e wp2 ⟨a6, n6, c6, rfl, h, b⟩; replace HB := Lib.hid (below_then HB.out b); replace XA := Lib.hid (XA.out.later b); replace XB := Lib.hid (XB.out.later b); replace H4 := Lib.hid (H4.out.later b); replace R5 := Lib.hid (R5.out.later b); have R6 := Lib.hid h; clear h; clear b; clear pM1 pm1; have pM2 := True.intro)
            | (refine (HN1 _ (some aa) 0 XA.out).mono ?_; rintro e wp1 ⟨a5, n5, c5, rfl, h, b⟩; replace HB := Lib.hid (below_then HB.out b); replace XA := Lib.hid (XA.out.later b); replace XB := Lib.hid (XB.out.later b); replace H4 := Lib.hid (H4.out.later b); have R5 := Lib.hid h; clear h; clear b; have pM1 := True.intro)))
          | (go_at_call 30; (first
            | (have pm2 := pM2; refine (HCC _ a4 n4 c4 a5 n5 c5 a6 n6 c6 H4.out R5.out R6.out).mono ?_; rintro e wp3 ⟨a7, n7, c7, rfl, h, b⟩; replace HB := Lib.hid (below_then HB.out b); replace XA := Lib.hid (XA.out.later b); replace XB := Lib.hid (XB.out.later b); replace H4 := Lib.hid (H4.out.later b); clear R5; clear R6; have R7 := Lib.hid h; clear h; clear b; clear pM2 pm2; have pM3 := True.intro)))
          | (go_at_call 22; (first
            | (have pm3 := pM3; refine (HUR _ a7 n7 c7 R7.out).mono ?_; rintro e wp4 ⟨rfl, h, b⟩; replace HB := Lib.hid (below_then HB.out b); replace XA := Lib.hid (XA.out.later b); replace XB := Lib.hid (XB.out.later b); replace H4 := Lib.hid (H4.out.later b); clear R7; have R8 := Lib.hid h; clear h; clear b; clear pM3 pm3; have pM4 := True.intro)))) | fail
        all_goals (
          go_wp2
          go_ret
          exact ⟨a7, k9, c7, rfl, R8.out, HB.out⟩))
    · skip
      have XA := Lib.hid (HA.out.tail hr1)
      have XB := Lib.hid (HM.out.tail_none hr2)
      go_enter Try.func14, Try.ntmps14
      go_wp2_with fail
      refine (HU1 _ HB.out).mono ?_
      rintro e w1 ⟨rfl, bw⟩
      replace HB := Lib.hid (below_then HB.out bw)
      clear bw HU1
      go_wp2_with fail
      refine (HU2 _ HB.out).mono ?_
      rintro e w1 ⟨rfl, bw⟩
      replace HB := Lib.hid (below_then HB.out bw)
      clear bw HU2
      go_wp2
      have b0 : Below w1.heap.size w1 w1.drew := (Below.refl _ _).drew
      have HBd := Lib.hid (below_then HB.out b0)
      have HC := Lib.hid (HADD w1.drew (FA.out.later HBd.out) (FM.out.later HBd.out))
      have ba := below_alloc w1.drew (.cells #[.slice (some aa) r c, .slice none r d] 29)
      have HB6 := Lib.hid (below_then HBd.out ba)
      clear b0 ba HBd HB HADD FA FM
      go_region_with (first
        | (go_at_call 29; refine (HC.out).mono ?_; rintro e w4 ⟨a4, n4, c4, rfl, h4, bw⟩; have HB := Lib.hid (below_then HB6.out bw); have H4 := Lib.hid h4; clear bw h4 HC HB6))
      all_goals (
        go_wp2
        replace XA := Lib.hid (XA.out.later HB.out)
        replace XB := Lib.hid (XB.out.later HB.out)
        replace HB := Lib.hid (below_then HB.out ((Below.refl _ _).drew : Below w4.heap.size w4 w4.drew))
        replace XA := Lib.hid (XA.out.later ((Below.refl _ _).drew : Below w4.heap.size w4 w4.drew))
        replace XB := Lib.hid (XB.out.later ((Below.refl _ _).drew : Below w4.heap.size w4 w4.drew))
        replace H4 := Lib.hid (H4.out.later ((Below.refl _ _).drew : Below w4.heap.size w4 w4.drew))
        first | go_region_with (first
          | (go_at_call 31; (first
            | (have pm1 := pM1; refine (HN2 _ none (d - r) XB.out).mono ?_; rintro e wp2 ⟨a6, n6, c6, rfl, h, b⟩; replace HB := Lib.hid (below_then HB.out b); replace XA := Lib.hid (XA.out.later b); replace XB := Lib.hid (XB.out.later b); replace H4 := Lib.hid (H4.out.later b); replace R5 := Lib.hid (R5.out.later b); have R6 := Lib.hid h; clear h; clear b; clear pM1 pm1; have pM2 := True.intro)
            | (refine (HN1 _ (some (aa.add (r * 3))) (c - r) XA.out).mono ?_; rintro e wp1 ⟨a5, n5, c5, rfl, h, b⟩; replace HB := Lib.hid (below_then HB.out b); replace XA := Lib.hid (XA.out.later b); replace XB := Lib.hid (XB.out.later b); replace H4 := Lib.hid (H4.out.later b); have R5 := Lib.hid h; clear h; clear b; have pM1 := True.intro)))
          | (go_at_call 30; (first
            | (have pm2 := pM2; refine (HCC _ a4 n4 c4 a5 n5 c5 a6 n6 c6 H4.out R5.out R6.out).mono ?_; rintro e wp3 ⟨a7, n7, c7, rfl, h, b⟩; replace HB := Lib.hid (below_then HB.out b); replace XA := Lib.hid (XA.out.later b); replace XB := Lib.hid (XB.out.later b); replace H4 := Lib.hid (H4.out.later b); clear R5; clear R6; have R7 := Lib.hid h; clear h; clear b; clear pM2 pm2; have pM3 := True.intro)))
          | (go_at_call 22; (first
            | (have pm3 := pM3; refine (HUR _ a7 n7 c7 R7.out).mono ?_; rintro e wp4 ⟨rfl, h, b⟩; replace HB := Lib.hid (below_then HB.out b); replace XA := Lib.hid (XA.out.later b); replace XB := Lib.hid (XB.out.later b); replace H4 := Lib.hid (H4.out.later b); clear R7; have R8 := Lib.hid h; clear h; clear b; clear pM3 pm3; have pM4 := True.intro)))) | fail
        all_goals (
          go_wp2
          go_ret
          exact ⟨a7, k9, c7, rfl, R8.out, HB.out⟩))
  · by_cases hc1 : c = r <;> by_cases hd1 : d = r
    · skip
      obtain rfl : r = c := hc1.symm
      obtain rfl : r = d := hd1.symm
      have XA := Lib.hid (HA.out.tail_end hr1 rfl)
      have XB := Lib.hid (HM.out.tail_end hr2 rfl)
      go_enter Try.func14, Try.ntmps14
      go_wp2_with fail
      refine (HU1 _ HB.out).mono ?_
      rintro e w1 ⟨rfl, bw⟩
      replace HB := Lib.hid (below_then HB.out bw)
      clear bw HU1
      go_wp2_with fail
      refine (HU2 _ HB.out).mono ?_
      rintro e w1 ⟨rfl, bw⟩
      replace HB := Lib.hid (below_then HB.out bw)
      clear bw HU2
      go_wp2
      have b0 : Below w1.heap.size w1 w1.drew := (Below.refl _ _).drew
      have HBd := Lib.hid (below_then HB.out b0)
      have HC := Lib.hid (HADD w1.drew (FA.out.later HBd.out) (FM.out.later HBd.out))
      have ba := below_alloc w1.drew (.cells #[.slice (some aa) r r, .slice (some bb) r r] 29)
      have HB6 := Lib.hid (below_then HBd.out ba)
      clear b0 ba HBd HB HADD FA FM
      go_region_with (first
        | (go_at_call 29; refine (HC.out).mono ?_; rintro e w4 ⟨a4, n4, c4, rfl, h4, bw⟩; have HB := Lib.hid (below_then HB6.out bw); have H4 := Lib.hid h4; clear bw h4 HC HB6))
      all_goals (
        go_wp2
        replace XA := Lib.hid (XA.out.later HB.out)
        replace XB := Lib.hid (XB.out.later HB.out)
        replace HB := Lib.hid (below_then HB.out ((Below.refl _ _).drew : Below w4.heap.size w4 w4.drew))
        replace XA := Lib.hid (XA.out.later ((Below.refl _ _).drew : Below w4.heap.size w4 w4.drew))
        replace XB := Lib.hid (XB.out.later ((Below.refl _ _).drew : Below w4.heap.size w4 w4.drew))
        replace H4 := Lib.hid (H4.out.later ((Below.refl _ _).drew : Below w4.heap.size w4 w4.drew))
        first | go_region_with (first
          | (go_at_call 31; (first
            | (have pm1 := pM1; refine (HN2 _ (some bb) 0 XB.out).mono ?_; rintro e wp2 ⟨a6, n6, c6, rfl, h, b⟩; replace HB := Lib.hid (below_then HB.out b); replace XA := Lib.hid (XA.out.later b); replace XB := Lib.hid (XB.out.later b); replace H4 := Lib.hid (H4.out.later b); replace R5 := Lib.hid (R5.out.later b); have R6 := Lib.hid h; clear h; clear b; clear pM1 pm1; have pM2 := True.intro)
            | (refine (HN1 _ (some aa) 0 XA.out).mono ?_; rintro e wp1 ⟨a5, n5, c5, rfl, h, b⟩; replace HB := Lib.hid (below_then HB.out b); replace XA := Lib.hid (XA.out.later b); replace XB := Lib.hid (XB.out.later b); replace H4 := Lib.hid (H4.out.later b); have R5 := Lib.hid h; clear h; clear b; have pM1 := True.intro)))
          | (go_at_call 30; (first
            | (have pm2 := pM2; refine (HCC _ a4 n4 c4 a5 n5 c5 a6 n6 c6 H4.out R5.out R6.out).mono ?_; rintro e wp3 ⟨a7, n7, c7, rfl, h, b⟩; replace HB := Lib.hid (below_then HB.out b); replace XA := Lib.hid (XA.out.later b); replace XB := Lib.hid (XB.out.later b); replace H4 := Lib.hid (H4.out.later b); clear R5; clear R6; have R7 := Lib.hid h; clear h; clear b; clear pM2 pm2; have pM3 := True.intro)))
          | (go_at_call 22; (first
            | (have pm3 := pM3; refine (HUR _ a7 n7 c7 R7.out).mono ?_; rintro e wp4 ⟨rfl, h, b⟩; replace HB := Lib.hid (below_then HB.out b); replace XA := Lib.hid (XA.out.later b); replace XB := Lib.hid (XB.out.later b); replace H4 := Lib.hid (H4.out.later b); clear R7; have R8 := Lib.hid h; clear h; clear b; clear pM3 pm3; have pM4 := True.intro)))) | fail
        all_goals (
          go_wp2
          go_ret
          exact ⟨a7, k9, c7, rfl, R8.out, HB.out⟩))
    · skip
      obtain rfl : r = c := hc1.symm
      have XA := Lib.hid (HA.out.tail_end hr1 rfl)
      have XB := Lib.hid (HM.out.tail hr2)
      go_enter Try.func14, Try.ntmps14
      go_wp2_with fail
      refine (HU1 _ HB.out).mono ?_
      rintro e w1 ⟨rfl, bw⟩
      replace HB := Lib.hid (below_then HB.out bw)
      clear bw HU1
      go_wp2_with fail
      refine (HU2 _ HB.out).mono ?_
      rintro e w1 ⟨rfl, bw⟩
      replace HB := Lib.hid (below_then HB.out bw)
      clear bw HU2
      go_wp2
      have b0 : Below w1.heap.size w1 w1.drew := (Below.refl _ _).drew
      have HBd := Lib.hid (below_then HB.out b0)
      have HC := Lib.hid (HADD w1.drew (FA.out.later HBd.out) (FM.out.later HBd.out))
      have ba := below_alloc w1.drew (.cells #[.slice (some aa) r r, .slice (some bb) r d] 29)
      have HB6 := Lib.hid (below_then HBd.out ba)
      clear b0 ba HBd HB HADD FA FM
      go_region_with (first
        | (go_at_call 29; refine (HC.out).mono ?_; rintro e w4 ⟨a4, n4, c4, rfl, h4, bw⟩; have HB := Lib.hid (below_then HB6.out bw); have H4 := Lib.hid h4; clear bw h4 HC HB6))
      all_goals (
        go_wp2
        replace XA := Lib.hid (XA.out.later HB.out)
        replace XB := Lib.hid (XB.out.later HB.out)
        replace HB := Lib.hid (below_then HB.out ((Below.refl _ _).drew : Below w4.heap.size w4 w4.drew))
        replace XA := Lib.hid (XA.out.later ((Below.refl _ _).drew : Below w4.heap.size w4 w4.drew))
        replace XB := Lib.hid (XB.out.later ((Below.refl _ _).drew : Below w4.heap.size w4 w4.drew))
        replace H4 := Lib.hid (H4.out.later ((Below.refl _ _).drew : Below w4.heap.size w4 w4.drew))
        first | go_region_with (first
          | (go_at_call 31; (first
            | (have pm1 := pM1; refine (HN2 _ (some (bb.add (r * 3))) (d - r) XB.out).mono ?_; rintro e wp2 ⟨a6, n6, c6, rfl, h, b⟩; replace HB := Lib.hid (below_then HB.out b); replace XA := Lib.hid (XA.out.later b); replace XB := Lib.hid (XB.out.later b); replace H4 := Lib.hid (H4.out.later b); replace R5 := Lib.hid (R5.out.later b); have R6 := Lib.hid h; clear h; clear b; clear pM1 pm1; have pM2 := True.intro)
            | (refine (HN1 _ (some aa) 0 XA.out).mono ?_; rintro e wp1 ⟨a5, n5, c5, rfl, h, b⟩; replace HB := Lib.hid (below_then HB.out b); replace XA := Lib.hid (XA.out.later b); replace XB := Lib.hid (XB.out.later b); replace H4 := Lib.hid (H4.out.later b); have R5 := Lib.hid h; clear h; clear b; have pM1 := True.intro)))
          | (go_at_call 30; (first
            | (have pm2 := pM2; refine (HCC _ a4 n4 c4 a5 n5 c5 a6 n6 c6 H4.out R5.out R6.out).mono ?_; rintro e wp3 ⟨a7, n7, c7, rfl, h, b⟩; replace HB := Lib.hid (below_then HB.out b); replace XA := Lib.hid (XA.out.later b); replace XB := Lib.hid (XB.out.later b); replace H4 := Lib.hid (H4.out.later b); clear R5; clear R6; have R7 := Lib.hid h; clear h; clear b; clear pM2 pm2; have pM3 := True.intro)))
          | (go_at_call 22; (first
            | (have pm3 := pM3; refine (HUR _ a7 n7 c7 R7.out).mono ?_; rintro e wp4 ⟨rfl, h, b⟩; replace HB := Lib.hid (below_then HB.out b); replace XA := Lib.hid (XA.out.later b); replace XB := Lib.hid (XB.out.later b); replace H4 := Lib.hid (H4.out.later b); clear R7; have R8 := Lib.hid h; clear h; clear b; clear pM3 pm3; have pM4 := True.intro)))) | fail
        all_goals (
          go_wp2
          go_ret
          exact ⟨a7, k9, c7, rfl, R8.out, HB.out⟩))
    · skip
      obtain rfl : r = d := hd1.symm
      have XA := Lib.hid (HA.out.tail hr1)
      have XB := Lib.hid (HM.out.tail_end hr2 rfl)
      go_enter Try.func14, Try.ntmps14
      go_wp2_with fail
      refine (HU1 _ HB.out).mono ?_
      rintro e w1 ⟨rfl, bw⟩
      replace HB := Lib.hid (below_then HB.out bw)
      clear bw HU1
      go_wp2_with fail
      refine (HU2 _ HB.out).mono ?_
      rintro e w1 ⟨rfl, bw⟩
      replace HB := Lib.hid (below_then HB.out bw)
      clear bw HU2
      go_wp2
      have b0 : Below w1.heap.size w1 w1.drew := (Below.refl _ _).drew
      have HBd := Lib.hid (below_then HB.out b0)
      have HC := Lib.hid (HADD w1.drew (FA.out.later HBd.out) (FM.out.later HBd.out))
      have ba := below_alloc w1.drew (.cells #[.slice (some aa) r c, .slice (some bb) r r] 29)
      have HB6 := Lib.hid (below_then HBd.out ba)
      clear b0 ba HBd HB HADD FA FM
      go_region_with (first
        | (go_at_call 29; refine (HC.out).mono ?_; rintro e w4 ⟨a4, n4, c4, rfl, h4, bw⟩; have HB := Lib.hid (below_then HB6.out bw); have H4 := Lib.hid h4; clear bw h4 HC HB6))
      all_goals (
        go_wp2
        replace XA := Lib.hid (XA.out.later HB.out)
        replace XB := Lib.hid (XB.out.later HB.out)
        replace HB := Lib.hid (below_then HB.out ((Below.refl _ _).drew : Below w4.heap.size w4 w4.drew))
        replace XA := Lib.hid (XA.out.later ((Below.refl _ _).drew : Below w4.heap.size w4 w4.drew))
        replace XB := Lib.hid (XB.out.later ((Below.refl _ _).drew : Below w4.heap.size w4 w4.drew))
        replace H4 := Lib.hid (H4.out.later ((Below.refl _ _).drew : Below w4.heap.size w4 w4.drew))
        first | go_region_with (first
          | (go_at_call 31; (first
            | (have pm1 := pM1; refine (HN2 _ (some bb) 0 XB.out).mono ?_; rintro e wp2 ⟨a6, n6, c6, rfl, h, b⟩; replace HB := Lib.hid (below_then HB.out b); replace XA := Lib.hid (XA.out.later b); replace XB := Lib.hid (XB.out.later b); replace H4 := Lib.hid (H4.out.later b); replace R5 := Lib.hid (R5.out.later b); have R6 := Lib.hid h; clear h; clear b; clear pM1 pm1; have pM2 := True.intro)
            | (refine (HN1 _ (some (aa.add (r * 3))) (c - r) XA.out).mono ?_; rintro e wp1 ⟨a5, n5, c5, rfl, h, b⟩; replace HB := Lib.hid (below_then HB.out b); replace XA := Lib.hid (XA.out.later b); replace XB := Lib.hid (XB.out.later b); replace H4 := Lib.hid (H4.out.later b); have R5 := Lib.hid h; clear h; clear b; have pM1 := True.intro)))
          | (go_at_call 30; (first
            | (have pm2 := pM2; refine (HCC _ a4 n4 c4 a5 n5 c5 a6 n6 c6 H4.out R5.out R6.out).mono ?_; rintro e wp3 ⟨a7, n7, c7, rfl, h, b⟩; replace HB := Lib.hid (below_then HB.out b); replace XA := Lib.hid (XA.out.later b); replace XB := Lib.hid (XB.out.later b); replace H4 := Lib.hid (H4.out.later b); clear R5; clear R6; have R7 := Lib.hid h; clear h; clear b; clear pM2 pm2; have pM3 := True.intro)))
          | (go_at_call 22; (first
            | (have pm3 := pM3; refine (HUR _ a7 n7 c7 R7.out).mono ?_; rintro e wp4 ⟨rfl, h, b⟩; replace HB := Lib.hid (below_then HB.out b); replace XA := Lib.hid (XA.out.later b); replace XB := Lib.hid (XB.out.later b); replace H4 := Lib.hid (H4.out.later b); clear R7; have R8 := Lib.hid h; clear h; clear b; clear pM3 pm3; have pM4 := True.intro)))) | fail
        all_goals (
          go_wp2
          go_ret
          exact ⟨a7, k9, c7, rfl, R8.out, HB.out⟩))
    · skip
      have XA := Lib.hid (HA.out.tail hr1)
      have XB := Lib.hid (HM.out.tail hr2)
      go_enter Try.func14, Try.ntmps14
      go_wp2_with fail
      refine (HU1 _ HB.out).mono ?_
      rintro e w1 ⟨rfl, bw⟩
      replace HB := Lib.hid (below_then HB.out bw)
      clear bw HU1
      go_wp2_with fail
      refine (HU2 _ HB.out).mono ?_
      rintro e w1 ⟨rfl, bw⟩
      replace HB := Lib.hid (below_then HB.out bw)
      clear bw HU2
      go_wp2
      have b0 : Below w1.heap.size w1 w1.drew := (Below.refl _ _).drew
      have HBd := Lib.hid (below_then HB.out b0)
      have HC := Lib.hid (HADD w1.drew (FA.out.later HBd.out) (FM.out.later HBd.out))
      have ba := below_alloc w1.drew (.cells #[.slice (some aa) r c, .slice (some bb) r d] 29)
      have HB6 := Lib.hid (below_then HBd.out ba)
      clear b0 ba HBd HB HADD FA FM
      go_region_with (first
        | (go_at_call 29; refine (HC.out).mono ?_; rintro e w4 ⟨a4, n4, c4, rfl, h4, bw⟩; have HB := Lib.hid (below_then HB6.out bw); have H4 := Lib.hid h4; clear bw h4 HC HB6))
      all_goals (
        go_wp2
        replace XA := Lib.hid (XA.out.later HB.out)
        replace XB := Lib.hid (XB.out.later HB.out)
        replace HB := Lib.hid (below_then HB.out ((Below.refl _ _).drew : Below w4.heap.size w4 w4.drew))
        replace XA := Lib.hid (XA.out.later ((Below.refl _ _).drew : Below w4.heap.size w4 w4.drew))
        replace XB := Lib.hid (XB.out.later ((Below.refl _ _).drew : Below w4.heap.size w4 w4.drew))
        replace H4 := Lib.hid (H4.out.later ((Below.refl _ _).drew : Below w4.heap.size w4 w4.drew))
        first | go_region_with (first
          | (go_at_call 31; (first
            | (have pm1 := pM1; refine (HN2 _ (some (bb.add (r * 3))) (d - r) XB.out).mono ?_; rintro e wp2 ⟨a6, n6, c6, rfl, h, b⟩; replace HB := Lib.hid (below_then HB.out b); replace XA := Lib.hid (XA.out.later b); replace XB := Lib.hid (XB.out.later b); replace H4 := Lib.hid (H4.out.later b); replace R5 := Lib.hid (R5.out.later b); have R6 := Lib.hid h; clear h; clear b; clear pM1 pm1; have pM2 := True.intro)
            | (refine (HN1 _ (some (aa.add (r * 3))) (c - r) XA.out).mono ?_; rintro e wp1 ⟨a5, n5, c5, rfl, h, b⟩; replace HB := Lib.hid (below_then HB.out b); replace XA := Lib.hid (XA.out.later b); replace XB := Lib.hid (XB.out.later b); replace H4 := Lib.hid (H4.out.later b); have R5 := Lib.hid h; clear h; clear b; have pM1 := True.intro)))
          | (go_at_call 30; (first
            | (have pm2 := pM2; refine (HCC _ a4 n4 c4 a5 n5 c5 a6 n6 c6 H4.out R5.out R6.out).mono ?_; rintro e wp3 ⟨a7, n7, c7, rfl, h, b⟩; replace HB := Lib.hid (below_then HB.out b); replace XA := Lib.hid (XA.out.later b); replace XB := Lib.hid (XB.out.later b); replace H4 := Lib.hid (H4.out.later b); clear R5; clear R6; have R7 := Lib.hid h; clear h; clear b; clear pM2 pm2; have pM3 := True.intro)))
          | (go_at_call 22; (first
            | (have pm3 := pM3; refine (HUR _ a7 n7 c7 R7.out).mono ?_; rintro e wp4 ⟨rfl, h, b⟩; replace HB := Lib.hid (below_then HB.out b); replace XA := Lib.hid (XA.out.later b); replace XB := Lib.hid (XB.out.later b); replace H4 := Lib.hid (H4.out.later b); clear R7; have R8 := Lib.hid h; clear h; clear b; clear pM3 pm3; have pM4 := True.intro)))) | fail
        all_goals (
          go_wp2
          go_ret
          exact ⟨a7, k9, c7, rfl, R8.out, HB.out⟩))
end Go.Proofs.Ytipcgehcineblaa

/-
  Package poly at this seat: Sub; slices.Clone, slices.Reverse over fractions.
-/
namespace Go.Proofs.Ytipcgehcineblaa
open Go.RowKit

end Go.Proofs.Ytipcgehcineblaa

/-
  slices.Clone, slices.Reverse at this seat, over fractions.
-/
namespace Go.Proofs.Ytipcgehcineblaa
open Go.RowKit

theorem Cop.lit (w : World) (e : TypeId) : Cop (w.alloc (.cells #[] e)) w.heap.size e (.slice (some ⟨w.heap.size, 0, none⟩) 0 0) [] := ⟨⟨World.ownsRow_lit w #[] 0 (Nat.le_refl _) (by decide) rfl, clean_block (blk_new w #[] e) (fun u hu => by simp at hu)⟩, fun x hx => by simp at hx⟩
set_option maxRecDepth 4096 in
set_option maxHeartbeats 8000000 in
theorem fr_clone (aa : Addr) (n c : Nat) (L : List Fx) (w : World) (h : Fxs w (some aa) n c L) (hn : n ≤ 1000) : Calls Try.prog 23 #[.slice (some aa) n c] w (fun e w' => ∃ v, e = .returned v ∧ Cop w' w.heap.size 34 v L ∧ Below w.heap.size w w') := by
  have HK := Lib.hid (h.later (below_alloc w (.cells #[] 34)))
  have HC := Lib.hid (Cop.lit w 34)
  clear h
  have q22 : ∀ (w : World) (a : Option Addr) (n c n' c' : Nat), (binOp .eql 29 (.slice a n c) (.slice none n' c')).run Try.prog w = .ok (.bool a.isNone) w := fun w a n c n' c' => Lib.run_eql_slice_nil w _ _ a n c n' c' Try.underlying29
  obtain ⟨i0, hi, hz0, hz1, hz2⟩ := info_parts infoFracR
  go_enter Try.func23, Try.ntmps23
  go_wp2_with (at_builtin; refine wpList_append_cops _ rfl _ _ 29 rfl w.heap.size 34 i0 Try.underlying29 hi hz0 hz1 hz2 _ [] rfl HC.out (some aa) n c L rfl HK.out (by simp; omega) (by rw [blk_size]; omega) ?_; intro v6 w6 hrow hgrow hbase hcl)
  have HR := Lib.hid hrow
  have HB := Lib.hid (((below_alloc w (.cells #[] 34))).grown hgrow (by rw [blk_size]; omega) hbase)
  clear hrow hgrow hbase hcl HC HK
  go_wp2
  go_ret
  refine ⟨v6, rfl, ?_, HB.out⟩
  simpa using HR.out
end Go.Proofs.Ytipcgehcineblaa

/-
  slices.Reverse at this seat, over fractions.
-/
namespace Go.Proofs.Ytipcgehcineblaa
open Go.RowKit

theorem cop_drew {w : World} {base : Nat} {e : TypeId} {v : Value} {L : List Fx} (h : Cop w base e v L) : Cop w.drew base e v L := h.later (Below.refl _ _).drew
theorem grown_drew {w w' : World} {r : Option Nat} (h : w.grownBy w' r) : w.grownBy w'.drew r := h.trans ⟨rfl, rfl, rfl, Nat.le_refl _, fun _ _ _ => rfl⟩
/-- The first i and the last i have changed places. -/
def Revd (X L : List Fx) (i : Nat) : Prop := X.length = L.length ∧ ∀ t, t < L.length → X.getD t Fx.zero = if t < i ∨ L.length - i ≤ t then L.getD (L.length - 1 - t) Fx.zero else L.getD t Fx.zero
theorem Revd.start (L : List Fx) : Revd L L 0 := ⟨rfl, fun t ht => by rw [if_neg (by omega)]⟩
theorem fx_set {X : List Fx} {i t : Nat} {x : Fx} (hi : i < X.length) : (X.set i x).getD t Fx.zero = if t = i then x else X.getD t Fx.zero := by
  rw [List.getD_eq_getElem?_getD]
  split
  · rename_i h
    rw [h, List.getElem?_set_self hi]; rfl
  · rw [List.getElem?_set_ne (by omega), ← List.getD_eq_getElem?_getD]
theorem Revd.step {X L : List Fx} {i j : Nat} (h : Revd X L i) (hij : i + j + 1 = L.length) (hlt : i < j) : Revd ((X.set i (X.getD j Fx.zero)).set j (X.getD i Fx.zero)) L (i + 1) := by
  obtain ⟨h1, h2⟩ := h
  refine ⟨by rw [List.length_set, List.length_set]; exact h1, fun t ht => ?_⟩
  rw [fx_set (by rw [List.length_set]; omega), fx_set (by omega)]
  have hi := h2 i (by omega)
  have hj := h2 j (by omega)
  rw [if_neg (by omega)] at hi hj
  by_cases e1 : t = j
  · rw [if_pos e1, if_pos (by omega), hi, e1]
    congr 1
    omega
  · rw [if_neg e1]
    by_cases e2 : t = i
    · rw [if_pos e2, if_pos (by omega), hj, e2]
      congr 1
      omega
    · rw [if_neg e2, h2 t ht]
      by_cases e3 : t < i ∨ L.length - i ≤ t
      · rw [if_pos e3, if_pos (by omega)]
      · rw [if_neg e3, if_neg (by omega)]
theorem Revd.done {X L : List Fx} {i : Nat} (h : Revd X L i) (hi : L.length ≤ i + i + 1) : X = L.reverse := by
  obtain ⟨h1, h2⟩ := h
  refine List.ext_getElem? fun t => ?_
  rcases Nat.lt_or_ge t L.length with ht | ht
  · have h3 := h2 t ht
    rw [List.getD_eq_getElem?_getD, List.getElem?_eq_getElem (by omega)] at h3
    rw [List.getElem?_eq_getElem (by omega), List.getElem?_reverse ht]
    have h4 : L.getD (L.length - 1 - t) Fx.zero = X[t]'(by omega) := by
      split at h3
      · exact h3.symm
      · rw [show L.length - 1 - t = t by omega]; exact h3.symm
    rw [← h4, List.getD_eq_getElem?_getD, List.getElem?_eq_getElem (by omega)]; rfl
  · rw [List.getElem?_eq_none (by omega), List.getElem?_eq_none (by rw [List.length_reverse]; omega)]
set_option maxRecDepth 4096 in
set_option maxHeartbeats 8000000 in
theorem fr_reverse (g n cap base : Nat) (L : List Fx) (w : World) (h : Cop w base 34 (.slice (some ⟨g, 0, none⟩) n cap) L) (hL : n = L.length) (hn : n ≤ 1000) : Calls Try.prog 24 #[.slice (some ⟨g, 0, none⟩) n cap] w (fun e w' => e = .returned (.tuple #[]) ∧ Cop w' base 34 (.slice (some ⟨g, 0, none⟩) n cap) L.reverse ∧ w.grownBy w' (some g)) := by
  have HC := Lib.hid h
  have HLn := Lib.hid hL
  have HG : Hid (w.grownBy w (some g)) := Lib.hid ⟨rfl, rfl, rfl, Nat.le_refl _, fun _ _ _ => rfl⟩
  have hcap : n ≤ cap ∧ cap ≤ 9223372036854775807 := by
    obtain ⟨a9, c9, e9, h9⟩ := h.out
    simp only [Value.slice.injEq] at e9
    have := h9.bound
    omega
  clear h hL
  go_enter Try.func24, Try.ntmps24
  go_wp2
  go_loopw [2, 3] (fun iv jv wr => ∃ (i : Nat) (z : Int) (X : List Fx), iv = .int .i64 (i : Int) ∧ jv = .int .i64 z ∧ (i : Int) + z + 1 = (n : Int) ∧ i ≤ n ∧ Hid (Cop wr base 34 (.slice (some ⟨g, 0, none⟩) n cap) X) ∧ Hid (Revd X L i) ∧ Hid (w.grownBy wr (some g))) (fun iv _ _ => n - (intOf iv).toNat)
  case atStart => exact ⟨0, (n : Int) - 1, L, rfl, rfl, by omega, by omega, HC, Lib.hid (Revd.start L), HG⟩
  case round =>
    clear HC HG
    obtain ⟨i, z, X, rfl, rfl, hiz, hin, HC, HR, HG⟩ := hrel
    by_cases hlt : (i : Int) < z
    · obtain ⟨j, rfl⟩ : ∃ j : Nat, z = (j : Int) := ⟨z.toNat, by omega⟩
      have hjn : j < n := by omega
      have hXL : X.length = n := by rw [HR.out.1, HLn.out]
      have HR2 := Lib.hid (HR.out.step (i := i) (j := j) (by rw [← HLn.out]; omega) (by omega))
      have hoki := HC.out.2 _ (fx_mem (L := X) (k := i) (by omega))
      have hokj := HC.out.2 _ (fx_mem (L := X) (k := j) (by omega))
      obtain ⟨hP1, hG1⟩ := HC.out.put hXL.symm (i := i) (by omega) (X.getD j Fx.zero) hokj
      have hokk := Fx.aside hoki HC.out.clean hG1
      obtain ⟨hP2, hG2⟩ := hP1.put (by rw [List.length_set]; exact hXL.symm) (i := j) (by rw [List.length_set]; omega) (X.getD i Fx.zero) hokk
      obtain ⟨⟨p0, p1, p2⟩, f0, f1, f2⟩ := HC.out.cell hXL.symm (i := i) (by omega)
      obtain ⟨⟨q0, q1, q2⟩, g0, g1, g2⟩ := HC.out.cell hXL.symm (i := j) (by omega)
      obtain ⟨Y, hY⟩ : ∃ Y, (X.set i (X.getD j Fx.zero)).set j (X.getD i Fx.zero) = Y := ⟨_, rfl⟩
      rw [hY] at HR2 hP2
      generalize X.getD i Fx.zero = x at *
      generalize X.getD j Fx.zero = y at *
      have HP2 := Lib.hid hP2
      have HG2 := Lib.hid ((HG.out.trans hG1).trans hG2)
      have hji : (j : Int) < (n : Int) := by omega
      have hii : (i : Int) < (n : Int) := by omega
      have hj0 : (0 : Int) ≤ (j : Int) := by omega
      clear hP1 hP2 hG1 hG2 hoki hokj hokk hY HC HG HR hXL
      obtain ⟨xs, xa, xn, xc, xla, xb, xm, xd, xlb⟩ := x
      obtain ⟨ys, ya, yn, yc, yla, yb, ym, yd, ylb⟩ := y
      simp only at p0 p1 p2 q0 q1 q2 HP2 HG2
      have hlt2 : i < j := by omega
      have HP3 : Hid (Cop (((((((wr.setCell ⟨g, i * 3, none⟩ (.bool ys)).setCell ⟨g, i * 3 + 1, none⟩ (.slice ya yn yc)).setCell ⟨g, i * 3 + 2, none⟩ (.slice yb ym yd)).setCell ⟨g, j * 3, none⟩ (.bool xs)).setCell ⟨g, j * 3 + 1, none⟩ (.slice xa xn xc)).setCell ⟨g, j * 3 + 2, none⟩ (.slice xb xm xd))).drew base 34 (.slice (some ⟨g, 0, none⟩) n cap) Y) := Lib.hid (by with_reducible exact cop_drew HP2.out)
      have HG3 : Hid (w.grownBy (((((((wr.setCell ⟨g, i * 3, none⟩ (.bool ys)).setCell ⟨g, i * 3 + 1, none⟩ (.slice ya yn yc)).setCell ⟨g, i * 3 + 2, none⟩ (.slice yb ym yd)).setCell ⟨g, j * 3, none⟩ (.bool xs)).setCell ⟨g, j * 3 + 1, none⟩ (.slice xa xn xc)).setCell ⟨g, j * 3 + 2, none⟩ (.slice xb xm xd))).drew (some g)) := Lib.hid (by with_reducible exact grown_drew HG2.out)
      clear HP2 HG2
      go_wp2
      go_big_region
      clear p0 p1 p2 f0 f1 f2 q0 q1 q2 g0 g1 g2
      generalize (((((((wr.setCell ⟨g, i * 3, none⟩ (.bool ys)).setCell ⟨g, i * 3 + 1, none⟩ (.slice ya yn yc)).setCell ⟨g, i * 3 + 2, none⟩ (.slice yb ym yd)).setCell ⟨g, j * 3, none⟩ (.bool xs)).setCell ⟨g, j * 3 + 1, none⟩ (.slice xa xn xc)).setCell ⟨g, j * 3 + 2, none⟩ (.slice xb xm xd))).drew = wz at HP3 HG3 ⊢
      go_wp2
      go_roundw
      case rel => exact ⟨i + 1, (j : Int) - 1, Y, by go_num, rfl, by omega, by omega, HP3, HR2, HG3⟩
      case measure => simp [intOf]; omega
    · have HE : Hid (X = L.reverse) := Lib.hid (HR.out.done (by rw [← HLn.out]; omega))
      clear HR
      go_wp2
      go_end0
      refine ⟨rfl, ?_, HG.out⟩
      rw [← HE.out]
      exact HC.out
end Go.Proofs.Ytipcgehcineblaa
