/-
  The walks of the laws of layer 14: PolyValues.
-/
import Derived.Test.YtipcgehcineblaaG19
import Derived.Test.YtipcgehcineblaaRef11bM
import Derived.Test.YtipcgehcineblaaG12
import Derived.Test.YtipcgehcineblaaG8
import Derived.Test.YtipcgehcineblaaG13
import Derived.Deep.RegionHeld3
namespace Go.Proofs.Ytipcgehcineblaa
open Go.RowKit

theorem qlen_peval {A X : Nat} {x : Rat} (hx : qlen x ≤ X) : ∀ {l : List Rat}, (∀ q ∈ l, qlen q ≤ A) → qlen (peval x l) ≤ 1 + l.length * (A + X + 3)
  | [], _ => by
    show qlen 0 ≤ _
    rw [qlen_nought]; omega
  | c :: l, h => by
    have h1 := qlen_peval hx (l := l) (fun q hq => h q (List.mem_cons_of_mem _ hq))
    have h2 := h c (List.mem_cons_self ..)
    have h3 := qlen_mul x (peval x l)
    have h4 := qlen_add c (x * peval x l)
    rw [peval, List.length_cons, Nat.add_mul]; omega
theorem eval_small {n N : Nat} (h1 : n ≤ 20) (h2 : N ≤ 1000) : (n + 1) * ((n + 1) * (2 + 8) + N + 8) ≤ 1900000000 :=
  Nat.le_trans (Nat.mul_le_mul (Nat.succ_le_succ h1) (Nat.add_le_add_right (Nat.add_le_add (Nat.mul_le_mul_right _ (Nat.succ_le_succ h1)) h2) 8)) (by decide)
set_option maxRecDepth 4096 in
set_option maxHeartbeats 16000000 in
theorem law14_values_longa (HW : ∀ w : World, Calls Try.prog 7 #[] w (Gives (.bool true) w)) (a : Option Addr) (n c : Nat) (L : List Fx) (az : Option Addr) (nz cz : Nat) (Lz : List Fx) (s0 : Bool) (a0 : Option Addr) (n0 c0 : Nat) (b0 : Option Addr) (m0 d0 : Nat) (w : World) (h : Fxs w a n c L) (hz : Fxs w az nz cz Lz) (hb : ¬ ((n : Int) ≤ 6 ∧ thinI 2 L)) : Calls Try.prog 3 #[.slice a n c, .slice az nz cz, frV s0 a0 n0 c0 b0 m0 d0] w (Gives (.bool true) w) := by
  have HB := Lib.hid (below_alloc w (.cells #[.bool s0, .slice a0 n0 c0, .slice b0 m0 d0] 25))
  have X0 : Hid ((w.alloc (.cells #[.bool s0, .slice a0 n0 c0, .slice b0 m0 d0] 25)).heap[w.heap.size]? = some (.cells #[.bool s0, .slice a0 n0 c0, .slice b0 m0 d0] 25 (0, 0))) := Lib.hid (blk_new w _ _)
  have HNB := Lib.hid hb
  have HF := Lib.hid (h.later HB.out)
  have HFz := Lib.hid (hz.later HB.out)
  clear h hz hb
  go_enter Try.func3, Try.ntmps3
  unfold frV
  obtain ⟨vk0, vk1, vk2⟩ := fcells_3 X0.out
  go_wp2_with fail
  refine (ref11_long a n c L 6 2 true _ HF.out (by decide) (Lib.hid ⟨fun _ => HNB.out, fun _ => rfl⟩)).mono ?_
  rintro e wv1 ⟨rfl, b⟩
  clear vk0 vk1 vk2
  replace HB := Lib.hid (below_then HB.out b)
  replace X0 := Lib.hid (blk_later X0.out b)
  replace HF := Lib.hid (HF.out.later b)
  replace HFz := Lib.hid (HFz.out.later b)
  clear b
  obtain ⟨vk0, vk1, vk2⟩ := fcells_3 X0.out
  go_wp2_with fail
  refine (HW _).mono ?_
  rintro e wv2 ⟨rfl, b⟩
  clear vk0 vk1 vk2
  replace HB := Lib.hid (below_then HB.out b)
  replace X0 := Lib.hid (blk_later X0.out b)
  replace HF := Lib.hid (HF.out.later b)
  replace HFz := Lib.hid (HFz.out.later b)
  clear b
  go_wp2
  go_ret
  exact ⟨rfl, HB.out⟩
set_option maxRecDepth 4096 in
set_option maxHeartbeats 16000000 in
theorem law14_values_longb (HW : ∀ w : World, Calls Try.prog 7 #[] w (Gives (.bool true) w)) (a : Option Addr) (n c : Nat) (L : List Fx) (az : Option Addr) (nz cz : Nat) (Lz : List Fx) (s0 : Bool) (a0 : Option Addr) (n0 c0 : Nat) (b0 : Option Addr) (m0 d0 : Nat) (w : World) (h : Fxs w a n c L) (hz : Fxs w az nz cz Lz) (hb : ((n : Int) ≤ 6 ∧ thinI 2 L)) (hbz : ¬ ((nz : Int) ≤ 6 ∧ thinI 2 Lz)) : Calls Try.prog 3 #[.slice a n c, .slice az nz cz, frV s0 a0 n0 c0 b0 m0 d0] w (Gives (.bool true) w) := by
  have HB := Lib.hid (below_alloc w (.cells #[.bool s0, .slice a0 n0 c0, .slice b0 m0 d0] 25))
  have X0 : Hid ((w.alloc (.cells #[.bool s0, .slice a0 n0 c0, .slice b0 m0 d0] 25)).heap[w.heap.size]? = some (.cells #[.bool s0, .slice a0 n0 c0, .slice b0 m0 d0] 25 (0, 0))) := Lib.hid (blk_new w _ _)
  have HNB := Lib.hid hb
  have HF := Lib.hid (h.later HB.out)
  have HFz := Lib.hid (hz.later HB.out)
  have HNBz := Lib.hid hbz
  clear h hz hb hbz
  go_enter Try.func3, Try.ntmps3
  unfold frV
  obtain ⟨vk0, vk1, vk2⟩ := fcells_3 X0.out
  go_wp2_with fail
  refine (ref11_long a n c L 6 2 false _ HF.out (by decide) (Lib.hid ⟨fun h => absurd h (by decide), fun h => absurd HNB.out h⟩)).mono ?_
  rintro e wv1 ⟨rfl, b⟩
  clear vk0 vk1 vk2
  replace HB := Lib.hid (below_then HB.out b)
  replace X0 := Lib.hid (blk_later X0.out b)
  replace HF := Lib.hid (HF.out.later b)
  replace HFz := Lib.hid (HFz.out.later b)
  clear b
  obtain ⟨vk0, vk1, vk2⟩ := fcells_3 X0.out
  go_wp2_with fail
  refine (ref11_long az nz cz Lz 6 2 true _ HFz.out (by decide) (Lib.hid ⟨fun _ => HNBz.out, fun _ => rfl⟩)).mono ?_
  rintro e wv2 ⟨rfl, b⟩
  clear vk0 vk1 vk2
  replace HB := Lib.hid (below_then HB.out b)
  replace X0 := Lib.hid (blk_later X0.out b)
  replace HF := Lib.hid (HF.out.later b)
  replace HFz := Lib.hid (HFz.out.later b)
  clear b
  obtain ⟨vk0, vk1, vk2⟩ := fcells_3 X0.out
  go_wp2_with fail
  refine (HW _).mono ?_
  rintro e wv3 ⟨rfl, b⟩
  clear vk0 vk1 vk2
  replace HB := Lib.hid (below_then HB.out b)
  replace X0 := Lib.hid (blk_later X0.out b)
  replace HF := Lib.hid (HF.out.later b)
  replace HFz := Lib.hid (HFz.out.later b)
  clear b
  go_wp2
  go_ret
  exact ⟨rfl, HB.out⟩
set_option maxRecDepth 4096 in
set_option maxHeartbeats 16000000 in
theorem law14_values_longc (HW : ∀ w : World, Calls Try.prog 7 #[] w (Gives (.bool true) w)) (a : Option Addr) (n c : Nat) (L : List Fx) (az : Option Addr) (nz cz : Nat) (Lz : List Fx) (s0 : Bool) (a0 : Option Addr) (n0 c0 : Nat) (b0 : Option Addr) (m0 d0 : Nat) (w : World) (h : Fxs w a n c L) (hz : Fxs w az nz cz Lz) (hb : ((n : Int) ≤ 6 ∧ thinI 2 L)) (hbz : ((nz : Int) ≤ 6 ∧ thinI 2 Lz)) (hk : 2 < n0 ∨ 2 < m0) : Calls Try.prog 3 #[.slice a n c, .slice az nz cz, frV s0 a0 n0 c0 b0 m0 d0] w (Gives (.bool true) w) := by
  have HB := Lib.hid (below_alloc w (.cells #[.bool s0, .slice a0 n0 c0, .slice b0 m0 d0] 25))
  have X0 : Hid ((w.alloc (.cells #[.bool s0, .slice a0 n0 c0, .slice b0 m0 d0] 25)).heap[w.heap.size]? = some (.cells #[.bool s0, .slice a0 n0 c0, .slice b0 m0 d0] 25 (0, 0))) := Lib.hid (blk_new w _ _)
  have HNB := Lib.hid hb
  have HF := Lib.hid (h.later HB.out)
  have HFz := Lib.hid (hz.later HB.out)
  have HNBz := Lib.hid hbz
  have hl0 : (decide ((2 : Int) < (n0 : Int)) || decide ((2 : Int) < (m0 : Int))) = true := by
    rcases hk with h | h
    · rw [decide_eq_true (show (2 : Int) < (n0 : Int) by omega)]; rfl
    · rw [decide_eq_true (show (2 : Int) < (m0 : Int) by omega), Bool.or_true]
  clear h hz hb hbz hk
  go_enter Try.func3, Try.ntmps3
  unfold frV
  obtain ⟨vk0, vk1, vk2⟩ := fcells_3 X0.out
  go_wp2_with fail
  refine (ref11_long a n c L 6 2 false _ HF.out (by decide) (Lib.hid ⟨fun h => absurd h (by decide), fun h => absurd HNB.out h⟩)).mono ?_
  rintro e wv1 ⟨rfl, b⟩
  clear vk0 vk1 vk2
  replace HB := Lib.hid (below_then HB.out b)
  replace X0 := Lib.hid (blk_later X0.out b)
  replace HF := Lib.hid (HF.out.later b)
  replace HFz := Lib.hid (HFz.out.later b)
  clear b
  obtain ⟨vk0, vk1, vk2⟩ := fcells_3 X0.out
  go_wp2_with fail
  refine (ref11_long az nz cz Lz 6 2 false _ HFz.out (by decide) (Lib.hid ⟨fun h => absurd h (by decide), fun h => absurd HNBz.out h⟩)).mono ?_
  rintro e wv2 ⟨rfl, b⟩
  clear vk0 vk1 vk2
  replace HB := Lib.hid (below_then HB.out b)
  replace X0 := Lib.hid (blk_later X0.out b)
  replace HF := Lib.hid (HF.out.later b)
  replace HFz := Lib.hid (HFz.out.later b)
  clear b
  obtain ⟨vk0, vk1, vk2⟩ := fcells_3 X0.out
  go_wp2_with fail
  refine (ref09_long s0 a0 n0 c0 b0 m0 d0 2 _).mono ?_
  rintro e wv3 ⟨rfl, b⟩
  clear vk0 vk1 vk2
  replace HB := Lib.hid (below_then HB.out b)
  replace X0 := Lib.hid (blk_later X0.out b)
  replace HF := Lib.hid (HF.out.later b)
  replace HFz := Lib.hid (HFz.out.later b)
  clear b
  rw [hl0]
  obtain ⟨vk0, vk1, vk2⟩ := fcells_3 X0.out
  go_wp2_with fail
  refine (HW _).mono ?_
  rintro e wv4 ⟨rfl, b⟩
  clear vk0 vk1 vk2
  replace HB := Lib.hid (below_then HB.out b)
  replace X0 := Lib.hid (blk_later X0.out b)
  replace HF := Lib.hid (HF.out.later b)
  replace HFz := Lib.hid (HFz.out.later b)
  clear b
  go_wp2
  go_ret
  exact ⟨rfl, HB.out⟩
set_option maxRecDepth 4096 in
set_option maxHeartbeats 16000000 in
theorem law14_values_main (S : PolySaid) (FS : FracSaid) (HW : ∀ w : World, Calls Try.prog 7 #[] w (Gives (.bool true) w)) (a : Option Addr) (n c : Nat) (L : List Fx) (az : Option Addr) (nz cz : Nat) (Lz : List Fx) (s0 : Bool) (a0 : Option Addr) (n0 c0 : Nat) (la0 : List Nat) (b0 : Option Addr) (m0 d0 : Nat) (lb0 : List Nat) (w : World) (h : Fxs w a n c L) (hz : Fxs w az nz cz Lz) (ha0 : Wd w a0 n0 c0 la0) (hb0 : Wd w b0 m0 d0 lb0) (hb : ((n : Int) ≤ 6 ∧ thinI 2 L)) (hbz : ((nz : Int) ≤ 6 ∧ thinI 2 Lz)) (hn0 : n0 ≤ 2) (hm0 : m0 ≤ 2) : Calls Try.prog 3 #[.slice a n c, .slice az nz cz, frV s0 a0 n0 c0 b0 m0 d0] w (Gives (.bool true) w) := by
  have HB := Lib.hid (below_alloc w (.cells #[.bool s0, .slice a0 n0 c0, .slice b0 m0 d0] 25))
  have X0 : Hid ((w.alloc (.cells #[.bool s0, .slice a0 n0 c0, .slice b0 m0 d0] 25)).heap[w.heap.size]? = some (.cells #[.bool s0, .slice a0 n0 c0, .slice b0 m0 d0] 25 (0, 0))) := Lib.hid (blk_new w _ _)
  have HNB := Lib.hid hb
  have hn : n ≤ 6 := by have := hb.1; omega
  have hth : thin 2 L := thinI.out (N := 2) hb.2
  have HTH := Lib.hid hth
  have HF := Lib.hid (h.later HB.out)
  have hq : ∀ q ∈ fqs L, qlen q ≤ 3 := (Pv.of h hth).qlen
  have hl : (fqs L).length = n := (fqs_length L).trans h.len
  have HNBz := Lib.hid hbz
  have hnz : nz ≤ 6 := by have := hbz.1; omega
  have hthz : thin 2 Lz := thinI.out (N := 2) hbz.2
  have HTHz := Lib.hid hthz
  have HFz := Lib.hid (hz.later HB.out)
  have hqz : ∀ q ∈ fqs Lz, qlen q ≤ 3 := (Pv.of hz hthz).qlen
  have hlz : (fqs Lz).length = nz := (fqs_length Lz).trans hz.len
  have hl0 : (decide ((2 : Int) < (n0 : Int)) || decide ((2 : Int) < (m0 : Int))) = false := by rw [decide_eq_false (by omega), decide_eq_false (by omega)]; rfl
  have A0 := Lib.hid (ha0.later HB.out)
  have B0 := Lib.hid (hb0.later HB.out)
  obtain ⟨k, hk⟩ : ∃ k, qval s0 (val la0) (val lb0) = k := ⟨_, rfl⟩
  have EQ0 := Lib.hid hk
  have lk : qlen k ≤ 3 := (Fr.of ha0 hb0 hn0 hm0 hk).len
  obtain ⟨xs, hxs⟩ : ∃ xs, fqs L = xs := ⟨_, rfl⟩
  obtain ⟨ys, hys⟩ : ∃ ys, fqs Lz = ys := ⟨_, rfl⟩
  have HTX : ∀ w' : World, Fxs w' a n c L → Calls Try.prog 8 #[.slice a n c] w' (fun e w'' => ∃ (a' : Option Addr) (c' : Nat), e = .returned (.slice a' n c') ∧ Pv w'' a' n c' xs 2 ∧ Below w'.heap.size w' w'') := fun w' h9 => (law11_to a n c L w' h9 (by omega)).mono fun e w'' ⟨x, y, z1, z2, z3⟩ => ⟨x, y, z1, hxs ▸ Pv.of z2 HTH.out, z3⟩
  have HTY : ∀ w' : World, Fxs w' az nz cz Lz → Calls Try.prog 8 #[.slice az nz cz] w' (fun e w'' => ∃ (a' : Option Addr) (c' : Nat), e = .returned (.slice a' nz c') ∧ Pv w'' a' nz c' ys 2 ∧ Below w'.heap.size w' w'') := fun w' h9 => (law11_to az nz cz Lz w' h9 (by omega)).mono fun e w'' ⟨x, y, z1, z2, z3⟩ => ⟨x, y, z1, hys ▸ Pv.of z2 HTHz.out, z3⟩
  rw [hxs] at hq hl
  rw [hys] at hqz hlz
  obtain ⟨ps, hps⟩ : ∃ ps, pnorm (pmul xs ys) = ps := ⟨_, rfl⟩
  obtain ⟨ss, hss⟩ : ∃ ss, pnorm (padd xs ys) = ss := ⟨_, rfl⟩
  have lps : ∀ q ∈ ps, qlen q ≤ 55 := fun q hq9 => Nat.le_trans (qlen_pmul (A := 3) (B := 3) (by decide) (by decide) hq hqz q (hps ▸ hq9)) (by omega)
  have nps : ps.length ≤ 12 := by rw [← hps]; exact Nat.le_trans (pnorm_length_le _) (Nat.le_trans (pmul_length _ _) (by omega))
  have lss : ∀ q ∈ ss, qlen q ≤ 8 := fun q hq9 => qlen_padd (A := 3) (B := 3) (by decide) (by decide) hq hqz q (hss ▸ hq9)
  have nss : ss.length ≤ 6 := by rw [← hss]; exact Nat.le_trans (pnorm_length_le _) (Nat.le_trans (padd_length _ _) (by omega))
  obtain ⟨ex, hex⟩ : ∃ q, peval k xs = q := ⟨_, rfl⟩
  obtain ⟨ey, hey⟩ : ∃ q, peval k ys = q := ⟨_, rfl⟩
  have lex : qlen ex ≤ 55 := by rw [← hex]; exact Nat.le_trans (qlen_peval lk hq) (by omega)
  have ley : qlen ey ≤ 55 := by rw [← hey]; exact Nat.le_trans (qlen_peval lk hqz) (by omega)
  have hep : peval k ps = ex * ey := by rw [← hps, peval_congr k (pnorm_co _), peval_pmul, hex, hey]
  have hes : peval k ss = ex + ey := by rw [← hss, peval_congr k (pnorm_co _), peval_padd, hex, hey]
  have lep : qlen (ex * ey) ≤ 111 := Nat.le_trans (qlen_mul _ _) (by omega)
  have les : qlen (ex + ey) ≤ 112 := Nat.le_trans (qlen_add _ _) (by omega)
  obtain ⟨dp, hdp⟩ : ∃ l, pnorm (pdiff ps) = l := ⟨_, rfl⟩
  obtain ⟨dx, hdx⟩ : ∃ l, pnorm (pdiff xs) = l := ⟨_, rfl⟩
  obtain ⟨dy, hdy⟩ : ∃ l, pnorm (pdiff ys) = l := ⟨_, rfl⟩
  obtain ⟨m1, hm1⟩ : ∃ l, pnorm (pmul dx ys) = l := ⟨_, rfl⟩
  obtain ⟨m2, hm2⟩ : ∃ l, pnorm (pmul xs dy) = l := ⟨_, rfl⟩
  obtain ⟨sm, hsm⟩ : ∃ l, pnorm (padd m1 m2) = l := ⟨_, rfl⟩
  have ldp : ∀ q ∈ dp, qlen q ≤ 58 := fun q hq9 => qlen_pdiff (by decide) (by omega) lps q (hdp ▸ hq9)
  have ndp : dp.length ≤ 12 := by rw [← hdp]; exact Nat.le_trans (pnorm_length_le _) (Nat.le_trans (pdiff_length _) nps)
  have ldx : ∀ q ∈ dx, qlen q ≤ 6 := fun q hq9 => qlen_pdiff (by decide) (by omega) hq q (hdx ▸ hq9)
  have ndx : dx.length ≤ 6 := by rw [← hdx]; exact Nat.le_trans (pnorm_length_le _) (Nat.le_trans (pdiff_length _) (by omega))
  have ldy : ∀ q ∈ dy, qlen q ≤ 6 := fun q hq9 => qlen_pdiff (by decide) (by omega) hqz q (hdy ▸ hq9)
  have ndy : dy.length ≤ 6 := by rw [← hdy]; exact Nat.le_trans (pnorm_length_le _) (Nat.le_trans (pdiff_length _) (by omega))
  have lm1 : ∀ q ∈ m1, qlen q ≤ 73 := fun q hq9 => Nat.le_trans (qlen_pmul (A := 6) (B := 3) (by decide) (by decide) ldx hqz q (hm1 ▸ hq9)) (by omega)
  have nm1 : m1.length ≤ 12 := by rw [← hm1]; exact Nat.le_trans (pnorm_length_le _) (Nat.le_trans (pmul_length _ _) (by omega))
  have lm2 : ∀ q ∈ m2, qlen q ≤ 73 := fun q hq9 => Nat.le_trans (qlen_pmul (A := 3) (B := 6) (by decide) (by decide) hq ldy q (hm2 ▸ hq9)) (by omega)
  have nm2 : m2.length ≤ 12 := by rw [← hm2]; exact Nat.le_trans (pnorm_length_le _) (Nat.le_trans (pmul_length _ _) (by omega))
  have lsm : ∀ q ∈ sm, qlen q ≤ 148 := fun q hq9 => qlen_padd (A := 73) (B := 73) (by decide) (by decide) lm1 lm2 q (hsm ▸ hq9)
  have nsm : sm.length ≤ 12 := by rw [← hsm]; exact Nat.le_trans (pnorm_length_le _) (Nat.le_trans (padd_length _ _) (by omega))
  have hds : pnorm dp = pnorm sm := by
    rw [← hdp, ← hsm, pnorm_pnorm, pnorm_pnorm, ← hm1, ← hm2, ← hdx, ← hdy, ← hps]
    refine pnorm_congr ((pdiff_congr (pnorm_co _)).trans ((leibniz xs ys).trans (padd_congr ?_ ?_)))
    · exact ((pnorm_co _).trans (pmul_congr (pnorm_co _) (peq.refl _))).symm
    · exact ((pnorm_co _).trans (pmul_congr (peq.refl _) (pnorm_co _))).symm
  have HFR : ∀ w' : World, Wd w' a0 n0 c0 la0 → Wd w' b0 m0 d0 lb0 → Fr w' (frV s0 a0 n0 c0 b0 m0 d0) k 2 := fun w' h8 h9 => Fr.of h8 h9 hn0 hm0 EQ0.out
  have HMP : ∀ (w' : World) (a3 a4 : Option Addr) (c3 c4 : Nat), Pv w' a3 n c3 xs 2 → Pv w' a4 nz c4 ys 2 → Calls Try.prog 10 #[.slice a3 n c3, .slice a4 nz c4] w' (LstRw ps w') := fun w' a3 a4 c3 c4 h8 h9 => hps ▸ mul_pv S h8 h9 (by omega) (by omega) (by omega)
  have HAP : ∀ (w' : World) (a3 a4 : Option Addr) (c3 c4 : Nat), Pv w' a3 n c3 xs 2 → Pv w' a4 nz c4 ys 2 → Calls Try.prog 14 #[.slice a3 n c3, .slice a4 nz c4] w' (LstRw ss w') := fun w' a3 a4 c3 c4 h8 h9 => hss ▸ add_pv S h8 h9 (by omega) (by omega) (by decide) (by decide)
  have HEX : ∀ (w' : World) (a3 : Option Addr) (c3 : Nat), Pv w' a3 n c3 xs 2 → Fr w' (frV s0 a0 n0 c0 b0 m0 d0) k 2 → Calls Try.prog 12 #[.slice a3 n c3, frV s0 a0 n0 c0 b0 m0 d0] w' (LstQ ex w') := fun w' a3 c3 h8 h9 => hex ▸ eval_pv S h8 h9 (by omega) (eval_small (by omega) (by decide))
  have HEY : ∀ (w' : World) (a3 : Option Addr) (c3 : Nat), Pv w' a3 nz c3 ys 2 → Fr w' (frV s0 a0 n0 c0 b0 m0 d0) k 2 → Calls Try.prog 12 #[.slice a3 nz c3, frV s0 a0 n0 c0 b0 m0 d0] w' (LstQ ey w') := fun w' a3 c3 h8 h9 => hey ▸ eval_pv S h8 h9 (by omega) (eval_small (by omega) (by decide))
  have HEP : ∀ (w' : World) (a3 : Option Addr) (n3 c3 : Nat), Pv w' a3 n3 c3 ps 55 → Fr w' (frV s0 a0 n0 c0 b0 m0 d0) k 2 → Calls Try.prog 12 #[.slice a3 n3 c3, frV s0 a0 n0 c0 b0 m0 d0] w' (LstQ (ex * ey) w') := fun w' a3 n3 c3 h8 h9 => hep ▸ eval_pv S h8 h9 (by have := h8.len; omega) (eval_small (by have := h8.len; omega) (by decide))
  have HES : ∀ (w' : World) (a3 : Option Addr) (n3 c3 : Nat), Pv w' a3 n3 c3 ss 8 → Fr w' (frV s0 a0 n0 c0 b0 m0 d0) k 2 → Calls Try.prog 12 #[.slice a3 n3 c3, frV s0 a0 n0 c0 b0 m0 d0] w' (LstQ (ex + ey) w') := fun w' a3 n3 c3 h8 h9 => hes ▸ eval_pv S h8 h9 (by have := h8.len; omega) (eval_small (by have := h8.len; omega) (by decide))
  have HDP : ∀ (w' : World) (a3 : Option Addr) (n3 c3 : Nat), Pv w' a3 n3 c3 ps 55 → Calls Try.prog 17 #[.slice a3 n3 c3] w' (LstRw dp w') := fun w' a3 n3 c3 h8 => hdp ▸ diff_pv S h8 (by have := h8.len; omega) (by decide)
  have HDX : ∀ (w' : World) (a3 : Option Addr) (c3 : Nat), Pv w' a3 n c3 xs 2 → Calls Try.prog 17 #[.slice a3 n c3] w' (LstRw dx w') := fun w' a3 c3 h8 => hdx ▸ diff_pv S h8 (by omega) (by decide)
  have HDY : ∀ (w' : World) (a3 : Option Addr) (c3 : Nat), Pv w' a3 nz c3 ys 2 → Calls Try.prog 17 #[.slice a3 nz c3] w' (LstRw dy w') := fun w' a3 c3 h8 => hdy ▸ diff_pv S h8 (by omega) (by decide)
  have HM1 : ∀ (w' : World) (a3 a4 : Option Addr) (n3 c3 c4 : Nat), Pv w' a3 n3 c3 dx 6 → Pv w' a4 nz c4 ys 2 → Calls Try.prog 10 #[.slice a3 n3 c3, .slice a4 nz c4] w' (LstRw m1 w') := fun w' a3 a4 n3 c3 c4 h8 h9 => hm1 ▸ mul_pv S h8 h9 (by have := h8.len; omega) (by omega) (by have := h8.len; omega)
  have HM2 : ∀ (w' : World) (a3 a4 : Option Addr) (n4 c3 c4 : Nat), Pv w' a3 n c3 xs 2 → Pv w' a4 n4 c4 dy 6 → Calls Try.prog 10 #[.slice a3 n c3, .slice a4 n4 c4] w' (LstRw m2 w') := fun w' a3 a4 n4 c3 c4 h8 h9 => hm2 ▸ mul_pv S h8 h9 (by omega) (by have := h9.len; omega) (by omega)
  have HSM : ∀ (w' : World) (a3 a4 : Option Addr) (n3 n4 c3 c4 : Nat), Pv w' a3 n3 c3 m1 73 → Pv w' a4 n4 c4 m2 73 → Calls Try.prog 14 #[.slice a3 n3 c3, .slice a4 n4 c4] w' (LstRw sm w') := fun w' a3 a4 n3 n4 c3 c4 h8 h9 => hsm ▸ add_pv S h8 h9 (by have := h8.len; omega) (by have := h9.len; omega) (by decide) (by decide)
  have HSE : ∀ (w' : World) (a3 a4 : Option Addr) (n3 n4 c3 c4 : Nat), Pv w' a3 n3 c3 dp 58 → Pv w' a4 n4 c4 sm 148 → Calls Try.prog 16 #[.slice a3 n3 c3, .slice a4 n4 c4] w' (Gives (.bool true) w') := fun w' a3 a4 n3 n4 c3 c4 h8 h9 => (decide_eq_true hds) ▸ same_pv S h8 h9 (by have := h8.len; omega) (by have := h9.len; omega) (by decide) (by decide)
  have LPS := Lib.hid lps
  have LSS := Lib.hid lss
  have LDP := Lib.hid ldp
  have LDX := Lib.hid ldx
  have LDY := Lib.hid ldy
  have LM1 := Lib.hid lm1
  have LM2 := Lib.hid lm2
  have LSM := Lib.hid lsm
  have LEX := Lib.hid lex
  have LEY := Lib.hid ley
  have LEP := Lib.hid lep
  have LES := Lib.hid les
  clear h hz hb hbz hn0 hm0 hth hthz hq hqz hl hlz ha0 hb0 hk lk hxs hys hps hss lps nps lss nss hex hey lex ley hep hes lep les hdp hdx hdy hm1 hm2 hsm ldp ndp ldx ndx ldy ndy lm1 nm1 lm2 nm2 lsm nsm hds
  go_enter Try.func3, Try.ntmps3
  unfold frV
  obtain ⟨vk0, vk1, vk2⟩ := fcells_3 X0.out
  go_wp2_with fail
  refine (ref11_long a n c L 6 2 false _ HF.out (by decide) (Lib.hid ⟨fun h => absurd h (by decide), fun h => absurd HNB.out h⟩)).mono ?_
  rintro e wv1 ⟨rfl, b⟩
  clear vk0 vk1 vk2
  replace HB := Lib.hid (below_then HB.out b)
  replace X0 := Lib.hid (blk_later X0.out b)
  replace HF := Lib.hid (HF.out.later b)
  replace HFz := Lib.hid (HFz.out.later b)
  replace A0 := Lib.hid (A0.out.later b)
  replace B0 := Lib.hid (B0.out.later b)
  clear b
  obtain ⟨vk0, vk1, vk2⟩ := fcells_3 X0.out
  go_wp2_with fail
  refine (ref11_long az nz cz Lz 6 2 false _ HFz.out (by decide) (Lib.hid ⟨fun h => absurd h (by decide), fun h => absurd HNBz.out h⟩)).mono ?_
  rintro e wv2 ⟨rfl, b⟩
  clear vk0 vk1 vk2
  replace HB := Lib.hid (below_then HB.out b)
  replace X0 := Lib.hid (blk_later X0.out b)
  replace HF := Lib.hid (HF.out.later b)
  replace HFz := Lib.hid (HFz.out.later b)
  replace A0 := Lib.hid (A0.out.later b)
  replace B0 := Lib.hid (B0.out.later b)
  clear b
  obtain ⟨vk0, vk1, vk2⟩ := fcells_3 X0.out
  go_wp2_with fail
  refine (ref09_long s0 a0 n0 c0 b0 m0 d0 2 _).mono ?_
  rintro e wv3 ⟨rfl, b⟩
  clear vk0 vk1 vk2
  replace HB := Lib.hid (below_then HB.out b)
  replace X0 := Lib.hid (blk_later X0.out b)
  replace HF := Lib.hid (HF.out.later b)
  replace HFz := Lib.hid (HFz.out.later b)
  replace A0 := Lib.hid (A0.out.later b)
  replace B0 := Lib.hid (B0.out.later b)
  clear b
  rw [hl0]
  obtain ⟨vk0, vk1, vk2⟩ := fcells_3 X0.out
  go_wp2_with fail
  refine (HTX _ HF.out).mono ?_
  rintro e wv4 ⟨a8, c8, rfl, h8, b⟩
  clear vk0 vk1 vk2
  replace HB := Lib.hid (below_then HB.out b)
  replace X0 := Lib.hid (blk_later X0.out b)
  clear HF
  replace HFz := Lib.hid (HFz.out.later b)
  replace A0 := Lib.hid (A0.out.later b)
  replace B0 := Lib.hid (B0.out.later b)
  clear b
  have X := Lib.hid h8
  clear h8
  obtain ⟨vk0, vk1, vk2⟩ := fcells_3 X0.out
  go_wp2_with fail
  refine (HTY _ HFz.out).mono ?_
  rintro e wv5 ⟨a9, c9, rfl, h9, b⟩
  clear vk0 vk1 vk2
  replace HB := Lib.hid (below_then HB.out b)
  replace X0 := Lib.hid (blk_later X0.out b)
  clear HFz
  replace A0 := Lib.hid (A0.out.later b)
  replace B0 := Lib.hid (B0.out.later b)
  replace X := Lib.hid (X.out.later b)
  clear b
  have Y := Lib.hid h9
  clear h9
  obtain ⟨vk0, vk1, vk2⟩ := fcells_3 X0.out
  go_wp2_with fail
  refine (law09_to s0 a0 n0 c0 b0 m0 d0 _).mono ?_
  rintro e wv6 ⟨rfl, b⟩
  clear vk0 vk1 vk2
  replace HB := Lib.hid (below_then HB.out b)
  replace X0 := Lib.hid (blk_later X0.out b)
  replace A0 := Lib.hid (A0.out.later b)
  replace B0 := Lib.hid (B0.out.later b)
  replace X := Lib.hid (X.out.later b)
  replace Y := Lib.hid (Y.out.later b)
  clear b
  unfold frV
  have Z0 : Hid ((World.alloc wv6 (.cells #[.bool s0, .slice a0 n0 c0, .slice b0 m0 d0] 34)).heap[wv6.heap.size]? = some (.cells #[.bool s0, .slice a0 n0 c0, .slice b0 m0 d0] 34 (0, 0))) := Lib.hid (blk_new wv6 _ _)
  replace HB := Lib.hid (below_then HB.out (below_alloc wv6 (.cells #[.bool s0, .slice a0 n0 c0, .slice b0 m0 d0] 34)))
  replace X0 := Lib.hid (blk_later X0.out (below_alloc wv6 (.cells #[.bool s0, .slice a0 n0 c0, .slice b0 m0 d0] 34)))
  replace A0 := Lib.hid (A0.out.later (below_alloc wv6 (.cells #[.bool s0, .slice a0 n0 c0, .slice b0 m0 d0] 34)))
  replace B0 := Lib.hid (B0.out.later (below_alloc wv6 (.cells #[.bool s0, .slice a0 n0 c0, .slice b0 m0 d0] 34)))
  replace X := Lib.hid (X.out.later (below_alloc wv6 (.cells #[.bool s0, .slice a0 n0 c0, .slice b0 m0 d0] 34)))
  replace Y := Lib.hid (Y.out.later (below_alloc wv6 (.cells #[.bool s0, .slice a0 n0 c0, .slice b0 m0 d0] 34)))
  obtain ⟨vk0, vk1, vk2, vk3, vk4, vk5⟩ := fcells_3_3 X0.out Z0.out
  go_wp2_with fail
  refine (HMP _ a8 a9 c8 c9 X.out Y.out).mono ?_
  rintro e wv7 ⟨a11, n11, c11, rfl, h11, b⟩
  clear vk0 vk1 vk2 vk3 vk4 vk5
  replace HB := Lib.hid (below_then HB.out b)
  replace X0 := Lib.hid (blk_later X0.out b)
  replace Z0 := Lib.hid (blk_later Z0.out b)
  replace A0 := Lib.hid (A0.out.later b)
  replace B0 := Lib.hid (B0.out.later b)
  replace X := Lib.hid (X.out.later b)
  replace Y := Lib.hid (Y.out.later b)
  clear b
  have PP := Lib.hid (Pv.right h11 LPS.out)
  clear h11
  go_wp2
  clear X0
  replace HB := Lib.hid (below_then HB.out ((Below.refl _ _).drew : Below wv7.heap.size wv7 wv7.drew))
  replace Z0 : Hid (wv7.drew.heap[wv6.heap.size]? = _) := Lib.hid Z0.out
  replace X := Lib.hid (X.out.later ((Below.refl _ _).drew : Below wv7.heap.size wv7 wv7.drew))
  replace Y := Lib.hid (Y.out.later ((Below.refl _ _).drew : Below wv7.heap.size wv7 wv7.drew))
  replace PP := Lib.hid (PP.out.later ((Below.refl _ _).drew : Below wv7.heap.size wv7 wv7.drew))
  replace A0 := Lib.hid (A0.out.later ((Below.refl _ _).drew : Below wv7.heap.size wv7 wv7.drew))
  replace B0 := Lib.hid (B0.out.later ((Below.refl _ _).drew : Below wv7.heap.size wv7 wv7.drew))
  have qSn := fcells_3 Z0.out
  go_region_held3 (fun w' => w'.cell? ⟨wv6.heap.size, 0, none⟩ = some (.bool s0) ∧ w'.cell? ⟨wv6.heap.size, 1, none⟩ = some (.slice a0 n0 c0) ∧ w'.cell? ⟨wv6.heap.size, 2, none⟩ = some (.slice b0 m0 d0)) (exact qSn)
    (first
    | (go_at_call 12; (first
      | (have qm8 := qM8; refine (HEY _ a9 c9 Y.out (HFR _ A0.out B0.out)).mono ?_; rintro e wq9 ⟨a28, n28, c28, b28, m28, d28, rfl, h28, g28, b⟩; replace HB := Lib.hid (below_then HB.out b); replace Z0 := Lib.hid (blk_later Z0.out b); replace X := Lib.hid (X.out.later b); replace Y := Lib.hid (Y.out.later b); replace PP := Lib.hid (PP.out.later b); replace A0 := Lib.hid (A0.out.later b); replace B0 := Lib.hid (B0.out.later b); replace R26 := Lib.hid (R26.out.later b); replace T26 := Lib.hid (T26.out.later b); replace R27 := Lib.hid (R27.out.later b); replace T27 := Lib.hid (T27.out.later b); have R28 := Lib.hid h28; have T28 := Lib.hid g28; have hN28 : n28 ≤ 300 := (by rw [← h28.len]; exact Nat.le_trans (qlen_num _) (Nat.le_trans LEY.out (by decide))); have hM28 : m28 ≤ 300 := (by rw [← g28.len]; exact Nat.le_trans (qlen_den _) (Nat.le_trans LEY.out (by decide))); clear h28 g28; unfold frV; clear b; clear qSn; have qSn := fcells_3 Z0.out; clear qM8 qm8; have qM9 := True.intro)
      | (have qm7 := qM7; refine (HEX _ a8 c8 X.out (HFR _ A0.out B0.out)).mono ?_; rintro e wq8 ⟨a27, n27, c27, b27, m27, d27, rfl, h27, g27, b⟩; replace HB := Lib.hid (below_then HB.out b); replace Z0 := Lib.hid (blk_later Z0.out b); replace X := Lib.hid (X.out.later b); replace Y := Lib.hid (Y.out.later b); replace PP := Lib.hid (PP.out.later b); replace A0 := Lib.hid (A0.out.later b); replace B0 := Lib.hid (B0.out.later b); replace R26 := Lib.hid (R26.out.later b); replace T26 := Lib.hid (T26.out.later b); have R27 := Lib.hid h27; have T27 := Lib.hid g27; have hN27 : n27 ≤ 300 := (by rw [← h27.len]; exact Nat.le_trans (qlen_num _) (Nat.le_trans LEX.out (by decide))); have hM27 : m27 ≤ 300 := (by rw [← g27.len]; exact Nat.le_trans (qlen_den _) (Nat.le_trans LEX.out (by decide))); clear h27 g27; unfold frV; clear b; clear qSn; have qSn := fcells_3 Z0.out; clear qM7 qm7; have qM8 := True.intro)
      | (have qm6 := qM6; refine (HES _ a25 n25 c25 SS.out (HFR _ A0.out B0.out)).mono ?_; rintro e wq7 ⟨a26, n26, c26, b26, m26, d26, rfl, h26, g26, b⟩; replace HB := Lib.hid (below_then HB.out b); replace Z0 := Lib.hid (blk_later Z0.out b); replace X := Lib.hid (X.out.later b); replace Y := Lib.hid (Y.out.later b); replace PP := Lib.hid (PP.out.later b); replace A0 := Lib.hid (A0.out.later b); replace B0 := Lib.hid (B0.out.later b); clear SS; have R26 := Lib.hid h26; have T26 := Lib.hid g26; have hN26 : n26 ≤ 300 := (by rw [← h26.len]; exact Nat.le_trans (qlen_num _) (Nat.le_trans LES.out (by decide))); have hM26 : m26 ≤ 300 := (by rw [← g26.len]; exact Nat.le_trans (qlen_den _) (Nat.le_trans LES.out (by decide))); clear h26 g26; unfold frV; clear b; clear qSn; have qSn := fcells_3 Z0.out; clear qM6 qm6; have qM7 := True.intro)
      | (have qm2 := qM2; refine (HEY _ a9 c9 Y.out (HFR _ A0.out B0.out)).mono ?_; rintro e wq3 ⟨a23, n23, c23, b23, m23, d23, rfl, h23, g23, b⟩; replace HB := Lib.hid (below_then HB.out b); replace Z0 := Lib.hid (blk_later Z0.out b); replace X := Lib.hid (X.out.later b); replace Y := Lib.hid (Y.out.later b); replace PP := Lib.hid (PP.out.later b); replace A0 := Lib.hid (A0.out.later b); replace B0 := Lib.hid (B0.out.later b); replace R21 := Lib.hid (R21.out.later b); replace T21 := Lib.hid (T21.out.later b); replace R22 := Lib.hid (R22.out.later b); replace T22 := Lib.hid (T22.out.later b); have R23 := Lib.hid h23; have T23 := Lib.hid g23; have hN23 : n23 ≤ 300 := (by rw [← h23.len]; exact Nat.le_trans (qlen_num _) (Nat.le_trans LEY.out (by decide))); have hM23 : m23 ≤ 300 := (by rw [← g23.len]; exact Nat.le_trans (qlen_den _) (Nat.le_trans LEY.out (by decide))); clear h23 g23; unfold frV; clear b; clear qSn; have qSn := fcells_3 Z0.out; clear qM2 qm2; have qM3 := True.intro)
      | (have qm1 := qM1; refine (HEX _ a8 c8 X.out (HFR _ A0.out B0.out)).mono ?_; rintro e wq2 ⟨a22, n22, c22, b22, m22, d22, rfl, h22, g22, b⟩; replace HB := Lib.hid (below_then HB.out b); replace Z0 := Lib.hid (blk_later Z0.out b); replace X := Lib.hid (X.out.later b); replace Y := Lib.hid (Y.out.later b); replace PP := Lib.hid (PP.out.later b); replace A0 := Lib.hid (A0.out.later b); replace B0 := Lib.hid (B0.out.later b); replace R21 := Lib.hid (R21.out.later b); replace T21 := Lib.hid (T21.out.later b); have R22 := Lib.hid h22; have T22 := Lib.hid g22; have hN22 : n22 ≤ 300 := (by rw [← h22.len]; exact Nat.le_trans (qlen_num _) (Nat.le_trans LEX.out (by decide))); have hM22 : m22 ≤ 300 := (by rw [← g22.len]; exact Nat.le_trans (qlen_den _) (Nat.le_trans LEX.out (by decide))); clear h22 g22; unfold frV; clear b; clear qSn; have qSn := fcells_3 Z0.out; clear qM1 qm1; have qM2 := True.intro)
      | (refine (HEP _ a11 n11 c11 PP.out (HFR _ A0.out B0.out)).mono ?_; rintro e wq1 ⟨a21, n21, c21, b21, m21, d21, rfl, h21, g21, b⟩; replace HB := Lib.hid (below_then HB.out b); replace Z0 := Lib.hid (blk_later Z0.out b); replace X := Lib.hid (X.out.later b); replace Y := Lib.hid (Y.out.later b); replace PP := Lib.hid (PP.out.later b); replace A0 := Lib.hid (A0.out.later b); replace B0 := Lib.hid (B0.out.later b); have R21 := Lib.hid h21; have T21 := Lib.hid g21; have hN21 : n21 ≤ 300 := (by rw [← h21.len]; exact Nat.le_trans (qlen_num _) (Nat.le_trans LEP.out (by decide))); have hM21 : m21 ≤ 300 := (by rw [← g21.len]; exact Nat.le_trans (qlen_den _) (Nat.le_trans LEP.out (by decide))); clear h21 g21; unfold frV; clear b; clear qSn; have qSn := fcells_3 Z0.out; have qM1 := True.intro)))
    | (go_at_call 13; (first
      | (have qm3 := qM3; refine (FS.mul (frV (zneg (ex).num) a22 n22 c22 b22 m22 d22) (frV (zneg (ey).num) a23 n23 c23 b23 m23 d23) ex ey _ (Fr.right R22.out T22.out (by omega) (by omega)) (Fr.right R23.out T23.out (by omega) (by omega))).mono ?_; rintro e wq4 ⟨a24, n24, c24, b24, m24, d24, rfl, h24, g24, b⟩; replace HB := Lib.hid (below_then HB.out b); replace Z0 := Lib.hid (blk_later Z0.out b); replace X := Lib.hid (X.out.later b); replace Y := Lib.hid (Y.out.later b); replace PP := Lib.hid (PP.out.later b); replace A0 := Lib.hid (A0.out.later b); replace B0 := Lib.hid (B0.out.later b); replace R21 := Lib.hid (R21.out.later b); replace T21 := Lib.hid (T21.out.later b); clear R22; clear T22; clear R23; clear T23; have R24 := Lib.hid h24; have T24 := Lib.hid g24; have hN24 : n24 ≤ 300 := (by rw [← h24.len]; exact Nat.le_trans (qlen_num _) (Nat.le_trans LEP.out (by decide))); have hM24 : m24 ≤ 300 := (by rw [← g24.len]; exact Nat.le_trans (qlen_den _) (Nat.le_trans LEP.out (by decide))); clear h24 g24; unfold frV; clear b; clear qSn; have qSn := fcells_3 Z0.out; clear qM3 qm3; have qM4 := True.intro)))
    | (go_at_call 11; (first
      | (have qm10 := qM10; refine (FS.same (frV (zneg (ex + ey).num) a26 n26 c26 b26 m26 d26) (frV (zneg (ex + ey).num) a29 n29 c29 b29 m29 d29) (ex + ey) (ex + ey) _ (Fr.right R26.out T26.out (by omega) (by omega)) (Fr.right R29.out T29.out (by omega) (by omega))).mono ?_; rintro e wq11 ⟨rfl, b⟩; replace HB := Lib.hid (below_then HB.out b); replace Z0 := Lib.hid (blk_later Z0.out b); replace X := Lib.hid (X.out.later b); replace Y := Lib.hid (Y.out.later b); replace PP := Lib.hid (PP.out.later b); replace A0 := Lib.hid (A0.out.later b); replace B0 := Lib.hid (B0.out.later b); clear R26; clear T26; clear R29; clear T29; rw [decide_eq_true rfl]; clear b; clear qSn; have qSn := fcells_3 Z0.out; clear qM10 qm10; have qM11 := True.intro)
      | (have qm4 := qM4; refine (FS.same (frV (zneg (ex * ey).num) a21 n21 c21 b21 m21 d21) (frV (zneg (ex * ey).num) a24 n24 c24 b24 m24 d24) (ex * ey) (ex * ey) _ (Fr.right R21.out T21.out (by omega) (by omega)) (Fr.right R24.out T24.out (by omega) (by omega))).mono ?_; rintro e wq5 ⟨rfl, b⟩; replace HB := Lib.hid (below_then HB.out b); replace Z0 := Lib.hid (blk_later Z0.out b); replace X := Lib.hid (X.out.later b); replace Y := Lib.hid (Y.out.later b); replace PP := Lib.hid (PP.out.later b); replace A0 := Lib.hid (A0.out.later b); replace B0 := Lib.hid (B0.out.later b); clear R21; clear T21; clear R24; clear T24; rw [decide_eq_true rfl]; clear b; clear qSn; have qSn := fcells_3 Z0.out; clear qM4 qm4; have qM5 := True.intro)))
    | (go_at_call 14; (first
      | (have qm5 := qM5; refine (HAP _ a8 a9 c8 c9 X.out Y.out).mono ?_; rintro e wq6 ⟨a25, n25, c25, rfl, h25, b⟩; replace HB := Lib.hid (below_then HB.out b); replace Z0 := Lib.hid (blk_later Z0.out b); replace X := Lib.hid (X.out.later b); replace Y := Lib.hid (Y.out.later b); replace PP := Lib.hid (PP.out.later b); replace A0 := Lib.hid (A0.out.later b); replace B0 := Lib.hid (B0.out.later b); have SS := Lib.hid (Pv.right h25 LSS.out); clear h25; clear b; clear qSn; have qSn := fcells_3 Z0.out; clear qM5 qm5; have qM6 := True.intro)))
    | (go_at_call 15; (first
      | (have qm9 := qM9; refine (FS.add (frV (zneg (ex).num) a27 n27 c27 b27 m27 d27) (frV (zneg (ey).num) a28 n28 c28 b28 m28 d28) ex ey _ (Fr.right R27.out T27.out (by omega) (by omega)) (Fr.right R28.out T28.out (by omega) (by omega))).mono ?_; rintro e wq10 ⟨a29, n29, c29, b29, m29, d29, rfl, h29, g29, b⟩; replace HB := Lib.hid (below_then HB.out b); replace Z0 := Lib.hid (blk_later Z0.out b); replace X := Lib.hid (X.out.later b); replace Y := Lib.hid (Y.out.later b); replace PP := Lib.hid (PP.out.later b); replace A0 := Lib.hid (A0.out.later b); replace B0 := Lib.hid (B0.out.later b); replace R26 := Lib.hid (R26.out.later b); replace T26 := Lib.hid (T26.out.later b); clear R27; clear T27; clear R28; clear T28; have R29 := Lib.hid h29; have T29 := Lib.hid g29; have hN29 : n29 ≤ 300 := (by rw [← h29.len]; exact Nat.le_trans (qlen_num _) (Nat.le_trans LES.out (by decide))); have hM29 : m29 ≤ 300 := (by rw [← g29.len]; exact Nat.le_trans (qlen_den _) (Nat.le_trans LES.out (by decide))); clear h29 g29; unfold frV; clear b; clear qSn; have qSn := fcells_3 Z0.out; clear qM9 qm9; have qM10 := True.intro))))
  clear Z0 A0 B0
  go_wp2_with fail
  refine (HDP _ a11 n11 c11 PP.out).mono ?_
  rintro e wy1 ⟨a31, n31, c31, rfl, h31, b⟩
  replace HB := Lib.hid (below_then HB.out b)
  clear PP
  replace X := Lib.hid (X.out.later b)
  replace Y := Lib.hid (Y.out.later b)
  clear b
  have DP := Lib.hid (Pv.right h31 LDP.out)
  clear h31
  go_wp2_with fail
  refine (HDX _ a8 c8 X.out).mono ?_
  rintro e wy2 ⟨a32, n32, c32, rfl, h32, b⟩
  replace HB := Lib.hid (below_then HB.out b)
  replace X := Lib.hid (X.out.later b)
  replace Y := Lib.hid (Y.out.later b)
  replace DP := Lib.hid (DP.out.later b)
  clear b
  have DX := Lib.hid (Pv.right h32 LDX.out)
  clear h32
  go_wp2_with fail
  refine (HM1 _ a32 a9 n32 c32 c9 DX.out Y.out).mono ?_
  rintro e wy3 ⟨a33, n33, c33, rfl, h33, b⟩
  replace HB := Lib.hid (below_then HB.out b)
  clear DX
  replace X := Lib.hid (X.out.later b)
  replace Y := Lib.hid (Y.out.later b)
  replace DP := Lib.hid (DP.out.later b)
  clear b
  have M1 := Lib.hid (Pv.right h33 LM1.out)
  clear h33
  go_wp2_with fail
  refine (HDY _ a9 c9 Y.out).mono ?_
  rintro e wy4 ⟨a34, n34, c34, rfl, h34, b⟩
  replace HB := Lib.hid (below_then HB.out b)
  replace X := Lib.hid (X.out.later b)
  replace Y := Lib.hid (Y.out.later b)
  replace DP := Lib.hid (DP.out.later b)
  replace M1 := Lib.hid (M1.out.later b)
  clear b
  have DY := Lib.hid (Pv.right h34 LDY.out)
  clear h34
  go_wp2_with fail
  refine (HM2 _ a8 a34 n34 c8 c34 X.out DY.out).mono ?_
  rintro e wy5 ⟨a35, n35, c35, rfl, h35, b⟩
  replace HB := Lib.hid (below_then HB.out b)
  clear DY
  replace X := Lib.hid (X.out.later b)
  replace Y := Lib.hid (Y.out.later b)
  replace DP := Lib.hid (DP.out.later b)
  replace M1 := Lib.hid (M1.out.later b)
  clear b
  have M2 := Lib.hid (Pv.right h35 LM2.out)
  clear h35
  go_wp2_with fail
  refine (HSM _ a33 a35 n33 n35 c33 c35 M1.out M2.out).mono ?_
  rintro e wy6 ⟨a36, n36, c36, rfl, h36, b⟩
  replace HB := Lib.hid (below_then HB.out b)
  clear M1
  clear M2
  replace X := Lib.hid (X.out.later b)
  replace Y := Lib.hid (Y.out.later b)
  replace DP := Lib.hid (DP.out.later b)
  clear b
  have SM := Lib.hid (Pv.right h36 LSM.out)
  clear h36
  go_wp2_with fail
  refine (HSE _ a31 a36 n31 n36 c31 c36 DP.out SM.out).mono ?_
  rintro e wy7 ⟨rfl, b⟩
  replace HB := Lib.hid (below_then HB.out b)
  replace X := Lib.hid (X.out.later b)
  replace Y := Lib.hid (Y.out.later b)
  replace DP := Lib.hid (DP.out.later b)
  replace SM := Lib.hid (SM.out.later b)
  clear b
  go_wp2_with fail
  refine (HW _).mono ?_
  rintro e wy8 ⟨rfl, b⟩
  replace HB := Lib.hid (below_then HB.out b)
  replace X := Lib.hid (X.out.later b)
  replace Y := Lib.hid (Y.out.later b)
  replace DP := Lib.hid (DP.out.later b)
  replace SM := Lib.hid (SM.out.later b)
  clear b
  go_wp2
  go_ret
  exact ⟨rfl, HB.out⟩
theorem law14_values (S : PolySaid) (FS : FracSaid) (HW : ∀ w : World, Calls Try.prog 7 #[] w (Gives (.bool true) w)) (a : Option Addr) (n c : Nat) (L : List Fx) (az : Option Addr) (nz cz : Nat) (Lz : List Fx) (s0 : Bool) (a0 : Option Addr) (n0 c0 : Nat) (la0 : List Nat) (b0 : Option Addr) (m0 d0 : Nat) (lb0 : List Nat) (w : World) (h : Fxs w a n c L) (hz : Fxs w az nz cz Lz) (ha0 : Wd w a0 n0 c0 la0) (hb0 : Wd w b0 m0 d0 lb0) : Calls Try.prog 3 #[.slice a n c, .slice az nz cz, frV s0 a0 n0 c0 b0 m0 d0] w (Gives (.bool true) w) := by
  by_cases hb : ((n : Int) ≤ 6 ∧ thinI 2 L)
  · by_cases hbz : ((nz : Int) ≤ 6 ∧ thinI 2 Lz)
    · by_cases hk : 2 < n0 ∨ 2 < m0
      · exact law14_values_longc HW a n c L az nz cz Lz s0 a0 n0 c0 b0 m0 d0 w h hz hb hbz hk
      · exact law14_values_main S FS HW a n c L az nz cz Lz s0 a0 n0 c0 la0 b0 m0 d0 lb0 w h hz ha0 hb0 hb hbz (by omega) (by omega)
    · exact law14_values_longb HW a n c L az nz cz Lz s0 a0 n0 c0 b0 m0 d0 w h hz hb hbz
  · exact law14_values_longa HW a n c L az nz cz Lz s0 a0 n0 c0 b0 m0 d0 w h hz hb
end Go.Proofs.Ytipcgehcineblaa
