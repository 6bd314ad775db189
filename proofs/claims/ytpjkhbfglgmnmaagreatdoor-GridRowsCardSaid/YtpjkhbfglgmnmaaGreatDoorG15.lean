/-
  Several texts of this claim as one, group 15.
-/
import Derived.Test.YtpjkhbfglgmnmaaGreatDoorG14
import Derived.Deep.RegionHeld3
import Derived.Test.YtpjkhbfglgmnmaaGreatDoorG12
import Derived.Test.YtpjkhbfglgmnmaaGreatDoorG4
import Derived.Shelf.Strings.OnBuilder
import Derived.Test.YtpjkhbfglgmnmaaGreatDoorG13
/-
  Package row at this seat: Add, Mix.
-/
namespace Go.Proofs.YtpjkhbfglgmnmaaGreatDoor
open Go.RowKit

theorem foldl_radd {i N : Nat} (hi : i < N) : ∀ (r : List (List Rat)) (l : List Rat), l.length = N → (∀ x ∈ r, x.length = N) → (r.foldl radd l).length = N ∧ (r.foldl radd l).getD i 0 = l.getD i 0 + rsum (r.map (fun x => x.getD i 0))
  | [], l, hl, _ => ⟨hl, by show l.getD i 0 = l.getD i 0 + 0; grind⟩
  | x :: r, l, hl, h => by
    have hx := h x (List.mem_cons_self ..)
    have h1 : (radd l x).length = N := by rw [radd_length l x (hl.trans hx.symm)]; exact hl
    obtain ⟨h2, h3⟩ := foldl_radd hi r (radd l x) h1 (fun y hy => h y (List.mem_cons_of_mem _ hy))
    refine ⟨h2, ?_⟩
    show (r.foldl radd (radd l x)).getD i 0 = l.getD i 0 + (x.getD i 0 + rsum (r.map (fun x => x.getD i 0)))
    rw [h3, radd_getD (by omega) (by omega)]
    grind
theorem foldl_radd_length {N : Nat} : ∀ (r : List (List Rat)) (l : List Rat), l.length = N → (∀ x ∈ r, x.length = N) → (r.foldl radd l).length = N
  | [], _, hl, _ => hl
  | x :: r, l, hl, h => by
    have hx := h x (List.mem_cons_self ..)
    exact foldl_radd_length r (radd l x) (by rw [radd_length l x (hl.trans hx.symm)]; exact hl) (fun y hy => h y (List.mem_cons_of_mem _ hy))
theorem col_vals {LL : List (List Fx)} {i : Nat} (h : ∀ L ∈ LL, i < L.length) : (LL.map fqs).map (fun x => x.getD i 0) = fqs (colF LL i) := by
  unfold colF fqs
  rw [List.map_map, List.map_map]
  exact List.map_congr_left (fun L hL => fqs_getD (h L hL))
theorem radd_col {LL : List (List Fx)} {i N : Nat} (hi : i < N) (hN : ∀ L ∈ LL, L.length = N) (h0 : 0 < LL.length) : (raddAll (LL.map fqs)).getD i 0 = rsum (fqs (colF LL i)) := by
  match LL, h0 with
  | l :: r, _ =>
    show ((r.map fqs).foldl radd (fqs l)).getD i 0 = (l.getD i Fx.zero).q + rsum (fqs (colF r i))
    rw [(foldl_radd hi (r.map fqs) (fqs l) (by rw [fqs_length]; exact hN l (List.mem_cons_self ..)) (fun x hx => by
      obtain ⟨y, hy, rfl⟩ := List.mem_map.1 hx
      rw [fqs_length]; exact hN y (List.mem_cons_of_mem _ hy))).2, col_vals (fun L hL => by rw [hN L (List.mem_cons_of_mem _ hL)]; exact hi), fqs_getD (by rw [hN l (List.mem_cons_self ..)]; exact hi)]
theorem raddAll_length {LL : List (List Fx)} {N : Nat} (hN : ∀ L ∈ LL, L.length = N) (h0 : 0 < LL.length) : (raddAll (LL.map fqs)).length = N := by
  match LL, h0 with
  | l :: r, _ =>
    exact foldl_radd_length (r.map fqs) (fqs l) (by rw [fqs_length]; exact hN l (List.mem_cons_self ..)) (fun x hx => by
      obtain ⟨y, hy, rfl⟩ := List.mem_map.1 hx
      rw [fqs_length]; exact hN y (List.mem_cons_of_mem _ hy))
theorem colF_thin {LL : List (List Fx)} {i K : Nat} (h : ∀ L ∈ LL, thin K L) (hi : ∀ L ∈ LL, i < L.length) : thin K (colF LL i) := fun x hx => by
  obtain ⟨L, hL, rfl⟩ := List.mem_map.1 hx
  exact h L hL _ (fx_mem (hi L hL))
theorem even_all {LL : List (List Fx)} {L0 : List Fx} (h0 : L0 ∈ LL) : (∀ M ∈ LL, (M.length : Int) = (L0.length : Int)) ↔ even (LL.map fqs) := by
  unfold even
  constructor
  · intro h x hx y hy
    obtain ⟨x', hx', rfl⟩ := List.mem_map.1 hx
    obtain ⟨y', hy', rfl⟩ := List.mem_map.1 hy
    have h1 := h x' hx'
    have h2 := h y' hy'
    rw [fqs_length, fqs_length]
    omega
  · intro h M hM
    have h1 := h (fqs M) (List.mem_map.2 ⟨M, hM, rfl⟩) (fqs L0) (List.mem_map.2 ⟨L0, h0, rfl⟩)
    rw [fqs_length, fqs_length] at h1
    omega
theorem rscale_one (l : List Rat) : rscale 1 l = l := by
  unfold rscale
  have h : (fun x : Rat => 1 * x) = id := by funext x; exact Rat.one_mul x
  rw [h, List.map_id]
set_option maxRecDepth 4096 in
set_option maxHeartbeats 4000000 in
theorem row_add_none (a : Option Addr) (c : Nat) (w : World) : Calls Tryz.prog 50 #[.slice a 0 c] w (LstRwV [] (.bool true) w) := by
  go_enter Tryz.func50, Tryz.ntmps50
  go_wp2
  go_ret2
  exact ⟨none, 0, 0, rfl, Rw.nil _, Below.refl _ _⟩
set_option maxRecDepth 4096 in
set_option maxHeartbeats 4000000 in
theorem row_add_one (a : Option Addr) (c : Nat) (LL : List (List Fx)) (w : World) (h : Fxss w a 1 c LL) (hl : ∀ L ∈ LL, L.length ≤ 300 ∧ thin 100 L) : Calls Tryz.prog 50 #[.slice a 1 c] w (LstRwV (raddAll (LL.map fqs)) (.bool true) w) := by
  obtain ⟨bb, off, rfl, a1, n1, c1, e0, h1⟩ := h.at (j := 0) (by omega)
  have hbd := h.bound
  obtain ⟨L0, rfl⟩ : ∃ L0, LL = [L0] := by
    match LL, h.len with
    | [x], _ => exact ⟨x, rfl⟩
  have hl0 := hl L0 (List.mem_singleton.2 rfl)
  have HL0 : Hid (Fxs w a1 n1 c1 L0) := Lib.hid h1
  have hn1 : n1 ≤ 300 := by rw [← HL0.out.len]; exact hl0.1
  have HT0 := Lib.hid (hl0.2.mono (show 100 ≤ 300 by decide))
  have e0' : w.cell? ⟨bb, off, none⟩ = some (.slice a1 n1 c1) := e0
  obtain ⟨q, hq⟩ : ∃ q : Rat, ((1 : Int) : Rat) = q := ⟨_, rfl⟩
  have hq1 : q = 1 := by rw [← hq]; rfl
  have HQ := Lib.hid hq
  have hql : qlen q ≤ 2 := by rw [← hq]; exact qlen_int (by decide)
  obtain ⟨T, hT⟩ : ∃ T, raddAll ([L0].map fqs) = T := ⟨_, rfl⟩
  have HTT : Hid (rscale q (fqs L0) = T) := Lib.hid (by rw [← hT, hq1, rscale_one]; rfl)
  rw [hT]
  clear hT hq hq1 h h1 hl hl0 e0
  go_enter Tryz.func50, Tryz.ntmps50
  go_wp2
  have HB0 : Hid (Below w.heap.size w w.drew) := Lib.hid (Below.refl _ _).drew
  have e1 := cell_later HB0.out e0'
  first | go_region_with (first
    | (go_at_call 37; refine (frac_of 1 _ (by decide)).mono ?_; rintro e w1 ⟨a2, n2, c2, b2, m2, d2, rfl, h2, g2, bw⟩; rw [HQ.out] at h2 g2 ⊢; have ln2 : n2 ≤ 300 := Nat.le_trans (Nat.le_of_eq h2.len.symm) (Nat.le_trans (qlen_num _) (Nat.le_trans hql (by decide))); have lm2 : m2 ≤ 300 := Nat.le_trans (Nat.le_of_eq g2.len.symm) (Nat.le_trans (qlen_den _) (Nat.le_trans hql (by decide))); have HB1 := Lib.hid (below_then HB0.out bw); have e2 := cell_later HB1.out e0'; have R2 := Lib.hid h2; have T2 := Lib.hid g2; clear bw h2 g2)
    | (go_at_call 36; refine (row_scale (frV (zneg q.num) a2 n2 c2 b2 m2 d2) q a1 n1 c1 L0 _ (Fr.right R2.out T2.out ln2 lm2) (HL0.out.later HB1.out) hn1 HT0.out).mono ?_; rintro e w2 ⟨a3, n3, c3, rfl, h3, bw⟩; rw [HTT.out] at h3; have HB2 := Lib.hid (below_then HB1.out bw); have R3 := Lib.hid h3; clear bw h3)) | fail
  all_goals (
    go_wp2
    go_ret2
    exact ⟨a3, n3, c3, rfl, R3.out, HB2.out⟩)
set_option maxRecDepth 4096 in
set_option maxHeartbeats 4000000 in
theorem row_add_uneven (a : Option Addr) (n c : Nat) (LL : List (List Fx)) (w : World) (h : Fxss w a n c LL) (h2 : 2 ≤ n) (hb : ¬ even (LL.map fqs)) : Calls Tryz.prog 50 #[.slice a n c] w (LstRwV [] (.bool false) w) := by
  obtain ⟨bb, off, rfl, a1, n1, c1, e0, h1⟩ := h.at (j := 0) (by omega)
  have hbd := h.bound
  have hm0 : LL.getD 0 [] ∈ LL := ll_mem (by rw [h.len]; omega)
  have e0' : w.cell? ⟨bb, off, none⟩ = some (.slice a1 n1 c1) := by simpa using e0
  have HALL := even_all hm0
  rw [h1.len] at HALL
  have hz0 : ((n : Int) == 0) = false := by simp; omega
  have hz1 : ((n : Int) == 1) = false := by simp; omega
  have hi0 : (0 : Int) < (n : Int) := by omega
  have hbd1 := h1.bound
  have HK := Lib.hid h
  have HNO := Lib.hid (show ∀ w' : World, Below w.heap.size w w' → Calls Tryz.prog 71 #[.slice (some ⟨bb, off, none⟩) n c, .int .i64 (n1 : Int)] w' (fun e w'' => e = .returned (.bool false) ∧ w' = w'') from fun w' hw => row_allOf _ n c LL (n1 : Int) false w' (h.later hw) (Lib.hid ⟨fun h9 => absurd h9 (by decide), fun h9 => absurd (HALL.1 h9) hb⟩))
  clear h h1 hm0 HALL hb HK e0
  go_enter Tryz.func50, Tryz.ntmps50
  go_wp2_with fail
  refine (HNO.out _ (Below.refl _ _)).mono ?_
  rintro e w' ⟨rfl, rfl⟩
  go_wp2
  go_ret2
  exact ⟨none, 0, 0, rfl, Rw.nil _, Below.refl _ _⟩
set_option maxRecDepth 4096 in
set_option maxHeartbeats 4000000 in
theorem row_add_even (a : Option Addr) (n c : Nat) (LL : List (List Fx)) (w : World) (h : Fxss w a n c LL) (hn : n ≤ 10) (hl : ∀ L ∈ LL, L.length ≤ 300 ∧ thin 100 L) (h2 : 2 ≤ n) (hb : even (LL.map fqs)) : Calls Tryz.prog 50 #[.slice a n c] w (LstRwV (raddAll (LL.map fqs)) (.bool true) w) := by
  obtain ⟨bb, off, rfl, a1, n1, c1, e0, h1⟩ := h.at (j := 0) (by omega)
  have hbd := h.bound
  have hm0 : LL.getD 0 [] ∈ LL := ll_mem (by rw [h.len]; omega)
  have e0' : w.cell? ⟨bb, off, none⟩ = some (.slice a1 n1 c1) := by simpa using e0
  have HALL := even_all hm0
  rw [h1.len] at HALL
  have hz0 : ((n : Int) == 0) = false := by simp; omega
  have hz1 : ((n : Int) == 1) = false := by simp; omega
  have hi0 : (0 : Int) < (n : Int) := by omega
  have hbd1 := h1.bound
  have HK := Lib.hid h
  have hN : ∀ L ∈ LL, L.length = n1 := fun L hL => by have := HALL.2 hb L hL; omega
  have hn1 : n1 ≤ 300 := by rw [← hN _ hm0]; exact (hl _ hm0).1
  have HYES := Lib.hid (show ∀ w' : World, Below w.heap.size w w' → Calls Tryz.prog 71 #[.slice (some ⟨bb, off, none⟩) n c, .int .i64 (n1 : Int)] w' (fun e w'' => e = .returned (.bool true) ∧ w' = w'') from fun w' hw => row_allOf _ n c LL (n1 : Int) true w' (h.later hw) (Lib.hid ⟨fun _ => HALL.2 hb, fun _ => rfl⟩))
  have HCOL := Lib.hid (show ∀ (k : Nat) (w' : World), k < n1 → Below w.heap.size w w' → Calls Tryz.prog 72 #[.slice (some ⟨bb, off, none⟩) n c, .int .i64 (k : Int)] w' (fun e w'' => ∃ (a' : Option Addr) (c' : Nat), e = .returned (.slice a' n c') ∧ Fxs w'' a' n c' (colF LL k) ∧ Below w'.heap.size w' w'') from fun k w' hk hw => row_column _ n c LL k w' (h.later hw) (by omega) (fun M hM => by rw [hN M hM]; exact hk))
  have HTOT := Lib.hid (show ∀ (k : Nat) (a' : Option Addr) (c' : Nat) (w' : World), k < n1 → Fxs w' a' n c' (colF LL k) → Calls Tryz.prog 53 #[.slice a' n c'] w' (LstQ (rsum (fqs (colF LL k))) w') from fun k a' c' w' hk hf => (row_total n a' c' (colF LL k) 100 w' hf (colF_thin (fun L hL => (hl L hL).2) (fun L hL => by rw [hN L hL]; exact hk)) (by omega) (by omega)).mono fun e w'' h9 => h9.many (by rw [colF_length, h.len]; omega))
  have HTL0 : (raddAll (LL.map fqs)).length = n1 := raddAll_length hN (by rw [h.len]; omega)
  have HTV0 : ∀ k, k < n1 → (raddAll (LL.map fqs)).getD k 0 = rsum (fqs (colF LL k)) := fun k hk => radd_col hk hN (by rw [h.len]; omega)
  obtain ⟨T, hTe⟩ : ∃ T, raddAll (LL.map fqs) = T := ⟨_, rfl⟩
  rw [hTe] at HTL0 HTV0 ⊢
  have HTL := Lib.hid HTL0
  have HTV := Lib.hid HTV0
  have HB00 : Hid (Below w.heap.size w w) := Lib.hid (Below.refl _ _)
  clear h h1 hm0 HALL hb HK e0 hl hN HTL0 HTV0 hTe
  obtain ⟨i0, hi, hy0, hy1, hy2⟩ := info_parts infoFracR
  go_enter Tryz.func50, Tryz.ntmps50
  go_wp2_with fail
  refine (HYES.out _ (Below.refl _ _)).mono ?_
  rintro e w' ⟨rfl, rfl⟩
  go_wp2_with (at_make; refine wpList_make_fracs _ rfl _ _ 41 rfl (w.heap.size) 58 i0 Tryz.underlying41 hi hy0 hy1 hy2 _ _ _ _ n1 rfl rfl (by omega) (by omega) (by omega) (by simp) ?_; intro wm hmade hgm hszm)
  have HO0 := Lib.hid (Half.start hmade)
  have HB0 : Hid (Below w.heap.size w wm) := Lib.hid ((Below.refl _ _).grown hgm (Nat.le_refl _) (fun k hk => by cases hk))
  clear hmade hgm HB00
  go_loopw [29] (fun iv wr => ∃ k r : Nat, k + r = n1 ∧ iv = .int .i64 (k : Int) ∧ Hid (Half wr w.heap.size 58 (.slice (some ⟨w.heap.size, 0, none⟩) n1 n1) (T.take k) r) ∧ Hid (Below w.heap.size w wr) ∧ w.heap.size < wr.heap.size) (fun iv _ => n1 - (intOf iv).toNat)
  case atStart => exact ⟨0, n1, by omega, rfl, HO0, HB0, by omega⟩
  case round =>
    clear HO0 HB0
    obtain ⟨k, r, hk, rfl, HO, HB, hsz⟩ := hrel
    by_cases hlt : k < n1
    · have hkT : k < T.length := by rw [HTL.out]; exact hlt
      obtain ⟨r, rfl⟩ : ∃ r', r = r' + 1 := ⟨r - 1, by omega⟩
      have HT : Hid (T.take (k + 1) = T.take k ++ [T.getD k 0]) := Lib.hid (q_more hkT)
      have HTv := Lib.hid (HTV.out k hlt)
      generalize T.getD k 0 = tk at *
      have hki : (k : Int) < (n1 : Int) := by omega
      have hk0 : (0 : Int) ≤ (k : Int) := by omega
      go_wp2_with fail
      refine (HCOL.out k _ hlt HB.out).mono ?_
      rintro e w3 ⟨a3, c3, rfl, h3, bw⟩
      replace HB := Lib.hid (below_then HB.out bw)
      replace HO := Lib.hid (HO.out.later bw)
      replace hsz := Nat.lt_of_lt_of_le hsz bw.size
      have H3 := Lib.hid h3
      clear bw h3
      go_wp2_with fail
      refine (HTOT.out k a3 c3 _ hlt H3.out).mono ?_
      rintro e w4 ⟨a4, n4, c4, b4, m4, d4, rfl, h4, g4, bw⟩
      rw [← HTv.out] at h4 g4 ⊢
      replace HB := Lib.hid (below_then HB.out bw)
      replace HO := Lib.hid (HO.out.later bw)
      have hsz4 : w.heap.size < w4.heap.size := Nat.lt_of_lt_of_le hsz bw.size
      clear bw hsz H3
      obtain ⟨⟨p0, p1, p2⟩, f0, f1, f2⟩ := HO.out.cell (k := k) (by rw [take_len (Nat.le_of_lt hkT)])
      obtain ⟨hst, hgr⟩ := HO.out.stored (k := k) (by rw [take_len (Nat.le_of_lt hkT)]) tk a4 n4 c4 b4 m4 d4 h4 g4
      rw [← HT.out] at hst
      have HS := Lib.hid hst
      have HB5 := Lib.hid (HB.out.grown hgr HB.out.size (fun g' hg' => by simp at hg'; omega))
      have hsz5 := Nat.lt_of_lt_of_le hsz4 hgr.size
      clear hst hgr h4 g4 HO HB HT HTv
      unfold frV
      go_wp2
      go_roundw
      case rel => exact ⟨k + 1, r, by omega, by go_num, HS, HB5, hsz5⟩
      case measure => simp [intOf]; omega
    · obtain rfl : k = n1 := by omega
      have HF := Lib.hid (HO.out.whole HTL.out (by omega))
      obtain ⟨a9, c9, e9, h9⟩ := HF.out.out
      rw [HTL.out] at e9 h9
      cases e9
      have HF9 := Lib.hid h9
      clear HO h9 HF
      go_wp2
      go_ret2
      exact ⟨_, _, _, rfl, HF9.out, HB.out⟩
end Go.Proofs.YtpjkhbfglgmnmaaGreatDoor

/-
  Package row at this seat: Mix.
-/
namespace Go.Proofs.YtpjkhbfglgmnmaaGreatDoor
open Go.RowKit

theorem rmix_getD {i N : Nat} (hi : i < N) : ∀ (cs : List Rat) (ls : List (List Rat)) (s : List Rat), s.length = N → (∀ x ∈ ls, x.length = N) → cs.length = ls.length → (rmix s cs ls).getD i 0 = s.getD i 0 + rdot cs (ls.map (fun x => x.getD i 0))
  | [], [], s, _, _, _ => by
    show s.getD i 0 = s.getD i 0 + 0
    grind
  | c :: cs, l :: ls, s, hs, h, hc => by
    have hl := h l (List.mem_cons_self ..)
    have h1 : (radd s (rscale c l)).length = N := by rw [radd_length _ _ (by rw [rscale_length]; exact hs.trans hl.symm)]; exact hs
    have h2 := rmix_getD hi cs ls (radd s (rscale c l)) h1 (fun x hx => h x (List.mem_cons_of_mem _ hx)) (by simpa using hc)
    show (rmix (radd s (rscale c l)) cs ls).getD i 0 = s.getD i 0 + (c * l.getD i 0 + rdot cs (ls.map (fun x => x.getD i 0)))
    rw [h2, radd_getD (by omega) (by rw [rscale_length]; omega), rscale_getD (by omega)]
    grind
  | [], _ :: _, _, _, _, hc => by simp at hc
  | _ :: _, [], _, _, _, hc => by simp at hc
theorem rmix_length {N : Nat} : ∀ (cs : List Rat) (ls : List (List Rat)) (s : List Rat), s.length = N → (∀ x ∈ ls, x.length = N) → cs.length = ls.length → (rmix s cs ls).length = N
  | [], [], _, hs, _, _ => hs
  | c :: cs, l :: ls, s, hs, h, hc => by
    have hl := h l (List.mem_cons_self ..)
    exact rmix_length cs ls (radd s (rscale c l)) (by rw [radd_length _ _ (by rw [rscale_length]; exact hs.trans hl.symm)]; exact hs) (fun x hx => h x (List.mem_cons_of_mem _ hx)) (by simpa using hc)
  | [], _ :: _, _, _, _, hc => by simp at hc
  | _ :: _, [], _, _, _, hc => by simp at hc
theorem mix_len {LL : List (List Fx)} {L : List Fx} {k : Nat} (hN : ∀ M ∈ LL, M.length = k) (hc : L.length = LL.length) : (rmix (List.replicate k 0) (fqs L) (LL.map fqs)).length = k :=
  rmix_length _ _ _ List.length_replicate (fun x hx => by
    obtain ⟨M, hM, rfl⟩ := List.mem_map.1 hx
    rw [fqs_length]; exact hN M hM) (by rw [fqs_length, List.length_map]; exact hc)
theorem mix_at {LL : List (List Fx)} {L : List Fx} {k i : Nat} (hi : i < k) (hN : ∀ M ∈ LL, M.length = k) (hc : L.length = LL.length) : (rmix (List.replicate k 0) (fqs L) (LL.map fqs)).getD i 0 = rdot (fqs L) (fqs (colF LL i)) := by
  rw [rmix_getD hi _ _ _ List.length_replicate (fun x hx => by
    obtain ⟨M, hM, rfl⟩ := List.mem_map.1 hx
    rw [fqs_length]; exact hN M hM) (by rw [fqs_length, List.length_map]; exact hc), col_vals (fun M hM => by rw [hN M hM]; exact hi)]
  have h0 : (List.replicate k (0 : Rat)).getD i 0 = 0 := by
    rw [List.getD_eq_getElem?_getD, List.getElem?_replicate]; split <;> rfl
  rw [h0]; grind
end Go.Proofs.YtpjkhbfglgmnmaaGreatDoor

/-
  Package row at this seat: Norm, Size, Same.
-/
namespace Go.Proofs.YtpjkhbfglgmnmaaGreatDoor
open Go.RowKit

end Go.Proofs.YtpjkhbfglgmnmaaGreatDoor

/-
  Package row at this seat: Size, Same.
-/
namespace Go.Proofs.YtpjkhbfglgmnmaaGreatDoor
open Go.RowKit

theorem fqs_take_more {L : List Fx} {k : Nat} (h : k < L.length) : fqs (L.take (k + 1)) = fqs (L.take k) ++ [(L.getD k Fx.zero).q] := by
  rw [fx_more h]; unfold fqs; rw [List.map_append]; rfl
theorem q_ne_of_at {L M : List Fx} {k : Nat} (h : k < L.length) (h' : k < M.length) (hq : (L.getD k Fx.zero).q ≠ (M.getD k Fx.zero).q) : fqs L ≠ fqs M := fun e => by
  refine hq ?_
  rw [← fqs_getD h, ← fqs_getD h', e]
set_option maxRecDepth 4096 in
set_option maxHeartbeats 4000000 in
theorem row_equalfunc (a0 : Option Addr) (n0 c0 : Nat) (L0 : List Fx) (a1 : Option Addr) (n1 c1 : Nat) (L1 : List Fx) (w : World) (h0 : Fxs w a0 n0 c0 L0) (h1 : Fxs w a1 n1 c1 L1) (hn : n0 ≤ 300) (ht0 : thin 1000 L0) (ht1 : thin 1000 L1) : Calls Tryz.prog 61 #[.slice a0 n0 c0, .slice a1 n1 c1, .func (.func 34) #[] #[]] w (Gives (.bool (decide (fqs L0 = fqs L1))) w) := by
  have HK0 := Lib.hid h0
  have HLl0 := Lib.hid h0.len
  have hbd0 := h0.bound
  have HTh0 := Lib.hid ht0
  clear h0 ht0
  have HK1 := Lib.hid h1
  have HLl1 := Lib.hid h1.len
  have hbd1 := h1.bound
  have HTh1 := Lib.hid ht1
  clear h1 ht1
  by_cases hnm : n0 = n1
  · subst hnm
    obtain ⟨rr, hrr⟩ : ∃ rr, decide (fqs L0 = fqs L1) = rr := ⟨_, rfl⟩
    have HRR := Lib.hid hrr
    rw [hrr]
    clear hrr
    go_enter Tryz.func61, Tryz.ntmps61
    go_wp2
    go_loopw [17] (fun iv wr => ∃ k : Nat, k ≤ n0 ∧ iv = .int .i64 (k : Int) ∧ Hid (fqs (L0.take k) = fqs (L1.take k)) ∧ Hid (Below w.heap.size w wr)) (fun iv _ => n0 - (intOf iv).toNat)
    case atStart => exact ⟨0, by omega, rfl, Lib.hid rfl, Lib.hid (Below.refl _ _)⟩
    case round =>
      obtain ⟨k, hk, rfl, HS, HB⟩ := hrel
      by_cases hlt : k < n0
      · have HT0 := Lib.hid (fqs_take_more (show k < L0.length by rw [HLl0.out]; exact hlt))
        have HT1 := Lib.hid (fqs_take_more (show k < L1.length by rw [HLl1.out]; exact hlt))
        have HNE := Lib.hid (q_ne_of_at (show k < L0.length by rw [HLl0.out]; exact hlt) (show k < L1.length by rw [HLl1.out]; exact hlt))
        obtain ⟨bb0, off0, rfl, e00, e10, e20, hok0⟩ := HK0.out.at hlt
        have hth0 := HTh0.out _ (fx_mem (L := L0) (k := k) (by rw [HLl0.out]; exact hlt))
        generalize L0.getD k Fx.zero = xk0 at *
        obtain ⟨sk0, ak0, nk0, ck0, lak0, bk0, mk0, dk0, lbk0⟩ := xk0
        obtain ⟨hA0, hB0⟩ := hok0
        simp only at e00 e10 e20 hA0 hB0 hth0
        obtain ⟨hth0, htj0⟩ := hth0
        have HE0 : Hid (w.cell? ⟨bb0, off0 + k * 3, none⟩ = some (.bool sk0) ∧ w.cell? ⟨bb0, off0 + k * 3 + 1, none⟩ = some (.slice ak0 nk0 ck0) ∧ w.cell? ⟨bb0, off0 + k * 3 + 2, none⟩ = some (.slice bk0 mk0 dk0)) := Lib.hid ⟨e00, e10, e20⟩
        have AK0 := Lib.hid hA0
        have BK0 := Lib.hid hB0
        clear hA0 hB0 e00 e10 e20
        obtain ⟨bb1, off1, rfl, e01, e11, e21, hok1⟩ := HK1.out.at hlt
        have hth1 := HTh1.out _ (fx_mem (L := L1) (k := k) (by rw [HLl1.out]; exact hlt))
        generalize L1.getD k Fx.zero = xk1 at *
        obtain ⟨sk1, ak1, nk1, ck1, lak1, bk1, mk1, dk1, lbk1⟩ := xk1
        obtain ⟨hA1, hB1⟩ := hok1
        simp only at e01 e11 e21 hA1 hB1 hth1
        obtain ⟨hth1, htj1⟩ := hth1
        have HE1 : Hid (w.cell? ⟨bb1, off1 + k * 3, none⟩ = some (.bool sk1) ∧ w.cell? ⟨bb1, off1 + k * 3 + 1, none⟩ = some (.slice ak1 nk1 ck1) ∧ w.cell? ⟨bb1, off1 + k * 3 + 2, none⟩ = some (.slice bk1 mk1 dk1)) := Lib.hid ⟨e01, e11, e21⟩
        have AK1 := Lib.hid hA1
        have BK1 := Lib.hid hB1
        clear hA1 hB1 e01 e11 e21
        have hki : (k : Int) < (n0 : Int) := by omega
        have hk0 : (0 : Int) ≤ (k : Int) := by omega
        replace HT0 : Hid (fqs (L0.take (k + 1)) = fqs (L0.take k) ++ [qval sk0 (val lak0) (val lbk0)]) := HT0
        replace HT1 : Hid (fqs (L1.take (k + 1)) = fqs (L1.take k) ++ [qval sk1 (val lak1) (val lbk1)]) := HT1
        replace HNE : Hid (qval sk0 (val lak0) (val lbk0) ≠ qval sk1 (val lak1) (val lbk1) → fqs L0 ≠ fqs L1) := HNE
        obtain ⟨e00, e10, e20⟩ := three_on HE0.out HB.out
        have ba := below_alloc wr (.cells #[.bool sk0, .slice ak0 nk0 ck0, .slice bk0 mk0 dk0] 58)
        have HB1 := Lib.hid (below_then HB.out ba)
        obtain ⟨e01, e11, e21⟩ := three_on HE1.out HB1.out
        have bb := below_alloc (wr.alloc (.cells #[.bool sk0, .slice ak0 nk0 ck0, .slice bk0 mk0 dk0] 58)) (.cells #[.bool sk1, .slice ak1 nk1 ck1, .slice bk1 mk1 dk1] 58)
        have HB2 := Lib.hid (below_then HB1.out bb)
        obtain ⟨x0, x1, x2⟩ := fcells_3 (blk_later (blk_new wr #[.bool sk0, .slice ak0 nk0 ck0, .slice bk0 mk0 dk0] 58) bb)
        have hy := blk_new (wr.alloc (.cells #[.bool sk0, .slice ak0 nk0 ck0, .slice bk0 mk0 dk0] 58)) #[.bool sk1, .slice ak1 nk1 ck1, .slice bk1 mk1 dk1] 58
        rw [blk_size] at hy
        obtain ⟨y0, y1, y2⟩ := fcells_3 hy
        clear ba bb HB1 hy
        go_wp2_with fail
        refine (fracSaid.same (frV sk0 ak0 nk0 ck0 bk0 mk0 dk0) (frV sk1 ak1 nk1 ck1 bk1 mk1 dk1) (qval sk0 (val lak0) (val lbk0)) (qval sk1 (val lak1) (val lbk1)) _ (Fr.of (AK0.out.later HB2.out) (BK0.out.later HB2.out) (by omega) (by omega) rfl) (Fr.of (AK1.out.later HB2.out) (BK1.out.later HB2.out) (by omega) (by omega) rfl)).mono ?_
        rintro e w4 ⟨rfl, bw⟩
        clear e00 e10 e20 e01 e11 e21 x0 x1 x2 y0 y1 y2
        replace HB := Lib.hid (below_then HB2.out bw)
        clear bw HB2
        by_cases hqq : qval sk0 (val lak0) (val lbk0) = qval sk1 (val lak1) (val lbk1)
        · have HS9 : Hid (fqs (L0.take (k + 1)) = fqs (L1.take (k + 1))) := Lib.hid (by rw [HT0.out, HT1.out, HS.out, hqq])
          rw [decide_eq_true hqq]
          clear hqq HS HT0 HT1 HNE
          go_wp2
          go_roundw
          case rel => exact ⟨k + 1, by omega, by go_num, HS9, HB⟩
          case measure => simp [intOf]; omega
        · have hrf : rr = false := by rw [← HRR.out]; exact decide_eq_false (HNE.out hqq)
          subst hrf
          rw [decide_eq_false hqq]
          clear hqq HS HT0 HT1 HNE
          go_wp2
          go_ret
          exact ⟨rfl, HB.out⟩
      · obtain rfl : k = n0 := by omega
        have hrt : rr = true := by
          rw [← HRR.out]
          have h9 := HS.out
          rw [List.take_of_length_le (by rw [HLl0.out]; exact Nat.le_refl _), List.take_of_length_le (by rw [HLl1.out]; exact Nat.le_refl _)] at h9
          exact decide_eq_true h9
        subst hrt
        go_wp2
        go_ret
        exact ⟨rfl, HB.out⟩
  · have hq : ((n0 : Int) == (n1 : Int)) = false := by simp; omega
    have hne : fqs L0 ≠ fqs L1 := fun e => hnm (by
      have h9 := congrArg List.length e
      rwa [fqs_length, fqs_length, HLl0.out, HLl1.out] at h9)
    rw [decide_eq_false hne]
    clear hnm hne
    go_enter Tryz.func61, Tryz.ntmps61
    go_wp2
    go_ret
    exact ⟨rfl, Below.refl _ _⟩
set_option maxRecDepth 4096 in
set_option maxHeartbeats 4000000 in
theorem row_same (a0 : Option Addr) (n0 c0 : Nat) (L0 : List Fx) (a1 : Option Addr) (n1 c1 : Nat) (L1 : List Fx) (w : World) (h0 : Fxs w a0 n0 c0 L0) (h1 : Fxs w a1 n1 c1 L1) (hn : n0 ≤ 300) (ht0 : thin 1000 L0) (ht1 : thin 1000 L1) : Calls Tryz.prog 42 #[.slice a0 n0 c0, .slice a1 n1 c1] w (Gives (.bool (decide (fqs L0 = fqs L1))) w) := by
  have HC := Lib.hid (show ∀ w' : World, Below w.heap.size w w' → Calls Tryz.prog 61 #[.slice a0 n0 c0, .slice a1 n1 c1, .func (.func 34) #[] #[]] w' (Gives (.bool (decide (fqs L0 = fqs L1))) w') from fun w' hw => row_equalfunc a0 n0 c0 L0 a1 n1 c1 L1 w' (h0.later hw) (h1.later hw) hn ht0 ht1)
  clear h0 h1 ht0 ht1
  go_enter Tryz.func42, Tryz.ntmps42
  go_wp2_with fail
  refine (HC.out _ (Below.refl _ _)).mono ?_
  rintro e w1 ⟨rfl, bw⟩
  go_wp2
  go_ret
  exact ⟨rfl, bw⟩
end Go.Proofs.YtpjkhbfglgmnmaaGreatDoor

/-
  Package row at this seat: Text.
-/
namespace Go.Proofs.YtpjkhbfglgmnmaaGreatDoor
open Go.RowKit

def row_join_ren : Go.Shelf.Ren := ⟨fun | 156 => 59 | 165 => 86 | 166 => 87 | 169 => 88 | 240 => 111 | 241 => 112 | 276 => 127 | 277 => 128 | n => n, fun | 0 => 0 | 3 => 3 | 4 => 4 | 5 => 5 | 80 => 123 | 9 => 9 | 20 => 20 | 31 => 89 | 37 => 115 | 70 => 114 | 72 => 117 | 75 => 120 | 76 => 121 | 127 => 139 | 164 => 153 | n => n, fun | n => n⟩
theorem row_join : Go.Proofs.Lays.n156 Tryz.prog row_join_ren := {
  mixed := by kernel_rfl
  f156 := Tryz.func59.trans (congrArg some (by kernel_rfl))
  f165 := Tryz.func86.trans (congrArg some (by kernel_rfl))
  f166 := Tryz.func87.trans (congrArg some (by kernel_rfl))
  f169 := Tryz.func88.trans (congrArg some (by kernel_rfl))
  f240 := Tryz.func111.trans (congrArg some (by kernel_rfl))
  f241 := Tryz.func112.trans (congrArg some (by kernel_rfl))
  f276 := Tryz.func127.trans (congrArg some (by kernel_rfl))
  f277 := Tryz.func128.trans (congrArg some (by kernel_rfl))
  t0 := Tryz.underlying0
  a0 := Tryz.isAgg0
  z0 := Tryz.sizeOf0
  v0 := Tryz.zeroValue0
  t3 := Tryz.underlying3
  a3 := Tryz.isAgg3
  z3 := Tryz.sizeOf3
  v3 := Tryz.zeroValue3
  t4 := Tryz.underlying4
  a4 := Tryz.isAgg4
  z4 := Tryz.sizeOf4
  v4 := Tryz.zeroValue4
  t9 := Tryz.underlying9
  a9 := Tryz.isAgg9
  z9 := Tryz.sizeOf9
  v9 := Tryz.zeroValue9
  t20 := Tryz.underlying20
  a20 := Tryz.isAgg20
  z20 := Tryz.sizeOf20
  v20 := Tryz.zeroValue20
  t31 := Tryz.underlying89
  a31 := Tryz.isAgg89
  z31 := Tryz.sizeOf89
  v31 := Tryz.zeroValue89
  t37 := Tryz.underlying115
  a37 := Tryz.isAgg115
  z37 := Tryz.sizeOf115
  v37 := Tryz.zeroValue115
  t70 := Tryz.underlying114
  a70 := Tryz.isAgg114
  z70 := Tryz.sizeOf114
  v70 := Tryz.zeroValue114
  t72 := Tryz.underlying117
  a72 := Tryz.isAgg117
  z72 := Tryz.sizeOf117
  v72 := Tryz.zeroValue117
  t75 := Tryz.underlying120
  a75 := Tryz.isAgg120
  z75 := Tryz.sizeOf120
  v75 := Tryz.zeroValue120
  t76 := Tryz.underlying121
  a76 := Tryz.isAgg121
  z76 := Tryz.sizeOf121
  v76 := Tryz.zeroValue121
  t127 := Tryz.underlying139
  a127 := Tryz.isAgg139
  z127 := Tryz.sizeOf139
  v127 := Tryz.zeroValue139
  t164 := Tryz.underlying153
  a164 := Tryz.isAgg153
  z164 := Tryz.sizeOf153
  v164 := Tryz.zeroValue153 }
theorem row_extra : Builder.Extra Tryz.prog row_join_ren where
  sizeBuilder := by kernel_rfl
  liesBuilder := by kernel_rfl
  t5 := Tryz.underlying5
  a5 := Tryz.isAgg5
  z5 := Tryz.sizeOf5
  v5 := Tryz.zeroValue5
  infoByte := by kernel_rfl
  cellsByte := by kernel_rfl
  sizeByte := by kernel_rfl
  neB5 := by decide
def texts (qs : List Rat) : List ByteArray := qs.map (fun q => bs (ftxt q))
theorem texts_length (qs : List Rat) : (texts qs).length = qs.length := List.length_map _
theorem texts_lists (qs : List Rat) : (texts qs).map (fun x => x.data.toList) = qs.map ftxt := by
  unfold texts
  rw [List.map_map]
  refine List.map_congr_left (fun q _ => ?_)
  show (bs (ftxt q)).data.toList = ftxt q
  rfl
theorem join_rowTxt : ∀ qs : List Rat, Lib.join (qs.map ftxt) [44] = rowTxt qs
  | [] => rfl
  | [q] => by
    show Lib.join [ftxt q] [44] = ftxt q
    rw [Lib.join_one]
  | q :: p :: r => by
    have h := join_rowTxt (p :: r)
    show Lib.join (ftxt q :: ftxt p :: r.map ftxt) [44] = ftxt q ++ 44 :: rowTxt (p :: r)
    rw [← h]
    show _ = ftxt q ++ 44 :: Lib.join (ftxt p :: r.map ftxt) [44]
    rw [Lib.join_cons, Lib.join_cons]
    simp [Lib.joinTail]
theorem txt_words {n K : Nat} (h : (dg n).length ≤ K) : (txt n).length ≤ 32 * K + 1 := by
  have h1 := val_lt (okw_dg n)
  rw [val_dg, pow32] at h1
  exact txt_length_le (Nat.lt_of_lt_of_le h1 (Nat.pow_le_pow_right (by decide) (by omega)))
theorem ftxt_words {q : Rat} {K : Nat} (h : qlen q ≤ K) : (ftxt q).length ≤ 64 * K + 4 := by
  have h1 := txt_words (Nat.le_trans (qlen_num q) h)
  have h2 := txt_words (Nat.le_trans (qlen_den q) h)
  have h3 : (ztxt q.num).length ≤ 32 * K + 2 := by unfold ztxt; split <;> (try rw [List.length_cons]) <;> omega
  unfold ftxt
  split <;> simp only [List.length_append, List.length_cons, List.length_nil] <;> omega
theorem rowTxt_words {K : Nat} : ∀ {qs : List Rat}, (∀ q ∈ qs, qlen q ≤ K) → (rowTxt qs).length ≤ qs.length * (64 * K + 5)
  | [], _ => by rw [rowTxt]; exact Nat.zero_le _
  | [q], h => by
    have h1 := ftxt_words (h q (by simp))
    show (ftxt q).length ≤ (0 + 1) * (64 * K + 5)
    omega
  | q :: p :: r, h => by
    have h1 := ftxt_words (h q (by simp))
    have h2 := rowTxt_words (qs := p :: r) (fun x hx => h x (List.mem_cons_of_mem _ hx))
    show (ftxt q ++ 44 :: rowTxt (p :: r)).length ≤ _
    have h3 : (q :: p :: r).length * (64 * K + 5) = (p :: r).length * (64 * K + 5) + (64 * K + 5) := by rw [List.length_cons (a := q), Nat.add_mul, Nat.one_mul]
    rw [h3]
    simp only [List.length_append, List.length_cons] at h2 ⊢; omega
theorem row_joined (qs : List Rat) (g n : Nat) (w : World) (hc : ∀ (j : Nat) x, (texts qs)[j]? = some x → w.cell? ⟨g, 0 + j, none⟩ = some (.string x)) (hg : g < w.heap.size) (hl : qs.length = n) (hn : n ≤ 300) (hq : ∀ q ∈ qs, qlen q ≤ 101) :
    Calls Tryz.prog 59 #[.slice (some ⟨g, 0, none⟩) n n, .string ⟨#[44]⟩] w (Gives (.string (bs (rowTxt qs))) w) := by
  have hx : (texts qs).length = n := (texts_length qs).trans hl
  have hlen : (Lib.join ((texts qs).map (·.data.toList)) (⟨#[44]⟩ : ByteArray).data.toList).length ≤ 140737488355328 := by
    rw [texts_lists]
    show (Lib.join (qs.map ftxt) [44]).length ≤ _
    rw [join_rowTxt]
    have h1 := rowTxt_words hq
    have h2 : qs.length * (64 * 101 + 5) ≤ 300 * (64 * 101 + 5) := Nat.mul_le_mul_right _ (by omega)
    omega
  have h := Any.strings_Join row_join row_extra g 0 n (texts qs) ⟨#[44]⟩ w hc hg (by rw [hx]; omega) (by rw [hx]; exact Nat.le_refl _) hlen
  rw [hx] at h
  refine h.mono fun e w' ⟨he, hb⟩ => ⟨?_, hb⟩
  rw [he, texts_lists]
  show Ending.returned (.string ⟨(Lib.join (qs.map ftxt) [44]).toArray⟩) = _
  rw [join_rowTxt]; rfl
theorem infoStr : (Tryz.prog.info? 9).map (fun i => (i.zero, i.size, i.bytes)) = some (some (.string ⟨#[]⟩), 1, 16) := by kernel_rfl
theorem owns_later {w w' : World} {base : Nat} {e : TypeId} {size : Nat} {v : Value} {n : Nat} {xs : List Value} (h : w.ownsRow base e size v n xs) (hb : Below w.heap.size w w') : w'.ownsRow base e size v n xs := by
  refine ⟨h.1, ?_⟩
  rcases h.2 with hn | ⟨g, cap, cur, rfl, hbg, hgg, rest⟩
  · exact .inl hn
  · exact .inr ⟨g, cap, cur, rfl, hbg, (hb.block g (Array.getElem?_eq_some_iff.1 hgg).1).trans hgg, rest⟩
def strs (S : List ByteArray) (r : Nat) : List Value := S.map Value.string ++ List.replicate r (.string ⟨#[]⟩)
theorem strs_set (S : List ByteArray) (r : Nat) (x : ByteArray) : (strs S (r + 1)).set S.length (.string x) = strs (S ++ [x]) r := by
  unfold strs
  rw [List.set_append_right _ _ (by rw [List.length_map]; exact Nat.le_refl _), List.length_map, Nat.sub_self, List.replicate_succ, List.set_cons_zero, List.map_append, List.append_assoc]; rfl
theorem strs_at (S : List ByteArray) (r : Nat) : (strs S (r + 1))[S.length]? = some (.string ⟨#[]⟩) := by
  unfold strs
  rw [List.getElem?_append_right (by rw [List.length_map]; exact Nat.le_refl _), List.length_map, Nat.sub_self, List.replicate_succ, List.getElem?_cons_zero]
theorem strs_get {S : List ByteArray} {j : Nat} {x : ByteArray} (h : S[j]? = some x) : (strs S 0)[j]? = some (.string x) := by
  unfold strs
  rw [List.replicate_zero, List.append_nil, List.getElem?_map, h]; rfl
theorem bs_more {S : List ByteArray} {k : Nat} (h : k < S.length) : S.take (k + 1) = S.take k ++ [S.getD k (bs [])] := by
  rw [List.take_succ_eq_append_getElem h, List.getD_eq_getElem?_getD, List.getElem?_eq_getElem h]; rfl
set_option maxRecDepth 4096 in
set_option maxHeartbeats 4000000 in
theorem row_text (a0 : Option Addr) (n0 c0 : Nat) (L0 : List Fx) (w : World) (h0 : Fxs w a0 n0 c0 L0) (hn : n0 ≤ 300) (ht0 : thin 100 L0) (hT : Hid (Dec10 w)) : Calls Tryz.prog 38 #[.slice a0 n0 c0] w (Gives (.string (bs (rowTxt (fqs L0)))) w) := by
  have HQ9 := Lib.hid (ht0.qs h0.oks)
  have HK0 := Lib.hid h0
  have HLl0 := Lib.hid h0.len
  have hbd0 := h0.bound
  have HTh0 := Lib.hid ht0
  clear h0 ht0
  have HJ := Lib.hid (show ∀ (g : Nat) (w' : World), (∀ (j : Nat) x, (texts (fqs L0))[j]? = some x → w'.cell? ⟨g, 0 + j, none⟩ = some (.string x)) → g < w'.heap.size → Calls Tryz.prog 59 #[.slice (some ⟨g, 0, none⟩) n0 n0, .string ⟨#[44]⟩] w' (Gives (.string (bs (rowTxt (fqs L0)))) w') from fun g w' hc hg => row_joined (fqs L0) g n0 w' hc hg (by rw [fqs_length, HLl0.out]) hn HQ9.out)
  have HTL0 : (texts (fqs L0)).length = n0 := by rw [texts_length, fqs_length, HLl0.out]
  have HTV0 : ∀ k, k < n0 → (texts (fqs L0)).getD k (bs []) = bs (ftxt (L0.getD k Fx.zero).q) := fun k hk => by
    have h9 : k < L0.length := by rw [HLl0.out]; exact hk
    unfold texts
    rw [List.getD_eq_getElem?_getD, List.getElem?_map, fqs_at L0 k h9]; rfl
  obtain ⟨T, hTe⟩ : ∃ T, texts (fqs L0) = T := ⟨_, rfl⟩
  rw [hTe] at HTL0 HTV0 HJ
  obtain ⟨rr, hrr⟩ : ∃ rr, bs (rowTxt (fqs L0)) = rr := ⟨_, rfl⟩
  rw [hrr] at HJ ⊢
  have HTL := Lib.hid HTL0
  have HTV := Lib.hid HTV0
  clear HTL0 HTV0 hTe hrr HQ9
  obtain ⟨i0, hi, hz0, hz1, hz2⟩ := info_parts infoStr
  go_enter Tryz.func38, Tryz.ntmps38
  go_wp2_with (at_make; refine wpList_make_words _ rfl _ _ 89 rfl w.heap.size 9 i0 (.string ⟨#[]⟩) Tryz.underlying89 hi hz0 hz1 rfl .i64 .i64 _ _ n0 n0 rfl rfl rfl rfl (Nat.le_refl _) (by rw [hz2]; omega) (by unfold maxLen; omega) (Nat.le_refl _) ?_; intro wm hown1 hgm)
  have HO0 : Hid (wm.ownsRow w.heap.size 9 1 (.slice (some ⟨w.heap.size, 0, none⟩) n0 n0) n0 (strs [] n0)) := Lib.hid hown1
  have HB0 : Hid (Below w.heap.size w wm) := Lib.hid ((Below.refl _ _).grown hgm (Nat.le_refl _) (fun k hk => by cases hk))
  have hszm : w.heap.size < wm.heap.size := (hown1.lt _ rfl).2
  clear hown1 hgm
  go_loopw [10] (fun iv wr => ∃ k r : Nat, k + r = n0 ∧ iv = .int .i64 (k : Int) ∧ Hid (wr.ownsRow w.heap.size 9 1 (.slice (some ⟨w.heap.size, 0, none⟩) n0 n0) n0 (strs (T.take k) r)) ∧ Hid (Below w.heap.size w wr) ∧ w.heap.size < wr.heap.size) (fun iv _ => n0 - (intOf iv).toNat)
  case atStart => exact ⟨0, n0, by omega, rfl, HO0, HB0, hszm⟩
  case round =>
    clear HO0 HB0
    obtain ⟨k, r, hk, rfl, HO, HB, hsz⟩ := hrel
    by_cases hlt : k < n0
    · have hkT : k < T.length := by rw [HTL.out]; exact hlt
      obtain ⟨r, rfl⟩ : ∃ r', r = r' + 1 := ⟨r - 1, by omega⟩
      have HT : Hid (T.take (k + 1) = T.take k ++ [T.getD k (bs [])]) := Lib.hid (bs_more hkT)
      have HTv := Lib.hid (HTV.out k hlt)
      obtain ⟨bb0, off0, rfl, e00, e10, e20, hok0⟩ := HK0.out.at hlt
      have hth0 := HTh0.out _ (fx_mem (L := L0) (k := k) (by rw [HLl0.out]; exact hlt))
      generalize L0.getD k Fx.zero = xk0 at *
      obtain ⟨sk0, ak0, nk0, ck0, lak0, bk0, mk0, dk0, lbk0⟩ := xk0
      obtain ⟨hA0, hB0⟩ := hok0
      simp only at e00 e10 e20 hA0 hB0 hth0
      obtain ⟨hth0, htj0⟩ := hth0
      have HE0 : Hid (w.cell? ⟨bb0, off0 + k * 3, none⟩ = some (.bool sk0) ∧ w.cell? ⟨bb0, off0 + k * 3 + 1, none⟩ = some (.slice ak0 nk0 ck0) ∧ w.cell? ⟨bb0, off0 + k * 3 + 2, none⟩ = some (.slice bk0 mk0 dk0)) := Lib.hid ⟨e00, e10, e20⟩
      have AK0 := Lib.hid hA0
      have BK0 := Lib.hid hB0
      clear hA0 hB0 e00 e10 e20
      generalize T.getD k (bs []) = tk at *
      replace HTv : Hid (tk = bs (ftxt (qval sk0 (val lak0) (val lbk0)))) := HTv
      have hki : (k : Int) < (n0 : Int) := by omega
      have hk0 : (0 : Int) ≤ (k : Int) := by omega
      obtain ⟨e00, e10, e20⟩ := three_on HE0.out HB.out
      go_wp2_with fail
      refine (figureSaid.text (frV sk0 ak0 nk0 ck0 bk0 mk0 dk0) (qval sk0 (val lak0) (val lbk0)) _ (Fr.of (AK0.out.later HB.out) (BK0.out.later HB.out) (by omega) (by omega) rfl) (Lib.hid (hT.out.later HB.out))).mono ?_
      rintro e w4 ⟨rfl, bw⟩
      rw [← HTv.out]
      clear e00 e10 e20
      replace HB := Lib.hid (below_then HB.out bw)
      have hO4 := owns_later HO.out bw
      have hsz4 : w.heap.size < w4.heap.size := Nat.lt_of_lt_of_le hsz bw.size
      clear bw hsz HO
      have htl : (T.take k).length = k := take_len (Nat.le_of_lt hkT)
      have p0 := hO4.cellAt k (by omega)
      rw [show (strs (T.take k) (r + 1))[k]? = some (.string ⟨#[]⟩) by have h9 := strs_at (T.take k) r; rwa [htl] at h9] at p0
      have f0 := hO4.frozenAt k
      obtain ⟨hst, hgr⟩ := hO4.stored k (.string tk)
      rw [show (strs (T.take k) (r + 1)).set k (.string tk) = strs (T.take (k + 1)) r by have h9 := strs_set (T.take k) r tk; rw [htl] at h9; rw [h9, HT.out]] at hst
      have HS := Lib.hid hst
      have HB5 := Lib.hid (HB.out.grown hgr HB.out.size (fun g' hg' => by simp at hg'; omega))
      have hsz5 := Nat.lt_of_lt_of_le hsz4 hgr.size
      clear hst hgr hO4 HB HT HTv htl
      go_wp2
      go_roundw
      case rel => exact ⟨k + 1, r, by omega, by go_num, HS, HB5, hsz5⟩
      case measure => simp [intOf]; omega
    · obtain rfl : k = n0 := by omega
      obtain rfl : r = 0 := by omega
      have hF := HO.out
      rw [List.take_of_length_le (Nat.le_of_eq HTL.out)] at hF
      have HF := Lib.hid (show ∀ (j : Nat) x, T[j]? = some x → wr.cell? ⟨w.heap.size, 0 + j, none⟩ = some (.string x) from fun j x hx => by
        have h9 := hF.cellAt j (by have := (List.getElem?_eq_some_iff.1 hx).1; rw [HTL.out] at this; omega)
        rw [strs_get hx] at h9
        rw [Nat.zero_add]; exact h9)
      clear HO hF
      go_wp2_with fail
      refine (HJ.out _ _ HF.out hsz).mono ?_
      rintro e w5 ⟨rfl, bw⟩
      have HB9 := Lib.hid (below_then HB.out bw)
      clear bw HF
      go_wp2
      go_ret
      exact ⟨rfl, HB9.out⟩
end Go.Proofs.YtpjkhbfglgmnmaaGreatDoor

/-
  What package row's functions owe, proved.
-/
namespace Go.Proofs.YtpjkhbfglgmnmaaGreatDoor
open Go.RowKit Go.Shelf

theorem row_add_yes (a : Option Addr) (n c : Nat) (LL : List (List Fx)) (w : World) (h : Fxss w a n c LL) (hn : n ≤ 10) (hl : ∀ L ∈ LL, L.length ≤ 300 ∧ thin 100 L) (hb : even (LL.map fqs)) : Calls Tryz.prog 50 #[.slice a n c] w (LstRwV (raddAll (LL.map fqs)) (.bool true) w) := by
  have hlen := h.len
  match n, hlen with
  | 0, hlen =>
    rw [List.length_eq_zero_iff.1 hlen]
    exact row_add_none a c w
  | 1, _ => exact row_add_one a c LL w h hl
  | n + 2, _ => exact row_add_even a (n + 2) c LL w h hn hl (by omega) hb
theorem row_add_no (a : Option Addr) (n c : Nat) (LL : List (List Fx)) (w : World) (h : Fxss w a n c LL) (hb : ¬ even (LL.map fqs)) : Calls Tryz.prog 50 #[.slice a n c] w (LstRwV [] (.bool false) w) := by
  have hlen := h.len
  refine row_add_uneven a n c LL w h ?_ hb
  by_cases h2 : 2 ≤ n
  · exact h2
  · refine absurd (fun x hx y hy => ?_) hb
    match LL, hlen with
    | [], _ => simp at hx
    | [L], _ =>
      simp only [List.map_cons, List.map_nil, List.mem_cons, List.not_mem_nil, or_false] at hx hy
      rw [hx, hy]
    | _ :: _ :: _, hlen => simp only [List.length_cons] at hlen; omega
theorem rowSaid : RowSaid where
  zero := fun n w h => row_zero n w h
  unit := fun n i w h1 h2 => row_unit n i w h1 h2
  same := fun a n c L b m d M w h k hn _ t u => row_same a n c L b m d M w h k hn t u
  add_yes := fun a n c LL w h hn hl hb => row_add_yes a n c LL w h hn hl hb
  add_no := fun a n c LL w h _ _ hb => row_add_no a n c LL w h hb
  scale := fun v q a n c L w hv h hn t => row_scale v q a n c L w hv h hn t
  dot_yes := fun a n c L b m d M w h k hn _ t u hs => row_dot_yes a n c L b m d M w h k hn t u hs
  dot_more := fun a n c L b m d M N w h k hn t u hs hb hN => row_dot_more a n c L b m d M N w h k hn t u hs hb hN
  dot_no := fun a n c _ b m d _ w _ _ _ _ _ _ hs => row_dot_no a n c b m d w hs
  text := fun a n c L w h hn t hT => row_text a n c L w h hn t hT
end Go.Proofs.YtpjkhbfglgmnmaaGreatDoor

/-
  Rows of rows of fractions in a row of the call's own: a row behind the others. Of no program.
-/
namespace Go.Proofs.YtpjkhbfglgmnmaaGreatDoor
open Go.ChangeShapes Go.WideShapes Go.ChangeAt Go.RowKit Go.Deep

def slicesOnly (l : List Value) : Prop := ∀ u ∈ l, ∃ (a : Option Addr) (n c : Nat), u = .slice a n c
/-- The block that a value leads to holds nothing but slices. -/
def holdsSlices (w : World) (v : Value) : Prop := ∀ g, v.ownBlock = some g → ∀ (j : Nat) u, w.cell? ⟨g, j, none⟩ = some u → ∃ (a : Option Addr) (n c : Nat), u = .slice a n c
theorem holdsSlices_nil (w : World) : holdsSlices w (.slice none 0 0) := fun g h => by simp [Value.ownBlock] at h
theorem holdsSlices.clean {w : World} {v : Value} (h : holdsSlices w v) : Go.Proofs.YtpjkhbfglgmnmaaGreatDoor.clean w v := fun g hg j k hc => by
  obtain ⟨a, n, c, e⟩ := h g hg j _ hc
  cases e
theorem slicesOnly_append {l m : List Value} (h : slicesOnly l) (k : slicesOnly m) : slicesOnly (l ++ m) := fun u hu => (List.mem_append.1 hu).elim (h u) (k u)
theorem holdsSlices_block {w : World} {g : Nat} {n c : Nat} {cur : Array Value} {e : TypeId} {fr : Nat × Nat} (hg : w.heap[g]? = some (.cells cur e fr)) (h : slicesOnly cur.toList) : holdsSlices w (.slice (some ⟨g, 0, none⟩) n c) := by
  intro g' hg' j u hc
  simp [Value.ownBlock] at hg'
  subst hg'
  rw [cell_of_row w g j cur e fr hg] at hc
  have hm : u ∈ cur := Array.mem_of_getElem? hc
  exact h _ (by simpa using hm)
theorem slicesOnly_zeros {z : Array Value} (h : slicesOnly z.toList) (n : Nat) : slicesOnly (Builtin.zeroCells z n).toList := by
  intro u hu
  have hm : u ∈ Builtin.zeroCells z n := by simpa using hu
  unfold Builtin.zeroCells at hm
  simp at hm
  obtain ⟨i, h1, h2⟩ := hm
  have hz : 0 < z.size := Nat.pos_of_ne_zero (fun e => by rw [e, Nat.mul_zero] at h1; omega)
  have hi : i % z.size < z.size := Nat.mod_lt _ hz
  rw [getElem!_pos z _ hi] at h2
  exact h u (by rw [← h2]; simp)
/-- What a value leads to is what another one led to, or new. -/
def anew (w : World) (v v' : Value) : Prop := ∀ j, v'.ownBlock = some j → v.ownBlock = some j ∨ w.heap.size ≤ j
structure Fresh (w : World) (v v' : Value) : Prop where
  held : holdsSlices w v
  new : anew w v v'
theorem run_append_slices {P : Program} (w : World) (t ty : TypeId)
    (base : Nat) (e : TypeId) (i : TypeInfo) (z : Value) (size bytes : Nat) (ht : P.underlying t = some (.slice e)) (hi : P.info? e = some i) (hz : i.zero = some z)
    (hsize : i.size = size) (hby : i.bytes = bytes) (hzs : z.cells.size = size) (hsz : 0 < size)
    (v : Value) (n : Nat) (xs : List Value) (hown : w.ownsRow base e size v n xs)
    (ad : Addr) (m c : Nat) (news : List Value) (hl : news.length = m * size) (hnews : ∀ j u, news[j]? = some u → w.cell? (ad.add j) = some u) (h1 : ∀ u ∈ news, u.oneCell' = true)
    (h63 : n + m ≤ maxLen) (hbytes : (n + m) * bytes ≤ 140737488355328) (hbase : base ≤ w.heap.size) (hm : 0 < m) (hcl : holdsSlices w v) (hzc : slicesOnly z.cells.toList) (hnc : slicesOnly news) (hxc : slicesOnly xs) :
    ∃ v' w', (Builtin.append_ #[t, t] ty #[v, .slice (some ad) m c]).run P w = .ok v' w' ∧ w'.ownsRow base e size v' (n + m) (xs ++ news) ∧ w.grownBy w' v.ownBlock ∧ holdsSlices w' v' ∧ anew w v v' := by
  obtain ⟨v', w', hr, h2, h3, h4⟩ := run_append_own (P := P) w base t ty e i z size bytes ht hi hz hsize hby hzs hsz v n xs hown ad m c news hl hnews h1 h63 hbytes hbase
  refine ⟨v', w', hr, h2, h3, ?_⟩
  subst hsize hby
  rcases hown.2 with ⟨rfl, rfl⟩ | ⟨g, cap, cur, rfl, hbg, hg, hnc', hcm, hcs, htake⟩
  · have er := run_append_nil (P := P) w t ty e i z ht hi hz ad m c news hl hnews hm (by simp only [maxLen] at h63; omega) (by simp only [Nat.zero_add] at hbytes; omega)
    rw [er] at hr
    simp only [Result.ok.injEq] at hr
    obtain ⟨rfl, rfl⟩ := hr
    exact ⟨holdsSlices_block (heap_alloc_new w.drew _) (by simp only [Array.toList_append]; exact slicesOnly_append hnc (slicesOnly_zeros hzc _)), fun j hj => .inr (by simp [Value.ownBlock] at hj; omega)⟩
  · by_cases hroom : n + m ≤ cap
    · have er := run_append_room (P := P) w t ty e i ht hi g n cap cur hg ad m c news hl hnews h1 hroom (by rw [hl, hcs, ← Nat.add_mul]; exact Nat.mul_le_mul_right _ hroom)
      rw [er] at hr
      simp only [Result.ok.injEq] at hr
      obtain ⟨rfl, rfl⟩ := hr
      have hcu : slicesOnly cur.toList := fun u hu => by
        obtain ⟨j, hj, e3⟩ := List.getElem_of_mem hu
        refine hcl g rfl j u ?_
        rw [cell_of_row w g j cur e (0, 0) hg, ← e3]
        simp
      exact ⟨holdsSlices_block (setRow_heap w g cur _ e _ hg) (slicesOnly_append (slicesOnly_append (fun u hu => hcu u (List.mem_of_mem_take hu)) hnc) (fun u hu => hcu u (List.mem_of_mem_drop hu))), fun j hj => .inl hj⟩
    · have holds : ∀ j u, xs[j]? = some u → w.cell? ((⟨g, 0, none⟩ : Addr).add j) = some u := hown.cells (g := g) rfl
      have er := run_append_grow (P := P) w t ty e i z ht hi hz ⟨g, 0, none⟩ n cap xs hown.1 holds ad m c news hl hnews (by omega) (by simp only [maxLen] at h63; omega) (growslice_fits (by omega) hbytes)
      rw [er] at hr
      simp only [Result.ok.injEq] at hr
      obtain ⟨rfl, rfl⟩ := hr
      exact ⟨holdsSlices_block (heap_alloc_new w.drew _) (by simp only [Array.toList_append]; exact slicesOnly_append (slicesOnly_append hxc hnc) (slicesOnly_zeros hzc _)), fun j hj => .inr (by simp [Value.ownBlock] at hj; omega)⟩
/-- An append that goes so. -/
theorem wpList_append_run {P : Program} (w : World) {ops : Array Oper} {rest : List Oper} {o : Oper} {a : Act} {Q : Exit → Act → World → Prop} (hgd : o.guard = none) {s x : Operand} {t : TypeId}
    (ho : o.op = .call { callee := .builtin .append, args := #[s, x], argTypes := #[t, t] }) {v u v' : Value} {w' : World} (hs : a.eval s = v) (hx : a.eval x = u)
    (hr : (Builtin.append_ #[t, t] o.type #[v, u]).run P w = .ok v' w') (h : wpList P ops Q rest (a.put o.dst v') w') : wpList P ops Q (o :: rest) a w := by
  refine wpList_plain hgd fun _ hK => ?_
  unfold Oper.wp execOp
  simp only [ho, resolve, invoke, builtin, Sem.run_bind, Sem.run_pure, Result.andThen_ok, List.map_toArray, List.map_cons, List.map_nil, hs, hx, hr]
  exact hK _ _ h
/-- A row of fractions isn't touched by what grows in a block that holds but slices. -/
theorem Fxs.aside {w w' : World} {v : Value} {a : Option Addr} {n c : Nat} {L : List Fx} (h : Fxs w a n c L) (hc : holdsSlices w v) (hg : w.grownBy w' v.ownBlock) : Fxs w' a n c L := by
  refine ⟨h.1, h.2.1, h.2.2.1, h.2.2.2.1, fun x hx => Fx.aside (h.ok hx) hc.clean hg, h.2.2.2.2.2.imp id fun ⟨b, off, e, hcl⟩ => ⟨b, off, e, fun j hj => ?_⟩⟩
  obtain ⟨h1, h2, h3⟩ := hcl j hj
  have hlt : b < w.heap.size := by
    rcases Nat.lt_or_ge b w.heap.size with h9 | h9
    · exact h9
    · rw [World.cell?, Array.getElem?_eq_none h9] at h1; cases h1
  have hne : some b ≠ v.ownBlock := fun e2 => by
    obtain ⟨_, _, _, e3⟩ := hc b e2.symm _ _ h1
    cases e3
  have hk := hg.block b hlt hne
  exact ⟨(World.cell?_of_block hk).trans h1, (World.cell?_of_block hk).trans h2, (World.cell?_of_block hk).trans h3⟩
/-- A slice as it stands in memory. -/
structure Sx where
  a : Option Addr
  n : Nat
  c : Nat
def Sx.val (x : Sx) : Value := .slice x.a x.n x.c
def Sx.zero : Sx := ⟨none, 0, 0⟩
theorem slicesOnly_map (XS : List Sx) : slicesOnly (XS.map Sx.val) := fun u hu => by
  obtain ⟨x, _, rfl⟩ := List.mem_map.1 hu
  exact ⟨_, _, _, rfl⟩
/-- Rows of fractions, side by side in a row of the call's own. -/
def OwnF (w : World) (base : Nat) (e : TypeId) (v : Value) (LL : List (List Fx)) : Prop :=
  ∃ XS : List Sx, w.ownsRow base e 1 v XS.length (XS.map Sx.val) ∧ holdsSlices w v ∧ XS.length = LL.length ∧ ∀ j, j < LL.length → Fxs w (XS.getD j Sx.zero).a (XS.getD j Sx.zero).n (XS.getD j Sx.zero).c (LL.getD j [])
theorem OwnF.nil (w : World) (base : Nat) (e : TypeId) : OwnF w base e (.slice none 0 0) [] := ⟨[], World.ownsRow_nil _ _ _ _, holdsSlices_nil _, rfl, fun j hj => by simp at hj⟩
theorem OwnF.later {w w' : World} {base : Nat} {e : TypeId} {v : Value} {LL : List (List Fx)} (h : OwnF w base e v LL) (hb : Below w.heap.size w w') : OwnF w' base e v LL := by
  obtain ⟨XS, ⟨h1, h2⟩, h3, h4, h5⟩ := h
  refine ⟨XS, ?_, ?_, h4, fun j hj => (h5 j hj).later hb⟩
  · rcases h2 with ⟨rfl, h0⟩ | ⟨g, cap, cur, rfl, hbg, hg, q4, q5, q6, q7⟩
    · exact ⟨h1, .inl ⟨rfl, h0⟩⟩
    · exact ⟨h1, .inr ⟨g, cap, cur, rfl, hbg, blk_later hg hb, q4, q5, q6, q7⟩⟩
  · rcases h2 with ⟨rfl, h0⟩ | ⟨g, cap, cur, rfl, hbg, hg, q4, q5, q6, q7⟩
    · exact holdsSlices_nil _
    · intro g2 hg2 j u hu
      simp [Value.ownBlock] at hg2
      subst hg2
      rw [World.cell?_of_block (a := ⟨g, j, none⟩) (hb.block g (Array.getElem?_eq_some_iff.1 hg).1)] at hu
      exact h3 g rfl j u hu
theorem OwnF.base {w : World} {base : Nat} {e : TypeId} {v : Value} {LL : List (List Fx)} (h : OwnF w base e v LL) (k : Nat) (hk : v.ownBlock = some k) : base ≤ k := by
  obtain ⟨XS, h1, _⟩ := h
  rcases h1.2 with ⟨rfl, _⟩ | ⟨g, cap, cur, rfl, hbg, _⟩
  · simp [Value.ownBlock] at hk
  · simp [Value.ownBlock] at hk
    omega
theorem OwnF.out {w : World} {base : Nat} {e : TypeId} {v : Value} {LL : List (List Fx)} (h : OwnF w base e v LL) : ∃ (a : Option Addr) (cap : Nat), v = .slice a LL.length cap ∧ Fxss w a LL.length cap LL := by
  obtain ⟨XS, h1, _, h4, h5⟩ := h
  rcases h1.2 with ⟨rfl, h0⟩ | ⟨g, cap, cur, rfl, hbg, hg, hnc, hcm, hcs, htake⟩
  · have h0' : LL.length = 0 := by omega
    refine ⟨none, 0, by rw [h0'], rfl, by omega, by omega, fun _ => rfl, .inl h0'⟩
  · refine ⟨_, cap, by rw [h4], rfl, by omega, by unfold maxLen at hcm; omega, fun e => (by cases e), .inr ⟨g, 0, rfl, fun j hj => ⟨_, _, _, ?_, h5 j hj⟩⟩⟩
    have hj' : j < XS.length := by omega
    have h9 := h1.cells (g := g) rfl j (XS.getD j Sx.zero).val (by rw [List.getElem?_map, List.getElem?_eq_getElem hj', List.getD_eq_getElem?_getD, List.getElem?_eq_getElem hj']; rfl)
    rw [add_plain] at h9
    exact h9
/-- One more row behind the others. -/
theorem run_append_row2 {P : Program} (w : World) (t ty : TypeId)
    (base : Nat) (e : TypeId) (i : TypeInfo) (ht : P.underlying t = some (.slice e)) (hi : P.info? e = some i) (hz : i.zero = some (.slice none 0 0))
    (hsize : i.size = 1) (hby : i.bytes = 24) (v : Value) (LL : List (List Fx)) (hrow : OwnF w base e v LL)
    (ad : Addr) (a : Option Addr) (n c : Nat) (L : List Fx)
    (hnew : w.cell? ad = some (.slice a n c)) (had : ad.add 0 = ad) (hL : Fxs w a n c L)
    (hlen : LL.length ≤ 1000000) (hbase : base ≤ w.heap.size) :
    ∃ v' w', (Builtin.append_ #[t, t] ty #[v, .slice (some ad) 1 1]).run P w = .ok v' w' ∧ OwnF w' base e v' (LL ++ [L]) ∧ w.grownBy w' v.ownBlock ∧ (∀ k, v.ownBlock = some k → base ≤ k) ∧ Fresh w v v' := by
  have hb9 := hrow.base
  obtain ⟨XS, h1, h2, h4, h5⟩ := hrow
  obtain ⟨v', w', hr, hown, hgrow, hcl, hnw⟩ := run_append_slices (P := P) w t ty base e i (.slice none 0 0) 1 24 ht hi hz hsize hby rfl (by decide) v XS.length (XS.map Sx.val) h1 ad 1 1 [.slice a n c] rfl (fun j u hu => by
    match j, hu with
    | 0, hu =>
      simp at hu
      rw [had, ← hu]; exact hnew
    | j + 1, hu => simp at hu) (fun u hu => by rw [List.mem_singleton.1 hu]; rfl) (by unfold maxLen; omega) (by omega) hbase (by decide) h2 (fun u hu => by
    simp [Value.cells] at hu
    exact ⟨_, _, _, hu⟩) (fun u hu => ⟨_, _, _, List.mem_singleton.1 hu⟩) (slicesOnly_map _)
  refine ⟨v', w', hr, ⟨XS ++ [⟨a, n, c⟩], by simpa [Sx.val] using hown, hcl, by simp [h4], fun j hj => ?_⟩, hgrow, hb9, ⟨h2, hnw⟩⟩
  rw [List.length_append] at hj
  simp only [List.length_cons, List.length_nil] at hj
  by_cases hjl : j < LL.length
  · have e1 : (XS ++ [(⟨a, n, c⟩ : Sx)]).getD j Sx.zero = XS.getD j Sx.zero := by rw [List.getD_eq_getElem?_getD, List.getElem?_append_left (by omega), ← List.getD_eq_getElem?_getD]
    have e2 : (LL ++ [L]).getD j [] = LL.getD j [] := by rw [List.getD_eq_getElem?_getD, List.getElem?_append_left hjl, ← List.getD_eq_getElem?_getD]
    rw [e1, e2]
    exact (h5 j hjl).aside h2 hgrow
  · have hjj : j = LL.length := by omega
    have e1 : (XS ++ [(⟨a, n, c⟩ : Sx)]).getD j Sx.zero = ⟨a, n, c⟩ := by rw [List.getD_eq_getElem?_getD, List.getElem?_append_right (by omega), show j - XS.length = 0 by omega]; rfl
    have e2 : (LL ++ [L]).getD j [] = L := by rw [List.getD_eq_getElem?_getD, List.getElem?_append_right (by omega), show j - LL.length = 0 by omega]; rfl
    rw [e1, e2]
    exact hL.aside h2 hgrow
theorem wpList_append_row2 {P : Program} (w : World) {ops : Array Oper} {rest : List Oper} {o : Oper} {act : Act} {Q : Exit → Act → World → Prop} (hgd : o.guard = none) (s x : Operand) (t : TypeId)
    (ho : o.op = .call { callee := .builtin .append, args := #[s, x], argTypes := #[t, t] })
    (base : Nat) (e : TypeId) (i : TypeInfo) (ht : P.underlying t = some (.slice e)) (hi : P.info? e = some i) (hz : i.zero = some (.slice none 0 0))
    (hsize : i.size = 1) (hby : i.bytes = 24) (v : Value) (LL : List (List Fx)) (hs : act.eval s = v) (hrow : OwnF w base e v LL)
    (ad : Addr) (a : Option Addr) (n c : Nat) (L : List Fx) (hx : act.eval x = .slice (some ad) 1 1)
    (hnew : w.cell? ad = some (.slice a n c)) (had : ad.add 0 = ad) (hL : Fxs w a n c L)
    (hlen : LL.length ≤ 1000000) (hbase : base ≤ w.heap.size)
    (h : ∀ v' w', OwnF w' base e v' (LL ++ [L]) → w.grownBy w' v.ownBlock → (∀ k, v.ownBlock = some k → base ≤ k) → Fresh w v v' → wpList P ops Q rest (act.put o.dst v') w') : wpList P ops Q (o :: rest) act w := by
  obtain ⟨v', w', hr, h1, h2, h3, h4⟩ := run_append_row2 (P := P) w t o.type base e i ht hi hz hsize hby v LL hrow ad a n c L hnew had hL hlen hbase
  exact wpList_append_run w hgd ho hs hx hr (h v' w' h1 h2 h3 h4)
end Go.Proofs.YtpjkhbfglgmnmaaGreatDoor

/-
  Plain mathematics: how long what is reckoned of rows becomes. Of no program.
-/
namespace Go.Proofs.YtpjkhbfglgmnmaaGreatDoor
open Go.RowKit

theorem qlen_radd {A B : Nat} {l m : List Rat} (hl : ∀ q ∈ l, qlen q ≤ A) (hm : ∀ q ∈ m, qlen q ≤ B) : ∀ q ∈ radd l m, qlen q ≤ A + B + 2 := fun q hq => by
  obtain ⟨x, hx, y, hy, rfl⟩ := mem_radd hq
  have h1 := hl x hx
  have h2 := hm y hy
  have h3 := qlen_add x y
  omega
theorem qlen_rdot {A B : Nat} : ∀ {l m : List Rat}, (∀ q ∈ l, qlen q ≤ A) → (∀ q ∈ m, qlen q ≤ B) → qlen (rdot l m) ≤ 1 + l.length * (A + B + 3)
  | [], m, _, _ => by
    rw [rdot, qlen_nought]
    · omega
    · simp
  | x :: l, [], _, _ => by
    rw [rdot, qlen_nought]
    · omega
    · simp
  | x :: l, y :: m, hl, hm => by
    have h1 := qlen_rdot (l := l) (m := m) (fun q hq => hl q (List.mem_cons_of_mem _ hq)) (fun q hq => hm q (List.mem_cons_of_mem _ hq))
    have h2 := hl x (List.mem_cons_self ..)
    have h3 := hm y (List.mem_cons_self ..)
    have h4 := qlen_mul x y
    have h5 := qlen_add (x * y) (rdot l m)
    have h6 : (x :: l).length * (A + B + 3) = l.length * (A + B + 3) + (A + B + 3) := by rw [List.length_cons, Nat.add_mul, Nat.one_mul]
    rw [rdot]
    omega
theorem qlen_reps (n : Nat) : ∀ q ∈ List.replicate n (0 : Rat), qlen q ≤ 2 := fun q hq => by
  rw [(List.mem_replicate.1 hq).2, qlen_nought]; decide
theorem qlen_runit (n : Nat) (i : Int) : ∀ q ∈ runit n i, qlen q ≤ 2 := fun q hq => by
  unfold runit at hq
  split at hq
  · rcases List.mem_or_eq_of_mem_set hq with h | h
    · exact qlen_reps n q h
    · rw [h]; exact qlen_int (z := 1) (by decide)
  · exact qlen_reps n q hq
theorem runit_length (n : Nat) (i : Int) : (runit n i).length = n := by
  unfold runit
  split
  · rw [List.length_set, List.length_replicate]
  · rw [List.length_replicate]
end Go.Proofs.YtpjkhbfglgmnmaaGreatDoor
