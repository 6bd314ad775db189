/-
  Several texts of this claim as one, group 17.
-/
import Derived.Test.YtpjkhbfglgmnmaaGreatDoorG16
/-
  Package grid at this seat: Same.
-/
namespace Go.Proofs.YtpjkhbfglgmnmaaGreatDoor
open Go.RowKit

theorem fqs_map_more {LL : List (List Fx)} {k : Nat} (h : k < LL.length) : (LL.take (k + 1)).map fqs = (LL.take k).map fqs ++ [fqs (LL.getD k [])] := by
  rw [ll_nextG h, List.map_append]; rfl
theorem ll_ne_of_at {LL MM : List (List Fx)} {k : Nat} (h : k < LL.length) (h' : k < MM.length) (hne : fqs (LL.getD k []) ≠ fqs (MM.getD k [])) : LL.map fqs ≠ MM.map fqs := fun e => hne (by
  rw [fqs_row h, fqs_row h', e])
set_option maxRecDepth 4096 in
set_option maxHeartbeats 4000000 in
theorem grid_equalfunc (a0 : Option Addr) (n0 c0 : Nat) (L0 : List (List Fx)) (a1 : Option Addr) (n1 c1 : Nat) (L1 : List (List Fx)) (w : World) (h0 : Fxss w a0 n0 c0 L0) (h1 : Fxss w a1 n1 c1 L1) (ht0 : small 300 1000 L0) (ht1 : small 300 1000 L1) : Calls Tryz.prog 41 #[.slice a0 n0 c0, .slice a1 n1 c1, .func (.func 42) #[] #[]] w (Gives (.bool (decide (L0.map fqs = L1.map fqs))) w) := by
  have HK0 := Lib.hid h0
  have HLl0 := Lib.hid h0.len
  have hbd0 := h0.bound
  have HTh0 := Lib.hid ht0
  clear h0 ht0
  have HK1 := Lib.hid h1
  have HLl1 := Lib.hid h1.len
  have hbd1 := h1.bound
  have HTh1 := Lib.hid ht1
  clear h1 ht1
  by_cases hnm : n0 = n1
  · subst hnm
    obtain ⟨rr, hrr⟩ : ∃ rr, decide (L0.map fqs = L1.map fqs) = rr := ⟨_, rfl⟩
    have HRR := Lib.hid hrr
    rw [hrr]
    clear hrr
    go_enter Tryz.func41, Tryz.ntmps41
    go_wp2
    go_loopw [17] (fun iv wr => ∃ k : Nat, k ≤ n0 ∧ iv = .int .i64 (k : Int) ∧ Hid ((L0.take k).map fqs = (L1.take k).map fqs) ∧ Hid (Below w.heap.size w wr)) (fun iv _ => n0 - (intOf iv).toNat)
    case atStart => exact ⟨0, by omega, rfl, Lib.hid rfl, Lib.hid (Below.refl _ _)⟩
    case round =>
      obtain ⟨k, hk, rfl, HS, HB⟩ := hrel
      by_cases hlt : k < n0
      · have HT0 := Lib.hid (fqs_map_more (show k < L0.length by rw [HLl0.out]; exact hlt))
        have HT1 := Lib.hid (fqs_map_more (show k < L1.length by rw [HLl1.out]; exact hlt))
        have HNE := Lib.hid (ll_ne_of_at (show k < L0.length by rw [HLl0.out]; exact hlt) (show k < L1.length by rw [HLl1.out]; exact hlt))
        obtain ⟨bb0, off0, hb0, a2, n2, c2, e0, h2⟩ := (HK0.out.later HB.out).at hlt
        obtain ⟨bb1, off1, hb1, a3, n3, c3, e1, h3⟩ := (HK1.out.later HB.out).at hlt
        have hth0 := HTh0.out _ (ll_getD_mem (show k < L0.length by rw [HLl0.out]; exact hlt))
        have hth1 := HTh1.out _ (ll_getD_mem (show k < L1.length by rw [HLl1.out]; exact hlt))
        generalize L0.getD k [] = M0 at *
        generalize L1.getD k [] = M1 at *
        have HC := Lib.hid (rowSaid.same a2 n2 c2 M0 a3 n3 c3 M1 wr h2 h3 (by rw [← h2.len]; exact hth0.1) (by rw [← h3.len]; exact hth1.1) hth0.2 hth1.2)
        have hki : (k : Int) < (n0 : Int) := by omega
        have hk0 : (0 : Int) ≤ (k : Int) := by omega
        subst hb0
        subst hb1
        clear h2 h3 hth0 hth1
        go_wp2_with fail
        refine (HC.out).mono ?_
        rintro e w4 ⟨rfl, bw⟩
        clear e0 e1 HC
        replace HB := Lib.hid (below_then HB.out bw)
        clear bw
        by_cases hqq : fqs M0 = fqs M1
        · have HS9 : Hid ((L0.take (k + 1)).map fqs = (L1.take (k + 1)).map fqs) := Lib.hid (by rw [HT0.out, HT1.out, HS.out, hqq])
          rw [decide_eq_true hqq]
          clear hqq HS HT0 HT1 HNE
          go_wp2
          go_roundw
          case rel => exact ⟨k + 1, by omega, by go_num, HS9, HB⟩
          case measure => simp [intOf]; omega
        · have hrf : rr = false := by rw [← HRR.out]; exact decide_eq_false (HNE.out hqq)
          subst hrf
          rw [decide_eq_false hqq]
          clear hqq HS HT0 HT1 HNE
          go_wp2
          go_ret
          exact ⟨rfl, HB.out⟩
      · obtain rfl : k = n0 := by omega
        have hrt : rr = true := by
          rw [← HRR.out]
          have h9 := HS.out
          rw [List.take_of_length_le (by rw [HLl0.out]; exact Nat.le_refl _), List.take_of_length_le (by rw [HLl1.out]; exact Nat.le_refl _)] at h9
          exact decide_eq_true h9
        subst hrt
        go_wp2
        go_ret
        exact ⟨rfl, HB.out⟩
  · have hq : ((n0 : Int) == (n1 : Int)) = false := by simp; omega
    have hne : L0.map fqs ≠ L1.map fqs := fun e => hnm (by
      have h9 := congrArg List.length e
      rwa [List.length_map, List.length_map, HLl0.out, HLl1.out] at h9)
    rw [decide_eq_false hne]
    clear hnm hne
    go_enter Tryz.func41, Tryz.ntmps41
    go_wp2
    go_ret
    exact ⟨rfl, Below.refl _ _⟩
set_option maxRecDepth 4096 in
set_option maxHeartbeats 4000000 in
theorem grid_same (a0 : Option Addr) (n0 c0 : Nat) (L0 : List (List Fx)) (a1 : Option Addr) (n1 c1 : Nat) (L1 : List (List Fx)) (w : World) (h0 : Fxss w a0 n0 c0 L0) (h1 : Fxss w a1 n1 c1 L1) (ht0 : small 300 1000 L0) (ht1 : small 300 1000 L1) : Calls Tryz.prog 18 #[.slice a0 n0 c0, .slice a1 n1 c1] w (Gives (.bool (decide (L0.map fqs = L1.map fqs))) w) := by
  have HC := Lib.hid (grid_equalfunc a0 n0 c0 L0 a1 n1 c1 L1 w h0 h1 ht0 ht1)
  clear h0 h1 ht0 ht1
  go_enter Tryz.func18, Tryz.ntmps18
  go_wp2_with fail
  refine (HC.out).mono ?_
  rintro e w1 ⟨rfl, bw⟩
  go_wp2
  go_ret
  exact ⟨rfl, bw⟩
end Go.Proofs.YtpjkhbfglgmnmaaGreatDoor

/-
  Package grid at this seat: Turn.
-/
namespace Go.Proofs.YtpjkhbfglgmnmaaGreatDoor
open Go.RowKit

theorem gturn_lengthG (w : Nat) (m : List (List Rat)) : (gturn w m).length = w := by unfold gturn; rw [List.length_map, List.length_range]
theorem gturn_colF {LL : List (List Fx)} {i wd : Nat} (h : i < wd) (hL : ∀ M ∈ LL, i < M.length) : (gturn wd (LL.map fqs)).getD i [] = fqs (colF LL i) := by
  unfold gturn
  rw [List.getD_eq_getElem?_getD, List.getElem?_map, List.getElem?_range h]
  show gcol (LL.map fqs) i = _
  unfold gcol colF fqs
  rw [List.map_map, List.map_map]
  refine List.map_congr_left (fun M hM => ?_)
  exact fqs_getD (hL M hM)
theorem Cop.beside {w w' : World} {base : Nat} {e : TypeId} {g k cap : Nat} {L : List Fx} {s : Value} (h : Cop w base e (.slice (some ⟨g, 0, none⟩) k cap) L) (hc : holdsSlices w s) (hg : w.grownBy w' s.ownBlock) (hne : some g ≠ s.ownBlock) : Cop w' base e (.slice (some ⟨g, 0, none⟩) k cap) L := by
  obtain ⟨⟨h1, h2⟩, h3⟩ := h
  have hgl := (h1.lt g rfl).2
  refine ⟨⟨h1.kept hg (.inr hne), fun g2 hg2 j u hu => ?_⟩, fun x hx => Fx.aside (h3 x hx) hc.clean hg⟩
  simp [Value.ownBlock] at hg2
  subst hg2
  rw [World.cell?_of_block (a := ⟨g, j, none⟩) (hg.block g hgl hne)] at hu
  exact h2 g rfl j u hu
theorem HalfW.slices {w : World} {base : Nat} {e : TypeId} {g n : Nat} {Q : List (List Rat)} {x : Sx} (h : HalfW w base e g n Q x) : holdsSlices w (.slice (some ⟨g, 0, none⟩) n n) := by
  obtain ⟨XS, h1, _⟩ := h
  exact h1.2.1
theorem HalfR.slices {w : World} {base : Nat} {e : TypeId} {g n : Nat} {Q : List (List Rat)} (h : HalfR w base e g n Q) : holdsSlices w (.slice (some ⟨g, 0, none⟩) n n) := by
  obtain ⟨XS, h1, _⟩ := h
  exact h1.2.1
set_option maxRecDepth 4096 in
set_option maxHeartbeats 4000000 in
theorem grid_turn_no (a : Option Addr) (n c : Nat) (LL : List (List Fx)) (w : World) (h : Fxss w a n c LL) (hr : ¬ rect LL) : Calls Tryz.prog 10 #[.slice a n c] w (LstRws [] w) := by
  have HB : Hid (Below w.heap.size w w) := Lib.hid (Below.refl _ _)
  have HRT := Lib.hid (show ∀ w' : World, Below w.heap.size w w' → Calls Tryz.prog 15 #[.slice a n c] w' (Gives (.bool false) w') from fun w' hw => grid_right a n c LL false w' (h.later hw) (Lib.hid ⟨fun h9 => absurd h9 (by decide), fun h9 => absurd h9 hr⟩))
  clear h hr
  go_enter Tryz.func10, Tryz.ntmps10
  go_wp2_with fail
  refine (HRT.out _ HB.out).mono ?_
  rintro e w1 ⟨rfl, b⟩
  replace HB := Lib.hid (below_then HB.out b)
  clear b
  go_wp2
  go_ret
  exact ⟨none, 0, 0, rfl, Rwss.nil _, HB.out⟩
set_option maxRecDepth 4096 in
set_option maxHeartbeats 4000000 in
theorem grid_turn_yes (a : Option Addr) (n c : Nat) (LL : List (List Fx)) (w : World) (h : Fxss w a n c LL) (hn : n ≤ 300) (hs : small 300 1000 LL) (hr : rect LL) : Calls Tryz.prog 10 #[.slice a n c] w (LstRws (gturn (gwidth LL) (LL.map fqs)) w) := by
  have HB : Hid (Below w.heap.size w w) := Lib.hid (Below.refl _ _)
  obtain ⟨wd, hwd⟩ : ∃ wd, gwidth LL = wd := ⟨_, rfl⟩
  have hwd3 : wd ≤ 300 := hwd ▸ width_small hs
  have HRA := Lib.hid (rect_at hr hwd)
  have HRT := Lib.hid (show ∀ w' : World, Below w.heap.size w w' → Calls Tryz.prog 15 #[.slice a n c] w' (Gives (.bool true) w') from fun w' hw => grid_right a n c LL true w' (h.later hw) (Lib.hid ⟨fun _ => hr, fun _ => rfl⟩))
  have HWD := Lib.hid (show ∀ w' : World, Below w.heap.size w w' → Calls Tryz.prog 16 #[.slice a n c] w' (Gives (.int .i64 (wd : Int)) w') from fun w' hb7 => hwd ▸ grid_width a n c LL w' (h.later hb7))
  have HCOL := Lib.hid (show ∀ (k : Nat) (w' : World), k < wd → Below w.heap.size w w' → Calls Tryz.prog 39 #[.slice a n c, .int .i64 (k : Int)] w' (fun e w'' => e = .returned (.slice (some ⟨w'.heap.size, 0, none⟩) n n) ∧ Cop w'' w'.heap.size 58 (.slice (some ⟨w'.heap.size, 0, none⟩) n n) (colF LL k) ∧ Below w'.heap.size w' w'') from fun k w' hk hw => grid_column a n c LL k w' (h.later hw) (by omega) (fun M hM => by rw [HRA.out M hM]; exact hk))
  have HCL : Hid (∀ k, (colF LL k).length = n) := Lib.hid (fun k => (colF_length LL k).trans h.len)
  have HTH : Hid (∀ k, k < wd → thin 1000 (colF LL k)) := Lib.hid (fun k hk => colF_small hs (fun M hM => by rw [HRA.out M hM]; exact hk))
  have hbd := h.bound
  rw [hwd]
  obtain ⟨T, hT⟩ : ∃ T, gturn wd (LL.map fqs) = T := ⟨_, rfl⟩
  have HTL : Hid (T.length = wd) := Lib.hid (by rw [← hT]; exact gturn_lengthG _ _)
  have HTV : Hid (∀ k, k < wd → T.getD k [] = fqs (colF LL k)) := Lib.hid (fun k hk => by rw [← hT]; exact gturn_colF hk (fun M hM => by rw [HRA.out M hM]; exact hk))
  rw [hT]
  clear hT h hs hr hwd HRA
  obtain ⟨i1, hi1, hj0, hj1, hj2⟩ := info_partsG infoRowG
  go_enter Tryz.func10, Tryz.ntmps10
  go_wp2_with fail
  refine (HRT.out _ HB.out).mono ?_
  rintro e w1 ⟨rfl, b⟩
  replace HB := Lib.hid (below_then HB.out b)
  clear b
  go_wp2_with fail
  refine (HWD.out _ HB.out).mono ?_
  rintro e w2 ⟨rfl, b⟩
  replace HB := Lib.hid (below_then HB.out b)
  clear b
  go_wp2_with (at_make; refine wpList_make_slots _ rfl _ _ 26 rfl (w.heap.size) 41 i1 Tryz.underlying26 hi1 hj0 hj1 hj2 _ _ _ _ wd rfl rfl (by omega) (by omega) (by omega) (HB.out.size) ?_; intro wm hmade hgm hszm)
  have HO0 := Lib.hid hmade
  have HB0 : Hid (Below w.heap.size w wm) := Lib.hid (below_then HB.out ((Below.refl _ _).grown hgm (Nat.le_refl _) (fun k hk => by cases hk)))
  have hgw := HB.out.size
  clear hmade hgm HB HRT HWD
  generalize w2.heap.size = g at *
  go_loopw [14] (fun iv wr => ∃ k : Nat, k ≤ wd ∧ iv = .int .i64 (k : Int) ∧ Hid (HalfR wr w.heap.size 41 g wd (T.take k)) ∧ Hid (Below w.heap.size w wr) ∧ g < wr.heap.size) (fun iv _ => wd - (intOf iv).toNat)
  case atStart => exact ⟨0, by omega, rfl, HO0, HB0, by omega⟩
  case round =>
    clear HO0 HB0
    obtain ⟨k, hk, rfl, HO, HB, hsz⟩ := hrel
    by_cases hlt : k < wd
    · have hkT : k < T.length := by rw [HTL.out]; exact hlt
      have HT : Hid (T.take (k + 1) = T.take k ++ [T.getD k []]) := Lib.hid (ll_nextG hkT)
      have HTv := Lib.hid (HTV.out k hlt)
      have HTh := Lib.hid (HTH.out k hlt)
      have HCl := Lib.hid (HCL.out k)
      generalize T.getD k [] = tk at *
      have hki : (k : Int) < (wd : Int) := by omega
      have hk0 : (0 : Int) ≤ (k : Int) := by omega
      go_wp2_with fail
      refine (HCOL.out k _ hlt HB.out).mono ?_
      rintro e w3 ⟨rfl, h3, b3⟩
      generalize colF LL k = CL at *
      obtain ⟨hraw, hgr0⟩ := HO.out.raw (k := k) (by rw [take_len (Nat.le_of_lt hkT)]) hlt (some ⟨wr.heap.size, 0, none⟩) n n
      have hO3 := HO.out.later b3
      obtain ⟨u0, u1, u2, p0, f0⟩ := hO3.cell hlt
      obtain ⟨hraw3, hgr3⟩ := hO3.raw (k := k) (by rw [take_len (Nat.le_of_lt hkT)]) hlt (some ⟨wr.heap.size, 0, none⟩) n n
      have hC4 := h3.beside hO3.slices hgr3 (fun e9 => by simp [Value.ownBlock] at e9; omega)
      have hB4 := below_put b3 ⟨g, k, none⟩ (.slice (some ⟨wr.heap.size, 0, none⟩) n n)
      have hB5 := (below_then HB.out b3).grown hgr3 (below_then HB.out b3).size (fun g' hg' => by simp at hg'; omega)
      have hsw : (wr.setCell ⟨g, k, none⟩ (.slice (some ⟨wr.heap.size, 0, none⟩) n n)).heap.size = wr.heap.size := by unfold World.setCell; simp
      generalize wr.setCell ⟨g, k, none⟩ (.slice (some ⟨wr.heap.size, 0, none⟩) n n) = wx at *
      have hs3 : wr.heap.size ≤ w3.heap.size := b3.size
      have hs4 : wr.heap.size < (w3.setCell ⟨g, k, none⟩ (.slice (some ⟨wr.heap.size, 0, none⟩) n n)).heap.size := (hC4.1.1.lt _ rfl).2
      have HX := Lib.hid hraw
      have HC4 := Lib.hid hC4
      have HB4 := Lib.hid hB4
      have HB5 := Lib.hid hB5
      clear hraw hgr0 hO3 hraw3 hgr3 hC4 hB4 hB5 h3 b3 HO
      have E0 : Hid (∀ wi, Below wx.heap.size wx wi → wi.cell? ⟨g, k, none⟩ = some (.slice (some ⟨wr.heap.size, 0, none⟩) n n)) := Lib.hid (fun wi hb => (HX.out.later hb).cell (by rw [take_len (Nat.le_of_lt hkT)]))
      have e0 := E0.out _ HB4.out
      generalize wr.heap.size = gc at *
      go_wp2
      go_loopw [28] (fun kv wi => ∃ j : Nat, j ≤ n ∧ kv = .int .i64 (j : Int) ∧ Hid (∃ L, Cop wi gc 58 (.slice (some ⟨gc, 0, none⟩) n n) L ∧ Turned L CL j) ∧ Hid (Below wx.heap.size wx wi) ∧ Hid (Below w.heap.size w wi) ∧ gc < wi.heap.size) (fun kv _ => n - (intOf kv).toNat)
      case atStart => exact ⟨0, by omega, rfl, Lib.hid ⟨CL, HC4.out, Turned.start CL⟩, HB4, HB5, hs4⟩
      case round =>
        clear HC4 HB4 HB5 hs4 e0 p0 f0 hs3
        obtain ⟨j, hj, rfl, HC, HY, HBi, hszi⟩ := hrel
        by_cases hjn : j < n
        · obtain ⟨L, hL, hT9⟩ := HC.out
          have hLn : L.length = n := hT9.1.trans HCl.out
          have hxe : L.getD j Fx.zero = CL.getD j Fx.zero := hT9.2.2 j (Nat.le_refl _)
          have b0 : Below wr.heap.size wr wr.drew := (Below.refl _ _).drew
          have HCd := Lib.hid (hL.later b0)
          have HYd := Lib.hid (HY.out.trans (b0.mono HY.out.size))
          have HBd := Lib.hid (below_then HBi.out b0)
          have hszd : gc < wr.drew.heap.size := Nat.lt_of_lt_of_le hszi b0.size
          have hok := HCd.out.2 _ (fx_mem (L := L) (k := j) (by omega))
          have hth9 := HTh.out _ (fx_mem (L := CL) (k := j) (by rw [HCl.out]; exact hjn))
          obtain ⟨⟨q0, q1, q2⟩, g0, g1, g2⟩ := HCd.out.cell hLn.symm (i := j) (by omega)
          rw [← hxe] at hth9
          have HTQ := Lib.hid hT9
          have HLn := Lib.hid hLn
          have HXE := Lib.hid hxe
          generalize L.getD j Fx.zero = xj at *
          obtain ⟨sj, aj, nj, cj, laj, bj, mj, dj, lbj⟩ := xj
          simp only at q0 q1 q2 hth9
          obtain ⟨hta, htb⟩ := hth9
          have HN := Lib.hid (fracSaid.norm (frV sj aj nj cj bj mj dj) (qval sj (val laj) (val lbj)) wr.drew (Fr.of hok.1 hok.2 (by omega) (by omega) rfl))
          have e0 := E0.out _ HYd.out
          have hji : (j : Int) < (n : Int) := by omega
          have hj0 : (0 : Int) ≤ (j : Int) := by omega
          clear b0 hL hT9 hLn hxe hok hta htb HC HY HBi hszi
          go_wp2
          go_region_with (first
            | (go_at_call 40; refine (HN.out).mono ?_; rintro e w4 ⟨a4, n4, c4, b4, m4, d4, rfl, h4, g4, bw⟩; clear e0 q0 q1 q2 g0 g1 g2; have HC := Lib.hid (HCd.out.later bw); have HY := Lib.hid (HYd.out.trans (bw.mono HYd.out.size)); have HBi := Lib.hid (below_then HBd.out bw); have hsz4 : gc < w4.heap.size := Nat.lt_of_lt_of_le hszd bw.size; have HA4 := Lib.hid h4; have HB4 := Lib.hid g4; have e0 := E0.out _ HY.out; unfold frV; obtain ⟨⟨q0, q1, q2⟩, f0, f1, f2⟩ := HC.out.cell HLn.out.symm (i := j) (by rw [HLn.out]; exact hjn); clear bw h4 g4 HN HCd HYd HBd hszd))
          all_goals (
            obtain ⟨hst, hgr⟩ := HC.out.stored HLn.out.symm (i := j) (by rw [HLn.out]; exact hjn) (qval sj (val laj) (val lbj)) a4 n4 c4 b4 m4 d4 HA4.out HB4.out
            have hT7 := HTQ.out.more (by rw [HCl.out]; exact hjn) (qval sj (val laj) (val lbj)) (by rw [← HXE.out]; rfl) a4 n4 c4 b4 m4 d4
            have HC7 := Lib.hid (⟨_, hst, hT7⟩ : ∃ L, Cop _ gc 58 (.slice (some ⟨gc, 0, none⟩) n n) L ∧ Turned L CL (j + 1))
            have HY7 := Lib.hid (HY.out.grown hgr HY.out.size (fun g' hg' => by simp at hg'; omega))
            have HB7 := Lib.hid (HBi.out.grown hgr HBi.out.size (fun g' hg' => by simp at hg'; omega))
            have hsz7 := Nat.lt_of_lt_of_le hsz4 hgr.size
            clear hst hgr hT7 HC HY HBi HA4 HB4 HTQ HXE
            go_wp2
            go_roundw
            case rel => exact ⟨j + 1, by omega, by go_num, HC7, HY7, HB7, hsz7⟩
            case measure => simp [intOf]; omega)
        · obtain rfl : j = n := by omega
          obtain ⟨L, hL, hT9⟩ := HC.out
          obtain ⟨hq9, hr9⟩ := hT9.done HCl.out.symm
          obtain ⟨a9, c9, e9, h9⟩ := hL.out
          rw [hT9.1, HCl.out] at e9 h9
          cases e9
          have hrw : Rw wr (some ⟨gc, 0, none⟩) j j tk := ⟨L, h9, hq9.trans HTv.out.symm, hr9⟩
          have hcl := (HX.out.later HY.out).close hrw
          rw [← HT.out] at hcl
          have HS := Lib.hid hcl
          have hsz5 : g < wr.heap.size := Nat.lt_trans hsz hszi
          clear hL hT9 hq9 hr9 h9 hrw hcl HC HY HT HTv HX E0
          go_wp2
          go_roundw
          case rel => exact ⟨k + 1, by omega, by go_num, HS, HBi, hsz5⟩
          case measure => simp [intOf]; omega
    · obtain rfl : k = wd := by omega
      have HF9 := Lib.hid (HO.out.whole HTL.out rfl (by omega))
      clear HO
      go_wp2
      go_ret
      exact ⟨_, _, _, rfl, HF9.out, HB.out⟩
end Go.Proofs.YtpjkhbfglgmnmaaGreatDoor

/-
  Package grid at this seat: Left, Apply.
-/
namespace Go.Proofs.YtpjkhbfglgmnmaaGreatDoor
open Go.RowKit

set_option maxRecDepth 4096 in
set_option maxHeartbeats 4000000 in
theorem grid_left_no (a : Option Addr) (n c : Nat) (L : List Fx) (b : Option Addr) (m d : Nat) (LL : List (List Fx)) (w : World) (h : Fxs w a n c L) (h8 : Fxss w b m d LL) (hr : ¬ (rect LL ∧ n = m)) : Calls Tryz.prog 23 #[.slice a n c, .slice b m d] w (LstRwV [] (.bool false) w) := by
  have HB : Hid (Below w.heap.size w w) := Lib.hid (Below.refl _ _)
  by_cases hc : rect LL
  · have hnm : n ≠ m := fun e => hr ⟨hc, e⟩
    have hq : ((n : Int) == (m : Int)) = false := by simp; omega
    have hq2 : ¬ (n : Int) = (m : Int) := by omega
    have HRT := Lib.hid (show ∀ w' : World, Below w.heap.size w w' → Calls Tryz.prog 15 #[.slice b m d] w' (Gives (.bool true) w') from fun w' hw => grid_right b m d LL true w' (h8.later hw) (Lib.hid ⟨fun _ => hc, fun _ => rfl⟩))
    have hbd := h.bound
    have hbd8 := h8.bound
    clear h h8 hr hc hnm
    go_enter Tryz.func23, Tryz.ntmps23
    go_wp2_with fail
    refine (HRT.out _ HB.out).mono ?_
    rintro e w1 ⟨rfl, b⟩
    replace HB := Lib.hid (below_then HB.out b)
    clear b
    go_wp2
    go_ret2
    exact ⟨none, 0, 0, rfl, Rw.nil _, HB.out⟩
  ·
    have HRT := Lib.hid (show ∀ w' : World, Below w.heap.size w w' → Calls Tryz.prog 15 #[.slice b m d] w' (Gives (.bool false) w') from fun w' hw => grid_right b m d LL false w' (h8.later hw) (Lib.hid ⟨fun h9 => absurd h9 (by decide), fun h9 => absurd h9 hc⟩))
    clear h h8 hr hc
    go_enter Tryz.func23, Tryz.ntmps23
    go_wp2_with fail
    refine (HRT.out _ HB.out).mono ?_
    rintro e w1 ⟨rfl, b⟩
    replace HB := Lib.hid (below_then HB.out b)
    clear b
    go_wp2
    go_ret2
    exact ⟨none, 0, 0, rfl, Rw.nil _, HB.out⟩
set_option maxRecDepth 4096 in
set_option maxHeartbeats 4000000 in
theorem grid_left_yes (a : Option Addr) (n c : Nat) (L : List Fx) (b : Option Addr) (d : Nat) (LL : List (List Fx)) (N : Nat) (w : World) (h : Fxs w a n c L) (h8 : Fxss w b n d LL) (ht : thin N L) (hl : small 300 N LL) (hn : n ≤ 300) (hb9 : 1 + n * (N + N + 6) ≤ 2000) (hN9 : N ≤ 900) (hr : rect LL) : Calls Tryz.prog 23 #[.slice a n c, .slice b n d] w (LstRwV (gleft (gwidth LL) (fqs L) (LL.map fqs)) (.bool true) w) := by
  have HB : Hid (Below w.heap.size w w) := Lib.hid (Below.refl _ _)
  obtain ⟨wd, hwd⟩ : ∃ wd, gwidth LL = wd := ⟨_, rfl⟩
  have hwd3 : wd ≤ 300 := hwd ▸ width_small hl
  have hRA := rect_at hr hwd
  have HRA := Lib.hid hRA
  have hbd := h.bound
  have hbd8 := h8.bound
  have hcc : L.length = LL.length := by rw [h.len, h8.len]
  have HRT := Lib.hid (show ∀ w' : World, Below w.heap.size w w' → Calls Tryz.prog 15 #[.slice b n d] w' (Gives (.bool true) w') from fun w' hw => grid_right b n d LL true w' (h8.later hw) (Lib.hid ⟨fun _ => hr, fun _ => rfl⟩))
  have HWD := Lib.hid (show ∀ w' : World, Below w.heap.size w w' → Calls Tryz.prog 16 #[.slice b n d] w' (Gives (.int .i64 (wd : Int)) w') from fun w' hb7 => hwd ▸ grid_width b n d LL w' (h8.later hb7))
  have HCOL := Lib.hid (show ∀ (k : Nat) (w' : World), k < wd → Below w.heap.size w w' → Calls Tryz.prog 39 #[.slice b n d, .int .i64 (k : Int)] w' (fun e w'' => ∃ (a' : Option Addr) (c' : Nat), e = .returned (.slice a' n c') ∧ Fxs w'' a' n c' (colF LL k) ∧ Below w'.heap.size w' w'') from fun k w' hk hw => grid_column_out b n d LL k w' (h8.later hw) (by omega) (fun M hM => by rw [HRA.out M hM]; exact hk))
  have HDOT := Lib.hid (show ∀ (k : Nat) (a' : Option Addr) (c' : Nat) (w' : World), k < wd → Below w.heap.size w w' → Fxs w' a' n c' (colF LL k) → Calls Tryz.prog 33 #[.slice a n c, .slice a' n c'] w' (LstQV (rdot (fqs L) (fqs (colF LL k))) (.bool true) w') from fun k a' c' w' hk hw hf => rowSaid.dot_more a n c L a' n c' (colF LL k) N w' (h.later hw) hf hn ht (colF_small hl (fun M hM => by rw [HRA.out M hM]; exact hk)) (Lib.hid rfl) hb9 hN9)
  have HTL0 : (gleft wd (fqs L) (LL.map fqs)).length = wd := mix_len hRA hcc
  have HTV0 : ∀ k, k < wd → (gleft wd (fqs L) (LL.map fqs)).getD k 0 = rdot (fqs L) (fqs (colF LL k)) := fun k hk => mix_at hk hRA hcc
  rw [hwd]
  obtain ⟨T, hTe⟩ : ∃ T, gleft wd (fqs L) (LL.map fqs) = T := ⟨_, rfl⟩
  rw [hTe] at HTL0 HTV0 ⊢
  have HTL := Lib.hid HTL0
  have HTV := Lib.hid HTV0
  clear h h8 ht hl hr hRA HRA HTL0 HTV0 hTe hcc hwd
  obtain ⟨i0, hi, hy0, hy1, hy2⟩ := info_parts infoFracR
  have hqnn : ((n : Int) == (n : Int)) = true := by simp
  go_enter Tryz.func23, Tryz.ntmps23
  go_wp2_with fail
  refine (HRT.out _ HB.out).mono ?_
  rintro e w1 ⟨rfl, b⟩
  replace HB := Lib.hid (below_then HB.out b)
  clear b
  go_wp2_with fail
  refine (HWD.out _ HB.out).mono ?_
  rintro e w2 ⟨rfl, b⟩
  replace HB := Lib.hid (below_then HB.out b)
  clear b
  go_wp2_with (at_make; refine wpList_make_fracs _ rfl _ _ 41 rfl (w.heap.size) 58 i0 Tryz.underlying41 hi hy0 hy1 hy2 _ _ _ _ wd rfl rfl (by omega) (by omega) (by omega) (HB.out.size) ?_; intro wm hmade hgm hszm)
  have HO0 := Lib.hid (Half.start hmade)
  have HB0 : Hid (Below w.heap.size w wm) := Lib.hid (below_then HB.out ((Below.refl _ _).grown hgm (Nat.le_refl _) (fun k hk => by cases hk)))
  have hgw := HB.out.size
  clear hmade hgm HB HRT HWD
  generalize w2.heap.size = g at *
  go_loopw [23] (fun iv wr => ∃ k r : Nat, k + r = wd ∧ iv = .int .i64 (k : Int) ∧ Hid (Half wr w.heap.size 58 (.slice (some ⟨g, 0, none⟩) wd wd) (T.take k) r) ∧ Hid (Below w.heap.size w wr) ∧ g < wr.heap.size) (fun iv _ => wd - (intOf iv).toNat)
  case atStart => exact ⟨0, wd, by omega, rfl, HO0, HB0, by omega⟩
  case round =>
    clear HO0 HB0
    obtain ⟨k, r, hk, rfl, HO, HB, hsz⟩ := hrel
    by_cases hlt : k < wd
    · have hkT : k < T.length := by rw [HTL.out]; exact hlt
      obtain ⟨r, rfl⟩ : ∃ r', r = r' + 1 := ⟨r - 1, by omega⟩
      have HT : Hid (T.take (k + 1) = T.take k ++ [T.getD k 0]) := Lib.hid (q_more hkT)
      have HTv := Lib.hid (HTV.out k hlt)
      generalize T.getD k 0 = tk at *
      have hki : (k : Int) < (wd : Int) := by omega
      have hk0 : (0 : Int) ≤ (k : Int) := by omega
      go_wp2_with fail
      refine (HCOL.out k _ hlt HB.out).mono ?_
      rintro e w3 ⟨a3, c3, rfl, h3, bw⟩
      replace HB := Lib.hid (below_then HB.out bw)
      replace HO := Lib.hid (HO.out.later bw)
      replace hsz := Nat.lt_of_lt_of_le hsz bw.size
      have H3 := Lib.hid h3
      clear bw h3
      go_wp2_with fail
      refine (HDOT.out k a3 c3 _ hlt HB.out H3.out).mono ?_
      rintro e w4 ⟨a4, n4, c4, b4, m4, d4, rfl, h4, g4, bw⟩
      clear H3
      rw [← HTv.out] at h4 g4 ⊢
      replace HB := Lib.hid (below_then HB.out bw)
      replace HO := Lib.hid (HO.out.later bw)
      have hsz4 : g < w4.heap.size := Nat.lt_of_lt_of_le hsz bw.size
      clear bw hsz
      obtain ⟨⟨p0, p1, p2⟩, f0, f1, f2⟩ := HO.out.cell (k := k) (by rw [take_len (Nat.le_of_lt hkT)])
      obtain ⟨hst, hgr⟩ := HO.out.stored (k := k) (by rw [take_len (Nat.le_of_lt hkT)]) tk a4 n4 c4 b4 m4 d4 h4 g4
      rw [← HT.out] at hst
      have HS := Lib.hid hst
      have HB5 := Lib.hid (HB.out.grown hgr HB.out.size (fun g' hg' => by simp at hg'; omega))
      have hsz5 := Nat.lt_of_lt_of_le hsz4 hgr.size
      clear hst hgr h4 g4 HO HB HT HTv
      unfold frV
      go_wp2
      go_roundw
      case rel => exact ⟨k + 1, r, by omega, by go_num, HS, HB5, hsz5⟩
      case measure => simp [intOf]; omega
    · obtain rfl : k = wd := by omega
      have HF := Lib.hid (HO.out.whole HTL.out (by omega))
      obtain ⟨a9, c9, e9, h9⟩ := HF.out.out
      rw [HTL.out] at e9 h9
      cases e9
      have HF9 := Lib.hid h9
      clear HO h9 HF
      go_wp2
      go_ret2
      exact ⟨_, _, _, rfl, HF9.out, HB.out⟩
set_option maxRecDepth 4096 in
set_option maxHeartbeats 4000000 in
theorem grid_apply_no (b : Option Addr) (m d : Nat) (LL : List (List Fx)) (a : Option Addr) (n c : Nat) (L : List Fx) (w : World) (h8 : Fxss w b m d LL) (h : Fxs w a n c L) (hr : ¬ (rect LL ∧ n = gwidth LL)) : Calls Tryz.prog 25 #[.slice b m d, .slice a n c] w (LstRwV [] (.bool false) w) := by
  have HB : Hid (Below w.heap.size w w) := Lib.hid (Below.refl _ _)
  obtain ⟨wd, hwd⟩ : ∃ wd, gwidth LL = wd := ⟨_, rfl⟩
  rw [hwd] at hr
  by_cases hc : rect LL
  · have hnm : n ≠ wd := fun e => hr ⟨hc, e⟩
    have hq : ((n : Int) == (wd : Int)) = false := by simp; omega
    have hq2 : ¬ (n : Int) = (wd : Int) := by omega
    have HRT := Lib.hid (show ∀ w' : World, Below w.heap.size w w' → Calls Tryz.prog 15 #[.slice b m d] w' (Gives (.bool true) w') from fun w' hw => grid_right b m d LL true w' (h8.later hw) (Lib.hid ⟨fun _ => hc, fun _ => rfl⟩))
    have HWD := Lib.hid (show ∀ w' : World, Below w.heap.size w w' → Calls Tryz.prog 16 #[.slice b m d] w' (Gives (.int .i64 (wd : Int)) w') from fun w' hb7 => hwd ▸ grid_width b m d LL w' (h8.later hb7))
    have hbd := h.bound
    have hbd8 := h8.bound
    clear h h8 hr hc hnm hwd
    go_enter Tryz.func25, Tryz.ntmps25
    go_wp2_with fail
    refine (HRT.out _ HB.out).mono ?_
    rintro e w1 ⟨rfl, b⟩
    replace HB := Lib.hid (below_then HB.out b)
    clear b
    go_wp2_with fail
    refine (HWD.out _ HB.out).mono ?_
    rintro e w2 ⟨rfl, b⟩
    replace HB := Lib.hid (below_then HB.out b)
    clear b
    go_wp2
    go_ret2
    exact ⟨none, 0, 0, rfl, Rw.nil _, HB.out⟩
  ·
    have HRT := Lib.hid (show ∀ w' : World, Below w.heap.size w w' → Calls Tryz.prog 15 #[.slice b m d] w' (Gives (.bool false) w') from fun w' hw => grid_right b m d LL false w' (h8.later hw) (Lib.hid ⟨fun h9 => absurd h9 (by decide), fun h9 => absurd h9 hc⟩))
    clear h h8 hr hc hwd
    go_enter Tryz.func25, Tryz.ntmps25
    go_wp2_with fail
    refine (HRT.out _ HB.out).mono ?_
    rintro e w1 ⟨rfl, b⟩
    replace HB := Lib.hid (below_then HB.out b)
    clear b
    go_wp2
    go_ret2
    exact ⟨none, 0, 0, rfl, Rw.nil _, HB.out⟩
set_option maxRecDepth 4096 in
set_option maxHeartbeats 4000000 in
theorem grid_apply_yes (b : Option Addr) (m d : Nat) (LL : List (List Fx)) (a : Option Addr) (n c : Nat) (L : List Fx) (N : Nat) (w : World) (h8 : Fxss w b m d LL) (h : Fxs w a n c L) (hl : small 300 N LL) (ht : thin N L) (hm : m ≤ 300) (hn : n ≤ 300) (hb9 : 1 + n * (N + N + 6) ≤ 2000) (hN9 : N ≤ 900) (hr : rect LL) (hnw : n = gwidth LL) : Calls Tryz.prog 25 #[.slice b m d, .slice a n c] w (LstRwV (gapply (LL.map fqs) (fqs L)) (.bool true) w) := by
  have HB : Hid (Below w.heap.size w w) := Lib.hid (Below.refl _ _)
  have hRA := rect_at hr hnw.symm
  have HLl := Lib.hid h8.len
  have hbd := h.bound
  have hbd8 := h8.bound
  have HK8 := Lib.hid h8
  have HRT := Lib.hid (show ∀ w' : World, Below w.heap.size w w' → Calls Tryz.prog 15 #[.slice b m d] w' (Gives (.bool true) w') from fun w' hw => grid_right b m d LL true w' (h8.later hw) (Lib.hid ⟨fun _ => hr, fun _ => rfl⟩))
  have HWD := Lib.hid (show ∀ w' : World, Below w.heap.size w w' → Calls Tryz.prog 16 #[.slice b m d] w' (Gives (.int .i64 (n : Int)) w') from fun w' hb7 => hnw.symm ▸ grid_width b m d LL w' (h8.later hb7))
  have HDOT := Lib.hid (show ∀ (k : Nat) (a' : Option Addr) (c' : Nat) (w' : World), k < m → Below w.heap.size w w' → Fxs w' a' n c' (LL.getD k []) → Calls Tryz.prog 33 #[.slice a' n c', .slice a n c] w' (LstQV (rdot (fqs (LL.getD k [])) (fqs L)) (.bool true) w') from fun k a' c' w' hk hw hf => rowSaid.dot_more a' n c' (LL.getD k []) a n c L N w' hf (h.later hw) hn (hl _ (ll_getD_mem (by rw [HLl.out]; exact hk))).2 ht (Lib.hid rfl) hb9 hN9)
  have HRW : Hid (∀ k, k < m → (LL.getD k []).length = n) := Lib.hid (fun k hk => hRA _ (ll_getD_mem (by rw [HLl.out]; exact hk)))
  have HTL0 : (gapply (LL.map fqs) (fqs L)).length = m := by rw [gapply_length, List.length_map]; exact h8.len
  have HTV0 : ∀ k, k < m → (gapply (LL.map fqs) (fqs L)).getD k 0 = rdot (fqs (LL.getD k [])) (fqs L) := fun k hk => by
    unfold gapply
    have hl9 : k < LL.length := by rw [HLl.out]; exact hk
    rw [List.getD_eq_getElem?_getD, List.getElem?_map, List.getElem?_map, List.getElem?_eq_getElem hl9, List.getD_eq_getElem?_getD, List.getElem?_eq_getElem hl9]; rfl
  obtain ⟨T, hTe⟩ : ∃ T, gapply (LL.map fqs) (fqs L) = T := ⟨_, rfl⟩
  rw [hTe] at HTL0 HTV0 ⊢
  have HTL := Lib.hid HTL0
  have HTV := Lib.hid HTV0
  clear h h8 ht hl hr hRA HTL0 HTV0 hTe hnw
  obtain ⟨i0, hi, hy0, hy1, hy2⟩ := info_parts infoFracR
  have hqnn : ((n : Int) == (n : Int)) = true := by simp
  go_enter Tryz.func25, Tryz.ntmps25
  go_wp2_with fail
  refine (HRT.out _ HB.out).mono ?_
  rintro e w1 ⟨rfl, b⟩
  replace HB := Lib.hid (below_then HB.out b)
  clear b
  go_wp2_with fail
  refine (HWD.out _ HB.out).mono ?_
  rintro e w2 ⟨rfl, b⟩
  replace HB := Lib.hid (below_then HB.out b)
  clear b
  go_wp2_with (at_make; refine wpList_make_fracs _ rfl _ _ 41 rfl (w.heap.size) 58 i0 Tryz.underlying41 hi hy0 hy1 hy2 _ _ _ _ m rfl rfl (by omega) (by omega) (by omega) (HB.out.size) ?_; intro wm hmade hgm hszm)
  have HO0 := Lib.hid (Half.start hmade)
  have HB0 : Hid (Below w.heap.size w wm) := Lib.hid (below_then HB.out ((Below.refl _ _).grown hgm (Nat.le_refl _) (fun k hk => by cases hk)))
  have hgw := HB.out.size
  clear hmade hgm HB HRT HWD
  generalize w2.heap.size = g at *
  go_loopw [23] (fun iv wr => ∃ k r : Nat, k + r = m ∧ iv = .int .i64 (k : Int) ∧ Hid (Half wr w.heap.size 58 (.slice (some ⟨g, 0, none⟩) m m) (T.take k) r) ∧ Hid (Below w.heap.size w wr) ∧ g < wr.heap.size) (fun iv _ => m - (intOf iv).toNat)
  case atStart => exact ⟨0, m, by omega, rfl, HO0, HB0, by omega⟩
  case round =>
    clear HO0 HB0
    obtain ⟨k, r, hk, rfl, HO, HB, hsz⟩ := hrel
    by_cases hlt : k < m
    · have hkT : k < T.length := by rw [HTL.out]; exact hlt
      obtain ⟨r, rfl⟩ : ∃ r', r = r' + 1 := ⟨r - 1, by omega⟩
      have HT : Hid (T.take (k + 1) = T.take k ++ [T.getD k 0]) := Lib.hid (q_more hkT)
      have HTv := Lib.hid (HTV.out k hlt)
      generalize T.getD k 0 = tk at *
      have hki : (k : Int) < (m : Int) := by omega
      have hk0 : (0 : Int) ≤ (k : Int) := by omega
      obtain ⟨bb, off, hbe, a3, n3, c3, e0, h3⟩ := (HK8.out.later HB.out).at hlt
      obtain rfl : n3 = n := h3.len.symm.trans (HRW.out k hlt)
      have HC := Lib.hid (HDOT.out k a3 c3 wr hlt HB.out h3)
      subst hbe
      clear h3
      go_wp2_with fail
      refine (HC.out).mono ?_
      rintro e w4 ⟨a4, n4, c4, b4, m4, d4, rfl, h4, g4, bw⟩
      clear HC e0
      rw [← HTv.out] at h4 g4 ⊢
      replace HB := Lib.hid (below_then HB.out bw)
      replace HO := Lib.hid (HO.out.later bw)
      have hsz4 : g < w4.heap.size := Nat.lt_of_lt_of_le hsz bw.size
      clear bw hsz
      obtain ⟨⟨p0, p1, p2⟩, f0, f1, f2⟩ := HO.out.cell (k := k) (by rw [take_len (Nat.le_of_lt hkT)])
      obtain ⟨hst, hgr⟩ := HO.out.stored (k := k) (by rw [take_len (Nat.le_of_lt hkT)]) tk a4 n4 c4 b4 m4 d4 h4 g4
      rw [← HT.out] at hst
      have HS := Lib.hid hst
      have HB5 := Lib.hid (HB.out.grown hgr HB.out.size (fun g' hg' => by simp at hg'; omega))
      have hsz5 := Nat.lt_of_lt_of_le hsz4 hgr.size
      clear hst hgr h4 g4 HO HB HT HTv
      unfold frV
      go_wp2
      go_roundw
      case rel => exact ⟨k + 1, r, by omega, by go_num, HS, HB5, hsz5⟩
      case measure => simp [intOf]; omega
    · obtain rfl : k = m := by omega
      have HF := Lib.hid (HO.out.whole HTL.out (by omega))
      obtain ⟨a9, c9, e9, h9⟩ := HF.out.out
      rw [HTL.out] at e9 h9
      cases e9
      have HF9 := Lib.hid h9
      clear HO h9 HF
      go_wp2
      go_ret2
      exact ⟨_, _, _, rfl, HF9.out, HB.out⟩
end Go.Proofs.YtpjkhbfglgmnmaaGreatDoor

/-
  Package grid at this seat: Mul.
-/
namespace Go.Proofs.YtpjkhbfglgmnmaaGreatDoor
open Go.RowKit

set_option maxRecDepth 4096 in
set_option maxHeartbeats 4000000 in
theorem grid_mul_no (a : Option Addr) (n c : Nat) (LL : List (List Fx)) (b : Option Addr) (m d : Nat) (MM : List (List Fx)) (w : World) (h8 : Fxss w a n c LL) (h9 : Fxss w b m d MM) (hr : ¬ (rect LL ∧ rect MM ∧ gwidth LL = m)) : Calls Tryz.prog 30 #[.slice a n c, .slice b m d] w (LstRwsV [] (.bool false) w) := by
  have HB : Hid (Below w.heap.size w w) := Lib.hid (Below.refl _ _)
  obtain ⟨wa, hwa⟩ : ∃ wd, gwidth LL = wd := ⟨_, rfl⟩
  obtain ⟨wb, hwb⟩ : ∃ wd, gwidth MM = wd := ⟨_, rfl⟩
  have hbd8 := h8.bound
  have hbd9 := h9.bound
  by_cases hc : rect LL
  · by_cases hd : rect MM
    ·
      have HRA := Lib.hid (show ∀ w' : World, Below w.heap.size w w' → Calls Tryz.prog 15 #[.slice a n c] w' (Gives (.bool true) w') from fun w' hw => grid_right a n c LL true w' (h8.later hw) (Lib.hid ⟨fun _ => hc, fun _ => rfl⟩))
      have HRB := Lib.hid (show ∀ w' : World, Below w.heap.size w w' → Calls Tryz.prog 15 #[.slice b m d] w' (Gives (.bool true) w') from fun w' hw => grid_right b m d MM true w' (h9.later hw) (Lib.hid ⟨fun _ => hd, fun _ => rfl⟩))
      have HWA := Lib.hid (show ∀ w' : World, Below w.heap.size w w' → Calls Tryz.prog 16 #[.slice a n c] w' (Gives (.int .i64 (wa : Int)) w') from fun w' hb7 => hwa ▸ grid_width a n c LL w' (h8.later hb7))
      have HWB := Lib.hid (show ∀ w' : World, Below w.heap.size w w' → Calls Tryz.prog 16 #[.slice b m d] w' (Gives (.int .i64 (wb : Int)) w') from fun w' hb7 => hwb ▸ grid_width b m d MM w' (h9.later hb7))
      have hnm : wa ≠ m := fun e => hr ⟨hc, hd, hwa.trans e⟩
      have hq : ((wa : Int) == (m : Int)) = false := by simp; omega
      have hq2 : ¬ (wa : Int) = (m : Int) := by omega
      clear h8 h9 hr hc hd hwa hwb hnm
      go_enter Tryz.func30, Tryz.ntmps30
      go_wp2_with fail
      refine (HRA.out _ HB.out).mono ?_
      rintro e w1 ⟨rfl, b⟩
      replace HB := Lib.hid (below_then HB.out b)
      clear b
      go_wp2_with fail
      refine (HRB.out _ HB.out).mono ?_
      rintro e w2 ⟨rfl, b⟩
      replace HB := Lib.hid (below_then HB.out b)
      clear b
      go_wp2_with fail
      refine (HWA.out _ HB.out).mono ?_
      rintro e w3 ⟨rfl, b⟩
      replace HB := Lib.hid (below_then HB.out b)
      clear b
      go_wp2
      go_ret2
      exact ⟨none, 0, 0, rfl, Rwss.nil _, HB.out⟩
    ·
      have HRA := Lib.hid (show ∀ w' : World, Below w.heap.size w w' → Calls Tryz.prog 15 #[.slice a n c] w' (Gives (.bool true) w') from fun w' hw => grid_right a n c LL true w' (h8.later hw) (Lib.hid ⟨fun _ => hc, fun _ => rfl⟩))
      have HRB := Lib.hid (show ∀ w' : World, Below w.heap.size w w' → Calls Tryz.prog 15 #[.slice b m d] w' (Gives (.bool false) w') from fun w' hw => grid_right b m d MM false w' (h9.later hw) (Lib.hid ⟨fun h9 => absurd h9 (by decide), fun h9 => absurd h9 hd⟩))
      clear h8 h9 hr hc hd hwa hwb
      go_enter Tryz.func30, Tryz.ntmps30
      go_wp2_with fail
      refine (HRA.out _ HB.out).mono ?_
      rintro e w1 ⟨rfl, b⟩
      replace HB := Lib.hid (below_then HB.out b)
      clear b
      go_wp2_with fail
      refine (HRB.out _ HB.out).mono ?_
      rintro e w2 ⟨rfl, b⟩
      replace HB := Lib.hid (below_then HB.out b)
      clear b
      go_wp2
      go_ret2
      exact ⟨none, 0, 0, rfl, Rwss.nil _, HB.out⟩
  ·
    have HRA := Lib.hid (show ∀ w' : World, Below w.heap.size w w' → Calls Tryz.prog 15 #[.slice a n c] w' (Gives (.bool false) w') from fun w' hw => grid_right a n c LL false w' (h8.later hw) (Lib.hid ⟨fun h9 => absurd h9 (by decide), fun h9 => absurd h9 hc⟩))
    clear h8 h9 hr hc hwa hwb
    go_enter Tryz.func30, Tryz.ntmps30
    go_wp2_with fail
    refine (HRA.out _ HB.out).mono ?_
    rintro e w1 ⟨rfl, b⟩
    replace HB := Lib.hid (below_then HB.out b)
    clear b
    go_wp2
    go_ret2
    exact ⟨none, 0, 0, rfl, Rwss.nil _, HB.out⟩
set_option maxRecDepth 4096 in
set_option maxHeartbeats 4000000 in
theorem grid_mul_yes (a : Option Addr) (n c : Nat) (LL : List (List Fx)) (b : Option Addr) (m d : Nat) (MM : List (List Fx)) (N : Nat) (w : World) (h8 : Fxss w a n c LL) (h9 : Fxss w b m d MM) (hl : small 300 N LL) (hl2 : small 300 N MM) (hn : n ≤ 300) (hm : m ≤ 300) (hb9 : 1 + m * (N + N + 6) ≤ 2000) (hN9 : N ≤ 900) (hr : rect LL) (hr2 : rect MM) (hw : gwidth LL = m) : Calls Tryz.prog 30 #[.slice a n c, .slice b m d] w (LstRwsV (gmul (gwidth MM) (LL.map fqs) (MM.map fqs)) (.bool true) w) := by
  have HB : Hid (Below w.heap.size w w) := Lib.hid (Below.refl _ _)
  have hRA := rect_at hr hw
  have HLl := Lib.hid h8.len
  have hbd8 := h8.bound
  have hbd9 := h9.bound
  have HK8 := Lib.hid h8
  have HRA := Lib.hid (show ∀ w' : World, Below w.heap.size w w' → Calls Tryz.prog 15 #[.slice a n c] w' (Gives (.bool true) w') from fun w' hw => grid_right a n c LL true w' (h8.later hw) (Lib.hid ⟨fun _ => hr, fun _ => rfl⟩))
  have HRB := Lib.hid (show ∀ w' : World, Below w.heap.size w w' → Calls Tryz.prog 15 #[.slice b m d] w' (Gives (.bool true) w') from fun w' hw => grid_right b m d MM true w' (h9.later hw) (Lib.hid ⟨fun _ => hr2, fun _ => rfl⟩))
  have HWA := Lib.hid (show ∀ w' : World, Below w.heap.size w w' → Calls Tryz.prog 16 #[.slice a n c] w' (Gives (.int .i64 (m : Int)) w') from fun w' hb7 => hw ▸ grid_width a n c LL w' (h8.later hb7))
  have HLF := Lib.hid (show ∀ (k : Nat) (a' : Option Addr) (c' : Nat) (w' : World), k < n → Below w.heap.size w w' → Fxs w' a' m c' (LL.getD k []) → Calls Tryz.prog 23 #[.slice a' m c', .slice b m d] w' (LstRwV (gleft (gwidth MM) (fqs (LL.getD k [])) (MM.map fqs)) (.bool true) w') from fun k a' c' w' hk hw hf => grid_left_yes a' m c' (LL.getD k []) b d MM N w' hf (h9.later hw) (hl _ (ll_getD_mem (by rw [HLl.out]; exact hk))).2 hl2 hm hb9 hN9 hr2)
  have HRW : Hid (∀ k, k < n → (LL.getD k []).length = m) := Lib.hid (fun k hk => hRA _ (ll_getD_mem (by rw [HLl.out]; exact hk)))
  have HTL0 : (gmul (gwidth MM) (LL.map fqs) (MM.map fqs)).length = n := by unfold gmul; rw [List.length_map, List.length_map]; exact h8.len
  have HTV0 : ∀ k, k < n → (gmul (gwidth MM) (LL.map fqs) (MM.map fqs)).getD k [] = gleft (gwidth MM) (fqs (LL.getD k [])) (MM.map fqs) := fun k hk => by
    unfold gmul
    have hl9 : k < LL.length := by rw [HLl.out]; exact hk
    rw [List.getD_eq_getElem?_getD, List.getElem?_map, List.getElem?_map, List.getElem?_eq_getElem hl9, List.getD_eq_getElem?_getD, List.getElem?_eq_getElem hl9]; rfl
  obtain ⟨T, hTe⟩ : ∃ T, gmul (gwidth MM) (LL.map fqs) (MM.map fqs) = T := ⟨_, rfl⟩
  rw [hTe] at HTL0 HTV0 ⊢
  have HTL := Lib.hid HTL0
  have HTV := Lib.hid HTV0
  have hqmm : ((m : Int) == (m : Int)) = true := by simp
  clear h8 h9 hl hl2 hr hr2 hRA HTL0 HTV0 hTe hw
  obtain ⟨i1, hi1, hj0, hj1, hj2⟩ := info_partsG infoRowG
  go_enter Tryz.func30, Tryz.ntmps30
  go_wp2_with fail
  refine (HRA.out _ HB.out).mono ?_
  rintro e w1 ⟨rfl, b⟩
  replace HB := Lib.hid (below_then HB.out b)
  clear b
  go_wp2_with fail
  refine (HRB.out _ HB.out).mono ?_
  rintro e w2 ⟨rfl, b⟩
  replace HB := Lib.hid (below_then HB.out b)
  clear b
  go_wp2_with fail
  refine (HWA.out _ HB.out).mono ?_
  rintro e w3 ⟨rfl, b⟩
  replace HB := Lib.hid (below_then HB.out b)
  clear b
  go_wp2_with (at_make; refine wpList_make_slots _ rfl _ _ 26 rfl (w.heap.size) 41 i1 Tryz.underlying26 hi1 hj0 hj1 hj2 _ _ _ _ n rfl rfl (by omega) (by omega) (by omega) (HB.out.size) ?_; intro wm hmade hgm hszm)
  have HO0 := Lib.hid hmade
  have HB0 : Hid (Below w.heap.size w wm) := Lib.hid (below_then HB.out ((Below.refl _ _).grown hgm (Nat.le_refl _) (fun k hk => by cases hk)))
  have hgw := HB.out.size
  clear hmade hgm HB HRA HRB HWA
  generalize w3.heap.size = g at *
  go_loopw [28] (fun iv wr => ∃ k : Nat, k ≤ n ∧ iv = .int .i64 (k : Int) ∧ Hid (HalfR wr w.heap.size 41 g n (T.take k)) ∧ Hid (Below w.heap.size w wr) ∧ g < wr.heap.size) (fun iv _ => n - (intOf iv).toNat)
  case atStart => exact ⟨0, by omega, rfl, HO0, HB0, by omega⟩
  case round =>
    clear HO0 HB0
    obtain ⟨k, hk, rfl, HO, HB, hsz⟩ := hrel
    by_cases hlt : k < n
    · have hkT : k < T.length := by rw [HTL.out]; exact hlt
      have HT : Hid (T.take (k + 1) = T.take k ++ [T.getD k []]) := Lib.hid (ll_nextG hkT)
      have HTv := Lib.hid (HTV.out k hlt)
      generalize T.getD k [] = tk at *
      have hki : (k : Int) < (n : Int) := by omega
      have hk0 : (0 : Int) ≤ (k : Int) := by omega
      obtain ⟨bb, off, hbe, a3, n3, c3, e0, h3⟩ := (HK8.out.later HB.out).at hlt
      obtain rfl : n3 = m := h3.len.symm.trans (HRW.out k hlt)
      have HC := Lib.hid (HLF.out k a3 c3 wr hlt HB.out h3)
      subst hbe
      clear h3
      go_wp2_with fail
      refine (HC.out).mono ?_
      rintro e w4 ⟨a4, n4, c4, rfl, h4, bw⟩
      rw [← HTv.out] at h4
      replace HB := Lib.hid (below_then HB.out bw)
      replace HO := Lib.hid (HO.out.later bw)
      have hsz4 : g < w4.heap.size := Nat.lt_of_lt_of_le hsz bw.size
      clear bw hsz HC e0
      obtain ⟨u0, u1, u2, p0, f0⟩ := HO.out.cell hlt
      obtain ⟨hst, hgr⟩ := HO.out.stored (k := k) (by rw [take_len (Nat.le_of_lt hkT)]) hlt h4
      rw [← HT.out] at hst
      have HS := Lib.hid hst
      have HB5 := Lib.hid (HB.out.grown hgr HB.out.size (fun g' hg' => by simp at hg'; omega))
      have hsz5 := Nat.lt_of_lt_of_le hsz4 hgr.size
      clear hst hgr HO HB HT h4
      go_wp2
      go_roundw
      case rel => exact ⟨k + 1, by omega, by go_num, HS, HB5, hsz5⟩
      case measure => simp [intOf]; omega
    · obtain rfl : k = n := by omega
      have HF9 := Lib.hid (HO.out.whole HTL.out rfl (by omega))
      clear HO
      go_wp2
      go_ret2
      exact ⟨_, _, _, rfl, HF9.out, HB.out⟩
end Go.Proofs.YtpjkhbfglgmnmaaGreatDoor

/-
  Package grid at this seat: Add.
-/
namespace Go.Proofs.YtpjkhbfglgmnmaaGreatDoor
open Go.RowKit

set_option maxRecDepth 4096 in
set_option maxHeartbeats 4000000 in
theorem grid_add_no (a : Option Addr) (n c : Nat) (LL : List (List Fx)) (b : Option Addr) (m d : Nat) (MM : List (List Fx)) (w : World) (h8 : Fxss w a n c LL) (h9 : Fxss w b m d MM) (hr : ¬ (rect LL ∧ rect MM ∧ n = m ∧ gwidth LL = gwidth MM)) : Calls Tryz.prog 31 #[.slice a n c, .slice b m d] w (LstRwsV [] (.bool false) w) := by
  have HB : Hid (Below w.heap.size w w) := Lib.hid (Below.refl _ _)
  obtain ⟨wa, hwa⟩ : ∃ wd, gwidth LL = wd := ⟨_, rfl⟩
  obtain ⟨wb, hwb⟩ : ∃ wd, gwidth MM = wd := ⟨_, rfl⟩
  have hbd8 := h8.bound
  have hbd9 := h9.bound
  by_cases hc : rect LL
  · by_cases hd : rect MM
    ·
      have HRA := Lib.hid (show ∀ w' : World, Below w.heap.size w w' → Calls Tryz.prog 15 #[.slice a n c] w' (Gives (.bool true) w') from fun w' hw => grid_right a n c LL true w' (h8.later hw) (Lib.hid ⟨fun _ => hc, fun _ => rfl⟩))
      have HRB := Lib.hid (show ∀ w' : World, Below w.heap.size w w' → Calls Tryz.prog 15 #[.slice b m d] w' (Gives (.bool true) w') from fun w' hw => grid_right b m d MM true w' (h9.later hw) (Lib.hid ⟨fun _ => hd, fun _ => rfl⟩))
      have HWA := Lib.hid (show ∀ w' : World, Below w.heap.size w w' → Calls Tryz.prog 16 #[.slice a n c] w' (Gives (.int .i64 (wa : Int)) w') from fun w' hb7 => hwa ▸ grid_width a n c LL w' (h8.later hb7))
      have HWB := Lib.hid (show ∀ w' : World, Below w.heap.size w w' → Calls Tryz.prog 16 #[.slice b m d] w' (Gives (.int .i64 (wb : Int)) w') from fun w' hb7 => hwb ▸ grid_width b m d MM w' (h9.later hb7))
      by_cases hnm : n = m
      · have hww : wa ≠ wb := fun e => hr ⟨hc, hd, hnm, hwa.trans (e.trans hwb.symm)⟩
        subst hnm
        have hqn : ((n : Int) == (n : Int)) = true := by simp
        have hq : ((wa : Int) == (wb : Int)) = false := by simp; omega
        have hq2 : ¬ (wa : Int) = (wb : Int) := by omega
        clear h8 h9 hr hc hd hwa hwb hww
        go_enter Tryz.func31, Tryz.ntmps31
        go_wp2_with fail
        refine (HRA.out _ HB.out).mono ?_
        rintro e w1 ⟨rfl, b⟩
        replace HB := Lib.hid (below_then HB.out b)
        clear b
        go_wp2_with fail
        refine (HRB.out _ HB.out).mono ?_
        rintro e w2 ⟨rfl, b⟩
        replace HB := Lib.hid (below_then HB.out b)
        clear b
        go_wp2_with fail
        refine (HWA.out _ HB.out).mono ?_
        rintro e w3 ⟨rfl, b⟩
        replace HB := Lib.hid (below_then HB.out b)
        clear b
        go_wp2_with fail
        refine (HWB.out _ HB.out).mono ?_
        rintro e w4 ⟨rfl, b⟩
        replace HB := Lib.hid (below_then HB.out b)
        clear b
        go_wp2
        go_ret2
        exact ⟨none, 0, 0, rfl, Rwss.nil _, HB.out⟩
      · have hq : ((n : Int) == (m : Int)) = false := by simp; omega
        have hq2 : ¬ (n : Int) = (m : Int) := by omega
        clear h8 h9 hr hc hd hwa hwb hnm
        go_enter Tryz.func31, Tryz.ntmps31
        go_wp2_with fail
        refine (HRA.out _ HB.out).mono ?_
        rintro e w1 ⟨rfl, b⟩
        replace HB := Lib.hid (below_then HB.out b)
        clear b
        go_wp2_with fail
        refine (HRB.out _ HB.out).mono ?_
        rintro e w2 ⟨rfl, b⟩
        replace HB := Lib.hid (below_then HB.out b)
        clear b
        go_wp2
        go_ret2
        exact ⟨none, 0, 0, rfl, Rwss.nil _, HB.out⟩
    ·
      have HRA := Lib.hid (show ∀ w' : World, Below w.heap.size w w' → Calls Tryz.prog 15 #[.slice a n c] w' (Gives (.bool true) w') from fun w' hw => grid_right a n c LL true w' (h8.later hw) (Lib.hid ⟨fun _ => hc, fun _ => rfl⟩))
      have HRB := Lib.hid (show ∀ w' : World, Below w.heap.size w w' → Calls Tryz.prog 15 #[.slice b m d] w' (Gives (.bool false) w') from fun w' hw => grid_right b m d MM false w' (h9.later hw) (Lib.hid ⟨fun h9 => absurd h9 (by decide), fun h9 => absurd h9 hd⟩))
      clear h8 h9 hr hc hd hwa hwb
      go_enter Tryz.func31, Tryz.ntmps31
      go_wp2_with fail
      refine (HRA.out _ HB.out).mono ?_
      rintro e w1 ⟨rfl, b⟩
      replace HB := Lib.hid (below_then HB.out b)
      clear b
      go_wp2_with fail
      refine (HRB.out _ HB.out).mono ?_
      rintro e w2 ⟨rfl, b⟩
      replace HB := Lib.hid (below_then HB.out b)
      clear b
      go_wp2
      go_ret2
      exact ⟨none, 0, 0, rfl, Rwss.nil _, HB.out⟩
  ·
    have HRA := Lib.hid (show ∀ w' : World, Below w.heap.size w w' → Calls Tryz.prog 15 #[.slice a n c] w' (Gives (.bool false) w') from fun w' hw => grid_right a n c LL false w' (h8.later hw) (Lib.hid ⟨fun h9 => absurd h9 (by decide), fun h9 => absurd h9 hc⟩))
    clear h8 h9 hr hc hwa hwb
    go_enter Tryz.func31, Tryz.ntmps31
    go_wp2_with fail
    refine (HRA.out _ HB.out).mono ?_
    rintro e w1 ⟨rfl, b⟩
    replace HB := Lib.hid (below_then HB.out b)
    clear b
    go_wp2
    go_ret2
    exact ⟨none, 0, 0, rfl, Rwss.nil _, HB.out⟩
theorem gadd_length : ∀ (l m : List (List Rat)), l.length = m.length → (gadd l m).length = l.length
  | [], [], _ => rfl
  | x :: l, y :: m, h => by
    have := gadd_length l m (by simpa using h)
    simp only [gadd, List.length_cons, this]
  | [], y :: m, h => by simp at h
  | x :: l, [], h => by simp at h
theorem gadd_getD : ∀ {l m : List (List Rat)} {k : Nat}, k < l.length → k < m.length → (gadd l m).getD k [] = radd (l.getD k []) (m.getD k [])
  | x :: l, y :: m, 0, _, _ => rfl
  | x :: l, y :: m, k + 1, h, h' => by
    have := gadd_getD (l := l) (m := m) (k := k) (by simpa using h) (by simpa using h')
    simpa [gadd] using this
  | [], _, _, h, _ => by simp at h
  | _ :: _, [], _, _, h => by simp at h
set_option maxRecDepth 4096 in
set_option maxHeartbeats 4000000 in
theorem grid_add_yes (a : Option Addr) (n c : Nat) (LL : List (List Fx)) (b : Option Addr) (d : Nat) (MM : List (List Fx)) (w : World) (h8 : Fxss w a n c LL) (h9 : Fxss w b n d MM) (hn : n ≤ 300) (hl : small 300 100 LL) (hl2 : small 300 100 MM) (hr : rect LL) (hr2 : rect MM) (hw : gwidth LL = gwidth MM) : Calls Tryz.prog 31 #[.slice a n c, .slice b n d] w (LstRwsV (gadd (LL.map fqs) (MM.map fqs)) (.bool true) w) := by
  have HB : Hid (Below w.heap.size w w) := Lib.hid (Below.refl _ _)
  obtain ⟨wa, hwa⟩ : ∃ wd, gwidth LL = wd := ⟨_, rfl⟩
  have hwb : gwidth MM = wa := hw.symm.trans hwa
  have hRA := rect_at hr hwa
  have hRB := rect_at hr2 hwb
  have HLl := Lib.hid h8.len
  have HLm := Lib.hid h9.len
  have hbd8 := h8.bound
  have hbd9 := h9.bound
  have HK8 := Lib.hid h8
  have HK9 := Lib.hid h9
  have HRA := Lib.hid (show ∀ w' : World, Below w.heap.size w w' → Calls Tryz.prog 15 #[.slice a n c] w' (Gives (.bool true) w') from fun w' hw => grid_right a n c LL true w' (h8.later hw) (Lib.hid ⟨fun _ => hr, fun _ => rfl⟩))
  have HRB := Lib.hid (show ∀ w' : World, Below w.heap.size w w' → Calls Tryz.prog 15 #[.slice b n d] w' (Gives (.bool true) w') from fun w' hw => grid_right b n d MM true w' (h9.later hw) (Lib.hid ⟨fun _ => hr2, fun _ => rfl⟩))
  have HWA := Lib.hid (show ∀ w' : World, Below w.heap.size w w' → Calls Tryz.prog 16 #[.slice a n c] w' (Gives (.int .i64 (wa : Int)) w') from fun w' hb7 => hwa ▸ grid_width a n c LL w' (h8.later hb7))
  have HWB := Lib.hid (show ∀ w' : World, Below w.heap.size w w' → Calls Tryz.prog 16 #[.slice b n d] w' (Gives (.int .i64 (wa : Int)) w') from fun w' hb7 => hwb ▸ grid_width b n d MM w' (h9.later hb7))
  have HADD := Lib.hid (show ∀ (k : Nat) (a1 : Option Addr) (n1 c1 : Nat) (a2 : Option Addr) (n2 c2 : Nat) (w' : World), k < n → Fxs w' a1 n1 c1 (LL.getD k []) → Fxs w' a2 n2 c2 (MM.getD k []) → Calls Tryz.prog 50 #[.slice (some ⟨w'.heap.size, 0, none⟩) 2 2] (w'.alloc (.cells #[.slice a1 n1 c1, .slice a2 n2 c2] 41)) (LstRwV (radd (fqs (LL.getD k [])) (fqs (MM.getD k []))) (.bool true) (w'.alloc (.cells #[.slice a1 n1 c1, .slice a2 n2 c2] 41))) from fun k a1 n1 c1 a2 n2 c2 w' hk h1 h2 => by
    have hm1 := ll_getD_mem (show k < LL.length by rw [HLl.out]; exact hk)
    have hm2 := ll_getD_mem (show k < MM.length by rw [HLm.out]; exact hk)
    refine rowSaid.add_yes _ 2 2 [LL.getD k [], MM.getD k []] _ (Fxss.lit2 w' 41 h1 h2) (by omega) (fun X hX => ?_) (fun x hx y hy => ?_)
    · simp only [List.mem_cons, List.not_mem_nil, or_false] at hX
      rcases hX with rfl | rfl
      · exact hl _ hm1
      · exact hl2 _ hm2
    · have e1 := hRA _ hm1
      have e2 := hRB _ hm2
      simp only [List.map_cons, List.map_nil, List.mem_cons, List.not_mem_nil, or_false] at hx hy
      rcases hx with rfl | rfl <;> rcases hy with rfl | rfl <;> simp only [fqs_length] <;> omega)
  have HTL0 : (gadd (LL.map fqs) (MM.map fqs)).length = n := by rw [gadd_length _ _ (by rw [List.length_map, List.length_map, HLl.out, HLm.out]), List.length_map]; exact h8.len
  have HTV0 : ∀ k, k < n → (gadd (LL.map fqs) (MM.map fqs)).getD k [] = radd (fqs (LL.getD k [])) (fqs (MM.getD k [])) := fun k hk => by
    rw [gadd_getD (by rw [List.length_map, HLl.out]; exact hk) (by rw [List.length_map, HLm.out]; exact hk), ← fqs_row (by rw [HLl.out]; exact hk), ← fqs_row (by rw [HLm.out]; exact hk)]
  obtain ⟨T, hTe⟩ : ∃ T, gadd (LL.map fqs) (MM.map fqs) = T := ⟨_, rfl⟩
  rw [hTe] at HTL0 HTV0 ⊢
  have HTL := Lib.hid HTL0
  have HTV := Lib.hid HTV0
  have hqn : ((n : Int) == (n : Int)) = true := by simp
  have hqw : ((wa : Int) == (wa : Int)) = true := by simp
  clear h8 h9 hl hl2 hr hr2 hRA hRB HTL0 HTV0 hTe hw hwa hwb
  obtain ⟨i1, hi1, hj0, hj1, hj2⟩ := info_partsG infoRowG
  go_enter Tryz.func31, Tryz.ntmps31
  go_wp2_with fail
  refine (HRA.out _ HB.out).mono ?_
  rintro e w1 ⟨rfl, b⟩
  replace HB := Lib.hid (below_then HB.out b)
  clear b
  go_wp2_with fail
  refine (HRB.out _ HB.out).mono ?_
  rintro e w2 ⟨rfl, b⟩
  replace HB := Lib.hid (below_then HB.out b)
  clear b
  go_wp2_with fail
  refine (HWA.out _ HB.out).mono ?_
  rintro e w3 ⟨rfl, b⟩
  replace HB := Lib.hid (below_then HB.out b)
  clear b
  go_wp2_with fail
  refine (HWB.out _ HB.out).mono ?_
  rintro e w4 ⟨rfl, b⟩
  replace HB := Lib.hid (below_then HB.out b)
  clear b
  go_wp2_with (at_make; refine wpList_make_slots _ rfl _ _ 26 rfl (w.heap.size) 41 i1 Tryz.underlying26 hi1 hj0 hj1 hj2 _ _ _ _ n rfl rfl (by omega) (by omega) (by omega) (HB.out.size) ?_; intro wm hmade hgm hszm)
  have HO0 := Lib.hid hmade
  have HB0 : Hid (Below w.heap.size w wm) := Lib.hid (below_then HB.out ((Below.refl _ _).grown hgm (Nat.le_refl _) (fun k hk => by cases hk)))
  have hgw := HB.out.size
  clear hmade hgm HB HRA HRB HWA HWB
  generalize w4.heap.size = g at *
  go_loopw [35] (fun iv wr => ∃ k : Nat, k ≤ n ∧ iv = .int .i64 (k : Int) ∧ Hid (HalfR wr w.heap.size 41 g n (T.take k)) ∧ Hid (Below w.heap.size w wr) ∧ g < wr.heap.size) (fun iv _ => n - (intOf iv).toNat)
  case atStart => exact ⟨0, by omega, rfl, HO0, HB0, by omega⟩
  case round =>
    clear HO0 HB0
    obtain ⟨k, hk, rfl, HO, HB, hsz⟩ := hrel
    by_cases hlt : k < n
    · have hkT : k < T.length := by rw [HTL.out]; exact hlt
      have HT : Hid (T.take (k + 1) = T.take k ++ [T.getD k []]) := Lib.hid (ll_nextG hkT)
      have HTv := Lib.hid (HTV.out k hlt)
      generalize T.getD k [] = tk at *
      have hki : (k : Int) < (n : Int) := by omega
      have hk0 : (0 : Int) ≤ (k : Int) := by omega
      have b0 : Below wr.heap.size wr wr.drew := (Below.refl _ _).drew
      have HBd := Lib.hid (below_then HB.out b0)
      have HOd := Lib.hid (HO.out.later b0)
      have hszd := Nat.lt_of_lt_of_le hsz b0.size
      obtain ⟨bb, off, hbe, a3, n3, c3, e0, h3⟩ := (HK8.out.later HBd.out).at hlt
      obtain ⟨bc, ofc, hbf, a5, n5, c5, e1, h5⟩ := (HK9.out.later HBd.out).at hlt
      have HC := Lib.hid (HADD.out k a3 n3 c3 a5 n5 c5 _ hlt h3 h5)
      have ba := below_alloc wr.drew (.cells #[.slice a3 n3 c3, .slice a5 n5 c5] 41)
      have HB6 := Lib.hid (below_then HBd.out ba)
      have HO6 := Lib.hid (HOd.out.later ba)
      have hsz6 := Nat.lt_of_lt_of_le hszd ba.size
      subst hbe
      subst hbf
      clear h3 h5 b0 HBd HOd hszd ba HB HO hsz
      go_wp2
      go_region_with (first
        | (go_at_call 50; refine (HC.out).mono ?_; rintro e w4 ⟨a4, n4, c4, rfl, h4, bw⟩; rw [← HTv.out] at h4; have HB := Lib.hid (below_then HB6.out bw); have HO := Lib.hid (HO6.out.later bw); have hsz4 : g < w4.heap.size := Nat.lt_of_lt_of_le hsz6 bw.size; have H4 := Lib.hid h4; obtain ⟨u0, u1, u2, p0, f0⟩ := HO.out.cell hlt; clear bw h4 HC HB6 HO6 e0 e1))
      all_goals (
        obtain ⟨hst, hgr⟩ := HO.out.stored (k := k) (by rw [take_len (Nat.le_of_lt hkT)]) hlt H4.out
        rw [← HT.out] at hst
        have HS := Lib.hid hst
        have HB5 := Lib.hid (HB.out.grown hgr HB.out.size (fun g' hg' => by simp at hg'; omega))
        have hsz5 := Nat.lt_of_lt_of_le hsz4 hgr.size
        clear hst hgr HO HB HT H4
        go_wp2
        go_roundw
        case rel => exact ⟨k + 1, by omega, by go_num, HS, HB5, hsz5⟩
        case measure => simp [intOf]; omega)
    · obtain rfl : k = n := by omega
      have HF9 := Lib.hid (HO.out.whole HTL.out rfl (by omega))
      clear HO
      go_wp2
      go_ret2
      exact ⟨_, _, _, rfl, HF9.out, HB.out⟩
end Go.Proofs.YtpjkhbfglgmnmaaGreatDoor

/-
  Package grid at this seat: all its contracts.
-/
namespace Go.Proofs.YtpjkhbfglgmnmaaGreatDoor
open Go.RowKit

theorem gridSaid : GridSaid where
  right := fun a n c LL w h => grid_right a n c LL _ w h (Lib.hid decide_eq_true_iff)
  width := fun a n c LL w h => grid_width a n c LL w h
  ident := fun k w h => grid_ident k w h
  same := fun a n c LL b m d MM w h1 h2 _ _ h3 h4 => grid_same a n c LL b m d MM w h1 h2 h3 h4
  turn_yes := fun a n c LL w h h1 h2 h3 => grid_turn_yes a n c LL w h h1 h2 h3.out
  turn_no := fun a n c LL w h _ _ h3 => grid_turn_no a n c LL w h h3.out
  left_yes := fun a n c L b m d LL N w h1 h2 h3 h4 h5 h6 h7 h8 => by
    obtain ⟨h9, rfl⟩ := h8.out
    exact grid_left_yes a n c L b d LL N w h1 h2 h3 h4 h5 h6 h7 h9
  left_no := fun a n c L b m d LL w h1 h2 _ _ _ _ h7 => grid_left_no a n c L b m d LL w h1 h2 h7.out
  apply_yes := fun b m d LL a n c L N w h1 h2 h3 h4 h5 h6 h7 h8 h9 => grid_apply_yes b m d LL a n c L N w h1 h2 h3 h4 h5 h6 h7 h8 h9.out.1 h9.out.2
  apply_no := fun b m d LL a n c L w h1 h2 _ _ _ _ h9 => grid_apply_no b m d LL a n c L w h1 h2 h9.out
  mul_yes := fun a n c LL b m d MM N w h1 h2 h3 h4 h5 h6 h7 h8 h9 => grid_mul_yes a n c LL b m d MM N w h1 h2 h3 h4 h5 h6 h7 h8 h9.out.1 h9.out.2.1 h9.out.2.2
  mul_no := fun a n c LL b m d MM w h1 h2 _ _ _ _ h9 => grid_mul_no a n c LL b m d MM w h1 h2 h9.out
  add_yes := fun a n c LL b m d MM w h1 h2 h3 _ h5 h6 h9 => by
    obtain ⟨g1, g2, rfl, g4⟩ := h9.out
    exact grid_add_yes a n c LL b d MM w h1 h2 h3 h5 h6 g1 g2 g4
  add_no := fun a n c LL b m d MM w h1 h2 _ _ _ _ h9 => grid_add_no a n c LL b m d MM w h1 h2 h9.out
end Go.Proofs.YtpjkhbfglgmnmaaGreatDoor
