/-
  Several texts of this claim as one, group 22.
-/
import Derived.Test.YteoeicfbaffjcaaGreatDoorG21
import Derived.Deep.RegionHeld3
import Derived.Deep.CutRange
import Derived.Test.YteoeicfbaffjcaaGreatDoorG14
import Derived.Test.YteoeicfbaffjcaaGreatDoorG19
import Derived.Test.YteoeicfbaffjcaaGreatDoorG15
import Derived.Test.YteoeicfbaffjcaaGreatDoorG17
/-
  The contract of the document's answer for layer 10: Round.
-/
namespace Go.Proofs.YteoeicfbaffjcaaGreatDoor
open Go.RowKit

theorem ref10_twice (b : Option Addr) (m cap' : Nat) (l : List Nat) (w : World) (g : Nat) (hg : w.heap.size = g) (h : Wd w b m cap' l) (hm : m ≤ 10000) :
    Calls Tryz.prog 43 #[.slice b m cap', .slice (some ⟨g, 0, none⟩) 1 1] (w.alloc (.cells #[.int .u32 2] 54)) (Lst (dg (val l * 2)) w) := by
  subst hg
  exact (ref04_mul b m cap' l _ 1 1 [2] _ (h.later (below_alloc _ _)) (Wd.lit1 w 54 (x := 2) (by omega)) (by omega) (by omega)).mono fun _ _ ⟨a', n', c', he, h1, hb⟩ => ⟨a', n', c', he, h1, below_then (below_alloc _ _) hb⟩
set_option maxRecDepth 4096 in
set_option maxHeartbeats 8000000 in
theorem ref10_round (q : Rat) (a : Option Addr) (n cap : Nat) (b : Option Addr) (m cap' : Nat) (p : Int) (w : World) (ha : Wd w a n cap (dg q.num.natAbs)) (hb : Wd w b m cap' (dg q.den)) (hn : n ≤ 900) (hm : m ≤ 900) :
    Calls Tryz.prog 14 #[frV (zneg q.num) a n cap b m cap', .int .i64 p] w (Gives (.string (bs (rtxt q (clampP p)))) w) := by
  obtain ⟨M, hM⟩ : ∃ M : Nat, (max p 0 : Int) = (M : Int) := ⟨p.toNat, by omega⟩
  obtain ⟨k, hk⟩ : ∃ k : Nat, (min (M : Int) 60 : Int) = (k : Int) := ⟨min M 60, by omega⟩
  have HK : Hid (clampP p = k) := Lib.hid (by unfold clampP; omega)
  have hk60 : k ≤ 60 := by omega
  have HB := Lib.hid (below_alloc w (.cells #[.bool (zneg q.num), .slice a n cap, .slice b m cap'] 24))
  have HA := Lib.hid (ha.later HB.out)
  have HC := Lib.hid (hb.later HB.out)
  have HX := Lib.hid (blk_new w #[.bool (zneg q.num), .slice a n cap, .slice b m cap'] 24)
  have hu := val_lt (okw_dg q.num.natAbs)
  have hv := val_lt (okw_dg q.den)
  rw [val_dg, ha.len] at hu
  rw [val_dg, hb.len] at hv
  have lU : (dg (q.num.natAbs * (10 ^ k * 2) + q.den)).length ≤ 900 + 9 := fig_room_len hu hv hn hm hk60
  have hle2 : q.num.natAbs * 10 ^ k ≤ q.num.natAbs * (10 ^ k * 2) := Nat.mul_le_mul_left _ (by omega)
  have l1 : (dg (q.num.natAbs * 10 ^ k)).length ≤ 900 + 9 := Nat.le_trans (dg_length_mono (by omega)) lU
  have l2 : (dg (q.num.natAbs * (10 ^ k * 2))).length ≤ 900 + 9 := Nat.le_trans (dg_length_mono (by omega)) lU
  have l0 : (dg (10 ^ k)).length ≤ 8 := dg_length_le (Nat.lt_of_le_of_lt (Nat.pow_le_pow_right (by decide) hk60) (show 10 ^ 60 < 4294967296 ^ 8 by decide))
  have lD : (dg (q.den * 2)).length ≤ 900 + 9 := fig_twice_len hv hm
  have HE1 : Hid (val (dg q.num.natAbs) * val (dg (10 ^ k)) = q.num.natAbs * 10 ^ k) := Lib.hid (by rw [val_dg, val_dg])
  have HE2 : Hid (val (dg (q.num.natAbs * 10 ^ k)) * val [2] = q.num.natAbs * (10 ^ k * 2)) := Lib.hid (by rw [val_dg, show val [2] = 2 from rfl, Nat.mul_assoc])
  have HE3 : Hid (val (dg (q.num.natAbs * (10 ^ k * 2))) + val (dg q.den) = q.num.natAbs * (10 ^ k * 2) + q.den) := Lib.hid (by rw [val_dg, val_dg])
  have HE5 : Hid (val (dg q.den) * 2 = q.den * 2) := Lib.hid (by rw [val_dg])
  obtain ⟨Q, hQ⟩ : ∃ Q, qval false (val (dg (q.num.natAbs * (10 ^ k * 2) + q.den))) (val (dg (q.den * 2))) = Q := ⟨_, rfl⟩
  have HQ := Lib.hid hQ
  have HE4 : Hid (Q.floor.natAbs = rnum q k) := Lib.hid (by
    rw [← hQ, val_dg, val_dg]
    have h := near_raw (zneg q.num) q.num.natAbs q.den k
    have e := qval_dg q
    rw [val_dg, val_dg] at e
    rw [e] at h
    exact h)
  have lQn : (dg Q.num.natAbs).length ≤ 2000 := by
    rw [← hQ, val_dg, val_dg]
    have h0 : q.den * 2 ≠ 0 := by have := q.den_pos; omega
    rw [(qval_parts false (u := q.num.natAbs * (10 ^ k * 2) + q.den) h0).1, zval_abs]
    exact Nat.le_trans (dg_length_mono (Nat.div_le_self _ _)) (Nat.le_trans lU (by omega))
  have lQd : (dg Q.den).length ≤ 2000 := by
    rw [← hQ, val_dg, val_dg]
    have h0 : q.den * 2 ≠ 0 := by have := q.den_pos; omega
    rw [(qval_parts false (u := q.num.natAbs * (10 ^ k * 2) + q.den) h0).2]
    exact Nat.le_trans (dg_length_mono (Nat.div_le_self _ _)) (Nat.le_trans lD (by omega))
  have lR : (dg (rnum q k)).length ≤ 900 + 9 := by
    rw [← HE4.out, ← hQ, val_dg, val_dg]
    have h0 : q.den * 2 ≠ 0 := by have := q.den_pos; omega
    rw [fc_qfloor false _ h0, zval_false, Int.fdiv_eq_ediv_of_nonneg _ (Int.natCast_nonneg _), ← Int.natCast_ediv, Int.natAbs_natCast]
    exact Nat.le_trans (dg_length_mono (Nat.div_le_self _ _)) lU
  have HF0 : Hid (zneg q.num = false → rtxt q k = pointed k (pad0 k (txt (rnum q k)))) := Lib.hid (fun h => by
    unfold rtxt
    rw [if_neg (fun h2 => of_decide_eq_false h h2.1)]; rfl)
  have HF1 : Hid (rnum q k = 0 → rtxt q k = pointed k (pad0 k (txt (rnum q k)))) := Lib.hid (fun h => by
    unfold rtxt
    rw [if_neg (fun h2 => h2.2 h)]; rfl)
  have HF2 : Hid (zneg q.num = true → rnum q k ≠ 0 → rtxt q k = 45 :: pointed k (pad0 k (txt (rnum q k)))) := Lib.hid (fun h h2 => by
    unfold rtxt
    rw [if_pos ⟨of_decide_eq_true h, h2⟩]; rfl)
  have HT : ∀ w' : World, Calls Tryz.prog 44 #[.int .i64 (k : Int)] w' (Lst (dg (10 ^ k)) w') := fun w' => ref10_tens k w' (by omega)
  rw [HK.out]
  generalize rtxt q k = t at *
  generalize rnum q k = r at *
  obtain ⟨s0, hs0⟩ : ∃ s, zneg q.num = s := ⟨_, rfl⟩
  rw [hs0] at HX HB HA HC HF0 HF2 ⊢
  generalize q.num.natAbs * (10 ^ k * 2) + q.den = U at *
  generalize q.num.natAbs * (10 ^ k * 2) = Y at *
  generalize q.num.natAbs * 10 ^ k = X at *
  generalize q.den * 2 = D2 at *
  clear ha hb hu hv hle2 hs0 hQ HK
  go_enter Tryz.func14, Tryz.ntmps14
  unfold frV
  go_wp2
  generalize (w.alloc (.cells #[.bool s0, .slice a n cap, .slice b m cap'] 24)) = W at *
  have HXd : Hid (W.drew.heap[w.heap.size]? = some (.cells #[.bool s0, .slice a n cap, .slice b m cap'] 24 (0, 0))) := Lib.hid HX.out
  have HBd : Hid (Below w.heap.size w W.drew) := Lib.hid (below_then HB.out (Below.refl _ _).drew)
  have HAd := Lib.hid (HA.out.later ((Below.refl _ _).drew : Below W.heap.size W W.drew))
  have HCd := Lib.hid (HC.out.later ((Below.refl _ _).drew : Below W.heap.size W W.drew))
  clear HX HB HA HC
  have pSn := fcells_3 HXd.out
  have pS0 := fun o => fcells_3 (blk_later HXd.out (below_alloc W.drew o))
  go_cut [5] from 12 to 21 (fun s5 wx => ∃ (a4 : Option Addr) (n4 c4 : Nat), s5 = .slice a4 n4 c4 ∧ Hid (Wd wx a4 n4 c4 (dg U)) ∧ Hid (Wd wx b m cap' (dg q.den)) ∧ Hid (wx.heap[w.heap.size]? = some (.cells #[.bool s0, .slice a n cap, .slice b m cap'] 24 (0, 0))) ∧ Hid (Below w.heap.size w wx))
  case first =>
    go_region_held3 (fun w' => w'.cell? ⟨w.heap.size, 0, none⟩ = some (.bool s0) ∧ w'.cell? ⟨w.heap.size, 1, none⟩ = some (.slice a n cap) ∧ w'.cell? ⟨w.heap.size, 2, none⟩ = some (.slice b m cap')) (first | with_reducible exact pSn | exact pS2 _ | exact pS1 _ | exact pS0 _)
      (first
      | (go_at_call 44; refine (HT _).mono ?_; rintro e w1 ⟨a1, n1, c1, rfl, h1, b⟩; have bb : Below W.drew.heap.size W.drew w1 := (by first | exact b | exact below_then (below_alloc _ _) b); replace HBd := Lib.hid (below_then HBd.out bb); replace HXd := Lib.hid (blk_later HXd.out bb); replace HAd := Lib.hid (HAd.out.later bb); replace HCd := Lib.hid (HCd.out.later bb); (first | (replace L2 := Lib.hid (L2.out.later bb)) | (have L2 := Lib.hid ((Wd.lit1 W.drew 54 (x := 2) (by omega)).later b)) | skip); have R1 := Lib.hid h1; have ln1 := h1.len; clear h1; clear pSn; have pSn := fcells_3 HXd.out; have pS1 := fun o => fcells_3 (blk_later HXd.out (below_alloc w1 o)); clear b bb; have M1 := True.intro)
      | (go_at_call 43; (first
        | (have m2 := M2; refine (ref04_mul a2 n2 c2 (dg X) _ 1 1 [2] _ ?x3 ?x4 (by omega) (by omega)).mono ?_; (case x3 => (first | exact R2.out | exact R2.out.later (below_alloc _ _))); (case x4 => (first | exact L2.out | exact L2.out.later (below_alloc _ _) | exact Wd.lit1 w2 54 (x := 2) (by omega))); rintro e w3 ⟨a3, n3, c3, rfl, h3, b⟩; rw [HE2.out] at h3; have bb : Below w2.heap.size w2 w3 := (by first | exact b | exact below_then (below_alloc _ _) b); replace HBd := Lib.hid (below_then HBd.out bb); replace HXd := Lib.hid (blk_later HXd.out bb); replace HAd := Lib.hid (HAd.out.later bb); replace HCd := Lib.hid (HCd.out.later bb); have R3 := Lib.hid h3; have ln3 := h3.len; clear h3; clear pSn; have pSn := fcells_3 HXd.out; clear b bb; have M3 := True.intro)
        | (have m1 := M1; refine (ref04_mul a n cap (dg q.num.natAbs) a1 n1 c1 (dg (10 ^ k)) _ ?x1 ?x2 (by omega) (by omega)).mono ?_; (case x1 => (first | exact HAd.out | exact HAd.out.later (below_alloc _ _))); (case x2 => (first | exact R1.out | exact R1.out.later (below_alloc _ _))); rintro e w2 ⟨a2, n2, c2, rfl, h2, b⟩; rw [HE1.out] at h2; have bb : Below w1.heap.size w1 w2 := (by first | exact b | exact below_then (below_alloc _ _) b); replace HBd := Lib.hid (below_then HBd.out bb); replace HXd := Lib.hid (blk_later HXd.out bb); replace HAd := Lib.hid (HAd.out.later bb); replace HCd := Lib.hid (HCd.out.later bb); (first | (replace L2 := Lib.hid (L2.out.later bb)) | (have L2 := Lib.hid ((Wd.lit1 w1 54 (x := 2) (by omega)).later b)) | skip); have R2 := Lib.hid h2; have ln2 := h2.len; clear h2; clear pSn; have pSn := fcells_3 HXd.out; have pS2 := fun o => fcells_3 (blk_later HXd.out (below_alloc w2 o)); clear b bb; have M2 := True.intro)))
      | (go_at_call 42; refine (ref02_add a3 n3 c3 _ b m cap' _ _ R3.out HCd.out (by omega) (by omega)).mono ?_; rintro e w4 ⟨a4, n4, c4, rfl, h4, b⟩; rw [HE3.out] at h4; have bb := b; replace HBd := Lib.hid (below_then HBd.out bb); replace HXd := Lib.hid (blk_later HXd.out bb); replace HAd := Lib.hid (HAd.out.later bb); replace HCd := Lib.hid (HCd.out.later bb); have R4 := Lib.hid h4; clear h4; clear pSn; have pSn := fcells_3 HXd.out; clear b bb; have M4 := True.intro))
    all_goals (
      have ln4 := R4.out.len
      go_wp2
      go_meet
      exact ⟨a4, n4, c4, rfl, R4, HCd, HXd, HBd⟩)
  case rest =>
    clear HAd HCd HXd HBd pSn pS0
    obtain ⟨a4, n4, c4, rfl, R4, HC, HX, HB⟩ := hcut
    have ln4 := R4.out.len
    have lnD := HC.out.len
    have HV : Hid (val (dg r) = r) := Lib.hid (val_dg r)
    have HRV : Hid (r ≠ 0 ↔ 0 < (dg r).length) := Lib.hid ⟨fun h => Nat.pos_of_ne_zero (fun e => h (dg_nil_iff.1 e)), fun h e => by rw [e, dg_zero] at h; simp at h⟩
    obtain ⟨vk0, vk1, vk2⟩ := fcells_3 HX.out
    go_wp2_with fail
    refine (ref10_twice b m cap' _ _ _ rfl HC.out (by omega)).mono ?_
    rintro e wv1 ⟨a5, n5, c5, rfl, h5, b⟩
    clear vk0 vk1 vk2
    replace HB := Lib.hid (below_then HB.out b)
    replace HX := Lib.hid (blk_later HX.out b)
    clear HC
    replace R4 := Lib.hid (R4.out.later b)
    clear b
    rw [HE5.out] at h5
    have ln5 := h5.len
    have R5 := Lib.hid h5
    clear h5
    obtain ⟨vk0, vk1, vk2⟩ := fcells_3 HX.out
    go_wp2_with fail
    refine (ref09_norm false a4 n4 c4 _ a5 n5 c5 _ _ R4.out R5.out (by omega) (by omega)).mono ?_
    rintro e wv2 ⟨a6, n6, c6, b6, m6, d6, rfl, h6, g6, b⟩
    clear vk0 vk1 vk2
    replace HB := Lib.hid (below_then HB.out b)
    replace HX := Lib.hid (blk_later HX.out b)
    clear R4
    clear R5
    clear b
    rw [HQ.out] at h6 g6 ⊢
    have ln6 := h6.len
    have lm6 := g6.len
    have R6 := Lib.hid h6
    have T6 := Lib.hid g6
    clear h6 g6
    obtain ⟨vk0, vk1, vk2⟩ := fcells_3 HX.out
    go_wp2_with fail
    refine (ref09_floor_q Q a6 n6 c6 b6 m6 d6 _ R6.out T6.out (by omega) (by omega)).mono ?_
    rintro e wv3 ⟨a7, n7, c7, rfl, h7, b⟩
    clear vk0 vk1 vk2
    replace HB := Lib.hid (below_then HB.out b)
    replace HX := Lib.hid (blk_later HX.out b)
    clear R6
    clear T6
    clear b
    generalize Q.floor = z at *
    rw [HE4.out] at h7
    have ln7 := h7.len
    have R7 := Lib.hid h7
    clear h7
    unfold whV
    have hlt9 := blk_lt HX.out
    have HZ : Hid ((World.alloc wv3 (.cells #[.bool (zneg z), .slice a7 n7 c7] 63)).heap[wv3.heap.size]? = some (.cells #[.bool (zneg z), .slice a7 n7 c7] 63 (0, 0))) := Lib.hid (blk_new wv3 _ _)
    replace HB := Lib.hid (below_then HB.out (below_alloc wv3 (.cells #[.bool (zneg z), .slice a7 n7 c7] 63)))
    replace HX := Lib.hid (blk_later HX.out (below_alloc wv3 (.cells #[.bool (zneg z), .slice a7 n7 c7] 63)))
    replace R7 := Lib.hid (R7.out.later (below_alloc wv3 (.cells #[.bool (zneg z), .slice a7 n7 c7] 63)))
    obtain ⟨vk0, vk1, vk2, vk3, vk4⟩ := fcells_3_2 HX.out HZ.out
    go_wp2_with fail
    refine (ref07_text a7 n7 c7 _ _ R7.out (by omega)).mono ?_
    rintro e wv4 ⟨rfl, b⟩
    clear vk0 vk1 vk2 vk3 vk4
    replace HB := Lib.hid (below_then HB.out b)
    replace HX := Lib.hid (blk_later HX.out b)
    replace HZ := Lib.hid (blk_later HZ.out b)
    clear R7
    clear b
    rw [HV.out]
    obtain ⟨k0, k1, k2, k3, k4⟩ := fcells_3_2 HX.out HZ.out
    go_wp2
    obtain ⟨L, hL⟩ : ∃ L, (txt r).length = L := ⟨_, rfl⟩
    have hL1 : 1 ≤ L := by rw [← hL]; exact List.length_pos_iff.2 (txt_ne r)
    have hL2 : L ≤ 100000 := by
      have h1 := val_lt (okw_dg r)
      rw [val_dg, pow32] at h1
      have h2 := txt_length_le h1
      omega
    have HL := Lib.hid hL
    clear hL
    go_loopg [7] (k + 1 - L) (fun g s7 wr => ∃ i : Nat, i + g = k + 1 - L ∧ s7 = .string (bs (List.replicate i 48 ++ txt r)) ∧ wr = wv4)
    case atStart => exact ⟨0, by omega, rfl, rfl⟩
    case round =>
      obtain ⟨i, hig, rfl, rfl⟩ := hrel
      have hz := bs_size (List.replicate i 48 ++ txt r)
      rw [List.length_append, List.length_replicate, HL.out] at hz
      by_cases hlt : i + L ≤ k
      · have hcat : bs [48] ++ bs (List.replicate i 48 ++ txt r) = bs (List.replicate (i + 1) 48 ++ txt r) := by rw [bs_append, List.replicate_succ]; rfl
        have hz1 := bs_size [48]
        simp only [List.length_cons, List.length_nil] at hz1
        generalize List.replicate i 48 ++ txt r = y at *
        generalize hy : List.replicate (i + 1) 48 ++ txt r = y2 at *
        have HY := Lib.hid hy
        clear hy
        go_wp2
        go_roundg (gk - 1)
        case measure => omega
        case rel => exact ⟨i + 1, by omega, by rw [HY.out, ← hcat]; rfl, rfl⟩
      · have hpp : List.replicate i 48 ++ txt r = pad0 k (txt r) := by
          unfold pad0
          rw [HL.out, show k + 1 - L = i by omega]
        have hpl := pad0_length k (txt r)
        rw [HL.out] at hpl
        rw [hpp] at hz ⊢
        generalize pad0 k (txt r) = p0 at *
        obtain ⟨PL, hPL⟩ : ∃ PL, p0.length = PL := ⟨_, rfl⟩
        have hplen : PL = i + L := by have := bs_size p0; omega
        rw [← hplen] at hz
        have hnlt : ¬ (PL : Int) ≤ (k : Int) := by omega
        have hib : PL ≤ 100100 := by omega
        have hkl : k + 1 ≤ PL := by omega
        clear hpp
        obtain ⟨j, hj⟩ : ∃ j : Nat, PL - k = j := ⟨_, rfl⟩
        have HJ : Hid (p0.length - k = j) := Lib.hid (by rw [hPL]; exact hj)
        have hji : (PL : Int) - (k : Int) = (j : Int) := by omega
        have hwj : IntKind.i64.wrap (j : Int) = (j : Int) := by rw [IntKind.wrap_i64]; omega
        have hjp : (j : Int) ≤ (PL : Int) := by omega
        have e1 := bs_take p0 j
        have e2 := bs_drop p0 j
        have hz3 := bs_size (p0.take j)
        have hz4 := bs_size [46]
        have hz5 := bs_size (p0.drop j)
        have hz6 := bs_size [45]
        rw [List.length_take, hPL, Nat.min_eq_left (by omega)] at hz3
        rw [List.length_drop, hPL] at hz5
        simp only [List.length_cons, List.length_nil] at hz4 hz6
        have HP : Hid (k ≠ 0 → bs (p0.take j) ++ bs [46] ++ bs (p0.drop j) = bs (pointed k p0)) := Lib.hid (fun h0 => by
          rw [bs_append, bs_append]
          unfold pointed
          rw [if_neg h0, HJ.out, List.append_assoc]; rfl)
        have HP0 : Hid (k = 0 → p0 = pointed k p0) := Lib.hid (fun h0 => by unfold pointed; rw [if_pos h0])
        rw [hPL] at e2
        clear hj hpl hplen hlt hig hPL
        cases s0 with
        | false =>
          have HF : Hid (t = pointed k p0) := Lib.hid (HF0.out (by first | rfl | trivial))
          by_cases h0 : k = 0
          · have HE : Hid ((bs []) ++ bs p0 = bs t) := Lib.hid (by rw [HF.out, ← HP0.out h0, bs_append]; rfl)
            have hk0 : ¬ (0 : Int) < (k : Int) := by omega
            clear h0
            go_wp2
            go_ret
            exact ⟨by rw [← HE.out]; rfl, HB.out⟩
          · have HE : Hid ((bs []) ++ (bs (p0.take j) ++ bs [46] ++ bs (p0.drop j)) = bs t) := Lib.hid (by rw [HP.out h0, HF.out, bs_append]; rfl)
            have hk0 : (0 : Int) < (k : Int) := by omega
            clear h0
            go_wp2
            go_quiet (fail)
            go_wp2
            go_ret
            exact ⟨by rw [← HE.out]; rfl, below_then HB.out (below_draws _ _)⟩
        | true =>
          by_cases hr0 : r = 0
          · have HF : Hid (t = pointed k p0) := Lib.hid (HF1.out hr0)
            have hn7 : ¬ (0 : Int) < (n7 : Int) := by
              have h1 : ¬ 0 < (dg r).length := fun h => HRV.out.2 h hr0
              omega
            clear hr0
            by_cases h0 : k = 0
            · have HE : Hid ((bs []) ++ bs p0 = bs t) := Lib.hid (by rw [HF.out, ← HP0.out h0, bs_append]; rfl)
              have hk0 : ¬ (0 : Int) < (k : Int) := by omega
              clear h0
              go_wp2
              go_ret
              exact ⟨by rw [← HE.out]; rfl, HB.out⟩
            · have HE : Hid ((bs []) ++ (bs (p0.take j) ++ bs [46] ++ bs (p0.drop j)) = bs t) := Lib.hid (by rw [HP.out h0, HF.out, bs_append]; rfl)
              have hk0 : (0 : Int) < (k : Int) := by omega
              clear h0
              go_wp2
              go_quiet (fail)
              go_wp2
              go_ret
              exact ⟨by rw [← HE.out]; rfl, below_then HB.out (below_draws _ _)⟩
          · have HF : Hid (t = 45 :: pointed k p0) := Lib.hid (HF2.out (by first | rfl | trivial) hr0)
            have hn7 : (0 : Int) < (n7 : Int) := by
              have h1 := HRV.out.1 hr0
              omega
            clear hr0
            by_cases h0 : k = 0
            · have HE : Hid (bs [45] ++ bs p0 = bs t) := Lib.hid (by rw [HF.out, ← HP0.out h0, bs_append]; rfl)
              have hk0 : ¬ (0 : Int) < (k : Int) := by omega
              clear h0
              go_wp2
              go_ret
              exact ⟨by rw [← HE.out]; rfl, HB.out⟩
            · have HE : Hid (bs [45] ++ (bs (p0.take j) ++ bs [46] ++ bs (p0.drop j)) = bs t) := Lib.hid (by rw [HP.out h0, HF.out, bs_append]; rfl)
              have hk0 : (0 : Int) < (k : Int) := by omega
              clear h0
              go_wp2
              go_quiet (fail)
              go_wp2
              go_ret
              exact ⟨by rw [← HE.out]; rfl, below_then HB.out (below_draws _ _)⟩
end Go.Proofs.YteoeicfbaffjcaaGreatDoor

/-
  The walks of the laws of layer 9: To, Of, Is, alike.
-/
namespace Go.Proofs.YteoeicfbaffjcaaGreatDoor
open Go.RowKit

set_option maxHeartbeats 1000000 in
theorem law09_to (neg : Bool) (a : Option Addr) (n cap : Nat) (b : Option Addr) (m cap' : Nat) (w : World) : Calls Tryz.prog 9 #[frV neg a n cap b m cap'] w (Gives (frV neg a n cap b m cap') w) := by
  have HG : Hid (((w.alloc (.cells #[.bool neg, .slice a n cap, .slice b m cap'] 24)).alloc (.cells #[.bool neg, .slice a n cap, .slice b m cap'] 30)).heap[w.heap.size + 1]? = some (.cells #[.bool neg, .slice a n cap, .slice b m cap'] 30 (0, 0))) := Lib.hid (boxes_at w ((w.alloc (.cells #[.bool neg, .slice a n cap, .slice b m cap'] 24)).alloc (.cells #[.bool neg, .slice a n cap, .slice b m cap'] 30)) _ _ _ _ (Below.refl _ _)).2
  have HB := Lib.hid (below_then (below_alloc w (.cells #[.bool neg, .slice a n cap, .slice b m cap'] 24)) (below_alloc _ (.cells #[.bool neg, .slice a n cap, .slice b m cap'] 30)))
  go_enter Tryz.func9, Tryz.ntmps9
  unfold frV
  go_wp2
  refine bodyPost_ret (results_cell_row Tryz.results9 _ _ (w.heap.size + 1) 30 #[.bool neg, .slice a n cap, .slice b m cap'] (0, 0) _ rfl HG.out Tryz.underlying30 rfl (by kernel_rfl)) rfl ?_
  exact ⟨rfl, HB.out⟩
set_option maxHeartbeats 1000000 in
theorem law09_of (neg : Bool) (a : Option Addr) (n cap : Nat) (b : Option Addr) (m cap' : Nat) (w : World) : Calls Tryz.prog 60 #[frV neg a n cap b m cap'] w (Gives (frV neg a n cap b m cap') w) := by
  have HG : Hid (((w.alloc (.cells #[.bool neg, .slice a n cap, .slice b m cap'] 30)).alloc (.cells #[.bool neg, .slice a n cap, .slice b m cap'] 24)).heap[w.heap.size + 1]? = some (.cells #[.bool neg, .slice a n cap, .slice b m cap'] 24 (0, 0))) := Lib.hid (boxes_at w ((w.alloc (.cells #[.bool neg, .slice a n cap, .slice b m cap'] 30)).alloc (.cells #[.bool neg, .slice a n cap, .slice b m cap'] 24)) _ _ _ _ (Below.refl _ _)).2
  have HB := Lib.hid (below_then (below_alloc w (.cells #[.bool neg, .slice a n cap, .slice b m cap'] 30)) (below_alloc _ (.cells #[.bool neg, .slice a n cap, .slice b m cap'] 24)))
  go_enter Tryz.func60, Tryz.ntmps60
  unfold frV
  go_wp2
  refine bodyPost_ret (results_cell_row Tryz.results60 _ _ (w.heap.size + 1) 24 #[.bool neg, .slice a n cap, .slice b m cap'] (0, 0) _ rfl HG.out Tryz.underlying24 rfl (by kernel_rfl)) rfl ?_
  exact ⟨rfl, HB.out⟩
set_option maxRecDepth 4096 in
set_option maxHeartbeats 4000000 in
theorem law09_is_yes (neg : Bool) (a : Option Addr) (n cap : Nat) (b : Option Addr) (m cap' : Nat) (l k : List Nat) (a' : Option Addr) (n' c' : Nat) (b' : Option Addr) (m' d' : Nat) (w : World) (ha : Wd w a n cap l) (hb : Wd w b m cap' k) (ha' : Wd w a' n' c' l) (hb' : Wd w b' m' d' k) :
    Calls Tryz.prog 17 #[frV neg a n cap b m cap', frV neg a' n' c' b' m' d'] w (Gives (.bool true) w) := by
  have HB := Lib.hid (below_then (below_alloc w (.cells #[.bool neg, .slice a n cap, .slice b m cap'] 30)) (below_alloc _ (.cells #[.bool neg, .slice a' n' c', .slice b' m' d'] 24)))
  have HA := Lib.hid (ha.later HB.out)
  have HC := Lib.hid (hb.later HB.out)
  have HA' := Lib.hid (ha'.later HB.out)
  have HC' := Lib.hid (hb'.later HB.out)
  obtain ⟨hx1, hx2⟩ := boxes_at w ((w.alloc (.cells #[.bool neg, .slice a n cap, .slice b m cap'] 30)).alloc (.cells #[.bool neg, .slice a' n' c', .slice b' m' d'] 24)) #[.bool neg, .slice a n cap, .slice b m cap'] #[.bool neg, .slice a' n' c', .slice b' m' d'] 30 24 (Below.refl _ _)
  have HX := Lib.hid hx1
  have HY := Lib.hid hx2
  clear ha hb ha' hb' hx1 hx2
  go_enter Tryz.func17, Tryz.ntmps17
  unfold frV
  go_wp2
  generalize ((w.alloc (.cells #[.bool neg, .slice a n cap, .slice b m cap'] 30)).alloc (.cells #[.bool neg, .slice a' n' c', .slice b' m' d'] 24)) = W at *
  replace HB := Lib.hid (below_then HB.out ((Below.refl _ _).drew : Below W.heap.size W W.drew))
  replace HX : Hid (W.drew.heap[w.heap.size]? = _) := Lib.hid HX.out
  replace HY : Hid (W.drew.heap[w.heap.size + 1]? = _) := Lib.hid HY.out
  replace HA := Lib.hid (HA.out.later ((Below.refl _ _).drew : Below W.heap.size W W.drew))
  replace HC := Lib.hid (HC.out.later ((Below.refl _ _).drew : Below W.heap.size W W.drew))
  replace HA' := Lib.hid (HA'.out.later ((Below.refl _ _).drew : Below W.heap.size W W.drew))
  replace HC' := Lib.hid (HC'.out.later ((Below.refl _ _).drew : Below W.heap.size W W.drew))
  have pSn := cells_3_3 HX.out HY.out
  go_region_held3 (fun w' => w'.cell? ⟨w.heap.size, 0, none⟩ = some (.bool neg) ∧ w'.cell? ⟨w.heap.size, 1, none⟩ = some (.slice a n cap) ∧ w'.cell? ⟨w.heap.size, 2, none⟩ = some (.slice b m cap') ∧ w'.cell? ⟨w.heap.size + 1, 0, none⟩ = some (.bool neg) ∧ w'.cell? ⟨w.heap.size + 1, 1, none⟩ = some (.slice a' n' c') ∧ w'.cell? ⟨w.heap.size + 1, 2, none⟩ = some (.slice b' m' d')) (exact pSn)
    (first
    | (go_at_call 60; (first
      | (refine (law09_of neg a n cap b m cap' _).mono ?_; rintro e wp1 ⟨rfl, b⟩; replace HB := Lib.hid (below_then HB.out b); replace HX := Lib.hid (blk_later HX.out b); replace HY := Lib.hid (blk_later HY.out b); replace HA := Lib.hid (HA.out.later b); replace HC := Lib.hid (HC.out.later b); replace HA' := Lib.hid (HA'.out.later b); replace HC' := Lib.hid (HC'.out.later b); clear b; clear pSn; have pSn := cells_3_3 HX.out HY.out; have pM1 := True.intro)))
    | (go_at_call 59; (first
      | (have pm1 := pM1; refine (ref09_same_yes neg a n cap b m cap' l k a' n' c' b' m' d' _ HA.out HC.out HA'.out HC'.out).mono ?_; rintro e wp2 ⟨rfl, b⟩; replace HB := Lib.hid (below_then HB.out b); replace HX := Lib.hid (blk_later HX.out b); replace HY := Lib.hid (blk_later HY.out b); replace HA := Lib.hid (HA.out.later b); replace HC := Lib.hid (HC.out.later b); replace HA' := Lib.hid (HA'.out.later b); replace HC' := Lib.hid (HC'.out.later b); clear b; clear pSn; have pSn := cells_3_3 HX.out HY.out; clear pM1 pm1; have pM2 := True.intro))))
  go_wp2
  go_ret
  exact ⟨rfl, HB.out⟩
end Go.Proofs.YteoeicfbaffjcaaGreatDoor

/-
  The walks of the laws of layer 10: works.
-/
namespace Go.Proofs.YteoeicfbaffjcaaGreatDoor
open Go.RowKit

theorem fcells_3_3_4 {w : World} {A0 A1 A2 : Nat} {c0_0 c0_1 c0_2 c1_0 c1_1 c1_2 c2_0 c2_1 c2_2 c2_3 : Value} {t0 t1 t2 : TypeId} (h0 : w.heap[A0]? = some (.cells #[c0_0, c0_1, c0_2] t0 (0, 0))) (h1 : w.heap[A1]? = some (.cells #[c1_0, c1_1, c1_2] t1 (0, 0))) (h2 : w.heap[A2]? = some (.cells #[c2_0, c2_1, c2_2, c2_3] t2 (0, 0))) : w.cell? ⟨A0, 0, none⟩ = some c0_0 ∧ w.cell? ⟨A0, 1, none⟩ = some c0_1 ∧ w.cell? ⟨A0, 2, none⟩ = some c0_2 ∧ w.cell? ⟨A1, 0, none⟩ = some c1_0 ∧ w.cell? ⟨A1, 1, none⟩ = some c1_1 ∧ w.cell? ⟨A1, 2, none⟩ = some c1_2 ∧ w.cell? ⟨A2, 0, none⟩ = some c2_0 ∧ w.cell? ⟨A2, 1, none⟩ = some c2_1 ∧ w.cell? ⟨A2, 2, none⟩ = some c2_2 ∧ w.cell? ⟨A2, 3, none⟩ = some c2_3 := ⟨blk_cell h0 0, blk_cell h0 1, blk_cell h0 2, blk_cell h1 0, blk_cell h1 1, blk_cell h1 2, blk_cell h2 0, blk_cell h2 1, blk_cell h2 2, blk_cell h2 3⟩
theorem fig_ex1 : figVal [45, 49, 46, 50, 53] = mkRat (-5) 4 ∧ figKind [45, 49, 46, 50, 53] = 0 ∧ figPlace [45, 49, 46, 50, 53] = 0 := by decide +kernel
theorem fig_ex2 : figKind [49, 47, 48] = 2 ∧ figPlace [49, 47, 48] = 2 := by decide +kernel
theorem num_54 : (mkRat (-5) 4).num = -5 ∧ (mkRat (-5) 4).den = 4 := by decide +kernel
theorem fig_ex3 : ftxt (mkRat (-5) 4) = [45, 53, 47, 52] := by
  unfold ftxt ztxt
  rw [num_54.1, num_54.2, if_pos (by decide), if_neg (by decide), show (-5 : Int).natAbs = 5 from rfl, txt_small (by decide), txt_small (by decide)]; rfl
theorem fig_ex4 : rtxt (mkRat (-5) 4) (clampP 1) = [45, 49, 46, 51] := by
  have h : rnum (mkRat (-5) 4) (clampP 1) = 13 := by
    unfold rnum
    rw [num_54.1, num_54.2]; rfl
  have hk : clampP 1 = 1 := rfl
  unfold rtxt
  rw [h, num_54.1, if_pos (by decide), hk, txt_big (by decide), txt_small (by decide)]; rfl
theorem isInt_ten {z : Int} (h1 : -1000 ≤ z) (h2 : z ≤ 1000) : isInt z := by unfold isInt; omega
set_option maxRecDepth 4096 in
set_option maxHeartbeats 16000000 in
theorem law10_works (S : FigureSaid) (w : World) (hT : Hid (Dec10 w)) : Calls Tryz.prog 8 #[] w (Gives (.bool true) w) := by
  have HB : Hid (Below w.heap.size w w) := Lib.hid (Below.refl _ _)
  obtain ⟨q, hq⟩ : ∃ q, mkRat (-5) 4 = q := ⟨_, rfl⟩
  obtain ⟨u, hu⟩ : ∃ u, figVal [49, 47, 48] = u := ⟨_, rfl⟩
  have HR1 : ∀ w' : World, Calls Tryz.prog 15 #[.string (bs [45, 49, 46, 50, 53])] w' (LstQV q (faultV 0 0 0 0) w') := fun w' => by
    have h := S.read [45, 49, 46, 50, 53] w' (by decide)
    rw [fig_ex1.1, fig_ex1.2.1, fig_ex1.2.2, hq] at h
    exact h
  have HR2 : ∀ w' : World, Calls Tryz.prog 15 #[.string (bs [49, 47, 48])] w' (LstQV u (faultV 2 0 0 2) w') := fun w' => by
    have h := S.read [49, 47, 48] w' (by decide)
    rw [fig_ex2.1, fig_ex2.2, hu] at h
    exact h
  have E3 : Hid (ftxt q = [45, 53, 47, 52]) := Lib.hid (by rw [← hq]; exact fig_ex3)
  have E4 : Hid (rtxt q (clampP 1) = [45, 49, 46, 51]) := Lib.hid (by rw [← hq]; exact fig_ex4)
  have lq : qlen q ≤ 20 := by
    rw [← hq]
    exact qlen_le (by rw [num_54.1]; exact Nat.le_trans (dg_length_le (n := (-5 : Int).natAbs) (k := 1) (by decide)) (by decide)) (by rw [num_54.2]; exact Nat.le_trans (dg_length_le (n := 4) (k := 1) (by decide)) (by decide))
  have q1 : ((bs [45, 53, 47, 52]).toList == [45, 53, 47, 52]) = true := by rw [bs_list]; rfl
  have q2 : ((bs [45, 49, 46, 51]).toList == [45, 49, 46, 51]) = true := by rw [bs_list]; rfl
  clear hq hu
  unfold faultV at HR1 HR2
  go_enter Tryz.func8, Tryz.ntmps8
  go_wp2_with fail
  refine (HR1 _).mono ?_
  rintro e wv1 ⟨a1, n1, c1, b1, m1, d1, rfl, h1, g1, b⟩
  replace HB := Lib.hid (below_then HB.out b)
  clear b
  have hN1 : n1 ≤ qlen q := (by rw [← h1.len]; exact qlen_num _)
  have hM1 : m1 ≤ qlen q := (by rw [← g1.len]; exact qlen_den _)
  have R1 := Lib.hid h1
  have T1 := Lib.hid g1
  clear h1 g1
  unfold frV
  have P1 : Hid ((World.alloc wv1 (.cells #[.bool (zneg q.num), .slice a1 n1 c1, .slice b1 m1 d1] 30)).heap[wv1.heap.size]? = some (.cells #[.bool (zneg q.num), .slice a1 n1 c1, .slice b1 m1 d1] 30 (0, 0))) := Lib.hid (blk_new wv1 _ _)
  replace HB := Lib.hid (below_then HB.out (below_alloc wv1 (.cells #[.bool (zneg q.num), .slice a1 n1 c1, .slice b1 m1 d1] 30)))
  replace R1 := Lib.hid (R1.out.later (below_alloc wv1 (.cells #[.bool (zneg q.num), .slice a1 n1 c1, .slice b1 m1 d1] 30)))
  replace T1 := Lib.hid (T1.out.later (below_alloc wv1 (.cells #[.bool (zneg q.num), .slice a1 n1 c1, .slice b1 m1 d1] 30)))
  have G1 : Hid ((World.alloc (wv1.alloc (.cells #[.bool (zneg q.num), .slice a1 n1 c1, .slice b1 m1 d1] 30)) (.cells #[.int .i64 0, .int .i64 0, .int .i64 0, .int .i64 0] 38)).heap[wv1.heap.size + 1]? = some (.cells #[.int .i64 0, .int .i64 0, .int .i64 0, .int .i64 0] 38 (0, 0))) := Lib.hid (by have h := blk_new (wv1.alloc (.cells #[.bool (zneg q.num), .slice a1 n1 c1, .slice b1 m1 d1] 30)) #[.int .i64 0, .int .i64 0, .int .i64 0, .int .i64 0] 38; rw [blk_size] at h; exact h)
  replace HB := Lib.hid (below_then HB.out (below_alloc (wv1.alloc (.cells #[.bool (zneg q.num), .slice a1 n1 c1, .slice b1 m1 d1] 30)) (.cells #[.int .i64 0, .int .i64 0, .int .i64 0, .int .i64 0] 38)))
  replace P1 := Lib.hid (blk_later P1.out (below_alloc (wv1.alloc (.cells #[.bool (zneg q.num), .slice a1 n1 c1, .slice b1 m1 d1] 30)) (.cells #[.int .i64 0, .int .i64 0, .int .i64 0, .int .i64 0] 38)))
  replace R1 := Lib.hid (R1.out.later (below_alloc (wv1.alloc (.cells #[.bool (zneg q.num), .slice a1 n1 c1, .slice b1 m1 d1] 30)) (.cells #[.int .i64 0, .int .i64 0, .int .i64 0, .int .i64 0] 38)))
  replace T1 := Lib.hid (T1.out.later (below_alloc (wv1.alloc (.cells #[.bool (zneg q.num), .slice a1 n1 c1, .slice b1 m1 d1] 30)) (.cells #[.int .i64 0, .int .i64 0, .int .i64 0, .int .i64 0] 38)))
  obtain ⟨vk0, vk1, vk2, vk3, vk4, vk5, vk6⟩ := fcells_3_4 P1.out G1.out
  go_wp2_with fail
  refine (HR2 _).mono ?_
  rintro e wv2 ⟨a2, n2, c2, b2, m2, d2, rfl, h2, g2, b⟩
  clear vk0 vk1 vk2 vk3 vk4 vk5 vk6
  replace HB := Lib.hid (below_then HB.out b)
  replace P1 := Lib.hid (blk_later P1.out b)
  replace G1 := Lib.hid (blk_later G1.out b)
  replace R1 := Lib.hid (R1.out.later b)
  replace T1 := Lib.hid (T1.out.later b)
  clear b
  clear h2 g2
  unfold frV
  have P2 : Hid ((World.alloc wv2 (.cells #[.bool (zneg u.num), .slice a2 n2 c2, .slice b2 m2 d2] 30)).heap[wv2.heap.size]? = some (.cells #[.bool (zneg u.num), .slice a2 n2 c2, .slice b2 m2 d2] 30 (0, 0))) := Lib.hid (blk_new wv2 _ _)
  replace HB := Lib.hid (below_then HB.out (below_alloc wv2 (.cells #[.bool (zneg u.num), .slice a2 n2 c2, .slice b2 m2 d2] 30)))
  replace P1 := Lib.hid (blk_later P1.out (below_alloc wv2 (.cells #[.bool (zneg u.num), .slice a2 n2 c2, .slice b2 m2 d2] 30)))
  replace G1 := Lib.hid (blk_later G1.out (below_alloc wv2 (.cells #[.bool (zneg u.num), .slice a2 n2 c2, .slice b2 m2 d2] 30)))
  replace R1 := Lib.hid (R1.out.later (below_alloc wv2 (.cells #[.bool (zneg u.num), .slice a2 n2 c2, .slice b2 m2 d2] 30)))
  replace T1 := Lib.hid (T1.out.later (below_alloc wv2 (.cells #[.bool (zneg u.num), .slice a2 n2 c2, .slice b2 m2 d2] 30)))
  have G2 : Hid ((World.alloc (wv2.alloc (.cells #[.bool (zneg u.num), .slice a2 n2 c2, .slice b2 m2 d2] 30)) (.cells #[.int .i64 2, .int .i64 0, .int .i64 0, .int .i64 2] 38)).heap[wv2.heap.size + 1]? = some (.cells #[.int .i64 2, .int .i64 0, .int .i64 0, .int .i64 2] 38 (0, 0))) := Lib.hid (by have h := blk_new (wv2.alloc (.cells #[.bool (zneg u.num), .slice a2 n2 c2, .slice b2 m2 d2] 30)) #[.int .i64 2, .int .i64 0, .int .i64 0, .int .i64 2] 38; rw [blk_size] at h; exact h)
  replace HB := Lib.hid (below_then HB.out (below_alloc (wv2.alloc (.cells #[.bool (zneg u.num), .slice a2 n2 c2, .slice b2 m2 d2] 30)) (.cells #[.int .i64 2, .int .i64 0, .int .i64 0, .int .i64 2] 38)))
  replace P1 := Lib.hid (blk_later P1.out (below_alloc (wv2.alloc (.cells #[.bool (zneg u.num), .slice a2 n2 c2, .slice b2 m2 d2] 30)) (.cells #[.int .i64 2, .int .i64 0, .int .i64 0, .int .i64 2] 38)))
  replace G1 := Lib.hid (blk_later G1.out (below_alloc (wv2.alloc (.cells #[.bool (zneg u.num), .slice a2 n2 c2, .slice b2 m2 d2] 30)) (.cells #[.int .i64 2, .int .i64 0, .int .i64 0, .int .i64 2] 38)))
  replace P2 := Lib.hid (blk_later P2.out (below_alloc (wv2.alloc (.cells #[.bool (zneg u.num), .slice a2 n2 c2, .slice b2 m2 d2] 30)) (.cells #[.int .i64 2, .int .i64 0, .int .i64 0, .int .i64 2] 38)))
  replace R1 := Lib.hid (R1.out.later (below_alloc (wv2.alloc (.cells #[.bool (zneg u.num), .slice a2 n2 c2, .slice b2 m2 d2] 30)) (.cells #[.int .i64 2, .int .i64 0, .int .i64 0, .int .i64 2] 38)))
  replace T1 := Lib.hid (T1.out.later (below_alloc (wv2.alloc (.cells #[.bool (zneg u.num), .slice a2 n2 c2, .slice b2 m2 d2] 30)) (.cells #[.int .i64 2, .int .i64 0, .int .i64 0, .int .i64 2] 38)))
  obtain ⟨vk0, vk1, vk2, vk3, vk4, vk5, vk6, vk7, vk8, vk9, vk10⟩ := fcells_3_4_4 P1.out G1.out G2.out
  go_wp2_with fail
  refine (S.text (frV (zneg q.num) a1 n1 c1 b1 m1 d1) q _ (Fr.right R1.out T1.out (by omega) (by omega)) (Lib.hid (hT.out.later HB.out))).mono ?_
  rintro e wv3 ⟨rfl, b⟩
  clear vk0 vk1 vk2 vk3 vk4 vk5 vk6 vk7 vk8 vk9 vk10
  replace HB := Lib.hid (below_then HB.out b)
  replace P1 := Lib.hid (blk_later P1.out b)
  replace G1 := Lib.hid (blk_later G1.out b)
  replace G2 := Lib.hid (blk_later G2.out b)
  replace R1 := Lib.hid (R1.out.later b)
  replace T1 := Lib.hid (T1.out.later b)
  clear b
  rw [E3.out]
  obtain ⟨vk0, vk1, vk2, vk3, vk4, vk5, vk6, vk7, vk8, vk9, vk10⟩ := fcells_3_4_4 P1.out G1.out G2.out
  go_wp2_with fail
  refine (S.round (frV (zneg q.num) a1 n1 c1 b1 m1 d1) q 1 _ (Fr.right R1.out T1.out (by omega) (by omega)) (isInt_ten (by omega) (by omega)) (Lib.hid (hT.out.later HB.out))).mono ?_
  rintro e wv4 ⟨rfl, b⟩
  clear vk0 vk1 vk2 vk3 vk4 vk5 vk6 vk7 vk8 vk9 vk10
  replace HB := Lib.hid (below_then HB.out b)
  replace P1 := Lib.hid (blk_later P1.out b)
  replace G1 := Lib.hid (blk_later G1.out b)
  replace G2 := Lib.hid (blk_later G2.out b)
  replace R1 := Lib.hid (R1.out.later b)
  replace T1 := Lib.hid (T1.out.later b)
  clear b
  rw [E4.out]
  go_wp2
  go_ret
  exact ⟨rfl, HB.out⟩
end Go.Proofs.YteoeicfbaffjcaaGreatDoor
