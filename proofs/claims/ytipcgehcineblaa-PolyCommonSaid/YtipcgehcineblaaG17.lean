/-
  Several texts of this claim as one, group 17.
-/
import Derived.Test.YtipcgehcineblaaG16
import Derived.Test.YtipcgehcineblaaG13
import Derived.Test.YtipcgehcineblaaG11
import Derived.Test.YtipcgehcineblaaG12
/-
  Package poly at this seat: Mul.
-/
namespace Go.Proofs.Ytipcgehcineblaa
open Go.RowKit

theorem sumTo_split (p : Nat) : ∀ (q : Nat) (f : Nat → Rat), sumTo (p + q) f = sumTo p f + sumTo q (fun j => f (p + j))
  | 0, f => by show sumTo p f = sumTo p f + 0; grind
  | q + 1, f => by
    show sumTo (p + q) f + f (p + q) = sumTo p f + (sumTo q (fun j => f (p + j)) + f (p + q))
    rw [sumTo_split p q f]; grind
theorem fx_take {L : List Fx} {k j : Nat} (h : j < k) : (L.take k).getD j Fx.zero = L.getD j Fx.zero := by
  rw [List.getD_eq_getElem?_getD, List.getElem?_take, if_pos h, ← List.getD_eq_getElem?_getD]
theorem fx_drop (L : List Fx) (k j : Nat) : (L.drop k).getD j Fx.zero = L.getD (k + j) Fx.zero := by
  rw [List.getD_eq_getElem?_getD, List.getElem?_drop, ← List.getD_eq_getElem?_getD]
theorem fx_rev {L : List Fx} {j : Nat} (h : j < L.length) : L.reverse.getD j Fx.zero = L.getD (L.length - 1 - j) Fx.zero := by
  rw [List.getD_eq_getElem?_getD, List.getElem?_reverse h, ← List.getD_eq_getElem?_getD]
/-- A coefficient of a product, by windows of the one row and of the other one turned round. -/
theorem window_dot {A B : List Fx} {i lo hi : Nat} (hlo : lo = i + 1 - B.length) (hhi : hi = min (i + 1) A.length) (hi1 : i + 1 < A.length + B.length) (hA : 0 < A.length) (hB : 0 < B.length) :
    rdot (fqs ((A.take hi).drop lo)) (fqs ((B.reverse.take (hi + B.length - (i + 1))).drop (lo + B.length - (i + 1)))) = co (pmul (fqs A) (fqs B)) i := by
  have hl1 : ((A.take hi).drop lo).length = hi - lo := by rw [List.length_drop, List.length_take]; omega
  have hl2 : ((B.reverse.take (hi + B.length - (i + 1))).drop (lo + B.length - (i + 1))).length = hi - lo := by rw [List.length_drop, List.length_take, List.length_reverse]; omega
  have hlh : lo ≤ hi := by omega
  rw [rdot_sum (by rw [fqs_length, fqs_length, hl1, hl2]), fqs_length, hl1, co_pmul]
  have e1 : sumTo (i + 1) (fun s => co (fqs A) s * co (fqs B) (i - s)) = sumTo hi (fun s => co (fqs A) s * co (fqs B) (i - s)) := sumTo_none (by omega) fun s h1 h2 => by
    rw [co_far (l := fqs A) (by rw [fqs_length]; omega), Rat.zero_mul]
  have e2 : sumTo hi (fun s => co (fqs A) s * co (fqs B) (i - s)) = sumTo lo (fun s => co (fqs A) s * co (fqs B) (i - s)) + sumTo (hi - lo) (fun t => co (fqs A) (lo + t) * co (fqs B) (i - (lo + t))) := by
    have h9 := sumTo_split lo (hi - lo) (fun s => co (fqs A) s * co (fqs B) (i - s))
    rwa [show lo + (hi - lo) = hi by omega] at h9
  have e3 : sumTo lo (fun s => co (fqs A) s * co (fqs B) (i - s)) = 0 := by
    rw [sumTo_congr (g := fun _ => 0) (fun s hs => by rw [co_far (l := fqs B) (by rw [fqs_length]; omega), Rat.mul_zero])]
    exact sumTo_zero _
  rw [e1, e2, e3, Rat.zero_add]
  refine sumTo_congr fun t ht => ?_
  rw [fqs_getD (by omega), fqs_getD (by omega), co_fqs (by omega), co_fqs (by omega), fx_drop, fx_drop, fx_take (by omega), fx_take (by omega), fx_rev (by omega)]
  congr 2
  rw [show B.length - 1 - (lo + B.length - (i + 1) + t) = i - (lo + t) by omega]
theorem right_of_len {T Q : List Rat} (h : peq Q T) (hl : T.length = plen Q) : pnorm Q = T := by
  rw [pnorm_congr h, pnorm_take, List.take_of_length_le]
  show T.length ≤ plen T
  rw [← plen_congr h, hl]
  exact Nat.le_refl _
theorem Fxs.window {w : World} {ad : Addr} {n cap : Nat} {L : List Fx} (h : Fxs w (some ad) n cap L) {lo hi : Nat} (h1 : lo ≤ hi) (h2 : hi ≤ n) : Fxs w (some (ad.add (lo * 3))) (hi - lo) (cap - lo) ((L.take hi).drop lo) := (h.take h2).tail h1
set_option maxRecDepth 4096 in
set_option maxHeartbeats 8000000 in
theorem poly_mul (a : Option Addr) (n c : Nat) (L : List Fx) (b : Option Addr) (m d : Nat) (M : List Fx) (N K : Nat) (w : World) (h : Fxs w a n c L) (k : Fxs w b m d M) (hn : n ≤ 100) (hm : m ≤ 100) (ht : thin N L) (hu : thin K M) (hb : (n + 1) * (N + K + 8) ≤ 1900000000) : Calls Try.prog 10 #[.slice a n c, .slice b m d] w (LstRw (pnorm (pmul (fqs L) (fqs M))) w) := by
  have hbd := h.bound
  have hbd2 := k.bound
  have hk1 := plen_fqs_le h
  have hk2 := plen_fqs_le k
  have hNK : N + K + 8 ≤ 1900000000 := Nat.le_trans (Nat.le_mul_of_pos_left _ (by omega)) hb
  have HU1 : ∀ w' : World, Below w.heap.size w w' → Calls Try.prog 22 #[.slice a n c] w' (Gives (.slice a (plen (fqs L)) c) w') := fun w' hb => poly_used a n c L w' (h.later hb) (by omega) (ht.mono (by omega))
  have HU2 : ∀ w' : World, Below w.heap.size w w' → Calls Try.prog 22 #[.slice b m d] w' (Gives (.slice b (plen (fqs M)) d) w') := fun w' hb => poly_used b m d M w' (k.later hb) (by omega) (hu.mono (by omega))
  have HA := Lib.hid (h.take hk1)
  have HM := Lib.hid (k.take hk2)
  have TA := Lib.hid (thin_take ht (plen (fqs L)))
  have TM := Lib.hid (thin_take hu (plen (fqs M)))
  have QA : Hid (fqs (L.take (plen (fqs L))) = pnorm (fqs L)) := Lib.hid (fqs_used L)
  have QM : Hid (fqs (M.take (plen (fqs M))) = pnorm (fqs M)) := Lib.hid (fqs_used M)
  have PL1 : plen (fqs (L.take (plen (fqs L)))) = plen (fqs L) := by rw [QA.out, plen_congr (pnorm_co _)]
  have PM1 : plen (fqs (M.take (plen (fqs M)))) = plen (fqs M) := by rw [QM.out, plen_congr (pnorm_co _)]
  have hE : pnorm (pmul (fqs L) (fqs M)) = pnorm (pmul (pnorm (fqs L)) (pnorm (fqs M))) := pnorm_congr (pmul_congr (pnorm_co _).symm (pnorm_co _).symm)
  rw [hE, ← QA.out, ← QM.out]
  clear hE QA QM
  generalize plen (fqs L) = k1 at *
  generalize plen (fqs M) = k2 at *
  generalize L.take k1 = L1 at *
  generalize M.take k2 = M1 at *
  have hl1 := HA.out.len
  have hl2 := HM.out.len
  have HB := Lib.hid (Below.refl w.heap.size w)
  clear h k ht hu
  by_cases h1 : k1 = 0
  · subst h1
    have HE : Hid (pnorm (pmul (fqs L1) (fqs M1)) = []) := Lib.hid (by
      rw [List.eq_nil_of_length_eq_zero hl1]; rfl)
    rw [HE.out]
    clear PL1 PM1 hl1 hl2 HE
    go_enter Try.func10, Try.ntmps10
    go_wp2_with fail
    refine (HU1 _ HB.out).mono ?_
    rintro e w1 ⟨rfl, bw⟩
    replace HB := Lib.hid (below_then HB.out bw)
    clear bw HU1
    go_wp2_with fail
    refine (HU2 _ HB.out).mono ?_
    rintro e w1 ⟨rfl, bw⟩
    replace HB := Lib.hid (below_then HB.out bw)
    clear bw HU2
    go_wp2
    go_ret
    exact ⟨none, 0, 0, rfl, Rw.nil _, HB.out⟩
  · by_cases h2 : k2 = 0
    · subst h2
      have HE : Hid (pnorm (pmul (fqs L1) (fqs M1)) = []) := Lib.hid (by
        rw [List.eq_nil_of_length_eq_zero hl2]
        exact pnorm_congr (pmul_nil _))
      have hz1 : ((k1 : Int) == 0) = false := by simp; omega
      rw [HE.out]
      clear PL1 PM1 hl1 hl2 HE
      go_enter Try.func10, Try.ntmps10
      go_wp2_with fail
      refine (HU1 _ HB.out).mono ?_
      rintro e w1 ⟨rfl, bw⟩
      replace HB := Lib.hid (below_then HB.out bw)
      clear bw HU1
      go_wp2_with fail
      refine (HU2 _ HB.out).mono ?_
      rintro e w1 ⟨rfl, bw⟩
      replace HB := Lib.hid (below_then HB.out bw)
      clear bw HU2
      go_wp2
      go_ret
      exact ⟨none, 0, 0, rfl, Rw.nil _, HB.out⟩
    · have hp1 : 0 < k1 := by omega
      have hp2 : 0 < k2 := by omega
      have hz1 : ((k1 : Int) == 0) = false := by simp; omega
      have hz2 : ((k2 : Int) == 0) = false := by simp; omega
      obtain ⟨Tn, hTn⟩ : ∃ Tn, k1 + k2 - 1 = Tn := ⟨_, rfl⟩
      obtain ⟨T, hT⟩ : ∃ T, tab Tn (fun i => co (pmul (fqs L1) (fqs M1)) i) = T := ⟨_, rfl⟩
      have HTL : Hid (T.length = Tn) := Lib.hid (by rw [← hT, tab_length])
      have hpl : plen (pmul (fqs L1) (fqs M1)) = Tn := by rw [plen_mul (by omega) (by omega), PL1, PM1, hTn]
      have HPN : Hid (pnorm (pmul (fqs L1) (fqs M1)) = T) := Lib.hid (right_of_len (fun i => by
        rw [← hT, co_tab]
        split
        · rfl
        · exact co_beyond (by omega)) (by rw [HTL.out, hpl]))
      have HTV : Hid (∀ i lo hi, i < Tn → lo = i + 1 - k2 → hi = min (i + 1) k1 → rdot (fqs ((L1.take hi).drop lo)) (fqs ((M1.reverse.take (hi + k2 - (i + 1))).drop (lo + k2 - (i + 1)))) = T.getD i 0) := Lib.hid (fun i lo hi hi9 h8 h7 => by
        have h6 := window_dot (A := L1) (B := M1) (i := i) (lo := lo) (hi := hi) (by rw [hl2]; exact h8) (by rw [hl1]; exact h7) (by omega) (by omega) (by omega)
        rw [hl2] at h6
        rw [h6, ← hT, tab_at hi9])
      rw [HPN.out]
      have HDOT : ∀ (w' : World) (i lo hi p r : Nat) (a' : Option Addr) (c' : Nat) (b' : Option Addr) (d' : Nat), i < Tn → lo = i + 1 - k2 → hi = min (i + 1) k1 → p = lo + k2 - (i + 1) → r = hi + k2 - (i + 1) → Fxs w' a' (hi - lo) c' ((L1.take hi).drop lo) → Fxs w' b' (r - p) d' ((M1.reverse.take r).drop p) → Calls Try.prog 25 #[.slice a' (hi - lo) c', .slice b' (r - p) d'] w' (LstQV (T.getD i 0) (.bool true) w') := fun w' i lo hi p r a' c' b' d' h3 h4 h5 h6 h7 h8 h9 => by
        have hlen : r - p = hi - lo := by omega
        have h10 := row_dot_two a' (hi - lo) c' _ b' (r - p) d' _ N K w' h8 h9 (by omega) (fun x hx => TA.out x (List.mem_of_mem_take (List.mem_of_mem_drop hx))) (fun x hx => TM.out x (List.mem_reverse.1 (List.mem_of_mem_take (List.mem_of_mem_drop hx)))) (Lib.hid hlen.symm) (by
          have h11 : (hi - lo) * (N + K + 6) ≤ n * (N + K + 8) := Nat.mul_le_mul (by omega) (by omega)
          rw [Nat.add_mul] at hb
          omega) (by omega)
        have h12 := HTV.out i lo hi h3 h4 h5
        rw [← h6, ← h7] at h12
        rwa [h12] at h10
      have HMR : Hid (M1.reverse.length = k2) := Lib.hid (by rw [List.length_reverse, hl2])
      clear HTV HPN hpl hT PL1 PM1 TA TM hb
      obtain ⟨aa, ha⟩ : ∃ aa, a = some aa := by
        rcases HA.out.2.2.2.2.2 with h9 | ⟨b9, o9, e9, _⟩
        · omega
        · exact ⟨_, e9⟩
      obtain ⟨bb, hbb⟩ : ∃ bb, b = some bb := by
        rcases HM.out.2.2.2.2.2 with h9 | ⟨b9, o9, e9, _⟩
        · omega
        · exact ⟨_, e9⟩
      subst ha
      subst hbb
      have HCL : ∀ w' : World, Below w.heap.size w w' → Calls Try.prog 23 #[.slice (some bb) k2 d] w' (fun e w'' => ∃ v, e = .returned v ∧ Cop w'' w'.heap.size 34 v M1 ∧ Below w'.heap.size w' w'') := fun w' h9 => fr_clone bb k2 d M1 w' (HM.out.later h9) (by omega)
      have HML : Hid (M1.length = k2) := Lib.hid hl2
      have hTn9 : (k1 : Int) + (k2 : Int) - 1 = (Tn : Int) := by omega
      clear hl1 hl2
      obtain ⟨i0, hi, hy0, hy1, hy2⟩ := info_parts infoFracR
      go_enter Try.func10, Try.ntmps10
      go_wp2_with fail
      refine (HU1 _ HB.out).mono ?_
      rintro e w1 ⟨rfl, bw⟩
      replace HB := Lib.hid (below_then HB.out bw)
      clear bw HU1
      go_wp2_with fail
      refine (HU2 _ HB.out).mono ?_
      rintro e w1 ⟨rfl, bw⟩
      replace HB := Lib.hid (below_then HB.out bw)
      clear bw HU2
      go_wp2_with fail
      refine (HCL _ HB.out).mono ?_
      rintro e w2 ⟨v, rfl, h3, bw⟩
      have CP := Lib.hid (cop_weak h3 HB.out.size)
      replace HB := Lib.hid (below_then HB.out bw)
      clear bw HCL h3
      obtain ⟨g, cap, rfl, hbg, hgl⟩ : ∃ g cap, v = .slice (some ⟨g, 0, none⟩) k2 cap ∧ w.heap.size ≤ g ∧ g < w2.heap.size := by
        have h9 := CP.out.1.1.form (by rw [HML.out]; exact hp2)
        rw [HML.out] at h9
        obtain ⟨g, cap, h5, h6, h7⟩ := h9
        exact ⟨g, cap, h5, h6, h7⟩
      have hcapk : k2 ≤ cap ∧ cap ≤ 9223372036854775807 := by
        obtain ⟨a9, c9, e9, h9⟩ := CP.out.out
        simp only [Value.slice.injEq] at e9
        have := h9.bound
        omega
      have HRV := Lib.hid (fr_reverse g k2 cap w.heap.size M1 w2 CP.out HML.out.symm (by omega))
      clear CP
      go_wp2_with fail
      refine HRV.out.mono ?_
      rintro e w3 ⟨rfl, h3, hgr⟩
      have HB3 := Lib.hid (HB.out.grown hgr HB.out.size (fun g' hg' => by simp at hg'; omega))
      have FB : Hid (Fxs w3 (some ⟨g, 0, none⟩) k2 cap M1.reverse) := Lib.hid (by
        obtain ⟨a9, c9, e9, h9⟩ := h3.out
        rw [HMR.out] at e9 h9
        simp only [Value.slice.injEq] at e9
        obtain ⟨e9, -, e8⟩ := e9
        rw [e9, e8]
        exact h9)
      clear h3 hgr HRV HB HML
      go_wp2_with (at_make; refine wpList_make_fracs _ rfl _ _ 29 rfl w3.heap.size 34 i0 Try.underlying29 hi hy0 hy1 hy2 _ _ _ _ Tn rfl rfl (by omega) (by omega) (by omega) (by simp) ?_; intro wm hmade hgm hszm)
      have HO0 := Lib.hid (Half.start hmade)
      have HBm : Hid (Below w3.heap.size w3 wm) := Lib.hid ((Below.refl _ _).grown hgm (Nat.le_refl _) (fun k hk => by cases hk))
      have HB0 := Lib.hid (below_then HB3.out HBm.out)
      have hsz3 := HB3.out.size
      clear hmade hgm HB3
      go_loopw [35] (fun iv wr => ∃ i r : Nat, i + r = Tn ∧ iv = .int .i64 (i : Int) ∧ Hid (Half wr w3.heap.size 34 (.slice (some ⟨w3.heap.size, 0, none⟩) Tn Tn) (T.take i) r) ∧ Hid (Below w.heap.size w wr) ∧ Hid (Below w3.heap.size w3 wr) ∧ w3.heap.size < wr.heap.size) (fun iv _ => Tn - (intOf iv).toNat)
      case atStart => exact ⟨0, Tn, by omega, rfl, HO0, HB0, HBm, by omega⟩
      case round =>
        clear HO0 HB0 HBm
        obtain ⟨i, r9, hk, rfl, HO, HB, HBm, hsz⟩ := hrel
        by_cases hlt : i < Tn
        · have hkT : i < T.length := by rw [HTL.out]; exact hlt
          obtain ⟨r9, rfl⟩ : ∃ r', r9 = r' + 1 := ⟨r9 - 1, by omega⟩
          have HT : Hid (T.take (i + 1) = T.take i ++ [T.getD i 0]) := Lib.hid (q_more hkT)
          obtain ⟨lo, hlo⟩ : ∃ lo, lo = i + 1 - k2 := ⟨_, rfl⟩
          obtain ⟨hi9, hhi⟩ : ∃ hi9, hi9 = min (i + 1) k1 := ⟨_, rfl⟩
          obtain ⟨p, hp⟩ : ∃ p, p = lo + k2 - (i + 1) := ⟨_, rfl⟩
          obtain ⟨r, hr⟩ : ∃ r, r = hi9 + k2 - (i + 1) := ⟨_, rfl⟩
          obtain ⟨sh, hsh⟩ : ∃ sh : Int, (k2 : Int) - 1 - (i : Int) = sh := ⟨_, rfl⟩
          have b0 : Below wr.heap.size wr wr.drew := (Below.refl _ _).drew
          have hwin := ((FB.out.later HBm.out).later b0).window (show p ≤ r by omega) (by omega)
          rw [Go.WideShapes.add_plain, Nat.zero_add] at hwin
          have HD := Lib.hid (HDOT wr.drew i lo hi9 p r _ _ _ _ hlt hlo hhi hp hr (((HA.out.later HB.out).later b0).window (show lo ≤ hi9 by omega) (by omega)) hwin)
          clear hwin
          generalize T.getD i 0 = tk at *
          have hmax : max ((i : Int) + 1 - (k2 : Int)) 0 = (lo : Int) := by omega
          have hmin : min ((i : Int) + 1) (k1 : Int) = (hi9 : Int) := by omega
          have hp9 : (lo : Int) + sh = (p : Int) := by omega
          have hr9 : (hi9 : Int) + sh = (r : Int) := by omega
          have hwp : IntKind.i64.wrap (p : Int) = (p : Int) := by rw [IntKind.wrap_i64]; omega
          have hwr : IntKind.i64.wrap (r : Int) = (r : Int) := by rw [IntKind.wrap_i64]; omega
          have hq1 : (lo : Int) ≤ (hi9 : Int) := by omega
          have hq2 : (hi9 : Int) ≤ (c : Int) := by omega
          have hq3 : (p : Int) ≤ (r : Int) := by omega
          have hq4 : (r : Int) ≤ (cap : Int) := by omega
          have hq5 : ¬ c = lo := by omega
          have hq6 : ¬ cap = p := by omega
          have hki : (i : Int) < (Tn : Int) := by omega
          have hk0 : (0 : Int) ≤ (i : Int) := by omega
          clear hlo hhi hp hr
          go_wp2
          replace HB := Lib.hid (below_then HB.out b0)
          replace HBm := Lib.hid (below_then HBm.out b0)
          replace HO := Lib.hid (HO.out.later b0)
          replace hsz := Nat.lt_of_lt_of_le hsz b0.size
          clear b0
          first | go_region_with (first
            | (go_at_call 25; refine HD.out.mono ?_; rintro e w4 ⟨a4, n4, c4, b4, m4, d4, rfl, h4, g4, bw⟩; replace HB := Lib.hid (below_then HB.out bw); replace HBm := Lib.hid (below_then HBm.out bw); replace HO := Lib.hid (HO.out.later bw); have hsz4 := Nat.lt_of_lt_of_le hsz bw.size; have HA4 := Lib.hid h4; have HB4 := Lib.hid g4; clear bw hsz h4 g4 HD; unfold frV; obtain ⟨⟨p0, p1, p2⟩, f0, f1, f2⟩ := HO.out.cell (k := i) (by rw [take_len (Nat.le_of_lt hkT)]))) | fail
          all_goals (
            obtain ⟨hst, hgr⟩ := HO.out.stored (k := i) (by rw [take_len (Nat.le_of_lt hkT)]) tk a4 n4 c4 b4 m4 d4 HA4.out HB4.out
            rw [← HT.out] at hst
            have HS := Lib.hid hst
            have HB5 := Lib.hid (HB.out.grown hgr HB.out.size (fun g' hg' => by simp at hg'; omega))
            have HBm5 := Lib.hid (HBm.out.grown hgr HBm.out.size (fun g' hg' => by simp at hg'; omega))
            have hsz5 := Nat.lt_of_lt_of_le hsz4 hgr.size
            clear hst hgr HA4 HB4 HO HB HBm HT p0 p1 p2 f0 f1 f2
            go_wp2
            go_roundw
            case rel => exact ⟨i + 1, r9, by omega, by go_num, HS, HB5, HBm5, hsz5⟩
            case measure => simp [intOf]; omega)
        · obtain rfl : i = Tn := by omega
          have HF := Lib.hid (HO.out.whole HTL.out (by omega))
          obtain ⟨a9, c9, e9, h9⟩ := HF.out.out
          rw [HTL.out] at e9 h9
          cases e9
          have HF9 := Lib.hid h9
          clear HO h9 HF
          go_wp2
          go_ret
          exact ⟨_, _, _, rfl, HF9.out, HB.out⟩
end Go.Proofs.Ytipcgehcineblaa

/-
  Package poly at this seat: Div.
-/
namespace Go.Proofs.Ytipcgehcineblaa
open Go.RowKit

/-- Quotient and rest, right, and the state in which they were made. -/
def LstDivW (A B : List Rat) (I : List Rat → List Rat → Prop) (w : World) (e : Ending) (w' : World) : Prop := ∃ (a : Option Addr) (n c : Nat) (q : List Rat) (b : Option Addr) (m d : Nat) (r : List Rat), e = .returned (.tuple #[.slice a n c, .slice b m d, .bool true]) ∧ Rw w' a n c q ∧ Rw w' b m d r ∧ isDiv A B q r ∧ pnorm q = q ∧ pnorm r = r ∧ (∃ Q, peq q Q ∧ I Q r) ∧ Below w.heap.size w w'
/-- The state of the loop: t coefficients of the quotient are still wanted, R is what is left. -/
structure DivT (A B : List Rat) (I : List Rat → List Rat → Prop) (e nq l0 t : Nat) (Q R : List Rat) : Prop where
  sum : peq A (padd (pmul Q B) R)
  inv : I Q (pnorm R)
  len : R.length + nq = l0 + t
  low : ∀ j, j < t → co Q j = 0
  far : ∀ j, nq ≤ j → co Q j = 0
theorem DivT.start {A B R0 : List Rat} {I : List Rat → List Rat → Prop} {e nq l0 K T : Nat} (hW : DivWay A B K T I) (hR : pnorm A = R0) (hl : R0.length = l0) : DivT A B I e nq l0 nq [] R0 where
  sum := fun i => by rw [co_padd, pmul, co_nil, ← hR, pnorm_co]; grind
  inv := by rw [← hR, pnorm_pnorm]; exact hW.start
  len := by rw [hl]
  low := fun _ _ => rfl
  far := fun _ _ => rfl
/-- One round: the part of what is left from place i on is made less. -/
theorem DivT.step {A B Q R W S P : List Rat} {I : List Rat → List Rat → Prop} {e nq l0 i K T : Nat} {c : Rat} (hW : DivWay A B K T I) (hB : pnorm B = B) (hBl : B.length = e + 1) (hnq : nq + e = l0 ∨ nq = 0) (hi : i < nq) (h : DivT A B I e nq l0 (i + 1) Q R) (hc : c = R.getD (i + e) 0 / B.getD e 0)
    (hw : W = (R.take (i + e)).drop i) (hs : S = rscale c (B.take e)) (hp : P = radd W (rscale (-1) S)) : R.length = i + e + 1 ∧ W.length = e ∧ S.length = e ∧ P.length = e ∧ (∃ Q', DivT A B I e nq l0 i Q' (R.take i ++ P) ∧ co Q' i = c ∧ ∀ j, j ≠ i → co Q' j = co Q j) := by
  have hl := h.len
  have hRl : R.length = i + e + 1 := by omega
  have hWl : W.length = e := by rw [hw, List.length_drop, List.length_take]; omega
  have hSl : S.length = e := by rw [hs, rscale_length, List.length_take]; omega
  have hPl : P.length = e := by rw [hp, radd_length _ _ (by rw [rscale_length]; omega)]; exact hWl
  have hBn : B.getD e 0 ≠ 0 := by
    have h9 := top_nz hB (by omega)
    rwa [hBl, show e + 1 - 1 = e by omega] at h9
  have hcB : c * B.getD e 0 = R.getD (i + e) 0 := by rw [hc]; exact Rat.div_mul_cancel hBn
  have hti : (R.take i).length = i := by rw [List.length_take]; omega
  have hpe : peq (R.take i ++ P) (psub R (pmul (shot i c) B)) := fun j => by
    rw [co_append, hti, co_psub, co_pmul_shot]
    by_cases h1 : j < i
    · rw [if_pos h1, if_neg (by omega), co_take, if_pos h1]; grind
    · rw [if_neg h1, if_pos (by omega), hp, co_radd (by rw [rscale_length]; omega), co_rscale, hs, co_rscale, hw, co_drop, show i + (j - i) = j by omega, co_take, co_take]
      by_cases h2 : j < i + e
      · rw [if_pos h2, if_pos (by omega)]; grind
      · rw [if_neg h2, if_neg (by omega)]
        by_cases h3 : j = i + e
        · have h4 : co R j = R.getD (i + e) 0 := by rw [h3]; rfl
          have h5 : co B (j - i) = B.getD e 0 := by rw [show j - i = e by omega]; rfl
          rw [h4, h5, ← hcB]; grind
        · rw [co_far (l := R) (by omega), co_far (l := B) (by omega)]; grind
  refine ⟨hRl, hWl, hSl, hPl, ?_⟩
  have hsum : ∀ Q', peq Q' (padd Q (shot i c)) → peq A (padd (pmul Q' B) (R.take i ++ P)) := fun Q' hQ j => by
    rw [h.sum j, co_padd, co_padd, hpe j, co_psub, (pmul_congr hQ (peq.refl B)) j, (pmul_padd _ _ _) j, co_padd]; grind
  have hlen : (R.take i ++ P).length + nq = l0 + i := by rw [List.length_append, hti, hPl]; omega
  by_cases hz : R.getD (i + e) 0 = 0
  · have hc0 : c = 0 := by rw [hc, hz, Rat.div_def, Rat.zero_mul]
    have hQ : peq Q (padd Q (shot i c)) := fun j => by
      rw [co_padd, co_shot, hc0]
      split <;> grind
    refine ⟨Q, ⟨hsum Q hQ, ?_, hlen, fun j hj => h.low j (by omega), h.far⟩, by rw [h.low i (by omega), hc0], fun _ _ => rfl⟩
    have h6 : pnorm (R.take i ++ P) = pnorm R := pnorm_congr (hpe.trans fun j => by
      rw [co_psub, co_pmul_shot, hc0]
      split <;> grind)
    rw [h6]
    exact h.inv
  · have hRn : pnorm R = R := by
      have h6 : plen R = R.length := by
        have h7 := plen_ge (a := R) (n := i + e) hz
        have h8 := plen_le_length R
        omega
      rw [pnorm_take]
      exact List.take_of_length_le (by show R.length ≤ plen R; omega)
    have hinv := h.inv
    rw [hRn] at hinv
    have h9 := hW.step (Q' := pnorm (padd Q (shot i c))) (X := pmul (shot i c) B) (R' := pnorm (R.take i ++ P)) hinv hRn (by omega) (c := c) (by rw [hRl, hBl, show i + e + 1 - 1 = i + e by omega, show e + 1 - 1 = e by omega]; exact hc) (by rw [hRl, hBl, show i + e + 1 - (e + 1) = i by omega]; exact pnorm_co _) (by rw [hRl, hBl, show i + e + 1 - (e + 1) = i by omega]; exact peq.refl _) ((pnorm_co _).trans hpe) (pnorm_pnorm _)
    refine ⟨pnorm (padd Q (shot i c)), ⟨hsum _ (pnorm_co _), h9, hlen, fun j hj => ?_, fun j hj => ?_⟩, ?_, fun j hj => ?_⟩
    · rw [pnorm_co, co_padd, co_shot, if_neg (by omega), h.low j (by omega)]; grind
    · rw [pnorm_co, co_padd, co_shot, if_neg (by omega), h.far j hj]; grind
    · rw [pnorm_co, co_padd, co_shot, if_pos rfl, h.low i (by omega)]; grind
    · rw [pnorm_co, co_padd, co_shot, if_neg hj]; grind
/-- How long the numbers of a round are. -/
theorem DivT.room {A B Q R : List Rat} {I : List Rat → List Rat → Prop} {e nq l0 i K T : Nat} (hW : DivWay A B K T I) (hBl : B.length = e + 1) (hKT : K + 6 ≤ T) (h : DivT A B I e nq l0 i Q R) : (∀ q ∈ R, qlen q ≤ T) ∧ (R.length = i + e → 0 < i → qlen (R.getD (i - 1 + e) 0 / B.getD e 0) + K + 5 ≤ T) := by
  have h1 := (hW.room h.inv).1
  have h2 : ∀ q ∈ R, qlen q ≤ T := qlen_list fun j => by
    rw [← co_pnorm]
    exact qlen_co (by omega) h1 j
  refine ⟨h2, fun hl hi => ?_⟩
  by_cases hz : R.getD (i - 1 + e) 0 = 0
  · rw [hz, Rat.div_def, Rat.zero_mul, qlen_nought]; omega
  · have hRn : pnorm R = R := by
      have h6 : plen R = R.length := by
        have h7 := plen_ge (a := R) (n := i - 1 + e) hz
        have h8 := plen_le_length R
        omega
      rw [pnorm_take]
      exact List.take_of_length_le (by show R.length ≤ plen R; omega)
    have hinv := h.inv
    rw [hRn] at hinv
    have h9 := hW.top hinv hRn (by omega)
    rwa [hl, hBl, show i + e - 1 = i - 1 + e by omega, show e + 1 - 1 = e by omega] at h9
/-- The quotient's row in memory: the places from t on are filled. -/
def Filled (LQ : List Fx) (Q : List Rat) (t : Nat) : Prop := ∀ j, t ≤ j → j < LQ.length → (LQ.getD j Fx.zero).right ∧ (LQ.getD j Fx.zero).q = co Q j
theorem Filled.step {LQ : List Fx} {Q Q' : List Rat} {i : Nat} (h : Filled LQ Q (i + 1)) (hi : i < LQ.length) (h1 : ∀ j, j ≠ i → co Q' j = co Q j) (a : Option Addr) (n c : Nat) (b : Option Addr) (m d : Nat) : Filled (LQ.set i (rx (co Q' i) a n c b m d)) Q' i := fun j hj hl => by
  rw [List.length_set] at hl
  rw [fx_set hi]
  split
  · rename_i e
    rw [e]
    exact ⟨rx_right .., rx_q ..⟩
  · rename_i e
    rw [h1 j e]
    exact h j (by omega) hl
theorem Filled.done {LQ : List Fx} {Q : List Rat} (h : Filled LQ Q 0) (hf : ∀ j, LQ.length ≤ j → co Q j = 0) : (∀ x ∈ LQ, x.right) ∧ peq (fqs LQ) Q := by
  refine ⟨fun x hx => ?_, fun j => ?_⟩
  · obtain ⟨i, hi, rfl⟩ := List.getElem_of_mem hx
    have h1 := (h i (by omega) hi).1
    rwa [List.getD_eq_getElem?_getD, List.getElem?_eq_getElem hi] at h1
  · rcases Nat.lt_or_ge j LQ.length with h1 | h1
    · rw [co_fqs h1]; exact (h j (by omega) h1).2
    · rw [co_far (by rw [fqs_length]; exact h1), hf j h1]
/-- At the loop's end. -/
theorem DivT.over {A B Q R Y : List Rat} {I : List Rat → List Rat → Prop} {e nq l0 : Nat} (hB : pnorm B = B) (hBl : B.length = e + 1) (hA : plen A = l0) (hnq : l0 - e = nq) (h : DivT A B I e nq l0 0 Q R) (hY : peq Y Q) (hYl : Y.length = nq) : isDiv A B Y (pnorm R) ∧ pnorm Y = Y ∧ I Q (pnorm R) := by
  have hl := h.len
  have hd : isDiv A B Y (pnorm R) := ⟨fun j => by rw [h.sum j, co_padd, co_padd, pnorm_co, (pmul_congr hY (peq.refl B)) j], by
    rw [plen_congr (pnorm_co R), plen_right hB, hBl]
    have := plen_le_length R
    omega⟩
  refine ⟨hd, ?_, h.inv⟩
  by_cases h0 : nq = 0
  · rw [List.eq_nil_of_length_eq_zero (hYl.trans h0)]; rfl
  · have h1 := div_len_q hd (by rw [plen_right hB]; omega)
    rw [plen_right hB, hA, hBl] at h1
    rw [pnorm_take]
    exact List.take_of_length_le (by show Y.length ≤ plen Y; omega)
set_option maxRecDepth 4096 in
set_option maxHeartbeats 8000000 in
theorem poly_div_no (a : Option Addr) (n c : Nat) (L : List Fx) (b : Option Addr) (m d : Nat) (M : List Fx) (w : World) (_h : Fxs w a n c L) (k : Fxs w b m d M) (hm : m ≤ 300) (hu : thin 2000000000 M) (h0 : plen (fqs M) = 0) : Calls Try.prog 20 #[.slice a n c, .slice b m d] w (fun e w' => e = .returned (.tuple #[.slice none 0 0, .slice none 0 0, .bool false]) ∧ Below w.heap.size w w') := by
  have HU : Hid (Calls Try.prog 22 #[.slice b m d] w (Gives (.slice b 0 d) w)) := Lib.hid (by
    have h9 := poly_used b m d M w k (by omega) (hu.mono (by decide))
    rwa [h0] at h9)
  clear k hu h0 _h
  go_enter Try.func20, Try.ntmps20
  go_wp2_with fail
  refine HU.out.mono ?_
  rintro e w1 ⟨rfl, bw⟩
  have HB := Lib.hid bw
  clear bw HU
  go_wp2
  go_ret3
  exact ⟨rfl, HB.out⟩
set_option maxRecDepth 4096 in
set_option maxHeartbeats 8000000 in
theorem poly_div_by (a : Option Addr) (n c : Nat) (L : List Fx) (b : Option Addr) (m d : Nat) (M : List Fx) (K T : Nat) (I : List Rat → List Rat → Prop) (w : World) (h : Fxs w a n c L) (k : Fxs w b m d M) (hn : n ≤ 300) (hm : m ≤ 300) (ht : thin 2000000000 L) (hu : thin 2000000000 M)
    (hK : ∀ q ∈ pnorm (fqs M), qlen q ≤ K) (h0 : plen (fqs M) ≠ 0) (hW : DivWay (fqs L) (pnorm (fqs M)) K T I) (hT : T ≤ 2000000000) (hKT : K + 6 ≤ T) : Calls Try.prog 20 #[.slice a n c, .slice b m d] w (LstDivW (fqs L) (pnorm (fqs M)) I w) := by
  have hbd2 := k.bound
  have hk2 := plen_fqs_le k
  have HU : Hid (Calls Try.prog 22 #[.slice b m d] w (Gives (.slice b (plen (fqs M)) d) w)) := Lib.hid (poly_used b m d M w k (by omega) (hu.mono (by decide)))
  have HM := Lib.hid (k.take hk2)
  have TM := Lib.hid (thin_take hu (plen (fqs M)))
  have QM : fqs (M.take (plen (fqs M))) = pnorm (fqs M) := fqs_used M
  obtain ⟨B, hB⟩ : ∃ B, pnorm (fqs M) = B := ⟨_, rfl⟩
  have HBN : Hid (pnorm B = B) := Lib.hid (by rw [← hB]; exact pnorm_pnorm _)
  have hBl : B.length = plen (fqs M) := by rw [← hB]; rfl
  rw [hB] at QM hK hW ⊢
  obtain ⟨k2, hke⟩ : ∃ k2, plen (fqs M) = k2 := ⟨_, rfl⟩
  obtain ⟨M1, hM1⟩ : ∃ M1, M.take k2 = M1 := ⟨_, rfl⟩
  simp only [hke, hM1] at HU HM TM QM hk2 hBl h0
  obtain ⟨e, he⟩ : ∃ e, k2 = e + 1 := ⟨k2 - 1, by omega⟩
  subst he
  have HBL := Lib.hid hBl
  have HKB := Lib.hid hK
  have HW := Lib.hid hW
  have HQM := Lib.hid QM
  have HML := Lib.hid HM.out.len
  obtain ⟨bb, hbb⟩ : ∃ bb, b = some bb := by
    rcases HM.out.2.2.2.2.2 with h9 | ⟨b9, o9, e9, _⟩
    · omega
    · exact ⟨_, e9⟩
  subst hbb
  have HN : ∀ w' : World, Below w.heap.size w w' → Calls Try.prog 31 #[.slice a n c] w' (LstRow 34 (pnorm (fqs L)) w') := fun w' hb => poly_norm_row a n c L w' (h.later hb) hn (ht.mono (by decide))
  have hl0 : plen (fqs L) ≤ n := plen_fqs_le h
  obtain ⟨R0, hR0⟩ : ∃ R0, pnorm (fqs L) = R0 := ⟨_, rfl⟩
  obtain ⟨l0, hl0e⟩ : ∃ l0, plen (fqs L) = l0 := ⟨_, rfl⟩
  have hR0l : R0.length = l0 := by rw [← hR0, ← hl0e]; rfl
  obtain ⟨nq, hnq⟩ : ∃ nq, l0 - e = nq := ⟨_, rfl⟩
  have HD0 : Hid (DivT (fqs L) B I e nq l0 nq [] R0) := Lib.hid (DivT.start hW hR0 hR0l)
  have HLA := Lib.hid hl0e
  have HR0L := Lib.hid hR0l
  rw [hR0] at HN
  rw [hl0e] at hl0
  clear h k ht hu hK h0 hW QM hB hke hM1 hBl hR0 hl0e hR0l
  generalize fqs L = A at *
  have hmax : max ((l0 : Int) - (e : Int)) 0 = (nq : Int) := by omega
  have hk0 : (((e + 1 : Nat) : Int) == 0) = false := by simp; omega
  have hke : ((e + 1 : Nat) : Int) - 1 = (e : Int) := by omega
  have HB := Lib.hid (Below.refl w.heap.size w)
  have hed : e < d := by omega
  obtain ⟨i0, hi, hy0, hy1, hy2⟩ := info_parts infoFracR
  go_enter Try.func20, Try.ntmps20
  go_wp2_with fail
  refine HU.out.mono ?_
  rintro ed w1 ⟨rfl, bw⟩
  replace HB := Lib.hid (below_then HB.out bw)
  clear bw HU
  go_wp2_with fail
  refine (HN _ HB.out).mono ?_
  rintro ed w2 ⟨rv, rfl, h3, bw⟩
  have RR := Lib.hid (row_weak h3 HB.out.size)
  replace HB := Lib.hid (below_then HB.out bw)
  clear bw HN h3
  obtain ⟨ra, rc, rfl, -⟩ : ∃ ra rc, rv = .slice ra l0 rc ∧ True := by
    obtain ⟨a9, c9, e9, -⟩ := RR.out.out
    rw [HR0L.out] at e9
    exact ⟨a9, c9, e9, trivial⟩
  have hblk := RR.out.block
  go_wp2_with (at_make; refine wpList_make_fracs _ rfl _ _ 29 rfl w2.heap.size 34 i0 Try.underlying29 hi hy0 hy1 hy2 _ _ _ _ nq rfl rfl (by omega) (by omega) (by omega) (by simp) ?_; intro wm hmade hgm hszm)
  have HO0 := Lib.hid (cop_weak hmade.cop HB.out.size)
  have hbm : Below w2.heap.size w2 wm := (Below.refl _ _).grown hgm (Nat.le_refl _) (fun k hk => by cases hk)
  have RR0 := Lib.hid (RR.out.later hbm)
  have HB0 := Lib.hid (below_then HB.out hbm)
  have hsz2 := HB.out.size
  have HNE : Hid (∀ g, (Value.slice ra l0 rc).ownBlock = some g → w.heap.size ≤ g ∧ g ≠ w2.heap.size) := Lib.hid (fun g hg => by have := hblk g hg; omega)
  clear hmade hgm hbm RR HB hblk
  have hnq1 : (nq : Int) - 1 < (nq : Int) := by omega
  go_loopw [5, 8] (fun rv iv wr => ∃ (t : Nat) (Q R : List Rat) (LQ : List Fx) (ra : Option Addr) (rc : Nat), t ≤ nq ∧ iv = .int .i64 ((t : Int) - 1) ∧ rv = .slice ra R.length rc ∧ Hid (DivT A B I e nq l0 t Q R) ∧ Hid (Row wr w.heap.size 34 (.slice ra R.length rc) R) ∧ Hid (∀ g, (Value.slice ra R.length rc).ownBlock = some g → w.heap.size ≤ g ∧ g ≠ w2.heap.size) ∧ Hid (LQ.length = nq) ∧ Hid (Filled LQ Q t) ∧ Hid (Cop wr w.heap.size 34 (.slice (some ⟨w2.heap.size, 0, none⟩) nq nq) LQ) ∧ Hid (Below w.heap.size w wr) ∧ w2.heap.size < wr.heap.size) (fun _ iv _ => (intOf iv + 1).toNat)
  case atStart => exact ⟨nq, [], R0, List.replicate nq Fx.zero, ra, rc, Nat.le_refl _, rfl, by rw [HR0L.out], HD0, by rw [HR0L.out]; exact RR0, by rw [HR0L.out]; exact HNE, Lib.hid List.length_replicate, Lib.hid (fun j h1 h2 => by rw [List.length_replicate] at h2; omega), HO0, HB0, by omega⟩
  case round =>
    clear HO0 HB0 RR0 HD0 HNE HR0L
    obtain ⟨t, Q, R, LQ, ra, rc, htq, rfl, rfl, HD, HR, HNE, HLQ, HF, HO, HB, hsz⟩ := hrel
    by_cases hlt : 0 < t
    · obtain ⟨i, rfl⟩ : ∃ i, t = i + 1 := ⟨t - 1, by omega⟩
      have hnqe : nq + e = l0 := by omega
      obtain ⟨hRm, hct⟩ := HD.out.room HW.out HBL.out hKT
      have hRl : R.length = i + e + 1 := by have := HD.out.len; omega
      have hct2 := hct (by omega) (by omega)
      rw [show i + 1 - 1 + e = i + e by omega] at hct2
      obtain ⟨cq, hcq⟩ : ∃ cq, R.getD (i + e) 0 / B.getD e 0 = cq := ⟨_, rfl⟩
      obtain ⟨W, hWd⟩ : ∃ W, (R.take (i + e)).drop i = W := ⟨_, rfl⟩
      obtain ⟨S, hSd⟩ : ∃ S, rscale cq (B.take e) = S := ⟨_, rfl⟩
      obtain ⟨Pt, hPd⟩ : ∃ Pt, radd W (rscale (-1) S) = Pt := ⟨_, rfl⟩
      rw [hcq] at hct2
      obtain ⟨-, hWl, hSl, hPl, Q', hD', hQi, hQo⟩ := HD.out.step HW.out HBN.out HBL.out (.inl hnqe) (by omega) hcq.symm hWd.symm hSd.symm hPd.symm
      have HF' : Hid (∀ (a1 : Option Addr) (n1 c1 : Nat) (b1 : Option Addr) (m1 d1 : Nat), Filled (LQ.set i (rx cq a1 n1 c1 b1 m1 d1)) Q' i) := Lib.hid (fun a1 n1 c1 b1 m1 d1 => by
        have h9 := HF.out.step (Q' := Q') (by rw [HLQ.out]; omega) hQo a1 n1 c1 b1 m1 d1
        rwa [hQi] at h9)
      have HD' := Lib.hid hD'
      have hBt : B.getD e 0 ≠ 0 := by
        have h9 := top_nz HBN.out (by rw [HBL.out]; omega)
        rwa [HBL.out, show e + 1 - 1 = e by omega] at h9
      have hBe : B.getD e 0 = (M1.getD e Fx.zero).q := by
        have h9 := fqs_getD (L := M1) (k := e) (by rw [HML.out]; omega)
        rwa [HQM.out] at h9
      obtain ⟨g, hra, hgb, hgw⟩ : ∃ g, ra = some ⟨g, 0, none⟩ ∧ w.heap.size ≤ g ∧ g < wr.heap.size := by
        obtain ⟨g, cap, h5, h6, h7⟩ := HR.out.form (by omega)
        simp only [Value.slice.injEq] at h5
        exact ⟨g, h5.1, h6, h7⟩
      subst hra
      have hgne : g ≠ w2.heap.size := (HNE.out g rfl).2
      have hcap : R.length ≤ rc ∧ rc ≤ 9223372036854775807 := by
        obtain ⟨a9, c9, e9, h9⟩ := HR.out.out
        simp only [Value.slice.injEq] at e9
        have := h9.bound
        omega
      have hRw : Rw wr (some ⟨g, 0, none⟩) R.length rc R := by
        obtain ⟨a9, c9, e9, h9⟩ := HR.out.out
        simp only [Value.slice.injEq] at e9
        obtain ⟨e9, -, e8⟩ := e9
        rw [e9, e8]
        exact h9
      have HSC : ∀ (w' : World) (v : Value), Fr w' v cq 2097152000 → Below w.heap.size w w' → Calls Try.prog 41 #[v, .slice (some bb) e d] w' (LstRw S w') := fun w' v h1 h2 => by
        have h9 := row_scale v cq (some bb) e d (M1.take e) w' h1 ((HM.out.later h2).take (by omega)) (by omega) (thin_take (TM.out.mono (by decide)) e)
        rwa [fqs_take, HQM.out, hSd] at h9
      have hSq : ∀ q ∈ S, qlen q ≤ T := fun q hq => by
        rw [← hSd] at hq
        have h9 := qlen_rscale (Nat.le_refl (qlen cq)) (fun x hx => HKB.out x (List.mem_of_mem_take hx)) q hq
        omega
      have hWq : ∀ q ∈ W, qlen q ≤ T := fun q hq => by
        rw [← hWd] at hq
        exact hRm q (List.mem_of_mem_take (List.mem_of_mem_drop hq))
      have HSB : ∀ (w' : World) (a' : Option Addr) (c' : Nat) (b' : Option Addr) (n' d' : Nat), Rw w' a' (i + e - i) c' W → Rw w' b' n' d' S → Calls Try.prog 42 #[.slice a' (i + e - i) c', .slice b' n' d'] w' (LstRwV Pt (.bool true) w') := fun w' a' c' b' n' d' h1 h2 => by
        obtain ⟨X, x1, x2, x3⟩ := h1.thin hWq
        obtain ⟨Y, y1, y2, y3⟩ := h2.thin hSq
        have h9 := row_sub_yes a' _ c' X b' n' d' Y w' x1 y1 (by omega) (x3.mono (by omega)) (y3.mono (by omega)) (Lib.hid (by have := h2.len; omega))
        rwa [x2, y2, hPd] at h9
      -- what lies at the two places
      obtain ⟨rt, hrt⟩ : ∃ x, R.getD (i + e) 0 = x := ⟨_, rfl⟩
      obtain ⟨b8, off8, e8, a3, n3, c3, b3, m3, d3, hea, hA, hDn⟩ := hRw.at (j := i + e) (by omega)
      simp only [Option.some.injEq, Addr.mk.injEq, and_true] at e8
      obtain ⟨rfl, rfl⟩ := e8
      rw [Nat.zero_add] at hea
      have hlr := hRm _ (q_mem (L := R) (k := i + e) (by omega))
      rw [hrt] at hea hA hDn hlr hcq
      obtain ⟨bc, off2, hbe, f0, f1, f2, hok⟩ := (HM.out.later HB.out).at (j := e) (by omega)
      have hthb := TM.out _ (fx_mem (L := M1) (k := e) (by rw [HML.out]; omega))
      rw [hBe] at hcq hBt
      generalize M1.getD e Fx.zero = y at *
      obtain ⟨ys, ya, yn, yc, yla, yb, ym, yd, ylb⟩ := y
      simp only at f0 f1 f2 hthb
      obtain ⟨hok1, hok2⟩ := hok
      obtain ⟨hyn, hym⟩ := hthb
      simp only at hok1 hok2 hyn hym
      simp only [Option.some.injEq] at hbe
      subst hbe
      have HQU : Hid (∀ w' : World, Below wr.heap.size wr w' → Calls Try.prog 40 #[.agg #[.bool (zneg rt.num), .slice a3 n3 c3, .slice b3 m3 d3], .agg #[.bool ys, .slice ya yn yc, .slice yb ym yd]] w' (LstQV cq (.bool true) w')) := Lib.hid (fun w' h9 => by
        have h8 := fracSaid.quo (frV (zneg rt.num) a3 n3 c3 b3 m3 d3) (frV ys ya yn yc yb ym yd) rt (qval ys (val yla) (val ylb)) w' (Fr.right (hA.later h9) (hDn.later h9) (by rw [← hA.len]; exact Nat.le_trans (qlen_num _) (by omega)) (by rw [← hDn.len]; exact Nat.le_trans (qlen_den _) (by omega))) (Fr.of (hok1.later h9) (hok2.later h9) (by omega) (by omega) rfl)
        have h7 : decide (qval ys (val yla) (val ylb) ≠ 0) = true := decide_eq_true hBt
        rw [h7, show rt / qval ys (val yla) (val ylb) = cq from hcq] at h8
        exact h8)
      have HEA := Lib.hid hea
      have HEB := Lib.hid (show wr.cell? ⟨bc, off2 + e * 3, none⟩ = some (.bool ys) ∧ wr.cell? ⟨bc, off2 + e * 3 + 1, none⟩ = some (.slice ya yn yc) ∧ wr.cell? ⟨bc, off2 + e * 3 + 2, none⟩ = some (.slice yb ym yd) from ⟨f0, f1, f2⟩)
      have HCQ : Hid (qlen cq ≤ 2097152000) := Lib.hid (by omega)
      have HWD := Lib.hid hWd
      have HRLn := Lib.hid hRl
      have HPL := Lib.hid hPl
      have HWL := Lib.hid hWl
      obtain ⟨j, hj⟩ : ∃ j, i + e = j := ⟨_, rfl⟩
      rw [hj] at HSB HEA
      have hRj : R.length = j + 1 := by omega
      have HJ := Lib.hid hj
      clear hcq hSd hPd hct hct2 hRm hWl hSl hPl hD' hQi hQo hBt hBe hRw hrt hea hA hDn hlr f0 f1 f2 hok1 hok2 hSq hWq HD HF hRl hWd
      have hij : (i : Int) + (e : Int) = (j : Int) := by omega
      have hwj : IntKind.i64.wrap (j : Int) = (j : Int) := by rw [IntKind.wrap_i64]; omega
      have hii : ((i + 1 : Nat) : Int) - 1 = (i : Int) := by omega
      have hig : (0 : Int) ≤ (i : Int) := by omega
      have hin : (i : Int) < (nq : Int) := by omega
      have hjr : (j : Int) < ((j + 1 : Nat) : Int) := by omega
      have heb : (e : Int) < ((e + 1 : Nat) : Int) := by omega
      have hq1 : (i : Int) ≤ (j : Int) := by omega
      have hq2 : (j : Int) ≤ (rc : Int) := by omega
      have hq3 : (e : Int) ≤ (d : Int) := by omega
      have hq4 : (i : Int) ≤ (rc : Int) := by omega
      have hq5 : ¬ rc = i := by omega
      rw [hRj] at HR ⊢
      clear hRj hj hcap
      rw [hii]
      clear hii
      go_upto_region 10 with fail
      go_cut [34] from 35 to 50 (fun _ wx => ∃ (a4 : Option Addr) (n4 c4 : Nat) (b4 : Option Addr) (m4 d4 : Nat), Hid (Cop wx w.heap.size 34 (.slice (some ⟨w2.heap.size, 0, none⟩) nq nq) (LQ.set i (rx cq a4 n4 c4 b4 m4 d4))) ∧ Hid (Row wx w.heap.size 34 (.slice (some ⟨g, 0, none⟩) (j + 1) rc) R) ∧ Hid (Wd wx a4 n4 c4 (dg cq.num.natAbs)) ∧ Hid (Wd wx b4 m4 d4 (dg cq.den)) ∧ Hid (Below w.heap.size w wx) ∧ w2.heap.size < wx.heap.size)
      case first =>
        obtain ⟨ea0, ea1, ea2⟩ := three_on HEA.out (Below.refl wr.heap.size wr)
        obtain ⟨eb0, eb1, eb2⟩ := three_on HEB.out (Below.refl wr.heap.size wr)
        go_wp2
        have b0 : Below wr.heap.size wr wr.drew := (Below.refl _ _).drew
        have HBd := Lib.hid (below_then HB.out b0)
        have HOd := Lib.hid (HO.out.later b0)
        have HRd := Lib.hid (HR.out.later b0)
        have HQUd := Lib.hid (HQU.out _ b0)
        have hszd := Nat.lt_of_lt_of_le hsz b0.size
        clear ea0 ea1 ea2 eb0 eb1 eb2 HB HO HR HQU hsz
        obtain ⟨ea0, ea1, ea2⟩ := three_on HEA.out b0
        obtain ⟨eb0, eb1, eb2⟩ := three_on HEB.out b0
        clear b0
        first | go_region_with (first
          | (go_at_call 40; refine HQUd.out.mono ?_; rintro ed w4 ⟨a4, n4, c4, b4, m4, d4, rfl, h4, g4, bw⟩; have HB4 := Lib.hid (below_then HBd.out bw); have HO4 := Lib.hid (HOd.out.later bw); have HR4 := Lib.hid (HRd.out.later bw); have hsz4 := Nat.lt_of_lt_of_le hszd bw.size; have CA4 := Lib.hid h4; have CD4 := Lib.hid g4; clear bw h4 g4 HBd HOd HRd HQUd hszd ea0 ea1 ea2 eb0 eb1 eb2; unfold frV; obtain ⟨⟨p0, p1, p2⟩, f0, f1, f2⟩ := HO4.out.cell HLQ.out.symm (i := i) (by rw [HLQ.out]; omega))) | fail
        all_goals (
          obtain ⟨hst, hgr⟩ := HO4.out.stored HLQ.out.symm (i := i) (by rw [HLQ.out]; omega) cq a4 n4 c4 b4 m4 d4 CA4.out CD4.out
          have HO5 := Lib.hid hst
          have HB5 := Lib.hid (HB4.out.grown hgr HB4.out.size (fun g' hg' => by simp at hg'; omega))
          have HR5 := Lib.hid (HR4.out.beside (u := .slice (some ⟨w2.heap.size, 0, none⟩) nq nq) HO4.out.clean hgr (.inr (fun e9 => by simp only [Value.ownBlock, Option.some.injEq] at e9; exact hgne e9)))
          have CA5 := Lib.hid (CA4.out.aside HO4.out.clean hgr)
          have CD5 := Lib.hid (CD4.out.aside HO4.out.clean hgr)
          have hsz5 := Nat.lt_of_lt_of_le hsz4 hgr.size
          clear hst hgr HO4 HB4 HR4 CA4 CD4 hsz4 p0 p1 p2 f0 f1 f2
          go_wp2
          go_meet
          exact ⟨a4, n4, c4, b4, m4, d4, HO5, HR5, CA5, CD5, HB5, hsz5⟩)
      case rest =>
        obtain ⟨a4, n4, c4, b4, m4, d4, HO5, HR5, CA5, CD5, HB5, hsz5⟩ := hcut
        have HLQ2 : Hid ((LQ.set i (rx cq a4 n4 c4 b4 m4 d4)).length = nq) := Lib.hid (by rw [List.length_set]; exact HLQ.out)
        have HF2 := Lib.hid (HF'.out a4 n4 c4 b4 m4 d4)
        have HGX : Hid ((LQ.set i (rx cq a4 n4 c4 b4 m4 d4)).getD i Fx.zero = rx cq a4 n4 c4 b4 m4 d4) := Lib.hid (by rw [fx_set (by rw [HLQ.out]; omega), if_pos rfl])
        clear HLQ HF' HEA HEB HB HO HR HQU hsz
        generalize LQ.set i (rx cq a4 n4 c4 b4 m4 d4) = LQ2 at *
        have hcl := HO5.out.cell HLQ2.out.symm (i := i) (by rw [HLQ2.out]; omega)
        rw [HGX.out] at hcl
        obtain ⟨hcl, -⟩ := hcl
        have HEC := Lib.hid (show wc.cell? ⟨w2.heap.size, i * 3, none⟩ = some (.bool (zneg cq.num)) ∧ wc.cell? ⟨w2.heap.size, i * 3 + 1, none⟩ = some (.slice a4 n4 c4) ∧ wc.cell? ⟨w2.heap.size, i * 3 + 2, none⟩ = some (.slice b4 m4 d4) from hcl)
        clear hcl HGX
        obtain ⟨p0, p1, p2⟩ := three_on HEC.out (Below.refl wc.heap.size wc)
        go_wp2
        have b0 : Below wc.heap.size wc wc.drew := (Below.refl _ _).drew
        have HBd := Lib.hid (below_then HB5.out b0)
        have HOd := Lib.hid (HO5.out.later b0)
        have HRd := Lib.hid (HR5.out.later b0)
        have hszd := Nat.lt_of_lt_of_le hsz5 b0.size
        have HSCd := Lib.hid (HSC wc.drew (frV (zneg cq.num) a4 n4 c4 b4 m4 d4) (Fr.right (CA5.out.later b0) (CD5.out.later b0) (by rw [← CA5.out.len]; exact Nat.le_trans (qlen_num _) HCQ.out) (by rw [← CD5.out.len]; exact Nat.le_trans (qlen_den _) HCQ.out)) HBd.out)
        clear p0 p1 p2 HB5 HO5 HR5 hsz5 CA5 CD5
        obtain ⟨p0, p1, p2⟩ := three_on HEC.out b0
        clear b0
        first | go_region_with (first
          | (go_at_call 41; refine HSCd.out.mono ?_; rintro ed w6 ⟨a6, n6, c6, rfl, h6, bw⟩; have HB6 := Lib.hid (below_then HBd.out bw); have HO6 := Lib.hid (HOd.out.later bw); have HR6 := Lib.hid (HRd.out.later bw); have hsz6 := Nat.lt_of_lt_of_le hszd bw.size; have S6 := Lib.hid h6; have W6 : Hid (Rw w6 (some ⟨g, i * 3, none⟩) (j - i) (rc - i) W) := Lib.hid (by
              obtain ⟨LR, l1, l2, l3⟩ := HR6.out.cop
              obtain ⟨a9, c9, e9, h9⟩ := l1.out
              have hll : LR.length = j + 1 := by rw [← fqs_length, l2, HRLn.out, HJ.out]
              rw [hll] at e9 h9
              simp only [Value.slice.injEq] at e9
              obtain ⟨e9, -, e8⟩ := e9
              subst e9
              subst e8
              have hwin := h9.window (lo := i) (hi := j) (by omega) (by omega)
              rw [Go.WideShapes.add_plain, Nat.zero_add] at hwin
              exact ⟨_, hwin, by rw [← HWD.out, HJ.out, ← l2]; show fqs _ = _; rw [fqs_drop, fqs_take], fun x hx => l3 x (List.mem_of_mem_take (List.mem_of_mem_drop hx))⟩); clear bw h6 HBd HOd HRd HSCd hszd p0 p1 p2)
          | (go_at_call 42; refine (HSB _ _ _ _ _ _ W6.out S6.out).mono ?_; rintro ed w7 ⟨a7, n7, c7, rfl, h7, bw⟩; have HB7 := Lib.hid (below_then HB6.out bw); have HO7 := Lib.hid (HO6.out.later bw); have HR7 := Lib.hid (HR6.out.later bw); have hsz7 := Nat.lt_of_lt_of_le hsz6 bw.size; have P7 := Lib.hid h7; have hn7 : n7 = e := (by rw [← h7.len, HPL.out]); clear bw h7 HB6 HO6 HR6 S6 W6 hsz6)) | fail
        all_goals (
          subst hn7
          have HFr := Lib.hid (HR7.out.front (by rw [HRLn.out, ← HJ.out]) (i := i) (by omega))
          have hti : (R.take i).length = i := by rw [List.length_take, HRLn.out]; omega
          have HTI := Lib.hid hti
          clear hti
          have hfit : j ≤ rc := by omega
          go_wp2_with (at_builtin; refine wpList_append_fit _ rfl _ _ 29 rfl w.heap.size 34 i0 Try.underlying29 hi hy0 hy1 hy2 g i rc (R.take i) rfl HFr.out HTI.out.symm a7 n7 c7 Pt rfl P7.out j HJ.out hfit (by omega) HB7.out.size ?_; intro w8 hrow hgrow)
          have HR8 : Hid (Row w8 w.heap.size 34 (.slice (some ⟨g, 0, none⟩) (R.take i ++ Pt).length rc) (R.take i ++ Pt)) := Lib.hid (by rw [List.length_append, HTI.out, HPL.out, HJ.out]; exact hrow)
          have hl8 : Hid ((R.take i ++ Pt).length = j) := Lib.hid (by rw [List.length_append, HTI.out, HPL.out, HJ.out])
          have HO8 := Lib.hid (HO7.out.beside (u := .slice (some ⟨g, 0, none⟩) i rc) HFr.out.clean hgrow (.inr (fun e9 => by simp only [Value.ownBlock, Option.some.injEq] at e9; exact hgne e9.symm)))
          have HB8 := Lib.hid (HB7.out.grown hgrow HB7.out.size (fun g' hg' => by simp at hg'; omega))
          have hsz8 := Nat.lt_of_lt_of_le hsz7 hgrow.size
          have HNE8 : Hid (∀ g', (Value.slice (some ⟨g, 0, none⟩) (R.take i ++ Pt).length rc).ownBlock = some g' → w.heap.size ≤ g' ∧ g' ≠ w2.heap.size) := Lib.hid (fun g' hg' => by simp [Value.ownBlock] at hg'; omega)
          clear hrow hgrow HFr HO7 HB7 HR7 P7 HNE
          go_wp2
          go_roundw
          case rel => exact ⟨i, Q', R.take i ++ Pt, LQ2, some ⟨g, 0, none⟩, rc, by omega, rfl, by rw [hl8.out], HD', HR8, HNE8, HLQ2, HF2, HO8, HB8, hsz8⟩
          case measure => simp [intOf])
    · obtain rfl : t = 0 := by omega
      have hRl : R.length ≤ 300 := by have := HD.out.len; omega
      obtain ⟨hfr, hpq⟩ := HF.out.done (fun j hj => HD.out.far j (by rw [HLQ.out] at hj; exact hj))
      obtain ⟨hdv, hYn, hI⟩ := HD.out.over HBN.out HBL.out HLA.out hnq hpq (by rw [fqs_length]; exact HLQ.out)
      have HDV := Lib.hid (show isDiv A B (fqs LQ) (pnorm R) ∧ pnorm (fqs LQ) = fqs LQ ∧ ∃ Q, peq (fqs LQ) Q ∧ I Q (pnorm R) from ⟨hdv, hYn, Q, hpq, hI⟩)
      have hRq := (HD.out.room HW.out HBL.out hKT).1
      have hRw : Rw wr ra R.length rc R := by
        obtain ⟨a9, c9, e9, h9⟩ := HR.out.out
        simp only [Value.slice.injEq] at e9
        obtain ⟨e9, -, e8⟩ := e9
        rw [e9, e8]
        exact h9
      have HUR := Lib.hid (poly_used_rw ra R.length rc R wr hRw (by omega) (fun q hq => Nat.le_trans (hRq q hq) (by omega)))
      have HY : Hid (Rw wr (some ⟨w2.heap.size, 0, none⟩) nq nq (fqs LQ)) := Lib.hid (by
        obtain ⟨a9, c9, e9, h9⟩ := HO.out.out
        rw [HLQ.out] at e9 h9
        simp only [Value.slice.injEq] at e9
        obtain ⟨e9, -, e8⟩ := e9
        rw [e9]
        rw [← e8] at h9
        exact ⟨LQ, h9, rfl, hfr⟩)
      clear hfr hpq hdv hYn hI hRq hRw HD HF HO HR HNE
      generalize fqs LQ = Y at *
      go_wp2_with fail
      refine HUR.out.mono ?_
      rintro ed w9 ⟨rfl, h9, bw⟩
      have RF := Lib.hid h9
      have HB9 := Lib.hid (below_then HB.out bw)
      have YF := Lib.hid (HY.out.later bw)
      clear bw h9 HUR HY HB
      obtain ⟨kr, hkr⟩ : ∃ kr, plen R = kr := ⟨_, rfl⟩
      rw [hkr] at RF ⊢
      clear hkr
      go_wp2
      go_ret3
      exact ⟨some ⟨w2.heap.size, 0, none⟩, nq, nq, Y, ra, kr, rc, pnorm R, rfl, YF.out, RF.out, HDV.out.1, HDV.out.2.1, pnorm_pnorm R, HDV.out.2.2, HB9.out⟩
end Go.Proofs.Ytipcgehcineblaa
