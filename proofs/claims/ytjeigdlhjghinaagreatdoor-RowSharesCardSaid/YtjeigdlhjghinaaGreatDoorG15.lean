/-
  Several texts of this claim as one, group 15.
-/
import Derived.Test.YtjeigdlhjghinaaGreatDoorG5
import Derived.Test.YtjeigdlhjghinaaGreatDoorG10
import Derived.Test.YtjeigdlhjghinaaGreatDoorG11
import Derived.Test.YtjeigdlhjghinaaGreatDoorG12
import Derived.Test.YtjeigdlhjghinaaGreatDoorG4
import Derived.Test.YtjeigdlhjghinaaGreatDoorG14
import Derived.Test.YtjeigdlhjghinaaGreatDoorG9
import Derived.Deep.RegionHeld3
import Derived.Laws.RangeAny
import Derived.Laws.Runes
import Derived.Test.YtjeigdlhjghinaaGreatDoorG1
import Derived.Test.YtjeigdlhjghinaaGreatDoorG8
import Derived.Shelf.Strings.Prefix
import Derived.Test.YtjeigdlhjghinaaGreatDoorG6
import Derived.Test.YtjeigdlhjghinaaGreatDoorG2
import Derived.Test.YtjeigdlhjghinaaGreatDoorG13
/-
  Plain mathematics: fractions as texts: where the first / or point stands, what a text says, what is written, what a fraction is rounded to. Nothing of the program.
-/
namespace Go.Proofs.YtjeigdlhjghinaaGreatDoor

/-- The place of the first / or point; how long the text is, if there is none. -/
def cutAt : List UInt8 → Nat
  | [] => 0
  | x :: r => if x.toNat = 47 ∨ x.toNat = 46 then 0 else cutAt r + 1
theorem cutAt_le : ∀ l : List UInt8, cutAt l ≤ l.length
  | [] => Nat.le_refl _
  | x :: r => by
    have := cutAt_le r
    rw [cutAt]; split
    · exact Nat.zero_le _
    · simp only [List.length_cons]; omega
theorem cutAt_more : ∀ {l : List UInt8} {k : Nat}, k ≤ cutAt l → k < l.length → ¬ ((l.getD k 0).toNat = 47 ∨ (l.getD k 0).toNat = 46) → k + 1 ≤ cutAt l
  | [], k, _, hk, _ => by simp at hk
  | x :: r, k, h, hk, hx => by
    rw [cutAt] at h ⊢
    split at h
    · rename_i hc
      have : k = 0 := by omega
      subst this
      exact absurd hc hx
    · rename_i hc
      rw [if_neg hc]
      cases k with
      | zero => omega
      | succ k =>
        have := cutAt_more (l := r) (k := k) (by omega) (by simpa using hk) (by simpa using hx)
        omega
theorem cutAt_here : ∀ {l : List UInt8} {k : Nat}, k ≤ cutAt l → k < l.length → ((l.getD k 0).toNat = 47 ∨ (l.getD k 0).toNat = 46) → cutAt l = k
  | [], k, _, hk, _ => by simp at hk
  | x :: r, k, h, hk, hx => by
    rw [cutAt] at h ⊢
    split at h
    · rename_i hc
      rw [if_pos hc]; omega
    · rename_i hc
      rw [if_neg hc]
      cases k with
      | zero => exact absurd (by simpa using hx) hc
      | succ k =>
        have := cutAt_here (l := r) (k := k) (by omega) (by simpa using hk) (by simpa using hx)
        omega
def nocut (l : List UInt8) : Prop := ∀ x ∈ l, x.toNat ≠ 47 ∧ x.toNat ≠ 46
theorem cutAt_append : ∀ {a : List UInt8}, nocut a → ∀ r, cutAt (a ++ r) = a.length + cutAt r
  | [], _, r => by simp
  | x :: a, h, r => by
    have hx := h x (List.mem_cons_self ..)
    have := cutAt_append (a := a) (fun y hy => h y (List.mem_cons_of_mem _ hy)) r
    rw [List.cons_append, cutAt, if_neg (by omega), this, List.length_cons]; omega
theorem cutAt_none {a : List UInt8} (h : nocut a) : cutAt a = a.length := by
  have := cutAt_append h []
  rw [List.append_nil] at this
  rw [this]; rfl
/-- What stands ahead of the first / or point, behind it, and it itself. -/
def fhead (l : List UInt8) : List UInt8 := l.take (cutAt l)
def frest (l : List UInt8) : List UInt8 := l.drop (cutAt l + 1)
def fbyte (l : List UInt8) : Nat := (l.getD (cutAt l) 0).toNat
/-- The kind of the fault that a text has (0: none), its place, and the fraction that the text is. -/
def figKind (l : List UInt8) : Int :=
  if 0 ≤ zwrong (fhead l) then 1 else if cutAt l = l.length then 0 else if 0 ≤ wrongI (frest l) then 1 else if fbyte l ≠ 46 ∧ readV (frest l) = 0 then 2 else 0
def figPlace (l : List UInt8) : Int :=
  if 0 ≤ zwrong (fhead l) then zwrong (fhead l) else if cutAt l = l.length then 0 else if 0 ≤ wrongI (frest l) then ((cutAt l + 1 : Nat) : Int) + wrongI (frest l) else if fbyte l ≠ 46 ∧ readV (frest l) = 0 then ((cutAt l + 1 : Nat) : Int) else 0
def figVal (l : List UInt8) : Rat :=
  if 0 ≤ zwrong (fhead l) then 0 else if cutAt l = l.length then ((zread (fhead l) : Int) : Rat) else if 0 ≤ wrongI (frest l) then 0
  else if fbyte l = 46 then mkRat (zval (decide ((l.getD 0 0).toNat = 45)) ((zread (fhead l)).natAbs * 10 ^ (frest l).length + readV (frest l))) (10 ^ (frest l).length)
  else if readV (frest l) = 0 then 0 else mkRat (zread (fhead l)) (readV (frest l))
/-- What is written of a fraction. -/
def ftxt (q : Rat) : List UInt8 := ztxt q.num ++ (if q.den = 1 then [] else 47 :: txt q.den)
theorem nocut_alldig {l : List UInt8} (h : alldig l) : nocut l := fun x hx => by have := h x hx; omega
theorem nocut_txt (n : Nat) : nocut (txt n) := nocut_alldig (alldig_txt n)
theorem nocut_signed {l : List UInt8} (h : nocut l) : nocut (45 :: l) := fun x hx => by
  rcases List.mem_cons.1 hx with rfl | hx
  · decide
  · exact h x hx
theorem nocut_ztxt (z : Int) : nocut (ztxt z) := by
  unfold ztxt
  split
  · exact nocut_signed (nocut_txt _)
  · exact nocut_txt _
/-- Digits without a sign: what they say, as a whole number. -/
theorem zwrong_digits {l : List UInt8} (h : alldig l) (hne : l ≠ []) : zwrong l = wrongI l := by
  cases l with
  | nil => exact absurd rfl hne
  | cons x r =>
    have := h x (List.mem_cons_self ..)
    rw [zwrong, if_neg (by omega)]
theorem zread_digits {l : List UInt8} (h : alldig l) (hne : l ≠ []) : zread l = (readV l : Int) := by
  cases l with
  | nil => exact absurd rfl hne
  | cons x r =>
    have := h x (List.mem_cons_self ..)
    rw [zread, if_neg (by omega)]; rfl
theorem zread_minus (r : List UInt8) : zread (45 :: r) = -(readV r : Int) := by rw [zread, if_pos (by decide)]; rfl
theorem zwrong_minus {r : List UInt8} (h : wrongI r < 0) : zwrong (45 :: r) = -1 := by rw [zwrong, if_pos (by decide), if_pos h]
theorem wrongI_digits {l : List UInt8} (h : alldig l) (hne : l ≠ []) (hl : l.length ≤ 60) : wrongI l = -1 := by
  unfold wrongI
  rw [if_neg hne, wrongFrom_alldig h, if_pos (.inr (by omega))]
theorem zread_ztxt (z : Int) : zread (ztxt z) = z := by
  unfold ztxt
  split
  · rw [zread_minus, readV_txt]; omega
  · rw [zread_digits (alldig_txt _) (txt_ne _), readV_txt]; omega
theorem zwrong_ztxt {z : Int} (h : (txt z.natAbs).length ≤ 60) : zwrong (ztxt z) = -1 := by
  have h1 := wrongI_digits (alldig_txt z.natAbs) (txt_ne _) h
  unfold ztxt
  split
  · exact zwrong_minus (by omega)
  · rw [zwrong_digits (alldig_txt _) (txt_ne _), h1]
theorem take_append_left (a b : List UInt8) : (a ++ b).take a.length = a := by simp
theorem drop_append_more (a : List UInt8) (x : UInt8) (b : List UInt8) : (a ++ x :: b).drop (a.length + 1) = b := by
  rw [List.drop_append, List.drop_of_length_le (by omega)]; simp
theorem getD_append_here (a : List UInt8) (x : UInt8) (b : List UInt8) : (a ++ x :: b).getD a.length 0 = x := by
  rw [List.getD_eq_getElem?_getD, List.getElem?_append_right (Nat.le_refl _)]; simp
/-- A text without / and point; one with one of them. -/
theorem fig_plain {a : List UInt8} (h : nocut a) : cutAt a = a.length ∧ fhead a = a := by
  have h1 := cutAt_none h
  exact ⟨h1, by unfold fhead; rw [h1, List.take_length]⟩
theorem fig_parts {a b : List UInt8} {x : UInt8} (h : nocut a) (hx : x.toNat = 47 ∨ x.toNat = 46) : cutAt (a ++ x :: b) = a.length ∧ fhead (a ++ x :: b) = a ∧ frest (a ++ x :: b) = b ∧ fbyte (a ++ x :: b) = x.toNat := by
  have h1 : cutAt (a ++ x :: b) = a.length := by rw [cutAt_append h, cutAt, if_pos hx]; rfl
  unfold fhead frest fbyte
  rw [h1]
  exact ⟨rfl, take_append_left _ _, drop_append_more _ _ _, by rw [getD_append_here]⟩
/-- What is written of a fraction is read as it was. -/
theorem fig_back {q : Rat} (h1 : (txt q.num.natAbs).length ≤ 60) (h2 : (txt q.den).length ≤ 60) : figKind (ftxt q) = 0 ∧ figPlace (ftxt q) = 0 ∧ figVal (ftxt q) = q := by
  have hz := zwrong_ztxt h1
  unfold ftxt
  by_cases hd : q.den = 1
  · rw [if_pos hd, List.append_nil]
    obtain ⟨e1, e2⟩ := fig_plain (nocut_ztxt q.num)
    unfold figKind figPlace figVal
    have h0 : ¬ (0 : Int) ≤ -1 := by omega
    rw [e2, hz, e1, if_neg h0, if_neg h0, if_neg h0, if_pos rfl, if_pos rfl, if_pos rfl, zread_ztxt]
    refine ⟨rfl, rfl, ?_⟩
    exact Rat.ext (Rat.num_intCast _) (by rw [Rat.den_intCast, hd])
  · rw [if_neg hd]
    obtain ⟨e1, e2, e3, e4⟩ := fig_parts (b := txt q.den) (x := 47) (nocut_ztxt q.num) (.inl (by decide))
    have h3 := wrongI_digits (alldig_txt q.den) (txt_ne _) h2
    have h4 : ¬ (ztxt q.num).length = (ztxt q.num ++ 47 :: txt q.den).length := by simp
    have h5 : readV (txt q.den) ≠ 0 := by rw [readV_txt]; exact q.den_nz
    have h6 : ¬ ((47 : UInt8).toNat ≠ 46 ∧ readV (txt q.den) = 0) := fun h => h5 h.2
    have h7 : ¬ (47 : UInt8).toNat = 46 := by decide
    unfold figKind figPlace figVal
    rw [e2, e3, e4, hz, e1, h3]
    simp only [show ¬ (0 : Int) ≤ -1 by omega, if_false, if_neg h4, if_neg h6, if_neg h7, if_neg h5]
    refine ⟨trivial, trivial, ?_⟩
    rw [zread_ztxt, readV_txt, Rat.mkRat_self]
end Go.Proofs.YtjeigdlhjghinaaGreatDoor

/-
  What package figure's functions owe (layer 10), as one hypothesis: the contracts that the laws' walks lean on. And the document's reading of whole numbers, in one form.
-/
namespace Go.Proofs.YtjeigdlhjghinaaGreatDoor
open Go.RowKit

structure FigureSaid : Prop where
  text : ∀ (v : Value) (q : Rat) (w : World), Fr w v q 200 → Hid (Dec10 w) → Calls Tryz.prog 74 #[v] w (Gives (.string (bs (ftxt q))) w)
  read : ∀ (l : List UInt8) (w : World), l.length ≤ 1000 → Calls Tryz.prog 72 #[.string (bs l)] w (LstQV (figVal l) (faultV (figKind l) 0 0 (figPlace l)) w)
theorem ref08_read_ok (l : List UInt8) (w : World) (hl : l.length ≤ 1000) (h : Hid (zwrong l < 0)) : Calls Tryz.prog 112 #[.string (bs l)] w (ReadZ (zread l) (-1) w) := by
  have h1 := h.out
  cases l with
  | nil => exact absurd h1 (by rw [zwrong]; omega)
  | cons x r =>
    rw [zwrong] at h1
    by_cases hx : x.toNat = 45
    · rw [if_pos hx] at h1
      have h2 : wrongI r < 0 := by
        by_cases h3 : wrongI r < 0
        · exact h3
        · rw [if_neg h3] at h1; omega
      rw [zread, if_pos hx]
      exact ref08_read_minus_ok x r hx w (by simp only [List.length_cons] at hl; omega) (Lib.hid h2)
    · rw [if_neg hx] at h1
      rw [zread, if_neg hx]
      exact ref08_read_plain_ok x r hx w hl (Lib.hid h1)
theorem ref08_read_no (l : List UInt8) (w : World) (hl : l.length ≤ 1000) (h : Hid (0 ≤ zwrong l)) : Calls Tryz.prog 112 #[.string (bs l)] w (ReadZ 0 (zwrong l) w) := by
  have h1 := h.out
  cases l with
  | nil =>
    have h3 := ref08_read_nil_bad w hl (Lib.hid (by unfold wrongI; rw [if_pos rfl]; omega))
    rw [show (0 : Int) + wrongI [] = zwrong [] by unfold wrongI; rw [if_pos rfl, zwrong]; rfl] at h3
    exact h3
  | cons x r =>
    by_cases hx : x.toNat = 45
    · rw [zwrong, if_pos hx] at h1 ⊢
      have h2 : ¬ wrongI r < 0 := fun h3 => by rw [if_pos h3] at h1; omega
      rw [if_neg h2]
      exact ref08_read_minus_bad x r hx w (by simp only [List.length_cons] at hl; omega) (Lib.hid (by omega))
    · rw [zwrong, if_neg hx] at h1 ⊢
      have h3 := ref08_read_plain_bad x r hx w hl (Lib.hid h1)
      rw [Int.zero_add] at h3
      exact h3
end Go.Proofs.YtjeigdlhjghinaaGreatDoor

/-
  Package figure at this seat: Text.
-/
namespace Go.Proofs.YtjeigdlhjghinaaGreatDoor
open Go.RowKit

theorem fig_cmp_one (n : Nat) : (cmpI (val (dg n)) (val (dg 1)) == 0) = decide (n = 1) := by
  rw [val_dg, val_dg]
  unfold cmpI
  by_cases h : n = 1
  · rw [decide_eq_true h, h]; rfl
  · rw [decide_eq_false h]
    split
    · rfl
    · split
      · rfl
      · omega
set_option maxRecDepth 4096 in
set_option maxHeartbeats 4000000 in
theorem figure_text (neg : Bool) (a : Option Addr) (n cap : Nat) (la : List Nat) (b : Option Addr) (m cap' : Nat) (lb : List Nat) (w : World) (ha : Wd w a n cap la) (hb : Wd w b m cap' lb) (hn : n ≤ 900) (hm : m ≤ 900) (hT : Hid (Dec10 w)) :
    Calls Tryz.prog 74 #[frV neg a n cap b m cap'] w (Gives (.string (bs (ftxt (qval neg (val la) (val lb))))) w) := by
  have HB := Lib.hid (below_alloc w (.cells #[.bool neg, .slice a n cap, .slice b m cap'] 41))
  have HA := Lib.hid (ha.later HB.out)
  have HC := Lib.hid (hb.later HB.out)
  have HX := Lib.hid (blk_new w #[.bool neg, .slice a n cap, .slice b m cap'] 41)
  have hq0 := (Fr.of ha hb hn hm (rfl : qval neg (val la) (val lb) = qval neg (val la) (val lb))).len
  clear ha hb
  obtain ⟨q, hq⟩ : ∃ q, qval neg (val la) (val lb) = q := ⟨_, rfl⟩
  rw [hq] at hq0 ⊢
  have HQ := Lib.hid hq
  clear hq
  have hln : (dg q.num.natAbs).length ≤ 901 := Nat.le_trans (qlen_num q) hq0
  have hld : (dg q.den).length ≤ 901 := Nat.le_trans (qlen_den q) hq0
  have HZ : Hid (zval (zneg q.num) (val (dg q.num.natAbs)) = q.num) := Lib.hid (zval_dg q.num)
  have HV : Hid (val (dg q.den) = q.den) := Lib.hid (val_dg q.den)
  obtain ⟨cc, hcc⟩ : ∃ cc, cmpI (val (dg q.den)) (val (dg 1)) = cc := ⟨_, rfl⟩
  obtain ⟨d, hd⟩ : ∃ d, (cc == 0) = d := ⟨_, rfl⟩
  have HD : Hid (d = decide (q.den = 1)) := Lib.hid (by rw [← hd, ← hcc]; exact fig_cmp_one q.den)
  have HCC := Lib.hid hcc
  have hz1 := bs_size (ztxt q.num)
  have hz2 := bs_size [47]
  have hz3 := bs_size (txt q.den)
  simp only [List.length_cons, List.length_nil] at hz2
  have ht2 : (txt q.den).length ≤ 100000 := by
    have h1 := val_lt (okw_dg q.den)
    rw [val_dg, pow32] at h1
    have h2 := txt_length_le h1
    omega
  have ht1 : (ztxt q.num).length ≤ 100001 := by
    have h1 := val_lt (okw_dg q.num.natAbs)
    rw [val_dg, pow32] at h1
    have h2 := txt_length_le h1
    unfold ztxt; split <;> (try rw [List.length_cons]) <;> omega
  have ln10 : (dg 1).length ≤ 1 := dg_length_le (by decide)
  clear hcc hq0
  go_enter Tryz.func74, Tryz.ntmps74
  unfold frV
  obtain ⟨vk0, vk1, vk2⟩ := fcells_3 HX.out
  go_wp2_with fail
  refine (frac_norm neg a n cap la b m cap' lb _ HA.out HC.out (by omega) (by omega)).mono ?_
  rintro e wv1 ⟨a1, n1, c1, b1, m1, d1, rfl, h1, g1, b⟩
  clear vk0 vk1 vk2
  replace HB := Lib.hid (below_then HB.out b)
  replace HX := Lib.hid (blk_later HX.out b)
  clear HA
  clear HC
  clear b
  rw [HQ.out] at h1 g1 ⊢
  have ln1 := h1.len
  have lm1 := g1.len
  have R1 := Lib.hid h1
  have T1 := Lib.hid g1
  clear h1 g1
  unfold frV
  have q0 := blk_cell HX.out 0
  have q1 := blk_cell HX.out 1
  have q2 := blk_cell HX.out 2
  simp only [List.getElem?_toArray, List.getElem?_cons_zero, List.getElem?_cons_succ] at q0 q1 q2
  have f0 := blk_free HX.out 0
  have f1 := blk_free HX.out 1
  have f2 := blk_free HX.out 2
  replace R1 := Lib.hid (R1.out.stored3 HX.out ((zneg q.num)) a1 n1 c1 (.slice b1 m1 d1))
  replace T1 := Lib.hid (T1.out.stored3 HX.out ((zneg q.num)) a1 n1 c1 (.slice b1 m1 d1))
  replace HB := Lib.hid (below_set3 HB.out (show w.heap.size ≤ w.heap.size by omega) (.bool (zneg q.num)) (.slice a1 n1 c1) (.slice b1 m1 d1))
  replace HX := Lib.hid (blk_set3 HX.out (.bool (zneg q.num)) (.slice a1 n1 c1) (.slice b1 m1 d1))
  obtain ⟨vk0, vk1, vk2⟩ := fcells_3 HX.out
  go_wp2_with fail
  refine (whole_text digitsSaid (zneg q.num) a1 n1 c1 _ _ R1.out (by omega) (Lib.hid (hT.out.later HB.out))).mono ?_
  rintro e wv2 ⟨rfl, b⟩
  clear vk0 vk1 vk2
  replace HB := Lib.hid (below_then HB.out b)
  replace HX := Lib.hid (blk_later HX.out b)
  clear R1
  replace T1 := Lib.hid (T1.out.later b)
  clear b
  rw [HZ.out]
  go_wp2
  generalize wv2 = W at *
  replace HB := Lib.hid (below_then HB.out ((Below.refl _ _).drew : Below W.heap.size W W.drew))
  replace HX : Hid (W.drew.heap[w.heap.size]? = _) := Lib.hid HX.out
  replace T1 := Lib.hid (T1.out.later ((Below.refl _ _).drew : Below W.heap.size W W.drew))
  have pSn := fcells_3 HX.out
  go_region_held3 (fun w' => w'.cell? ⟨w.heap.size, 0, none⟩ = some (.bool (zneg q.num)) ∧ w'.cell? ⟨w.heap.size, 1, none⟩ = some (.slice a1 n1 c1) ∧ w'.cell? ⟨w.heap.size, 2, none⟩ = some (.slice b1 m1 d1)) (exact pSn)
    (first
    | (go_at_call 86; (first
      | (refine (natSaid.of 1 _ (by omega)).mono ?_; rintro e wp1 ⟨a3, n3, c3, rfl, h3, b⟩; replace HB := Lib.hid (below_then HB.out b); replace HX := Lib.hid (blk_later HX.out b); replace T1 := Lib.hid (T1.out.later b); have R3 := Lib.hid h3; have ln3 := h3.len; clear h3; clear b; clear pSn; have pSn := fcells_3 HX.out; have pM1 := True.intro)))
    | (go_at_call 117; (first
      | (have pm1 := pM1; refine (natSaid.cmp b1 m1 d1 _ a3 n3 c3 _ _ T1.out R3.out (by omega) (by omega)).mono ?_; rintro e wp2 ⟨rfl, b⟩; replace HB := Lib.hid (below_then HB.out b); replace HX := Lib.hid (blk_later HX.out b); replace T1 := Lib.hid (T1.out.later b); clear R3; rw [HCC.out]; clear b; clear pSn; have pSn := fcells_3 HX.out; clear pM1 pm1; have pM2 := True.intro))))
  cases d with
  | true =>
    have HF : Hid (ftxt q = ztxt q.num) := Lib.hid (by unfold ftxt; rw [if_pos (of_decide_eq_true HD.out.symm), List.append_nil])
    go_wp2
    go_ret
    exact ⟨by rw [HF.out]; rfl, HB.out⟩
  | false =>
    have HF : Hid (bs (ztxt q.num) ++ bs [47] ++ bs (txt q.den) = bs (ftxt q)) := Lib.hid (by rw [bs_append, bs_append]; unfold ftxt; rw [if_neg (of_decide_eq_false HD.out.symm), List.append_assoc]; rfl)
    obtain ⟨k0, k1, k2⟩ := fcells_3 HX.out
    go_wp2_with fail
    refine (digits_text b1 m1 d1 _ _ T1.out (by omega) (Lib.hid (hT.out.later HB.out))).mono ?_
    rintro e w9 ⟨rfl, b9⟩
    rw [HV.out]
    go_wp2
    go_ret
    exact ⟨by rw [← HF.out]; rfl, below_then HB.out b9⟩
end Go.Proofs.YtjeigdlhjghinaaGreatDoor

/-
  Plain mathematics: what looking for a / or a point in any bytes tells, however the bytes are read as letters. Nothing of the program.
-/
namespace Go.Proofs.YtjeigdlhjghinaaGreatDoor

/-- The place of the first / or point, or -1. -/
def cutI (l : List UInt8) : Int := if cutAt l < l.length then (cutAt l : Int) else -1
theorem cutI_here {l : List UInt8} (h : cutAt l < l.length) : cutI l = (cutAt l : Int) := if_pos h
theorem cutI_none {l : List UInt8} (h : cutAt l = l.length) : cutI l = -1 := if_neg (by omega)
/-- What lies behind a letter's first byte is none of the two. -/
theorem decode_wide (s : ByteArray) (pos j : Nat) (h : pos < s.size) (ha : 128 ≤ (s[pos]'h).toNat) (h1 : 1 ≤ j) (hj : j < (Utf8.decode s pos).2) : pos + j < s.size ∧ 128 ≤ (s.get! (pos + j)).toNat := by
  have hn : ¬ (s[pos]'h).toNat < 128 := by omega
  simp only [Utf8.decode, get_at s pos h, hn, if_false] at hj
  split at hj
  · rename_i h2
    simp only [Bool.and_eq_true, decide_eq_true_eq, beq_iff_eq] at h2
    split at hj
    · obtain rfl : j = 1 := by simp only at hj; omega
      omega
    · simp only at hj; omega
  · split at hj
    · rename_i h2
      simp only [Bool.and_eq_true, decide_eq_true_eq, beq_iff_eq] at h2
      split at hj
      · simp only at hj
        rcases (show j = 1 ∨ j = 2 by omega) with rfl | rfl <;> omega
      · simp only at hj; omega
    · split at hj
      · rename_i h2
        simp only [Bool.and_eq_true, decide_eq_true_eq, beq_iff_eq] at h2
        split at hj
        · simp only at hj
          rcases (show j = 1 ∨ j = 2 ∨ j = 3 by omega) with rfl | rfl | rfl <;> omega
        · simp only at hj; omega
      · simp only at hj; omega
theorem bs_get! (l : List UInt8) (k : Nat) (h : k < l.length) : ((bs l).get! k).toNat = (l.getD k 0).toNat := by
  have h' : k < (bs l).size := by rw [bs_size]; exact h
  rw [show (bs l).get! k = (bs l)[k]'h' from get_at (bs l) k h']
  exact bs_get l k h h'
/-- A letter that isn't plain leads over none of the two. -/
theorem cutAt_letter {l : List UInt8} {k : Nat} (hk : k ≤ cutAt l) (hl : k < l.length) (hx : 128 ≤ (l.getD k 0).toNat) : k + (Utf8.decode (bs l) k).2 ≤ cutAt l := by
  have hs := bs_size l
  have h' : k < (bs l).size := by rw [hs]; exact hl
  have hget := bs_get l k hl h'
  have ha : 128 ≤ ((bs l)[k]'h').toNat := by rw [hget]; exact hx
  have key : ∀ j, j ≤ (Utf8.decode (bs l) k).2 → k + j ≤ cutAt l := by
    intro j
    induction j with
    | zero => intro _; omega
    | succ j ih =>
      intro hj
      have h1 := ih (by omega)
      by_cases h0 : j = 0
      · subst h0
        exact cutAt_more hk hl (by omega)
      · obtain ⟨h2, h3⟩ := decode_wide (bs l) k j h' ha (by omega) (by omega)
        rw [hs] at h2
        rw [bs_get! l _ h2] at h3
        have h4 := cutAt_more (l := l) (k := k + j) h1 h2 (by omega)
        omega
  exact key _ (Nat.le_refl _)
theorem cutAt_plain {l : List UInt8} {k : Nat} (hk : k ≤ cutAt l) (hl : k < l.length) (hx : (l.getD k 0).toNat < 128) (hn : ¬ ((l.getD k 0).toNat = 47 ∨ (l.getD k 0).toNat = 46)) : k + (Utf8.decode (bs l) k).2 ≤ cutAt l := by
  have h' : k < (bs l).size := by rw [bs_size]; exact hl
  rw [decode_ascii (bs l) k h' (by rw [bs_get l k hl h']; exact hx)]
  exact cutAt_more hk hl hn
theorem decode_pos {l : List UInt8} {k : Nat} (hl : k < l.length) : 1 ≤ (Utf8.decode (bs l) k).2 := by
  have h' : k < (bs l).size := by rw [bs_size]; exact hl
  by_cases ha : ((bs l)[k]'h').toNat < 128
  · rw [decode_ascii (bs l) k h' ha]; exact Nat.le_refl _
  · exact (decode_high (bs l) k h' (by omega)).2
end Go.Proofs.YtjeigdlhjghinaaGreatDoor

/-
  Plain mathematics: how long what a text says is; parts of a text. Nothing of the program.
-/
namespace Go.Proofs.YtjeigdlhjghinaaGreatDoor

theorem bs_take (l : List UInt8) (k : Nat) : (bs l).extract 0 k = bs (l.take k) := by unfold bs; rw [ByteArray.extract_mk]; simp
theorem bs_drop (l : List UInt8) (k : Nat) : (bs l).extract k l.length = bs (l.drop k) := by unfold bs; rw [ByteArray.extract_mk]; simp [List.take_of_length_le]
theorem bs_mid {l : List UInt8} {k : Nat} {x : UInt8} (h : k < l.length) (hx : l.getD k 0 = x) : (bs l).extract k (k + 1) = bs [x] := by
  unfold bs
  rw [ByteArray.extract_mk]
  try simp only [List.extract_toArray, List.extract_eq_drop_take]
  rw [show k + 1 - k = 1 by omega, List.drop_eq_getElem_cons h]
  rw [List.getD_eq_getElem?_getD, List.getElem?_eq_getElem h] at hx
  simp only [Option.getD_some] at hx
  rw [hx]; rfl
theorem readV_short {m : List UInt8} (h : wrongI m < 0) : (dg (readV m)).length ≤ 20 ∧ m.length ≤ 60 ∧ alldig m := by
  obtain ⟨h1, h2, h3⟩ := wrongI_none h
  refine ⟨dg_length_le (Nat.lt_of_lt_of_le (readV_lt h1) (Nat.le_trans (Nat.pow_le_pow_right (by decide) h3) ?_)), h3, h1⟩
  exact Nat.le_trans (show 10 ^ 60 ≤ 4294967296 ^ 7 by decide) (Nat.pow_le_pow_right (by decide) (by decide))
theorem zread_short {l : List UInt8} (h : zwrong l < 0) : (dg (zread l).natAbs).length ≤ 20 := by
  cases l with
  | nil => rw [zwrong] at h; omega
  | cons x r =>
    rw [zwrong] at h
    rw [zread]
    by_cases hx : x.toNat = 45
    · rw [if_pos hx] at h ⊢
      rw [zval_abs]
      exact (readV_short (by split at h <;> omega)).1
    · rw [if_neg hx] at h ⊢
      rw [zval_abs]
      exact (readV_short h).1
theorem cut_byte : ∀ {l : List UInt8}, cutAt l < l.length → (l.getD (cutAt l) 0).toNat = 47 ∨ (l.getD (cutAt l) 0).toNat = 46
  | [], h => by simp at h
  | x :: r, h => by
    rw [cutAt] at h ⊢
    split
    · rename_i hc; exact hc
    · rename_i hc
      rw [if_neg hc] at h
      have := cut_byte (l := r) (by simpa using h)
      simpa using this
/-- What a text says, way by way. -/
theorem fig_end_bad {l : List UInt8} (h : 0 ≤ zwrong (fhead l)) : figVal l = ((0 : Int) : Rat) ∧ figKind l = 1 ∧ figPlace l = zwrong (fhead l) := by
  unfold figVal figKind figPlace
  rw [if_pos h, if_pos h, if_pos h]
  exact ⟨rfl, rfl, rfl⟩
theorem fig_end_whole {l : List UInt8} (h : zwrong (fhead l) < 0) (hc : cutAt l = l.length) : figVal l = ((zread (fhead l) : Int) : Rat) ∧ figKind l = 0 ∧ figPlace l = 0 := by
  have h0 : ¬ 0 ≤ zwrong (fhead l) := by omega
  unfold figVal figKind figPlace
  rw [if_neg h0, if_neg h0, if_neg h0, if_pos hc, if_pos hc, if_pos hc]
  exact ⟨rfl, rfl, rfl⟩
theorem fig_end_rest {l : List UInt8} (h : zwrong (fhead l) < 0) (hc : cutAt l < l.length) (hr : 0 ≤ wrongI (frest l)) : figVal l = ((0 : Int) : Rat) ∧ figKind l = 1 ∧ figPlace l = ((cutAt l + 1 : Nat) : Int) + wrongI (frest l) := by
  have h0 : ¬ 0 ≤ zwrong (fhead l) := by omega
  have h1 : ¬ cutAt l = l.length := by omega
  unfold figVal figKind figPlace
  rw [if_neg h0, if_neg h0, if_neg h0, if_neg h1, if_neg h1, if_neg h1, if_pos hr, if_pos hr, if_pos hr]
  exact ⟨rfl, rfl, rfl⟩
theorem fig_end_point {l : List UInt8} (h : zwrong (fhead l) < 0) (hc : cutAt l < l.length) (hr : wrongI (frest l) < 0) (hx : fbyte l = 46) : figVal l = mkRat (zval (decide ((l.getD 0 0).toNat = 45)) ((zread (fhead l)).natAbs * 10 ^ (frest l).length + readV (frest l))) (10 ^ (frest l).length) ∧ figKind l = 0 ∧ figPlace l = 0 := by
  have h0 : ¬ 0 ≤ zwrong (fhead l) := by omega
  have h1 : ¬ cutAt l = l.length := by omega
  have h2 : ¬ 0 ≤ wrongI (frest l) := by omega
  have h3 : ¬ (fbyte l ≠ 46 ∧ readV (frest l) = 0) := fun h => h.1 hx
  unfold figVal figKind figPlace
  rw [if_neg h0, if_neg h0, if_neg h0, if_neg h1, if_neg h1, if_neg h1, if_neg h2, if_neg h2, if_neg h2, if_pos hx, if_neg h3, if_neg h3]
  exact ⟨rfl, rfl, rfl⟩
theorem fig_end_none {l : List UInt8} (h : zwrong (fhead l) < 0) (hc : cutAt l < l.length) (hr : wrongI (frest l) < 0) (hx : fbyte l ≠ 46) (hv : readV (frest l) = 0) : figVal l = ((0 : Int) : Rat) ∧ figKind l = 2 ∧ figPlace l = ((cutAt l + 1 : Nat) : Int) := by
  have h0 : ¬ 0 ≤ zwrong (fhead l) := by omega
  have h1 : ¬ cutAt l = l.length := by omega
  have h2 : ¬ 0 ≤ wrongI (frest l) := by omega
  have h3 : fbyte l ≠ 46 ∧ readV (frest l) = 0 := ⟨hx, hv⟩
  unfold figVal figKind figPlace
  rw [if_neg h0, if_neg h0, if_neg h0, if_neg h1, if_neg h1, if_neg h1, if_neg h2, if_neg h2, if_neg h2, if_neg hx, if_pos hv, if_pos h3, if_pos h3]
  exact ⟨rfl, rfl, rfl⟩
theorem fig_end_slash {l : List UInt8} (h : zwrong (fhead l) < 0) (hc : cutAt l < l.length) (hr : wrongI (frest l) < 0) (hx : fbyte l ≠ 46) (hv : readV (frest l) ≠ 0) : figVal l = mkRat (zread (fhead l)) (readV (frest l)) ∧ figKind l = 0 ∧ figPlace l = 0 := by
  have h0 : ¬ 0 ≤ zwrong (fhead l) := by omega
  have h1 : ¬ cutAt l = l.length := by omega
  have h2 : ¬ 0 ≤ wrongI (frest l) := by omega
  have h3 : ¬ (fbyte l ≠ 46 ∧ readV (frest l) = 0) := fun h => hv h.2
  unfold figVal figKind figPlace
  rw [if_neg h0, if_neg h0, if_neg h0, if_neg h1, if_neg h1, if_neg h1, if_neg h2, if_neg h2, if_neg h2, if_neg hx, if_neg hv, if_neg h3, if_neg h3]
  exact ⟨rfl, rfl, rfl⟩
end Go.Proofs.YtjeigdlhjghinaaGreatDoor

/-
  What strings.Repeat makes of a nought, and what strings.HasPrefix tells: the library's own text, walked.
-/
namespace Go.Proofs.YtjeigdlhjghinaaGreatDoor
open Go.RowKit

def pre_lays_ren : Go.Shelf.Ren := ⟨fun | 99 => 109 | 206 => 152 | n => n, fun | 3 => 3 | 4 => 4 | 9 => 9 | n => n, fun | n => n⟩
theorem pre_lays : Go.Proofs.Lays.n99 Tryz.prog pre_lays_ren := {
  mixed := by kernel_rfl
  f99 := Tryz.func109.trans (congrArg some (by kernel_rfl))
  f206 := Tryz.func152.trans (congrArg some (by kernel_rfl))
  t3 := Tryz.underlying3
  a3 := Tryz.isAgg3
  z3 := Tryz.sizeOf3
  v3 := Tryz.zeroValue3
  t4 := Tryz.underlying4
  a4 := Tryz.isAgg4
  z4 := Tryz.sizeOf4
  v4 := Tryz.zeroValue4
  t9 := Tryz.underlying9
  a9 := Tryz.isAgg9
  z9 := Tryz.sizeOf9
  v9 := Tryz.zeroValue9 }
theorem fig_HasPrefix (l p : List UInt8) (b : Bool) (w : World) (h : Lib.hasPrefix l p = b) : Calls Tryz.prog 109 #[.string (bs l), .string (bs p)] w (fun e w' => e = .returned (.bool b) ∧ w = w') := by
  refine (Any.strings_HasPrefix pre_lays (bs l) (bs p) w).mono fun e w' ⟨he, hw⟩ => ⟨?_, hw.symm⟩
  rw [he, ← h]; rfl
theorem fig_minus (l : List UInt8) (w : World) : Calls Tryz.prog 109 #[.string (bs l), .string (bs [45])] w (fun e w' => e = .returned (.bool (minusAhead l)) ∧ w = w') := by
  refine fig_HasPrefix l [45] (minusAhead l) w ?_
  cases l with
  | nil => rfl
  | cons x r =>
    show Lib.hasPrefix (x :: r) [45] = decide (x.toNat = 45)
    by_cases h : x.toNat = 45
    · rw [show x = 45 from UInt8.toNat_inj.1 h]
      simp [Lib.hasPrefix]
    · rw [decide_eq_false h]
      have hx : ¬ x = 45 := fun e => h (by rw [e]; rfl)
      show ((45 : UInt8) == x && ([] : List UInt8).isPrefixOf r) = false
      rw [beq_eq_false_iff_ne.2 (fun e => hx e.symm)]; rfl
end Go.Proofs.YtjeigdlhjghinaaGreatDoor

/-
  The contract of package prod (layer 4) at this seat: Pow.
-/
namespace Go.Proofs.YtjeigdlhjghinaaGreatDoor
open Go.RowKit

theorem ret_pow {v : Nat} {e : Int} {a : Option Addr} {n cap : Nat} {l : List Nat} {b : Bool} {w w' : World} (h1 : l = powL v e) (h2 : b = powB v e) (h : Wd w' a n cap l) (hB : Below w.heap.size w w') :
    Lst2 (powL v e) (.bool (powB v e)) w (.returned (.tuple #[.slice a n cap, .bool b])) w' := by subst h1 h2; exact ⟨_, _, _, rfl, h, hB⟩
theorem and_bit (i : Nat) (hi : i < 9223372036854775808) : bits BinOp.and IntKind.i64 (i : Int) 1 = ((i % 2 : Nat) : Int) := by
  have h1 : (BitVec.ofInt 64 (i : Int)).toNat = i := by rw [BitVec.ofInt_natCast, BitVec.toNat_ofNat]; exact Nat.mod_eq_of_lt (by omega)
  show IntKind.i64.wrap ((BitVec.ofInt 64 (i : Int) &&& BitVec.ofInt 64 1).toNat : Int) = _
  rw [BitVec.toNat_and, h1, show (BitVec.ofInt 64 1).toNat = 1 from rfl, Nat.and_one_is_mod]
  simp [IntKind.wrap, IntKind.signed, IntKind.bits]
  omega
theorem prod_pow_neg (a : Option Addr) (n cap : Nat) (l : List Nat) (e : Int) (w : World) (h : Wd w a n cap l) (hn : n ≤ 1000000) (he : e < 0) :
    Calls Tryz.prog 151 #[.slice a n cap, .int .i64 e] w (Lst2 (powL (val l) e) (.bool (powB (val l) e)) w) := by
  have Hb := Lib.hid (powB_neg (v := val l) he)
  have Hl := Lib.hid (powL_no Hb.out)
  have H := Lib.hid h
  clear h
  go_enter Tryz.func151, Tryz.ntmps151
  go_wp2_with fail
  refine (twos_len _ _ _ _ _ H.out (by omega)).mono ?_
  rintro e1 w' ⟨rfl, rfl⟩
  generalize blen (val l) = L at *
  go_wp2
  go_ret2
  exact ret_pow Hl.out.symm Hb.out.symm (Wd.ofNil _) (Below.refl _ _)
theorem prod_pow_long (a : Option Addr) (n cap : Nat) (l : List Nat) (E : Nat) (w : World) (h : Wd w a n cap l) (hn : n ≤ 1000000) (h2 : 2 ≤ blen (val l)) (hE : 65536 / blen (val l) < E) :
    Calls Tryz.prog 151 #[.slice a n cap, .int .i64 (E : Int)] w (Lst2 (powL (val l) E) (.bool (powB (val l) E)) w) := by
  have Hb := Lib.hid (powB_long (v := val l) (e := (E : Int)) h2 (by omega))
  have Hl := Lib.hid (powL_no Hb.out)
  have H := Lib.hid h
  clear h
  obtain ⟨L, hL⟩ : ∃ L, L = blen (val l) := ⟨_, rfl⟩
  rw [← hL] at h2 hE
  have HL := Lib.hid hL
  obtain ⟨Q, hQ⟩ : ∃ Q : Nat, (65536 : Int) / (L : Int) = (Q : Int) := ⟨65536 / L, by rw [Int.natCast_ediv]; rfl⟩
  have hQE : Q < E := by have h3 : (65536 : Int) / (L : Int) = ((65536 / L : Nat) : Int) := by rw [Int.natCast_ediv]; rfl
                         omega
  have h2i : (2 : Int) ≤ (L : Int) := by omega
  have hQi : (Q : Int) < (E : Int) := by omega
  clear hL hE
  go_enter Tryz.func151, Tryz.ntmps151
  go_wp2_with fail
  refine (twos_len _ _ _ _ _ H.out (by omega)).mono ?_
  rintro e1 w' ⟨rfl, rfl⟩
  rw [← HL.out]
  go_wp2
  go_ret2
  exact ret_pow Hl.out.symm Hb.out.symm (Wd.ofNil _) (Below.refl _ _)
set_option maxRecDepth 4096 in
set_option maxHeartbeats 2000000 in
theorem prod_pow_yes (a : Option Addr) (n cap : Nat) (l : List Nat) (E : Nat) (w : World) (h : Wd w a n cap l) (hn : n ≤ 1000000) (hE : E ≤ 9223372036854775807) (hc : blen (val l) < 2 ∨ E ≤ 65536 / blen (val l)) :
    Calls Tryz.prog 151 #[.slice a n cap, .int .i64 (E : Int)] w (Lst2 (powL (val l) E) (.bool (powB (val l) E)) w) := by
  have Hb := Lib.hid (powB_yes hc)
  have Hl := Lib.hid (powL_yes Hb.out)
  have Hroom : Hid (∀ e, e ≤ E → (dg (val l ^ e)).length ≤ 2049) := Lib.hid (fun e he => pow_room rfl hc he)
  have H := Lib.hid h
  clear h
  obtain ⟨L, hL⟩ : ∃ L, L = blen (val l) := ⟨_, rfl⟩
  rw [← hL] at hc
  have HL := Lib.hid hL
  obtain ⟨Q, hQ⟩ : ∃ Q : Nat, (65536 : Int) / (L : Int) = (Q : Int) := ⟨65536 / L, by rw [Int.natCast_ediv]; rfl⟩
  have HQ : Hid (Q = 65536 / L) := Lib.hid (by have h3 : (65536 : Int) / (L : Int) = ((65536 / L : Nat) : Int) := by rw [Int.natCast_ediv]; rfl
                                               omega)
  have hT : blen E ≤ 63 := blen_le.2 (by omega)
  have Hlen : Hid ((dg E).length ≤ 2) := Lib.hid (dg_length_le (by omega))
  have hdec : ((L : Int) < 2) ∨ ((2 : Int) ≤ (L : Int) ∧ (E : Int) ≤ (Q : Int)) := by
    by_cases h2 : L < 2
    · exact .inl (by omega)
    · refine .inr ⟨by omega, ?_⟩
      have h3 := hc.resolve_left h2
      rw [← HQ.out] at h3
      omega
  have Hdec := Lib.hid hdec
  clear hL hc hdec
  rcases Hdec.out with hd1 | ⟨hd1, hd2⟩
  all_goals (
    clear Hdec
    go_enter Tryz.func151, Tryz.ntmps151
    go_wp2_with fail
    refine (twos_len _ _ _ _ _ H.out (by omega)).mono ?_
    rintro e1 w' ⟨rfl, rfl⟩
    rw [← HL.out]
    go_wp2_with fail
    refine (natSaid.of 1 _ (by omega)).mono ?_
    rintro e1 w1 ⟨a1, n1, c1, rfl, h1, b1⟩
    go_wp2_with fail
    refine (natSaid.of E _ (by omega)).mono ?_
    rintro e2 w2 ⟨a2, n2, c2, rfl, h2, b2⟩
    have hB2 := below_then b1 b2
    have H1 := Lib.hid (h1.later b2)
    have hn1 : n1 ≤ 2049 := by rw [← h1.len]; exact Hroom.out 0 (Nat.zero_le _)
    have hn2 : n2 ≤ 2 := by rw [← h2.len]; exact Hlen.out
    go_wp2_with fail
    refine (twos_len _ _ _ _ _ h2 (by omega)).mono ?_
    rintro e3 w' ⟨rfl, rfl⟩
    rw [val_dg]
    obtain ⟨T, hT2⟩ : ∃ T, T = blen E := ⟨_, rfl⟩
    rw [← hT2] at hT
    rw [← hT2]
    have HT := Lib.hid hT2
    clear h1 h2 b1 b2 hT2
    go_wp2
    go_loopw [7, 8] (fun s iv wr => ∃ (k n' c' : Nat) (a' : Option Addr), k ≤ T ∧ iv = .int .i64 ((k : Int) - 1) ∧ s = .slice a' n' c' ∧ n' ≤ 2049 ∧ Hid (Wd wr a' n' c' (dg (val l ^ (E / 2 ^ k)))) ∧ Below w.heap.size w wr) (fun _ iv _ => (intOf iv + 1).toNat)
    case atStart => exact ⟨T, n1, c1, a1, by omega, rfl, rfl, hn1, Lib.hid (by rw [HT.out, Nat.div_eq_of_lt (lt_blen E), Nat.pow_zero]; exact H1.out), hB2⟩
    case round =>
      clear H1 hB2
      obtain ⟨k, n', c', a', hk, rfl, rfl, hn', HP, hB⟩ := hrel
      cases k with
      | zero =>
        go_wp2
        go_ret2
        exact ret_pow (by rw [Hl.out, Nat.pow_zero, Nat.div_one]) Hb.out.symm HP.out hB
      | succ k =>
        have e1 : ((k + 1 : Nat) : Int) - 1 = (k : Int) := by omega
        rw [e1]
        clear e1
        obtain ⟨F, hF⟩ : ∃ F : Nat, (E : Int) / 2 ^ k = (F : Int) := ⟨E / 2 ^ k, div_pow_int E k⟩
        have HF : Hid (F = E / 2 ^ k) := Lib.hid (by have := div_pow_int E k; omega)
        have hFE : F ≤ E := by rw [HF.out]; exact Nat.div_le_self _ _
        obtain ⟨B, hB2⟩ : ∃ B : Nat, B = F % 2 := ⟨_, rfl⟩
        have hand : bits BinOp.and IntKind.i64 (F : Int) 1 = (B : Int) := by rw [hB2]; exact and_bit F (by omega)
        have hG : E / 2 ^ (k + 1) + E / 2 ^ (k + 1) ≤ E := by
          have h1 : E / 2 ^ (k + 1) = F / 2 := by rw [HF.out, Nat.pow_succ, Nat.div_div_eq_div_mul]
          omega
        have Hsq : Hid ((dg (val l ^ (E / 2 ^ (k + 1)) * val l ^ (E / 2 ^ (k + 1)))).length ≤ 2049) := Lib.hid (by rw [← Nat.pow_add]; exact Hroom.out _ hG)
        have HP2 : Hid ((dg (val l ^ F)).length ≤ 2049) := Lib.hid (Hroom.out _ hFE)
        have hk63 : k ≤ 62 := by omega
        clear hG
        go_wp2_with fail
        refine (prod_square _ _ _ _ _ HP.out (by omega)).mono ?_
        rintro e4 w4 ⟨a4, n4, c4, rfl, h4, b4⟩
        rw [val_dg] at h4
        have hn4 : n4 ≤ 2049 := by rw [← h4.len]; exact Hsq.out
        have hB4 := below_then hB b4
        by_cases hbit : B = 1
        · have hbi : ((B : Int) == 1) = true := by simp [hbit]
          have Hodd := Lib.hid (pow_odd (v := val l) (E := E) (k := k) (by rw [← HF.out, ← hB2]; exact hbit))
          have H4 := Lib.hid h4
          clear hbit hB2 h4 b4
          go_wp2_with fail
          refine (prod_mul _ _ _ _ _ _ _ _ _ H4.out (H.out.later hB4) (by omega) (by omega)).mono ?_
          rintro e5 w5 ⟨a5, n5, c5, rfl, h5, b5⟩
          rw [val_dg, Hodd.out, ← HF.out] at h5
          have hn5 : n5 ≤ 2049 := by rw [← h5.len]; exact HP2.out
          have H5 : Hid (Wd w5 a5 n5 c5 (dg (val l ^ (E / 2 ^ k)))) := Lib.hid (by rw [← HF.out]; exact h5)
          have hB5 := below_then hB4 b5
          clear h5 b5
          go_wp2
          go_roundw
          case rel => exact ⟨k, n5, c5, a5, by omega, by go_num, rfl, hn5, H5, hB5⟩
          case measure => simp [intOf]
        · have hbi : ((B : Int) == 1) = false := by simp; omega
          have Heven := Lib.hid (pow_even (v := val l) (E := E) (k := k) (by rw [← HF.out]; omega))
          have H4 : Hid (Wd w4 a4 n4 c4 (dg (val l ^ (E / 2 ^ k)))) := Lib.hid (by rw [← Heven.out]; exact h4)
          clear hbit hB2 h4 b4
          go_wp2
          go_roundw
          case rel => exact ⟨k, n4, c4, a4, by omega, by go_num, rfl, hn4, H4, hB4⟩
          case measure => simp [intOf])
theorem prod_pow (a : Option Addr) (n cap : Nat) (l : List Nat) (e : Int) (w : World) (h : Wd w a n cap l) (hn : n ≤ 1000000) (he : e ≤ 9223372036854775807) :
    Calls Tryz.prog 151 #[.slice a n cap, .int .i64 e] w (Lst2 (powL (val l) e) (.bool (powB (val l) e)) w) := by
  rcases Int.lt_or_le e 0 with h0 | h0
  · exact prod_pow_neg a n cap l e w h hn h0
  · obtain ⟨E, rfl⟩ := Int.eq_ofNat_of_zero_le h0
    by_cases hc : blen (val l) < 2 ∨ E ≤ 65536 / blen (val l)
    · exact prod_pow_yes a n cap l E w h hn (by omega) hc
    · exact prod_pow_long a n cap l E w h hn (by omega) (by omega)
end Go.Proofs.YtjeigdlhjghinaaGreatDoor

/-
  Package figure at this seat: power, pointed.
-/
namespace Go.Proofs.YtjeigdlhjghinaaGreatDoor
open Go.RowKit

set_option maxRecDepth 4096 in
set_option maxHeartbeats 4000000 in
theorem figure_power (k : Nat) (w : World) (hk : k ≤ 100) : Calls Tryz.prog 108 #[.int .i64 (k : Int)] w (Lst (dg (10 ^ k)) w) := by
  have HP : Hid (powL (val (dg 10)) (k : Int) = dg (10 ^ k)) := Lib.hid (by
    rw [val_dg, powL_yes (powB_yes (.inr ?_))]
    have h : 65536 / blen 10 = 16384 := by decide
    omega)
  have HT : ∀ w' : World, Calls Tryz.prog 86 #[.int .u64 10] w' (Lst (dg 10) w') := fun w' => natSaid.of 10 w' (by omega)
  have HL : Hid ((dg 10).length ≤ 1) := Lib.hid (dg_length_le (by decide))
  go_enter Tryz.func108, Tryz.ntmps108
  go_wp2_with fail
  refine (HT _).mono ?_
  rintro e w1 ⟨a1, n1, c1, rfl, h1, b1⟩
  have ln1 := h1.len
  have hn1 : n1 ≤ 1 := by rw [← ln1]; exact HL.out
  have H1 := Lib.hid h1
  clear h1 ln1
  go_wp2_with fail
  refine (prod_pow a1 n1 c1 _ (k : Int) _ H1.out (by omega) (by omega)).mono ?_
  rintro e w2 ⟨a2, n2, c2, rfl, h2, b2⟩
  rw [HP.out] at h2
  have H2 := Lib.hid h2
  have HB := Lib.hid (below_then b1 b2)
  clear h2 b1 b2
  generalize powB (val (dg 10)) (k : Int) = s at *
  go_wp2
  go_ret
  exact ⟨a2, n2, c2, rfl, H2.out, HB.out⟩
end Go.Proofs.YtjeigdlhjghinaaGreatDoor

/-
  Plain mathematics: what a fraction is rounded to is away by half a place at most; how many digits that has. Nothing of the program.
-/
namespace Go.Proofs.YtjeigdlhjghinaaGreatDoor

theorem txt_length_ten {n k : Nat} (h : n < 10 ^ k) (hk : 1 ≤ k) : (txt n).length ≤ k := by
  induction k generalizing n with
  | zero => omega
  | succ k ih =>
    by_cases h1 : n < 10
    · rw [txt_small h1]; simp
    · rw [txt_big (by omega), List.length_append]
      have h2 : n / 10 < 10 ^ k := by rw [Nat.pow_succ] at h; omega
      have h3 : 1 ≤ k := by
        cases k with
        | zero => simp at h; omega
        | succ k => omega
      have := ih h2 h3
      simp only [List.length_cons, List.length_nil]
      omega
end Go.Proofs.YtjeigdlhjghinaaGreatDoor

/-
  Plain mathematics: what a fraction is rounded to, reckoned of it as it stands; how long that is. Of no program.
-/
namespace Go.Proofs.YtjeigdlhjghinaaGreatDoor
open Go.RowKit

theorem fig_room {u v N k : Nat} {X Y : Nat} (hu : u < 4294967296 ^ X) (hv : v < 4294967296 ^ Y) (hX : X ≤ N) (hY : Y ≤ N) (hk : k ≤ 60) : u * (10 ^ k * 2) + v < 4294967296 ^ (N + 9) := by
  have h1 : 10 ^ k ≤ 10 ^ 60 := Nat.pow_le_pow_right (by decide) hk
  have h2 : 10 ^ 60 * 2 ≤ 4294967296 ^ 8 := by decide
  have h3 : u < 4294967296 ^ N := Nat.lt_of_lt_of_le hu (Nat.pow_le_pow_right (by decide) hX)
  have h4 : v < 4294967296 ^ N := Nat.lt_of_lt_of_le hv (Nat.pow_le_pow_right (by decide) hY)
  have h5 : u * (10 ^ k * 2) ≤ 4294967296 ^ N * 4294967296 ^ 8 := Nat.mul_le_mul (Nat.le_of_lt h3) (by omega)
  have h6 : 4294967296 ^ N ≤ 4294967296 ^ (N + 8) := Nat.pow_le_pow_right (by decide) (by omega)
  rw [← Nat.pow_add] at h5
  have h7 : 4294967296 ^ (N + 9) = 4294967296 ^ (N + 8) * 4294967296 := by rw [show N + 9 = N + 8 + 1 by omega, Nat.pow_succ]
  generalize 4294967296 ^ (N + 8) = B at *
  generalize u * (10 ^ k * 2) = x at *
  generalize 4294967296 ^ N = A at *
  omega
theorem fig_room_len {u v N k : Nat} {X Y : Nat} (hu : u < 4294967296 ^ X) (hv : v < 4294967296 ^ Y) (hX : X ≤ N) (hY : Y ≤ N) (hk : k ≤ 60) : (dg (u * (10 ^ k * 2) + v)).length ≤ N + 9 := dg_length_le (fig_room hu hv hX hY hk)
end Go.Proofs.YtjeigdlhjghinaaGreatDoor

/-
  Package figure at this seat: nearest, Round.
-/
namespace Go.Proofs.YtjeigdlhjghinaaGreatDoor
open Go.RowKit

theorem fig_add2 (a1 : Option Addr) (n1 c1 : Nat) (l1 : List Nat) (a2 : Option Addr) (n2 c2 : Nat) (l2 : List Nat) (w : World) (g : Nat) (hg : w.heap.size = g) (h1 : Wd w a1 n1 c1 l1) (h2 : Wd w a2 n2 c2 l2) (hn1 : n1 ≤ 10000) (hn2 : n2 ≤ 10000) :
    Calls Tryz.prog 110 #[.slice (some ⟨g, 0, none⟩) 2 2] (w.alloc (.cells #[.slice a1 n1 c1, .slice a2 n2 c2] 37)) (Lst (dg (val l1 + val l2)) w) := by
  subst hg
  have e : vals [l1, l2] = val l1 + val l2 := by simp [vals]
  have q1 := h1.len
  have q2 := h2.len
  refine (natSaid.add _ 2 2 [l1, l2] _ (Wds.lit2 w 37 h1 h2) (by omega) (by simp only [words]; omega)).mono fun _ _ ⟨a', n', c', he, h, hb⟩ => ⟨a', n', c', he, ?_, below_then (below_alloc _ _) hb⟩
  rw [← e]; exact h
end Go.Proofs.YtjeigdlhjghinaaGreatDoor

/-
  What some boxes hold, cell by cell: those of faults, too. Of no program.
-/
namespace Go.Proofs.YtjeigdlhjghinaaGreatDoor
open Go.RowKit

theorem fcells_4 {w : World} {A0 : Nat} {c0_0 c0_1 c0_2 c0_3 : Value} {t0 : TypeId} (h0 : w.heap[A0]? = some (.cells #[c0_0, c0_1, c0_2, c0_3] t0 (0, 0))) : w.cell? ⟨A0, 0, none⟩ = some c0_0 ∧ w.cell? ⟨A0, 1, none⟩ = some c0_1 ∧ w.cell? ⟨A0, 2, none⟩ = some c0_2 ∧ w.cell? ⟨A0, 3, none⟩ = some c0_3 := ⟨blk_cell h0 0, blk_cell h0 1, blk_cell h0 2, blk_cell h0 3⟩
theorem fcells_2_4 {w : World} {A0 A1 : Nat} {c0_0 c0_1 c1_0 c1_1 c1_2 c1_3 : Value} {t0 t1 : TypeId} (h0 : w.heap[A0]? = some (.cells #[c0_0, c0_1] t0 (0, 0))) (h1 : w.heap[A1]? = some (.cells #[c1_0, c1_1, c1_2, c1_3] t1 (0, 0))) : w.cell? ⟨A0, 0, none⟩ = some c0_0 ∧ w.cell? ⟨A0, 1, none⟩ = some c0_1 ∧ w.cell? ⟨A1, 0, none⟩ = some c1_0 ∧ w.cell? ⟨A1, 1, none⟩ = some c1_1 ∧ w.cell? ⟨A1, 2, none⟩ = some c1_2 ∧ w.cell? ⟨A1, 3, none⟩ = some c1_3 := ⟨blk_cell h0 0, blk_cell h0 1, blk_cell h1 0, blk_cell h1 1, blk_cell h1 2, blk_cell h1 3⟩
theorem fcells_3_4 {w : World} {A0 A1 : Nat} {c0_0 c0_1 c0_2 c1_0 c1_1 c1_2 c1_3 : Value} {t0 t1 : TypeId} (h0 : w.heap[A0]? = some (.cells #[c0_0, c0_1, c0_2] t0 (0, 0))) (h1 : w.heap[A1]? = some (.cells #[c1_0, c1_1, c1_2, c1_3] t1 (0, 0))) : w.cell? ⟨A0, 0, none⟩ = some c0_0 ∧ w.cell? ⟨A0, 1, none⟩ = some c0_1 ∧ w.cell? ⟨A0, 2, none⟩ = some c0_2 ∧ w.cell? ⟨A1, 0, none⟩ = some c1_0 ∧ w.cell? ⟨A1, 1, none⟩ = some c1_1 ∧ w.cell? ⟨A1, 2, none⟩ = some c1_2 ∧ w.cell? ⟨A1, 3, none⟩ = some c1_3 := ⟨blk_cell h0 0, blk_cell h0 1, blk_cell h0 2, blk_cell h1 0, blk_cell h1 1, blk_cell h1 2, blk_cell h1 3⟩
theorem fcells_3_4_2 {w : World} {A0 A1 A2 : Nat} {c0_0 c0_1 c0_2 c1_0 c1_1 c1_2 c1_3 c2_0 c2_1 : Value} {t0 t1 t2 : TypeId} (h0 : w.heap[A0]? = some (.cells #[c0_0, c0_1, c0_2] t0 (0, 0))) (h1 : w.heap[A1]? = some (.cells #[c1_0, c1_1, c1_2, c1_3] t1 (0, 0))) (h2 : w.heap[A2]? = some (.cells #[c2_0, c2_1] t2 (0, 0))) : w.cell? ⟨A0, 0, none⟩ = some c0_0 ∧ w.cell? ⟨A0, 1, none⟩ = some c0_1 ∧ w.cell? ⟨A0, 2, none⟩ = some c0_2 ∧ w.cell? ⟨A1, 0, none⟩ = some c1_0 ∧ w.cell? ⟨A1, 1, none⟩ = some c1_1 ∧ w.cell? ⟨A1, 2, none⟩ = some c1_2 ∧ w.cell? ⟨A1, 3, none⟩ = some c1_3 ∧ w.cell? ⟨A2, 0, none⟩ = some c2_0 ∧ w.cell? ⟨A2, 1, none⟩ = some c2_1 := ⟨blk_cell h0 0, blk_cell h0 1, blk_cell h0 2, blk_cell h1 0, blk_cell h1 1, blk_cell h1 2, blk_cell h1 3, blk_cell h2 0, blk_cell h2 1⟩
theorem fcells_3_4_2_4 {w : World} {A0 A1 A2 A3 : Nat} {c0_0 c0_1 c0_2 c1_0 c1_1 c1_2 c1_3 c2_0 c2_1 c3_0 c3_1 c3_2 c3_3 : Value} {t0 t1 t2 t3 : TypeId} (h0 : w.heap[A0]? = some (.cells #[c0_0, c0_1, c0_2] t0 (0, 0))) (h1 : w.heap[A1]? = some (.cells #[c1_0, c1_1, c1_2, c1_3] t1 (0, 0))) (h2 : w.heap[A2]? = some (.cells #[c2_0, c2_1] t2 (0, 0))) (h3 : w.heap[A3]? = some (.cells #[c3_0, c3_1, c3_2, c3_3] t3 (0, 0))) : w.cell? ⟨A0, 0, none⟩ = some c0_0 ∧ w.cell? ⟨A0, 1, none⟩ = some c0_1 ∧ w.cell? ⟨A0, 2, none⟩ = some c0_2 ∧ w.cell? ⟨A1, 0, none⟩ = some c1_0 ∧ w.cell? ⟨A1, 1, none⟩ = some c1_1 ∧ w.cell? ⟨A1, 2, none⟩ = some c1_2 ∧ w.cell? ⟨A1, 3, none⟩ = some c1_3 ∧ w.cell? ⟨A2, 0, none⟩ = some c2_0 ∧ w.cell? ⟨A2, 1, none⟩ = some c2_1 ∧ w.cell? ⟨A3, 0, none⟩ = some c3_0 ∧ w.cell? ⟨A3, 1, none⟩ = some c3_1 ∧ w.cell? ⟨A3, 2, none⟩ = some c3_2 ∧ w.cell? ⟨A3, 3, none⟩ = some c3_3 := ⟨blk_cell h0 0, blk_cell h0 1, blk_cell h0 2, blk_cell h1 0, blk_cell h1 1, blk_cell h1 2, blk_cell h1 3, blk_cell h2 0, blk_cell h2 1, blk_cell h3 0, blk_cell h3 1, blk_cell h3 2, blk_cell h3 3⟩
theorem fcells_3_4_4 {w : World} {A0 A1 A2 : Nat} {c0_0 c0_1 c0_2 c1_0 c1_1 c1_2 c1_3 c2_0 c2_1 c2_2 c2_3 : Value} {t0 t1 t2 : TypeId} (h0 : w.heap[A0]? = some (.cells #[c0_0, c0_1, c0_2] t0 (0, 0))) (h1 : w.heap[A1]? = some (.cells #[c1_0, c1_1, c1_2, c1_3] t1 (0, 0))) (h2 : w.heap[A2]? = some (.cells #[c2_0, c2_1, c2_2, c2_3] t2 (0, 0))) : w.cell? ⟨A0, 0, none⟩ = some c0_0 ∧ w.cell? ⟨A0, 1, none⟩ = some c0_1 ∧ w.cell? ⟨A0, 2, none⟩ = some c0_2 ∧ w.cell? ⟨A1, 0, none⟩ = some c1_0 ∧ w.cell? ⟨A1, 1, none⟩ = some c1_1 ∧ w.cell? ⟨A1, 2, none⟩ = some c1_2 ∧ w.cell? ⟨A1, 3, none⟩ = some c1_3 ∧ w.cell? ⟨A2, 0, none⟩ = some c2_0 ∧ w.cell? ⟨A2, 1, none⟩ = some c2_1 ∧ w.cell? ⟨A2, 2, none⟩ = some c2_2 ∧ w.cell? ⟨A2, 3, none⟩ = some c2_3 := ⟨blk_cell h0 0, blk_cell h0 1, blk_cell h0 2, blk_cell h1 0, blk_cell h1 1, blk_cell h1 2, blk_cell h1 3, blk_cell h2 0, blk_cell h2 1, blk_cell h2 2, blk_cell h2 3⟩
theorem fcells_3_4_2_2 {w : World} {A0 A1 A2 A3 : Nat} {c0_0 c0_1 c0_2 c1_0 c1_1 c1_2 c1_3 c2_0 c2_1 c3_0 c3_1 : Value} {t0 t1 t2 t3 : TypeId} (h0 : w.heap[A0]? = some (.cells #[c0_0, c0_1, c0_2] t0 (0, 0))) (h1 : w.heap[A1]? = some (.cells #[c1_0, c1_1, c1_2, c1_3] t1 (0, 0))) (h2 : w.heap[A2]? = some (.cells #[c2_0, c2_1] t2 (0, 0))) (h3 : w.heap[A3]? = some (.cells #[c3_0, c3_1] t3 (0, 0))) : w.cell? ⟨A0, 0, none⟩ = some c0_0 ∧ w.cell? ⟨A0, 1, none⟩ = some c0_1 ∧ w.cell? ⟨A0, 2, none⟩ = some c0_2 ∧ w.cell? ⟨A1, 0, none⟩ = some c1_0 ∧ w.cell? ⟨A1, 1, none⟩ = some c1_1 ∧ w.cell? ⟨A1, 2, none⟩ = some c1_2 ∧ w.cell? ⟨A1, 3, none⟩ = some c1_3 ∧ w.cell? ⟨A2, 0, none⟩ = some c2_0 ∧ w.cell? ⟨A2, 1, none⟩ = some c2_1 ∧ w.cell? ⟨A3, 0, none⟩ = some c3_0 ∧ w.cell? ⟨A3, 1, none⟩ = some c3_1 := ⟨blk_cell h0 0, blk_cell h0 1, blk_cell h0 2, blk_cell h1 0, blk_cell h1 1, blk_cell h1 2, blk_cell h1 3, blk_cell h2 0, blk_cell h2 1, blk_cell h3 0, blk_cell h3 1⟩
theorem blk_lt {w : World} {g : Nat} {o : Obj} (h : w.heap[g]? = some o) : g < w.heap.size := (Array.getElem?_eq_some_iff.1 h).1
end Go.Proofs.YtjeigdlhjghinaaGreatDoor

/-
  Package figure at this seat: readWhole.
-/
namespace Go.Proofs.YtjeigdlhjghinaaGreatDoor
open Go.RowKit

set_option maxRecDepth 4096 in
set_option maxHeartbeats 4000000 in
theorem figure_readWhole (l : List UInt8) (z kd pl : Int) (w : World) (hR : ∀ w' : World, Calls Tryz.prog 106 #[.string (bs l)] w' (LstZV z (faultV kd 0 0 pl) w')) :
    Calls Tryz.prog 105 #[.string (bs l)] w (LstQV (z : Rat) (faultV kd 0 0 pl) w) := by
  obtain ⟨hx1, hx2⟩ := boxes_at w ((w.alloc (.cells #[.bool false, .slice none 0 0, .slice none 0 0] 41)).alloc (.cells #[.int .i64 0, .int .i64 0, .int .i64 0, .int .i64 0] 69)) #[.bool false, .slice none 0 0, .slice none 0 0] #[.int .i64 0, .int .i64 0, .int .i64 0, .int .i64 0] 41 69 (Below.refl _ _)
  have HR := Lib.hid hx1
  have HF := Lib.hid hx2
  have HB : Hid (Below w.heap.size w ((w.alloc (.cells #[.bool false, .slice none 0 0, .slice none 0 0] 41)).alloc (.cells #[.int .i64 0, .int .i64 0, .int .i64 0, .int .i64 0] 69))) := Lib.hid (below_then (below_alloc _ _) (below_alloc _ _))
  clear hx1 hx2
  have HN1 : Hid (z = (z : Rat).num) := Lib.hid (Rat.num_intCast z).symm
  have HD1 : Hid (1 = (z : Rat).den) := Lib.hid (Rat.den_intCast z).symm
  have HT : ∀ w' : World, Calls Tryz.prog 86 #[.int .u64 1] w' (Lst (dg 1) w') := fun w' => natSaid.of 1 w' (by omega)
  generalize (z : Rat) = q at *
  rw [HN1.out] at hR
  clear HN1
  unfold faultV at hR ⊢
  go_enter Tryz.func105, Tryz.ntmps105
  obtain ⟨vk0, vk1, vk2, vk3, vk4, vk5, vk6⟩ := fcells_3_4 HR.out HF.out
  go_wp2_with fail
  refine (hR _).mono ?_
  rintro e wv1 ⟨a1, n1, c1, rfl, h1, b⟩
  clear vk0 vk1 vk2 vk3 vk4 vk5 vk6
  replace HB := Lib.hid (below_then HB.out b)
  replace HR := Lib.hid (blk_later HR.out b)
  replace HF := Lib.hid (blk_later HF.out b)
  clear b
  have R1 := Lib.hid h1
  clear h1
  unfold whV
  have hlt := blk_lt HF.out
  have HN : Hid ((World.alloc wv1 (.cells #[.bool (zneg q.num), .slice a1 n1 c1] 39)).heap[wv1.heap.size]? = some (.cells #[.bool (zneg q.num), .slice a1 n1 c1] 39 (0, 0))) := Lib.hid (blk_new wv1 _ _)
  replace HB := Lib.hid (below_then HB.out (below_alloc wv1 (.cells #[.bool (zneg q.num), .slice a1 n1 c1] 39)))
  replace HR := Lib.hid (blk_later HR.out (below_alloc wv1 (.cells #[.bool (zneg q.num), .slice a1 n1 c1] 39)))
  replace HF := Lib.hid (blk_later HF.out (below_alloc wv1 (.cells #[.bool (zneg q.num), .slice a1 n1 c1] 39)))
  replace R1 := Lib.hid (R1.out.later (below_alloc wv1 (.cells #[.bool (zneg q.num), .slice a1 n1 c1] 39)))
  have HG : Hid ((World.alloc (wv1.alloc (.cells #[.bool (zneg q.num), .slice a1 n1 c1] 39)) (.cells #[.int .i64 kd, .int .i64 0, .int .i64 0, .int .i64 pl] 69)).heap[wv1.heap.size + 1]? = some (.cells #[.int .i64 kd, .int .i64 0, .int .i64 0, .int .i64 pl] 69 (0, 0))) := Lib.hid (by have h := blk_new (wv1.alloc (.cells #[.bool (zneg q.num), .slice a1 n1 c1] 39)) #[.int .i64 kd, .int .i64 0, .int .i64 0, .int .i64 pl] 69; rw [blk_size] at h; exact h)
  replace HB := Lib.hid (below_then HB.out (below_alloc (wv1.alloc (.cells #[.bool (zneg q.num), .slice a1 n1 c1] 39)) (.cells #[.int .i64 kd, .int .i64 0, .int .i64 0, .int .i64 pl] 69)))
  replace HR := Lib.hid (blk_later HR.out (below_alloc (wv1.alloc (.cells #[.bool (zneg q.num), .slice a1 n1 c1] 39)) (.cells #[.int .i64 kd, .int .i64 0, .int .i64 0, .int .i64 pl] 69)))
  replace HF := Lib.hid (blk_later HF.out (below_alloc (wv1.alloc (.cells #[.bool (zneg q.num), .slice a1 n1 c1] 39)) (.cells #[.int .i64 kd, .int .i64 0, .int .i64 0, .int .i64 pl] 69)))
  replace HN := Lib.hid (blk_later HN.out (below_alloc (wv1.alloc (.cells #[.bool (zneg q.num), .slice a1 n1 c1] 39)) (.cells #[.int .i64 kd, .int .i64 0, .int .i64 0, .int .i64 pl] 69)))
  replace R1 := Lib.hid (R1.out.later (below_alloc (wv1.alloc (.cells #[.bool (zneg q.num), .slice a1 n1 c1] 39)) (.cells #[.int .i64 kd, .int .i64 0, .int .i64 0, .int .i64 pl] 69)))
  go_wp2
  generalize ((wv1.alloc (.cells #[.bool (zneg q.num), .slice a1 n1 c1] 39)).alloc (.cells #[.int .i64 kd, .int .i64 0, .int .i64 0, .int .i64 pl] 69)) = W at *
  replace HB := Lib.hid (below_then HB.out ((Below.refl _ _).drew : Below W.heap.size W W.drew))
  replace HN : Hid (W.drew.heap[wv1.heap.size]? = _) := Lib.hid HN.out
  replace HG : Hid (W.drew.heap[wv1.heap.size + 1]? = _) := Lib.hid HG.out
  replace HR : Hid (W.drew.heap[w.heap.size]? = some (.cells #[.bool false, .slice none 0 0, .slice none 0 0] 41 (0, 0))) := Lib.hid HR.out
  replace HF : Hid (W.drew.heap[w.heap.size + 1]? = some (.cells #[.int .i64 0, .int .i64 0, .int .i64 0, .int .i64 0] 69 (0, 0))) := Lib.hid HF.out
  replace R1 := Lib.hid (R1.out.later ((Below.refl _ _).drew : Below W.heap.size W W.drew))
  have pSn := fcells_2_4 HN.out HG.out
  go_region_held3 (fun w' => w'.cell? ⟨wv1.heap.size, 0, none⟩ = some (.bool (zneg q.num)) ∧ w'.cell? ⟨wv1.heap.size, 1, none⟩ = some (.slice a1 n1 c1) ∧ w'.cell? ⟨wv1.heap.size + 1, 0, none⟩ = some (.int .i64 kd) ∧ w'.cell? ⟨wv1.heap.size + 1, 1, none⟩ = some (.int .i64 0) ∧ w'.cell? ⟨wv1.heap.size + 1, 2, none⟩ = some (.int .i64 0) ∧ w'.cell? ⟨wv1.heap.size + 1, 3, none⟩ = some (.int .i64 pl)) (first | with_reducible exact pSn | with_reducible exact pSb.out | with_reducible exact pSc.out)
    (first
    | (go_at_call 86; (first
      | (refine (HT _).mono ?_; rintro e wp1 ⟨b1, m1, d1, rfl, g1, b⟩; replace HB := Lib.hid (below_then HB.out b); replace HN := Lib.hid (blk_later HN.out b); replace HG := Lib.hid (blk_later HG.out b); replace HR := Lib.hid (blk_later HR.out b); replace HF := Lib.hid (blk_later HF.out b); replace R1 := Lib.hid (R1.out.later b); rw [HD1.out] at g1; have T1 := Lib.hid g1; clear g1; obtain ⟨r0, r1, r2⟩ := fcells_3 HR.out; obtain ⟨s0, s1, s2, s3⟩ := fcells_4 HF.out; have fr0 := blk_free HR.out 0; have fr1 := blk_free HR.out 1; have fr2 := blk_free HR.out 2; have fs0 := blk_free HF.out 0; have fs1 := blk_free HF.out 1; have fs2 := blk_free HF.out 2; have fs3 := blk_free HF.out 3; have pSb := Lib.hid (fcells_2_4 (blk_far3 (g := w.heap.size) HN.out (by omega) (.bool (zneg q.num)) (.slice a1 n1 c1) (.slice b1 m1 d1)) (blk_far3 (g := w.heap.size) HG.out (by omega) (.bool (zneg q.num)) (.slice a1 n1 c1) (.slice b1 m1 d1))); have pSc := Lib.hid (fcells_2_4 (blk_apart4 (g := w.heap.size + 1) (blk_far3 (g := w.heap.size) HN.out (by omega) (.bool (zneg q.num)) (.slice a1 n1 c1) (.slice b1 m1 d1)) (by omega) (.int .i64 kd) (.int .i64 0) (.int .i64 0) (.int .i64 pl)) (blk_apart4 (g := w.heap.size + 1) (blk_far3 (g := w.heap.size) HG.out (by omega) (.bool (zneg q.num)) (.slice a1 n1 c1) (.slice b1 m1 d1)) (by omega) (.int .i64 kd) (.int .i64 0) (.int .i64 0) (.int .i64 pl))); clear b; clear pSn; have pSn := fcells_2_4 HN.out HG.out; have pM1 := True.intro))))
  have HN2 := Lib.hid (blk_far3 HF.out (show w.heap.size + 1 ≠ w.heap.size by omega) (.bool (zneg q.num)) (.slice a1 n1 c1) (.slice b1 m1 d1))
  have HG1 := Lib.hid (blk_apart4 (blk_set3 HR.out (.bool (zneg q.num)) (.slice a1 n1 c1) (.slice b1 m1 d1)) (show w.heap.size ≠ w.heap.size + 1 by omega) (.int .i64 kd) (.int .i64 0) (.int .i64 0) (.int .i64 pl))
  have HG2 := Lib.hid (blk_set4 HN2.out (.int .i64 kd) (.int .i64 0) (.int .i64 0) (.int .i64 pl))
  have HBz := Lib.hid (below_set4 (below_set3 HB.out (show w.heap.size ≤ w.heap.size from Nat.le_refl _) (.bool (zneg q.num)) (.slice a1 n1 c1) (.slice b1 m1 d1)) (show w.heap.size ≤ w.heap.size + 1 by omega) (.int .i64 kd) (.int .i64 0) (.int .i64 0) (.int .i64 pl))
  have HL1 := Lib.hid ((R1.out.stored3 HR.out (zneg q.num) a1 n1 c1 (.slice b1 m1 d1)).stored4 HN2.out kd 0 0 pl)
  have HL2 := Lib.hid ((T1.out.stored3 HR.out (zneg q.num) a1 n1 c1 (.slice b1 m1 d1)).stored4 HN2.out kd 0 0 pl)
  go_wp2
  refine bodyPost_ret (results_rows2 Tryz.results105 _ _ w.heap.size (w.heap.size + 1) 41 69 #[.bool (zneg q.num), .slice a1 n1 c1, .slice b1 m1 d1] #[.int .i64 kd, .int .i64 0, .int .i64 0, .int .i64 pl] (0, 0) (0, 0) _ _ rfl HG1.out Tryz.underlying41 rfl (by kernel_rfl) rfl HG2.out Tryz.underlying69 rfl (by kernel_rfl)) rfl ?_
  exact ⟨a1, n1, c1, b1, m1, d1, rfl, HL1.out, HL2.out, HBz.out⟩
end Go.Proofs.YtjeigdlhjghinaaGreatDoor
