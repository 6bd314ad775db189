/-
  Several texts of this claim as one, group 8.
-/
import Derived.Test.YtiblojmdgjnfbaaDoorG7
import Derived.Test.YtiblojmdgjnfbaaDoorG6
import Derived.Test.YtiblojmdgjnfbaaDoorG5
import Derived.Test.YtiblojmdgjnfbaaDoorG4
import Derived.Test.YtiblojmdgjnfbaaDoorG3
import Derived.BigRegion
import Derived.BigQuiet
import Derived.Deep.QuietTactic
import Derived.Deep.DeepMust
/-
  The contracts of the document's answer for layer 7: ten, Text, Wrong, Read, Trim.
-/
namespace Go.Proofs.YtiblojmdgjnfbaaDoor
open Go.RowKit

theorem digit_cut {d : Nat} (h : d < 10) : (({ data := #[48, 49, 50, 51, 52, 53, 54, 55, 56, 57] } : ByteArray).extract d (d + 1)) = bs [dig d] := by
  match d, h with
  | 0, _ => decide
  | 1, _ => decide
  | 2, _ => decide
  | 3, _ => decide
  | 4, _ => decide
  | 5, _ => decide
  | 6, _ => decide
  | 7, _ => decide
  | 8, _ => decide
  | 9, _ => decide
def TenPost (base g n cap v : Nat) (w : World) (e : Ending) (w' : World) : Prop :=
  ∃ Q : List Nat, e = .returned (.int .u64 ((v % 10 : Nat) : Int)) ∧ Hid (Own w' base g n cap Q) ∧ w.grownBy w' (some g) ∧ Hid (val Q = v / 10)
set_option maxRecDepth 4096 in
set_option maxHeartbeats 2000000 in
theorem ref07_ten (base : Nat) (w : World) (g n cap : Nat) (L : List Nat) (hO : Own w base g n cap L) (hn : n ≤ 2000000) :
    Calls Tryd.prog 77 #[.slice (some ⟨g, 0, none⟩) n cap] w (TenPost base g n cap (val L) w) := by
  have HO1 := Lib.hid hO
  have HLo := Lib.hid hO.2
  have HLl := Lib.hid hO.len
  clear hO
  go_enter Tryd.func77, Tryd.ntmps77
  go_wp2
  go_loopw [3, 4] (fun rv iv wr => ∃ (k r : Nat) (Q : List Nat), k ≤ n ∧ iv = .int .i64 ((k : Int) - 1) ∧ rv = .int .u64 (r : Int) ∧ r < 10 ∧ Hid (WordAt 10 L Q k r) ∧ Hid (Own wr base g n cap Q) ∧ w.grownBy wr (some g)) (fun _ iv _ => (intOf iv + 1).toNat)
  case atStart => exact ⟨n, 0, L, by omega, by go_num, rfl, by omega, Lib.hid ⟨by rw [top_ge (by rw [HLl.out]; omega)], by omega, fun j _ => rfl, rfl⟩, HO1, grown_refl _ _⟩
  case round =>
    obtain ⟨k, r, Q, hk, rfl, rfl, hr, HW, HO, hG⟩ := hrel
    cases k with
    | zero =>
      have Hq : Hid (val Q = val L / 10) := Lib.hid (word_end HW.out rfl).1
      have Hr : Hid (r = val L % 10) := Lib.hid (word_end HW.out rfl).2
      go_wp2
      go_ret
      exact ⟨Q, by rw [← Hr.out]; rfl, HO, hG, Hq⟩
    | succ k =>
      have e1 : ((k + 1 : Nat) : Int) - 1 = (k : Int) := by omega
      rw [e1]
      clear e1
      have hcell := HO.out.cell (k := k) (by omega)
      rw [HW.out.2.2.1 k (by omega)] at hcell
      have hfro := HO.out.1.frozenAt k
      have huw := atw_lt HLo.out k
      obtain ⟨u, huu⟩ : ∃ u, u = atw L k := ⟨_, rfl⟩
      rw [← huu] at huw hcell
      have Hu := Lib.hid huu
      obtain ⟨t, ht⟩ : ∃ t : Nat, (r : Int) * 4294967296 + (u : Int) = (t : Int) := ⟨r * 4294967296 + u, by omega⟩
      have Ht : Hid (t = r * 4294967296 + u) := Lib.hid (by omega)
      have htw : t < 42949672960 := by omega
      obtain ⟨q, hq⟩ : ∃ q : Nat, (t : Int) / 10 = (q : Int) := ⟨t / 10, by omega⟩
      obtain ⟨s, hs⟩ : ∃ s : Nat, (t : Int) % 10 = (s : Int) := ⟨t % 10, by omega⟩
      have Hqs : Hid (q = t / 10 ∧ s = t % 10) := Lib.hid (by omega)
      have hqw : q < 4294967296 := by omega
      have hsx : s < 10 := by omega
      have hki : (k : Int) < (n : Int) := by omega
      have HOs := Lib.hid (HO.out.set k q hqw)
      have hGs := Lib.hid (grown_then hG (grown_cell _ g k (.int .u32 (q : Int))))
      have HW2 : Hid (WordAt 10 L (Q.set k q) k s) := Lib.hid (by
        have h1 := word_down HW.out (by omega) (by rw [HO.out.len]; omega)
        rwa [← Hu.out, ← Ht.out, ← Hqs.out.1, ← Hqs.out.2] at h1)
      clear huu
      go_wp2
      go_roundw
      case rel => exact ⟨k, s, Q.set k q, by omega, by go_num, by rw [hs], hsx, HW2, HOs, hGs.out⟩
      case measure => simp [intOf]
theorem ref07_ten_empty (a : Option Addr) (cap : Nat) (w : World) : Calls Tryd.prog 77 #[.slice a 0 cap] w fun e w' => e = .returned (.int .u64 0) ∧ w = w' := by
  go_enter Tryd.func77, Tryd.ntmps77
  go_wp2
  go_loop [3, 4] (fun rv iv => rv = .int .u64 0 ∧ iv = .int .i64 (-1)) (fun _ _ => 0)
  case atStart => exact ⟨rfl, rfl⟩
  case round =>
    obtain ⟨rfl, rfl⟩ := hrel
    go_wp2
    go_ret
    exact ⟨rfl, rfl⟩
/-- For the measure of the loop that writes. -/
def textLeft (w : World) (x s : Value) : Nat := heldVal w x + (match s with | .string b => if b.size = 0 then 1 else 0 | _ => 0)
theorem held_own {w : World} {base : Nat} {e : TypeId} {a : Option Addr} {m c v : Nat} (h : w.ownsRow base e 1 (.slice a m c) m (wcells (dg v))) : heldVal w (.slice a m c) = v := by
  rcases h.2 with ⟨e1, h0⟩ | ⟨g, cap', cur, e1, _⟩
  · have h1 := h.1
    rw [wcells_length, h0] at h1
    simp only [Value.slice.injEq] at e1
    obtain ⟨rfl, _, _⟩ := e1
    exact (dg_nil_iff.1 (by omega)).symm
  · simp only [Value.slice.injEq] at e1
    obtain ⟨rfl, _, _⟩ := e1
    rw [(Wd.own h (okw_dg v)).held, val_dg]
set_option maxRecDepth 4096 in
set_option maxHeartbeats 2000000 in
theorem ref07_text (a : Option Addr) (n cap : Nat) (l : List Nat) (w : World) (h : Wd w a n cap l) (hn : n ≤ 100000) :
    Calls Tryd.prog 56 #[.slice a n cap] w (Gives (.string (bs (txt (val l)))) w) := by
  have hl : (dg (val l)).length ≤ n := h.trim_le
  have HT : Hid ((txt (val l)).length ≤ 3200001) := Lib.hid (by
    have h1 := val_lt h.ok
    rw [h.len, pow32] at h1
    have h2 := txt_length_le h1
    omega)
  generalize hv : val l = v0 at *
  go_enter Tryd.func56, Tryd.ntmps56
  go_wp2_with fail
  refine (ref02_norm_own _ _ _ _ _ h (by omega)).mono ?_
  rintro e w1 ⟨a1, n1, c1, rfl, h1, hB1⟩
  rw [hv] at h1
  have H1 := Lib.hid h1
  clear h h1 hv
  go_wp2
  go_loopw [3, 4] (fun xv sv wr => ∃ (a : Option Addr) (m c v : Nat) (s : List UInt8), xv = .slice a m c ∧ sv = .string (bs s) ∧ m ≤ 100000 ∧ Hid (wr.ownsRow w.heap.size 72 1 (.slice a m c) m (wcells (dg v))) ∧ Hid (TextAt v0 v s) ∧ Below w.heap.size w wr) (fun xv sv wr => textLeft wr xv sv)
  case atStart => exact ⟨a1, n1, c1, v0, [], rfl, rfl, by have h2 := H1.out.1; rw [wcells_length] at h2; omega, H1, Lib.hid (text_start v0), hB1⟩
  case round =>
    clear H1 hB1 hl
    obtain ⟨a, m, c, v, s, rfl, rfl, hm, HO, HA, hB⟩ := hrel
    have hlen : Hid ((dg v).length = m) := Lib.hid (by have h2 := HO.out.1; rw [wcells_length] at h2; omega)
    have hsl : s.length ≤ 3200001 := Nat.le_trans (text_length HA.out) HT.out
    have Hm0 := Lib.hid (held_own HO.out)
    by_cases hz : m = 0
    · subst hz
      obtain rfl : v = 0 := dg_nil_iff.1 hlen.out
      cases s with
      | nil =>
        have HA2 : Hid (TextAt v0 0 [dig 0]) := Lib.hid (text_step HA.out (.inr rfl))
        have hcut := digit_cut (d := 0) (by omega)
        have hs1 := bs_size [dig 0]
        have hs2 := bs_size []
        have hs3 := bs_append [dig 0] []
        have HW := Lib.hid (Wd.own HO.out (okw_dg 0))
        have hem : (bs []).toList.isEmpty = true := by rw [bs_list]; rfl
        simp only [List.length_cons, List.length_nil, List.append_nil] at hs1 hs2 hs3
        clear HO HA
        go_wp2_with fail
        refine (ref07_ten_empty _ _ _).mono ?_
        rintro e w' ⟨rfl, rfl⟩
        go_wp2_with fail
        refine (ref02_norm_own _ _ _ _ _ HW.out (by omega)).mono ?_
        rintro e w4 ⟨a4, m4, c4, rfl, h4, b4⟩
        rw [val_dg] at h4
        have hm4 : m4 ≤ 0 := by
          have h5 := h4.1
          rw [wcells_length, dg_zero] at h5
          simp at h5
          omega
        have HO4 := Lib.hid (ownsRow_lower (base' := w.heap.size) h4 hB.size)
        have hB4 := Lib.hid (below_then hB b4)
        have Hm4 := Lib.hid (held_own HO4.out)
        clear h4 b4 hcut hs1 hs2 hs3
        go_wp2
        go_roundw
        case rel => exact ⟨a4, m4, c4, 0, [dig 0], rfl, rfl, by omega, HO4, HA2, hB4.out⟩
        case measure =>
          have h8 := Hm0.out
          have h9 := Hm4.out
          show textLeft _ _ _ < textLeft _ _ _
          unfold textLeft
          rw [h8, h9]
          simp [bs_size]
      | cons y s =>
        have Hfin := Lib.hid (text_end HA.out rfl (by simp))
        have hne : (bs (y :: s)).toList.isEmpty = false := by rw [bs_list]; rfl
        clear HO HA Hm0
        go_wp2
        go_ret
        exact ⟨by rw [← Hfin.out]; rfl, hB⟩
    · obtain ⟨g, rfl, hO⟩ := own_block HO.out (okw_dg _) (by omega)
      have HOw := Lib.hid hO
      have hv0 : Hid (v ≠ 0) := Lib.hid (fun h => hz (hlen.out.symm.trans (dg_nil_iff.2 h)))
      have hbase := HOw.out.base
      have hmi : (0 : Int) < (m : Int) := by omega
      clear hO hz
      go_wp2_with fail
      refine (ref07_ten w.heap.size _ g m c _ HOw.out (by omega)).mono ?_
      rintro e w3 ⟨Q, rfl, HQ, hG, HV⟩
      rw [val_dg] at HV ⊢
      obtain ⟨d, hd⟩ : ∃ d, d = v % 10 := ⟨_, rfl⟩
      rw [← hd]
      have hd10 : d < 10 := by omega
      have Hd := Lib.hid hd
      have HA2 := Lib.hid (text_step HA.out (.inl hv0.out))
      rw [← hd] at HA2
      have hcut := digit_cut hd10
      have hs1 := bs_size [dig d]
      have hs2 := bs_size s
      have hs3 := bs_append [dig d] s
      have hB3 := Lib.hid (grown_below hB hG hbase.1)
      have HQw := Lib.hid HQ.out.wd
      simp only [List.length_cons, List.length_nil, List.singleton_append] at hs1 hs3
      clear hd HO HA hG
      go_wp2_with fail
      refine (ref02_norm_own _ _ _ _ _ HQw.out (by omega)).mono ?_
      rintro e w4 ⟨a4, m4, c4, rfl, h4, b4⟩
      rw [HV.out] at h4
      have hm4 : m4 ≤ m := by
        have h5 := h4.1
        rw [wcells_length] at h5
        have h6 := dg_length_mono (show v / 10 ≤ v from Nat.div_le_self _ _)
        have h7 := hlen.out
        omega
      have HO4 := Lib.hid (ownsRow_lower (base' := w.heap.size) h4 hB3.out.size)
      have hB4 := Lib.hid (below_then hB3.out b4)
      have Hm4 := Lib.hid (held_own HO4.out)
      clear h4 b4 hcut hs1 hs2 hs3
      go_wp2
      go_roundw
      case rel => exact ⟨a4, m4, c4, v / 10, dig d :: s, rfl, rfl, by omega, HO4, HA2, hB4.out⟩
      case measure =>
        have h8 := Hm0.out
        have h9 := Hm4.out
        have h10 := hv0.out
        show textLeft _ _ _ < textLeft _ _ _
        unfold textLeft
        rw [h8, h9]
        simp only [bs_size, List.length_cons]
        split <;> split <;> omega
set_option maxRecDepth 4096 in
set_option maxHeartbeats 1000000 in
theorem ref07_wrong (l : List UInt8) (w : World) (hl : l.length ≤ 1000000) :
    Calls Tryd.prog 53 #[.string (bs l)] w fun e w' => e = .returned (.int .i64 (wrongI l)) ∧ w = w' := by
  cases l with
  | nil =>
    have hem : (bs []).toList.isEmpty = true := by rw [bs_list]; rfl
    go_enter Tryd.func53, Tryd.ntmps53
    go_wp2
    go_ret
    exact ⟨rfl, rfl⟩
  | cons y r =>
    have hem : (bs (y :: r)).toList.isEmpty = false := by rw [bs_list]; rfl
    have HW : Hid (wrongI (y :: r) = wrongFrom (y :: r) 0) := Lib.hid rfl
    have hsz := bs_size (y :: r)
    generalize y :: r = L at *
    go_enter Tryd.func53, Tryd.ntmps53
    go_wp2
    go_loop [3] (fun iv => ∃ k : Nat, k ≤ L.length ∧ iv = .int .i64 (k : Int) ∧ Hid (wrongFrom L 0 = wrongFrom (L.drop k) k)) (fun iv => L.length - (intOf iv).toNat)
    case atStart => exact ⟨0, by omega, rfl, Lib.hid rfl⟩
    case round =>
      obtain ⟨k, hk, rfl, Hk⟩ := hrel
      by_cases hlt : k < L.length
      · have hki : (k : Int) < (L.length : Int) := by omega
        have hget := bs_get L k hlt (by rw [bs_size]; exact hlt)
        have Hst : Hid (wrongFrom (L.drop k) k = if (L.getD k 0).toNat < 48 ∨ 57 < (L.getD k 0).toNat ∨ 60 ≤ k then (k : Int) else wrongFrom (L.drop (k + 1)) (k + 1)) := Lib.hid (by
          rw [List.drop_eq_getElem_cons hlt, wrongFrom, List.getD_eq_getElem?_getD, List.getElem?_eq_getElem hlt]; rfl)
        generalize (L.getD k 0).toNat = c at *
        by_cases hbad : c < 48 ∨ 57 < c ∨ 60 ≤ k
        · have Hfin : Hid (wrongI L = (k : Int)) := Lib.hid (by rw [HW.out, Hk.out, Hst.out, if_pos hbad])
          by_cases h1 : c < 48
          · clear hbad
            go_wp2
            go_ret
            exact ⟨ret_i64 Hfin.out.symm, rfl⟩
          · by_cases h2 : 57 < c
            · clear hbad
              go_wp2
              go_ret
              exact ⟨ret_i64 Hfin.out.symm, rfl⟩
            · have h3 : (60 : Int) ≤ (k : Int) := by omega
              clear hbad
              go_wp2
              go_ret
              exact ⟨ret_i64 Hfin.out.symm, rfl⟩
        · have Hnx : Hid (wrongFrom L 0 = wrongFrom (L.drop (k + 1)) (k + 1)) := Lib.hid (by rw [Hk.out, Hst.out, if_neg hbad])
          have h1 : ¬ c < 48 := fun h => hbad (.inl h)
          have h2 : ¬ 57 < c := fun h => hbad (.inr (.inl h))
          have h3 : (k : Int) < 60 := by omega
          clear hbad
          go_wp2
          go_round
          case rel => exact ⟨k + 1, by omega, by go_num, Hnx⟩
          case measure => simp [intOf]; omega
      · have Hfin : Hid (wrongI L = -1) := Lib.hid (by rw [HW.out, Hk.out, List.drop_of_length_le (by omega)]; rfl)
        have hki : ¬ ((k : Int) < (L.length : Int)) := by omega
        go_wp2
        go_ret
        exact ⟨ret_i64 Hfin.out.symm, rfl⟩
end Go.Proofs.YtiblojmdgjnfbaaDoor

/-
  The contracts of the document's answer for layer 8: Text.
-/
namespace Go.Proofs.YtiblojmdgjnfbaaDoor
open Go.RowKit

/-- A whole number as a text. -/
def ztxt (z : Int) : List UInt8 := if z < 0 then 45 :: txt z.natAbs else txt z.natAbs
theorem sgn_neg {z : Int} (h : z < 0) : sgn z = -1 := by unfold sgn; rw [if_neg (by omega), if_pos h]
theorem sgn_not {z : Int} (h : ¬ z < 0) : ¬ sgn z < 0 := by unfold sgn; split <;> (try split) <;> omega
theorem ref08_text (neg : Bool) (a : Option Addr) (n cap : Nat) (l : List Nat) (w : World) (h : Wd w a n cap l) (hn : n ≤ 100000) :
    Calls Tryd.prog 29 #[whV neg a n cap] w (Gives (.string (bs (ztxt (zval neg (val l))))) w) := by
  have hts : (txt (val l)).length ≤ 3200001 := by
    have h1 := val_lt h.ok
    rw [h.len, pow32] at h1
    have h2 := txt_length_le h1
    omega
  have hs1 := bs_size (txt (val l))
  have hs2 := bs_size [45]
  have hs3 := bs_append [45] (txt (val l))
  have HA : Hid ((zval neg (val l)).natAbs = val l) := Lib.hid (zval_abs _ _)
  have H := Lib.hid h
  clear h
  go_enter Tryd.func29, Tryd.ntmps29
  unfold whV
  go_wp2_with fail
  refine (ref07_text _ _ _ _ _ (H.out.later (below_alloc _ _)) hn).mono ?_
  rintro e w1 ⟨rfl, b1⟩
  have hA := box_at w w1 _ _ b1
  have c0 := blk_cell hA 0
  have c1 := blk_cell hA 1
  simp only [List.getElem?_toArray, List.getElem?_cons_zero, List.getElem?_cons_succ] at c0 c1
  have hB := below_then (below_alloc _ _) b1
  have H1 := Lib.hid (H.out.later hB)
  clear hA b1
  go_wp2_with fail
  refine (ref08_sign neg _ _ _ _ _ H1.out (by omega)).mono ?_
  rintro e w2 ⟨rfl, b2⟩
  have hB2 := below_then hB b2
  clear b2 c0 c1
  generalize zval neg (val l) = z at *
  by_cases hlt : z < 0
  · have HF : Hid (ztxt z = [45] ++ txt (val l)) := Lib.hid (by unfold ztxt; rw [if_pos hlt, HA.out]; rfl)
    rw [sgn_neg hlt]
    clear hlt
    simp only [List.length_cons, List.length_nil] at hs2
    go_wp2
    go_ret
    exact ⟨by rw [HF.out, ← hs3]; rfl, hB2⟩
  · have HF : Hid (ztxt z = txt (val l)) := Lib.hid (by unfold ztxt; rw [if_neg hlt, HA.out])
    have hsn := sgn_not hlt
    clear hlt
    generalize sgn z = s at *
    go_wp2
    go_ret
    exact ⟨by rw [HF.out]; rfl, hB2⟩
end Go.Proofs.YtiblojmdgjnfbaaDoor

/-
  Plain mathematics: whole numbers; the quotient that is rounded down; the machine's numbers; what a text says. Nothing of the program.
-/
namespace Go.Proofs.YtiblojmdgjnfbaaDoor

/-- Whether a whole number is one of the machine's; that one, or 0. -/
def isInt (z : Int) : Prop := -9223372036854775808 ≤ z ∧ z ≤ 9223372036854775807
instance (z : Int) : Decidable (isInt z) := by unfold isInt; infer_instance
def intV (z : Int) : Int := if isInt z then z else 0
theorem intV_of {z : Int} (h : isInt z) : intV z = z := if_pos h
theorem intV_no {z : Int} (h : ¬ isInt z) : intV z = 0 := if_neg h
/-- The place at which a text is no whole number (below 0: it is one), and the one that it is. -/
def zwrong : List UInt8 → Int
  | [] => 0
  | x :: r => if x.toNat = 45 then (if wrongI r < 0 then -1 else 1 + wrongI r) else wrongI (x :: r)
def zread : List UInt8 → Int
  | [] => 0
  | x :: r => if x.toNat = 45 then zval true (readV r) else zval false (readV (x :: r))
theorem zval_false (v : Nat) : zval false v = (v : Int) := rfl
theorem zval_true (v : Nat) : zval true v = -(v : Int) := rfl
theorem zlen_neg (y : Int) : (dg (-y).natAbs).length = (dg y.natAbs).length := by rw [Int.natAbs_neg]
theorem zlen_add (x y : Int) : (dg (x + y).natAbs).length ≤ (dg x.natAbs).length + (dg y.natAbs).length + 1 := Nat.le_trans (dg_length_mono (Int.natAbs_add_le x y)) (dg_add_length _ _)
theorem zlen_sub (x y : Int) : (dg (x - y).natAbs).length ≤ (dg x.natAbs).length + (dg y.natAbs).length + 1 := by rw [Int.sub_eq_add_neg, ← zlen_neg y]; exact zlen_add x (-y)
theorem zlen_mul (x y : Int) : (dg (x * y).natAbs).length ≤ (dg x.natAbs).length + (dg y.natAbs).length := by rw [Int.natAbs_mul]; exact dg_mul_length _ _
/-- The quotient of two numbers without a sign, one more where both signs are not alike and something is left: it is the one that is rounded down. -/
theorem floor_unique {z y q r : Int} (h : q * y + r = z) (hs : (0 < y ∧ 0 ≤ r ∧ r < y) ∨ (y < 0 ∧ y < r ∧ r ≤ 0)) : q = Int.fdiv z y ∧ r = Int.fmod z y := by
  have key : r = Int.fmod z y ∧ q = Int.fdiv z y := by
    have e1 := Int.fmod_add_mul_fdiv z y
    have e2 : Int.fmod z y + y * Int.fdiv z y = q * y + r := by rw [e1, h]
    rcases hs with ⟨h1, h2, h3⟩ | ⟨h1, h2, h3⟩
    · have b1 := Int.fmod_nonneg_of_pos z h1
      have b2 := Int.fmod_lt_of_pos z h1
      generalize Int.fmod z y = s at *
      generalize Int.fdiv z y = p at *
      have e3 : y * (p - q) = r - s := by rw [Int.mul_sub, Int.mul_comm y q]; omega
      have e4 : p - q = 0 := by
        rcases Int.lt_trichotomy (p - q) 0 with g | g | g
        · have : y * (p - q) ≤ y * (-1) := Int.mul_le_mul_of_nonneg_left (by omega) (by omega)
          omega
        · exact g
        · have : y * 1 ≤ y * (p - q) := Int.mul_le_mul_of_nonneg_left (by omega) (by omega)
          omega
      rw [e4, Int.mul_zero] at e3
      omega
    · have b : y < Int.fmod z y ∧ Int.fmod z y ≤ 0 := by
        have b1 := Int.fmod_nonneg_of_pos (-z) (show 0 < -y by omega)
        have b2 := Int.fmod_lt_of_pos (-z) (show 0 < -y by omega)
        rw [Int.neg_fmod_neg] at b1 b2
        omega
      obtain ⟨b1, b2⟩ := b
      generalize Int.fmod z y = s at *
      generalize Int.fdiv z y = p at *
      have e3 : y * (p - q) = r - s := by rw [Int.mul_sub, Int.mul_comm y q]; omega
      have e4 : p - q = 0 := by
        rcases Int.lt_trichotomy (p - q) 0 with g | g | g
        · have : (-y) * (p - q) ≤ (-y) * (-1) := Int.mul_le_mul_of_nonneg_left (by omega) (by omega)
          rw [Int.neg_mul, Int.neg_mul] at this
          omega
        · exact g
        · have : (-y) * 1 ≤ (-y) * (p - q) := Int.mul_le_mul_of_nonneg_left (by omega) (by omega)
          rw [Int.neg_mul, Int.neg_mul] at this
          omega
      rw [e4, Int.mul_zero] at e3
      omega
  exact ⟨key.2, key.1⟩
end Go.Proofs.YtiblojmdgjnfbaaDoor

/-
  What package whole's functions owe (layer 8), as one hypothesis: the contracts that the laws' walks lean on. And the document's quotient: it is the one that is rounded down.
-/
namespace Go.Proofs.YtiblojmdgjnfbaaDoor
open Go.RowKit

/-- Two right whole numbers and whether there are any. -/
def LstZZB (q r : Int) (ok : Bool) (w : World) (e : Ending) (w' : World) : Prop :=
  ∃ (a : Option Addr) (n cap : Nat) (b : Option Addr) (m cap' : Nat), e = .returned (.tuple #[whV (zneg q) a n cap, whV (zneg r) b m cap', .bool ok]) ∧ Wd w' a n cap (dg q.natAbs) ∧ Wd w' b m cap' (dg r.natAbs) ∧ Below w.heap.size w w'
/-- A right whole number and one more result. -/
def LstZV (z : Int) (v : Value) (w : World) (e : Ending) (w' : World) : Prop :=
  ∃ (a : Option Addr) (n cap : Nat), e = .returned (.tuple #[whV (zneg z) a n cap, v]) ∧ Wd w' a n cap (dg z.natAbs) ∧ Below w.heap.size w w'
theorem zval_dg (z : Int) : zval (zneg z) (val (dg z.natAbs)) = z := by rw [val_dg, zval_of]
structure WholeSaid : Prop where
  norm : ∀ (neg : Bool) (a : Option Addr) (n cap : Nat) (l : List Nat) (z : Int) (w : World), Wd w a n cap l → n ≤ 1000 → zval neg (val l) = z → Calls Tryd.prog 13 #[whV neg a n cap] w (LstZ z w)
  of : ∀ (z : Int) (w : World), isInt z → Calls Tryd.prog 30 #[.int .i64 z] w (LstZ z w)
  int : ∀ (neg : Bool) (a : Option Addr) (n cap : Nat) (l : List Nat) (z : Int) (w : World), Wd w a n cap l → n ≤ 1000 → zval neg (val l) = z → Calls Tryd.prog 31 #[whV neg a n cap] w (Gives (.tuple #[.int .i64 (intV z), .bool (decide (isInt z))]) w)
  sign : ∀ (neg : Bool) (a : Option Addr) (n cap : Nat) (l : List Nat) (z : Int) (w : World), Wd w a n cap l → n ≤ 1000 → zval neg (val l) = z → Calls Tryd.prog 16 #[whV neg a n cap] w (Gives (.int .i64 (sgn z)) w)
  cmp : ∀ (na : Bool) (a : Option Addr) (n cap : Nat) (la : List Nat) (x : Int) (nb : Bool) (b : Option Addr) (m cap' : Nat) (lb : List Nat) (y : Int) (w : World), Wd w a n cap la → Wd w b m cap' lb → n ≤ 1000 → m ≤ 1000 → zval na (val la) = x → zval nb (val lb) = y →
    Calls Tryd.prog 18 #[whV na a n cap, whV nb b m cap'] w (Gives (.int .i64 (sgn (x - y))) w)
  neg : ∀ (neg : Bool) (a : Option Addr) (n cap : Nat) (l : List Nat) (z : Int) (w : World), Wd w a n cap l → n ≤ 1000 → zval neg (val l) = z → Calls Tryd.prog 19 #[whV neg a n cap] w (LstZ (-z) w)
  add : ∀ (na : Bool) (a : Option Addr) (n cap : Nat) (la : List Nat) (x : Int) (nb : Bool) (b : Option Addr) (m cap' : Nat) (lb : List Nat) (y : Int) (w : World), Wd w a n cap la → Wd w b m cap' lb → n ≤ 1000 → m ≤ 1000 → zval na (val la) = x → zval nb (val lb) = y →
    Calls Tryd.prog 20 #[whV na a n cap, whV nb b m cap'] w (LstZ (x + y) w)
  sub : ∀ (na : Bool) (a : Option Addr) (n cap : Nat) (la : List Nat) (x : Int) (nb : Bool) (b : Option Addr) (m cap' : Nat) (lb : List Nat) (y : Int) (w : World), Wd w a n cap la → Wd w b m cap' lb → n ≤ 1000 → m ≤ 1000 → zval na (val la) = x → zval nb (val lb) = y →
    Calls Tryd.prog 21 #[whV na a n cap, whV nb b m cap'] w (LstZ (x - y) w)
  mul : ∀ (na : Bool) (a : Option Addr) (n cap : Nat) (la : List Nat) (x : Int) (nb : Bool) (b : Option Addr) (m cap' : Nat) (lb : List Nat) (y : Int) (w : World), Wd w a n cap la → Wd w b m cap' lb → n ≤ 1000 → m ≤ 1000 → zval na (val la) = x → zval nb (val lb) = y →
    Calls Tryd.prog 22 #[whV na a n cap, whV nb b m cap'] w (LstZ (x * y) w)
  floor_no : ∀ (na : Bool) (a : Option Addr) (n cap : Nat) (la : List Nat) (x : Int) (nb : Bool) (b : Option Addr) (m cap' : Nat) (lb : List Nat) (y : Int) (w : World), Wd w a n cap la → Wd w b m cap' lb → n ≤ 1000 → m ≤ 1000 → zval na (val la) = x → zval nb (val lb) = y → y = 0 →
    Calls Tryd.prog 24 #[whV na a n cap, whV nb b m cap'] w (LstZZB 0 0 false w)
  floor : ∀ (na : Bool) (a : Option Addr) (n cap : Nat) (la : List Nat) (x : Int) (nb : Bool) (b : Option Addr) (m cap' : Nat) (lb : List Nat) (y : Int) (w : World), Wd w a n cap la → Wd w b m cap' lb → n ≤ 1000 → m ≤ 1000 → zval na (val la) = x → zval nb (val lb) = y → y ≠ 0 →
    Calls Tryd.prog 24 #[whV na a n cap, whV nb b m cap'] w (LstZZB (Int.fdiv x y) (Int.fmod x y) true w)
  text : ∀ (neg : Bool) (a : Option Addr) (n cap : Nat) (l : List Nat) (z : Int) (w : World), Wd w a n cap l → n ≤ 1000 → zval neg (val l) = z → Hid (Dec10 w) → Calls Tryd.prog 28 #[whV neg a n cap] w (Gives (.string (bs (ztxt z))) w)
  read_ok : ∀ (l : List UInt8) (w : World), l.length ≤ 1000 → Hid (zwrong l < 0) → Calls Tryd.prog 26 #[.string (bs l)] w (LstZV (zread l) (faultV 0 0 0 0) w)
  read_no : ∀ (l : List UInt8) (w : World), l.length ≤ 1000 → Hid (0 ≤ zwrong l) → Calls Tryd.prog 26 #[.string (bs l)] w (LstZV 0 (faultV 1 0 0 (zwrong l)) w)
end Go.Proofs.YtiblojmdgjnfbaaDoor

/-
  The contracts of package prod (layer 4) at this seat: Mul, Square.
-/
namespace Go.Proofs.YtiblojmdgjnfbaaDoor
open Go.RowKit

theorem limb_mul_nat4 (x y c d : Nat) (w : World) (hx : x < 4294967296) (hy : y < 4294967296) (hc : c < 4294967296) (hd : d < 4294967296) : Calls Tryd.prog 65 #[.int .u32 (x : Int), .int .u32 (y : Int), .int .u32 (c : Int), .int .u32 (d : Int)] w fun e w' =>
    ∃ z r : Nat, e = .returned (.tuple #[.int .u32 (z : Int), .int .u32 (r : Int)]) ∧ z < 4294967296 ∧ r < 4294967296 ∧ Hid (r + 4294967296 * z = x * y + (c + d)) ∧ w = w' :=
  (limb_mul x y c d w (by omega) (by omega) (by omega) (by omega) (by omega) (by omega) (by omega) (by omega)).mono fun e w' ⟨he, hw⟩ => by
    have h1 : x * y ≤ 4294967295 * 4294967295 := Nat.mul_le_mul (by omega) (by omega)
    have e0 : (x : Int) * (y : Int) = ((x * y : Nat) : Int) := by simp
    rw [e0] at he
    generalize x * y = p at *
    exact ⟨(p + (c + d)) / 4294967296, (p + (c + d)) % 4294967296, by rw [he, show ((p : Int) + c + d) / 4294967296 = (((p + (c + d)) / 4294967296 : Nat) : Int) by omega, show ((p : Int) + c + d) % 4294967296 = (((p + (c + d)) % 4294967296 : Nat) : Int) by omega], by omega, by omega, Lib.hid (by omega), hw⟩
theorem limb_mul_nat3 (x y c : Nat) (w : World) (hx : x < 4294967296) (hy : y < 4294967296) (hc : c < 4294967296) : Calls Tryd.prog 65 #[.int .u32 (x : Int), .int .u32 (y : Int), .int .u32 (c : Int), .int .u32 0] w fun e w' =>
    ∃ z r : Nat, e = .returned (.tuple #[.int .u32 (z : Int), .int .u32 (r : Int)]) ∧ z < 4294967296 ∧ r < 4294967296 ∧ Hid (r + 4294967296 * z = x * y + c) ∧ w = w' :=
  limb_mul_nat4 x y c 0 w hx hy hc (by omega)
set_option maxRecDepth 4096 in
set_option maxHeartbeats 2000000 in
theorem prod_mul (a : Option Addr) (na cap : Nat) (la : List Nat) (b : Option Addr) (nb cap' : Nat) (lb : List Nat) (w0 : World) (ha : Wd w0 a na cap la) (hb : Wd w0 b nb cap' lb) (hna : na ≤ 4000000) (hnb : nb ≤ 4000000) :
    Calls Tryd.prog 45 #[.slice a na cap, .slice b nb cap'] w0 (Lst (dg (val la * val lb)) w0) := by
  obtain ⟨i0, hi, hz0, hz1, hz2⟩ := info_parts infoU32
  have Hb0 := Lib.hid hb
  have Hla : Hid ((dg (val la)).length ≤ na) := Lib.hid (by rw [← ha.len]; exact dg_length_val_le ha.ok)
  have Hlb : Hid ((dg (val lb)).length ≤ nb) := Lib.hid (by rw [← hb.len]; exact dg_length_val_le hb.ok)
  go_enter Tryd.func45, Tryd.ntmps45
  go_wp2_with fail
  refine (natSaid.norm _ _ _ _ _ ha (by omega)).mono ?_
  rintro e w1 ⟨a, n, c1, rfl, h1, b1⟩
  have H1 := Lib.hid h1
  clear ha hb h1
  go_wp2_with fail
  refine (natSaid.norm _ _ _ _ _ (Hb0.out.later b1) (by omega)).mono ?_
  rintro e w ⟨b, m, c2, rfl, h2, b2⟩
  have Ha := Lib.hid (H1.out.later b2)
  have Hb := Lib.hid h2
  have hn : n ≤ 4000000 := by have h1 := H1.out.len; have h2 := Hla.out; omega
  have hm : m ≤ 4000000 := by have h1 := Hb.out.len; have h2 := Hlb.out; omega
  have HB0 := Lib.hid (below_then b1 b2)
  have Hv : Hid (val (dg (val la)) * val (dg (val lb)) = val la * val lb) := Lib.hid (by rw [val_dg, val_dg])
  clear H1 Hb0 h2 b1 b2 Hla Hlb hna hnb
  generalize dg (val la) = A at *
  generalize dg (val lb) = B at *
  obtain ⟨N, hN⟩ : ∃ N : Nat, (n : Int) + (m : Int) = (N : Int) := ⟨n + m, by omega⟩
  have HN : Hid (N = n + m) := Lib.hid (by omega)
  have hNb : N ≤ 8000000 := by omega
  go_wp2_with (at_make; refine wpList_make_words _ rfl _ _ 22 rfl w.heap.size 72 i0 (.int .u32 0) Tryd.underlying22 hi hz0 hz1 rfl .i64 .i64 _ _ N N rfl rfl rfl rfl (Nat.le_refl _) (by rw [hz2]; omega) (by unfold maxLen; omega) (Nat.le_refl _) ?_; intro w1 hown1 hgrow1)
  rw [zeros_cells] at hown1
  have HO1 : Hid (Own w1 w.heap.size w.heap.size N N (List.replicate N 0)) := Lib.hid ⟨hown1, okw_zeros N⟩
  have hB1 : Below w.heap.size w w1 := (Below.refl _ _).grown hgrow1 (Nat.le_refl _) (fun k hk => by cases hk)
  clear hown1 hgrow1
  go_loopw [23] (fun iv wr => ∃ (i : Nat) (P : List Nat), i ≤ n ∧ iv = .int .i64 (i : Int) ∧ Hid (RowAt A B P m i) ∧ Hid (Own wr w.heap.size w.heap.size N N P) ∧ Below w.heap.size w wr) (fun iv _ => n - (intOf iv).toNat)
  case atStart => exact ⟨0, List.replicate N 0, by omega, rfl, Lib.hid (row_start _ _ _ _), HO1, hB1⟩
  case round =>
    clear HO1 hB1
    obtain ⟨i, P, hin, rfl, HR, HO, hB⟩ := hrel
    by_cases hlt : i < n
    · have hii : (i : Int) < (n : Int) := by omega
      obtain ⟨ba, oa, rfl, hca⟩ := (Ha.out.later hB).at (by omega)
      have hcai := hca i hlt
      have hxw := atw_lt Ha.out.ok i
      obtain ⟨x, hxx⟩ : ∃ x, x = atw A i := ⟨_, rfl⟩
      rw [← hxx] at hxw hcai
      have Hx := Lib.hid hxx
      clear hca hxx
      go_wp2
      go_loopw [8, 30] (fun sv jv wr => ∃ (j c : Nat) (P : List Nat), j ≤ m ∧ jv = .int .i64 (j : Int) ∧ sv = .int .u32 (c : Int) ∧ c < 4294967296 ∧ Hid (CellAt A B P m i j c) ∧ Hid (Own wr w.heap.size w.heap.size N N P) ∧ Below w.heap.size w wr) (fun _ jv _ => m - (intOf jv).toNat)
      case atStart => exact ⟨0, 0, P, by omega, rfl, rfl, by omega, Lib.hid (cell_start HR.out), HO, hB⟩
      case round =>
        clear HO hB HR hcai
        obtain ⟨j, c, P, hjm, rfl, rfl, hc, HC, HO, hB⟩ := hrel
        by_cases hjl : j < m
        · have hji : (j : Int) < (m : Int) := by omega
          obtain ⟨bb, ob, rfl, hcb⟩ := (Hb.out.later hB).at (by omega)
          have hcbj := hcb j hjl
          have hyw := atw_lt Hb.out.ok j
          obtain ⟨y, hyy⟩ : ∃ y, y = atw B j := ⟨_, rfl⟩
          rw [← hyy] at hyw hcbj
          have Hy := Lib.hid hyy
          obtain ⟨q, hq⟩ : ∃ q : Nat, (i : Int) + (j : Int) = (q : Int) := ⟨i + j, by omega⟩
          have Hq : Hid (q = i + j) := Lib.hid (by omega)
          have hqN : q < N := by have := HN.out; omega
          have hqi : (q : Int) < (N : Int) := by omega
          have hcell := HO.out.cell (k := q) hqN
          have hfro := HO.out.1.frozenAt q
          have huw := atw_lt HO.out.2 q
          obtain ⟨u, huu⟩ : ∃ u, u = atw P q := ⟨_, rfl⟩
          rw [← huu] at huw hcell
          have Hu := Lib.hid huu
          have hb := HO.out.base
          clear hcb hyy huu
          go_wp2_with fail
          refine (limb_mul_nat4 x y u c _ hxw hyw huw hc).mono ?_
          rintro e w' ⟨z, r, rfl, hz, hr, Hs, rfl⟩
          have HOs := Lib.hid (HO.out.set q r hr)
          have HBs := Lib.hid (hB.setCell (p := ⟨w.heap.size, q, none⟩) hb.1 (.int .u32 (r : Int)))
          go_wp2
          go_roundw
          case rel =>
            exact ⟨j + 1, z, P.set q r, by omega, by go_num, rfl, hz, Lib.hid (by
              have h1 := HC.out
              have h2 := HN.out
              have h3 := HO.out.len
              obtain rfl := Hq.out
              exact cell_step h1 hjl (by omega) (by rw [← Hx.out, ← Hy.out, ← Hu.out]; exact Hs.out)), HOs, HBs.out⟩
          case measure => simp [intOf]; omega
        · obtain rfl : j = m := by omega
          obtain ⟨q, hq⟩ : ∃ q : Nat, (i : Int) + (j : Int) = (q : Int) := ⟨i + j, by omega⟩
          have Hq : Hid (q = i + j) := Lib.hid (by omega)
          have hqN : q < N := by have := HN.out; omega
          have hqi : (q : Int) < (N : Int) := by omega
          have hcell := HO.out.cell (k := q) hqN
          have hfro := HO.out.1.frozenAt q
          generalize atw P q = u at hcell
          have hb := HO.out.base
          have HOs := Lib.hid (HO.out.set q c hc)
          have HBs := Lib.hid (hB.setCell (p := ⟨w.heap.size, q, none⟩) hb.1 (.int .u32 (c : Int)))
          go_wp2
          go_roundw
          case rel =>
            exact ⟨i + 1, P.set q c, by omega, by go_num, Lib.hid (by
              have h1 := HC.out
              have h2 := HN.out
              have h3 := HO.out.len
              obtain rfl := Hq.out
              exact row_next h1 Hb.out.len (by omega)), HOs, HBs.out⟩
          case measure => simp [intOf]; omega
    · obtain rfl : i = n := by omega
      have Hw : Hid (val P = val la * val lb) := Lib.hid (by rw [← Hv.out]; exact row_end HR.out Ha.out.len)
      go_wp2_with fail
      refine (natSaid.norm _ _ _ _ _ HO.out.wd (by omega)).mono ?_
      rintro e w' ⟨a', n', c', rfl, hwd, hbel⟩
      rw [Hw.out] at hwd
      have HWD := Lib.hid hwd
      clear hwd
      go_wp2
      go_ret
      exact ⟨_, _, _, rfl, HWD.out, below_then HB0.out (below_then hB hbel)⟩
end Go.Proofs.YtiblojmdgjnfbaaDoor
