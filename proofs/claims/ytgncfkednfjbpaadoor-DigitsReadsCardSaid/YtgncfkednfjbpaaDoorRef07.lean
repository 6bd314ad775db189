/-
  The contracts of the document's answer for layer 7: ten, Text, Wrong, Read, Trim.
-/
import Derived.Test.YtgncfkednfjbpaaDoorWin
import Derived.Test.YtgncfkednfjbpaaDoorDigitsSaid
import Derived.Test.YtgncfkednfjbpaaDoorRef04
namespace Go.Proofs.YtgncfkednfjbpaaDoor
open Go.RowKit

theorem digit_cut {d : Nat} (h : d < 10) : (({ data := #[48, 49, 50, 51, 52, 53, 54, 55, 56, 57] } : ByteArray).extract d (d + 1)) = bs [dig d] := by
  match d, h with
  | 0, _ => decide
  | 1, _ => decide
  | 2, _ => decide
  | 3, _ => decide
  | 4, _ => decide
  | 5, _ => decide
  | 6, _ => decide
  | 7, _ => decide
  | 8, _ => decide
  | 9, _ => decide
def TenPost (base g n cap v : Nat) (w : World) (e : Ending) (w' : World) : Prop :=
  ∃ Q : List Nat, e = .returned (.int .u64 ((v % 10 : Nat) : Int)) ∧ Hid (Own w' base g n cap Q) ∧ w.grownBy w' (some g) ∧ Hid (val Q = v / 10)
set_option maxRecDepth 4096 in
set_option maxHeartbeats 2000000 in
theorem ref07_ten (base : Nat) (w : World) (g n cap : Nat) (L : List Nat) (hO : Own w base g n cap L) (hn : n ≤ 2000000) :
    Calls Tryd.prog 18 #[.slice (some ⟨g, 0, none⟩) n cap] w (TenPost base g n cap (val L) w) := by
  have HO1 := Lib.hid hO
  have HLo := Lib.hid hO.2
  have HLl := Lib.hid hO.len
  clear hO
  go_enter Tryd.func18, Tryd.ntmps18
  go_wp2
  go_loopw [3, 4] (fun rv iv wr => ∃ (k r : Nat) (Q : List Nat), k ≤ n ∧ iv = .int .i64 ((k : Int) - 1) ∧ rv = .int .u64 (r : Int) ∧ r < 10 ∧ Hid (WordAt 10 L Q k r) ∧ Hid (Own wr base g n cap Q) ∧ w.grownBy wr (some g)) (fun _ iv _ => (intOf iv + 1).toNat)
  case atStart => exact ⟨n, 0, L, by omega, by go_num, rfl, by omega, Lib.hid ⟨by rw [top_ge (by rw [HLl.out]; omega)], by omega, fun j _ => rfl, rfl⟩, HO1, grown_refl _ _⟩
  case round =>
    obtain ⟨k, r, Q, hk, rfl, rfl, hr, HW, HO, hG⟩ := hrel
    cases k with
    | zero =>
      have Hq : Hid (val Q = val L / 10) := Lib.hid (word_end HW.out rfl).1
      have Hr : Hid (r = val L % 10) := Lib.hid (word_end HW.out rfl).2
      go_wp2
      go_ret
      exact ⟨Q, by rw [← Hr.out]; rfl, HO, hG, Hq⟩
    | succ k =>
      have e1 : ((k + 1 : Nat) : Int) - 1 = (k : Int) := by omega
      rw [e1]
      clear e1
      have hcell := HO.out.cell (k := k) (by omega)
      rw [HW.out.2.2.1 k (by omega)] at hcell
      have hfro := HO.out.1.frozenAt k
      have huw := atw_lt HLo.out k
      obtain ⟨u, huu⟩ : ∃ u, u = atw L k := ⟨_, rfl⟩
      rw [← huu] at huw hcell
      have Hu := Lib.hid huu
      obtain ⟨t, ht⟩ : ∃ t : Nat, (r : Int) * 4294967296 + (u : Int) = (t : Int) := ⟨r * 4294967296 + u, by omega⟩
      have Ht : Hid (t = r * 4294967296 + u) := Lib.hid (by omega)
      have htw : t < 42949672960 := by omega
      obtain ⟨q, hq⟩ : ∃ q : Nat, (t : Int) / 10 = (q : Int) := ⟨t / 10, by omega⟩
      obtain ⟨s, hs⟩ : ∃ s : Nat, (t : Int) % 10 = (s : Int) := ⟨t % 10, by omega⟩
      have Hqs : Hid (q = t / 10 ∧ s = t % 10) := Lib.hid (by omega)
      have hqw : q < 4294967296 := by omega
      have hsx : s < 10 := by omega
      have hki : (k : Int) < (n : Int) := by omega
      have HOs := Lib.hid (HO.out.set k q hqw)
      have hGs := Lib.hid (grown_then hG (grown_cell _ g k (.int .u32 (q : Int))))
      have HW2 : Hid (WordAt 10 L (Q.set k q) k s) := Lib.hid (by
        have h1 := word_down HW.out (by omega) (by rw [HO.out.len]; omega)
        rwa [← Hu.out, ← Ht.out, ← Hqs.out.1, ← Hqs.out.2] at h1)
      clear huu
      go_wp2
      go_roundw
      case rel => exact ⟨k, s, Q.set k q, by omega, by go_num, by rw [hs], hsx, HW2, HOs, hGs.out⟩
      case measure => simp [intOf]
theorem ref07_ten_empty (a : Option Addr) (cap : Nat) (w : World) : Calls Tryd.prog 18 #[.slice a 0 cap] w fun e w' => e = .returned (.int .u64 0) ∧ w = w' := by
  go_enter Tryd.func18, Tryd.ntmps18
  go_wp2
  go_loop [3, 4] (fun rv iv => rv = .int .u64 0 ∧ iv = .int .i64 (-1)) (fun _ _ => 0)
  case atStart => exact ⟨rfl, rfl⟩
  case round =>
    obtain ⟨rfl, rfl⟩ := hrel
    go_wp2
    go_ret
    exact ⟨rfl, rfl⟩
/-- For the measure of the loop that writes. -/
def textLeft (w : World) (x s : Value) : Nat := heldVal w x + (match s with | .string b => if b.size = 0 then 1 else 0 | _ => 0)
theorem held_own {w : World} {base : Nat} {e : TypeId} {a : Option Addr} {m c v : Nat} (h : w.ownsRow base e 1 (.slice a m c) m (wcells (dg v))) : heldVal w (.slice a m c) = v := by
  rcases h.2 with ⟨e1, h0⟩ | ⟨g, cap', cur, e1, _⟩
  · have h1 := h.1
    rw [wcells_length, h0] at h1
    simp only [Value.slice.injEq] at e1
    obtain ⟨rfl, _, _⟩ := e1
    exact (dg_nil_iff.1 (by omega)).symm
  · simp only [Value.slice.injEq] at e1
    obtain ⟨rfl, _, _⟩ := e1
    rw [(Wd.own h (okw_dg v)).held, val_dg]
set_option maxRecDepth 4096 in
set_option maxHeartbeats 2000000 in
theorem ref07_text (a : Option Addr) (n cap : Nat) (l : List Nat) (w : World) (h : Wd w a n cap l) (hn : n ≤ 100000) :
    Calls Tryd.prog 7 #[.slice a n cap] w (Gives (.string (bs (txt (val l)))) w) := by
  have hl : (dg (val l)).length ≤ n := h.trim_le
  have HT : Hid ((txt (val l)).length ≤ 3200001) := Lib.hid (by
    have h1 := val_lt h.ok
    rw [h.len, pow32] at h1
    have h2 := txt_length_le h1
    omega)
  generalize hv : val l = v0 at *
  go_enter Tryd.func7, Tryd.ntmps7
  go_wp2_with fail
  refine (ref02_norm_own _ _ _ _ _ h (by omega)).mono ?_
  rintro e w1 ⟨a1, n1, c1, rfl, h1, hB1⟩
  rw [hv] at h1
  have H1 := Lib.hid h1
  clear h h1 hv
  go_wp2
  go_loopw [3, 4] (fun xv sv wr => ∃ (a : Option Addr) (m c v : Nat) (s : List UInt8), xv = .slice a m c ∧ sv = .string (bs s) ∧ m ≤ 100000 ∧ Hid (wr.ownsRow w.heap.size 40 1 (.slice a m c) m (wcells (dg v))) ∧ Hid (TextAt v0 v s) ∧ Below w.heap.size w wr) (fun xv sv wr => textLeft wr xv sv)
  case atStart => exact ⟨a1, n1, c1, v0, [], rfl, rfl, by have h2 := H1.out.1; rw [wcells_length] at h2; omega, H1, Lib.hid (text_start v0), hB1⟩
  case round =>
    clear H1 hB1 hl
    obtain ⟨a, m, c, v, s, rfl, rfl, hm, HO, HA, hB⟩ := hrel
    have hlen : Hid ((dg v).length = m) := Lib.hid (by have h2 := HO.out.1; rw [wcells_length] at h2; omega)
    have hsl : s.length ≤ 3200001 := Nat.le_trans (text_length HA.out) HT.out
    have Hm0 := Lib.hid (held_own HO.out)
    by_cases hz : m = 0
    · subst hz
      obtain rfl : v = 0 := dg_nil_iff.1 hlen.out
      cases s with
      | nil =>
        have HA2 : Hid (TextAt v0 0 [dig 0]) := Lib.hid (text_step HA.out (.inr rfl))
        have hcut := digit_cut (d := 0) (by omega)
        have hs1 := bs_size [dig 0]
        have hs2 := bs_size []
        have hs3 := bs_append [dig 0] []
        have HW := Lib.hid (Wd.own HO.out (okw_dg 0))
        have hem : (bs []).toList.isEmpty = true := by rw [bs_list]; rfl
        simp only [List.length_cons, List.length_nil, List.append_nil] at hs1 hs2 hs3
        clear HO HA
        go_wp2_with fail
        refine (ref07_ten_empty _ _ _).mono ?_
        rintro e w' ⟨rfl, rfl⟩
        go_wp2_with fail
        refine (ref02_norm_own _ _ _ _ _ HW.out (by omega)).mono ?_
        rintro e w4 ⟨a4, m4, c4, rfl, h4, b4⟩
        rw [val_dg] at h4
        have hm4 : m4 ≤ 0 := by
          have h5 := h4.1
          rw [wcells_length, dg_zero] at h5
          simp at h5
          omega
        have HO4 := Lib.hid (ownsRow_lower (base' := w.heap.size) h4 hB.size)
        have hB4 := Lib.hid (below_then hB b4)
        have Hm4 := Lib.hid (held_own HO4.out)
        clear h4 b4 hcut hs1 hs2 hs3
        go_wp2
        go_roundw
        case rel => exact ⟨a4, m4, c4, 0, [dig 0], rfl, rfl, by omega, HO4, HA2, hB4.out⟩
        case measure =>
          have h8 := Hm0.out
          have h9 := Hm4.out
          show textLeft _ _ _ < textLeft _ _ _
          unfold textLeft
          rw [h8, h9]
          simp [bs_size]
      | cons y s =>
        have Hfin := Lib.hid (text_end HA.out rfl (by simp))
        have hne : (bs (y :: s)).toList.isEmpty = false := by rw [bs_list]; rfl
        clear HO HA Hm0
        go_wp2
        go_ret
        exact ⟨by rw [← Hfin.out]; rfl, hB⟩
    · obtain ⟨g, rfl, hO⟩ := own_block HO.out (okw_dg _) (by omega)
      have HOw := Lib.hid hO
      have hv0 : Hid (v ≠ 0) := Lib.hid (fun h => hz (hlen.out.symm.trans (dg_nil_iff.2 h)))
      have hbase := HOw.out.base
      have hmi : (0 : Int) < (m : Int) := by omega
      clear hO hz
      go_wp2_with fail
      refine (ref07_ten w.heap.size _ g m c _ HOw.out (by omega)).mono ?_
      rintro e w3 ⟨Q, rfl, HQ, hG, HV⟩
      rw [val_dg] at HV ⊢
      obtain ⟨d, hd⟩ : ∃ d, d = v % 10 := ⟨_, rfl⟩
      rw [← hd]
      have hd10 : d < 10 := by omega
      have Hd := Lib.hid hd
      have HA2 := Lib.hid (text_step HA.out (.inl hv0.out))
      rw [← hd] at HA2
      have hcut := digit_cut hd10
      have hs1 := bs_size [dig d]
      have hs2 := bs_size s
      have hs3 := bs_append [dig d] s
      have hB3 := Lib.hid (grown_below hB hG hbase.1)
      have HQw := Lib.hid HQ.out.wd
      simp only [List.length_cons, List.length_nil, List.singleton_append] at hs1 hs3
      clear hd HO HA hG
      go_wp2_with fail
      refine (ref02_norm_own _ _ _ _ _ HQw.out (by omega)).mono ?_
      rintro e w4 ⟨a4, m4, c4, rfl, h4, b4⟩
      rw [HV.out] at h4
      have hm4 : m4 ≤ m := by
        have h5 := h4.1
        rw [wcells_length] at h5
        have h6 := dg_length_mono (show v / 10 ≤ v from Nat.div_le_self _ _)
        have h7 := hlen.out
        omega
      have HO4 := Lib.hid (ownsRow_lower (base' := w.heap.size) h4 hB3.out.size)
      have hB4 := Lib.hid (below_then hB3.out b4)
      have Hm4 := Lib.hid (held_own HO4.out)
      clear h4 b4 hcut hs1 hs2 hs3
      go_wp2
      go_roundw
      case rel => exact ⟨a4, m4, c4, v / 10, dig d :: s, rfl, rfl, by omega, HO4, HA2, hB4.out⟩
      case measure =>
        have h8 := Hm0.out
        have h9 := Hm4.out
        have h10 := hv0.out
        show textLeft _ _ _ < textLeft _ _ _
        unfold textLeft
        rw [h8, h9]
        simp only [bs_size, List.length_cons]
        split <;> split <;> omega
set_option maxRecDepth 4096 in
set_option maxHeartbeats 1000000 in
theorem ref07_wrong (l : List UInt8) (w : World) (hl : l.length ≤ 1000000) :
    Calls Tryd.prog 11 #[.string (bs l)] w fun e w' => e = .returned (.int .i64 (wrongI l)) ∧ w = w' := by
  cases l with
  | nil =>
    have hem : (bs []).toList.isEmpty = true := by rw [bs_list]; rfl
    go_enter Tryd.func11, Tryd.ntmps11
    go_wp2
    go_ret
    exact ⟨rfl, rfl⟩
  | cons y r =>
    have hem : (bs (y :: r)).toList.isEmpty = false := by rw [bs_list]; rfl
    have HW : Hid (wrongI (y :: r) = wrongFrom (y :: r) 0) := Lib.hid rfl
    have hsz := bs_size (y :: r)
    generalize y :: r = L at *
    go_enter Tryd.func11, Tryd.ntmps11
    go_wp2
    go_loop [3] (fun iv => ∃ k : Nat, k ≤ L.length ∧ iv = .int .i64 (k : Int) ∧ Hid (wrongFrom L 0 = wrongFrom (L.drop k) k)) (fun iv => L.length - (intOf iv).toNat)
    case atStart => exact ⟨0, by omega, rfl, Lib.hid rfl⟩
    case round =>
      obtain ⟨k, hk, rfl, Hk⟩ := hrel
      by_cases hlt : k < L.length
      · have hki : (k : Int) < (L.length : Int) := by omega
        have hget := bs_get L k hlt (by rw [bs_size]; exact hlt)
        have Hst : Hid (wrongFrom (L.drop k) k = if (L.getD k 0).toNat < 48 ∨ 57 < (L.getD k 0).toNat ∨ 60 ≤ k then (k : Int) else wrongFrom (L.drop (k + 1)) (k + 1)) := Lib.hid (by
          rw [List.drop_eq_getElem_cons hlt, wrongFrom, List.getD_eq_getElem?_getD, List.getElem?_eq_getElem hlt]; rfl)
        generalize (L.getD k 0).toNat = c at *
        by_cases hbad : c < 48 ∨ 57 < c ∨ 60 ≤ k
        · have Hfin : Hid (wrongI L = (k : Int)) := Lib.hid (by rw [HW.out, Hk.out, Hst.out, if_pos hbad])
          by_cases h1 : c < 48
          · clear hbad
            go_wp2
            go_ret
            exact ⟨ret_i64 Hfin.out.symm, rfl⟩
          · by_cases h2 : 57 < c
            · clear hbad
              go_wp2
              go_ret
              exact ⟨ret_i64 Hfin.out.symm, rfl⟩
            · have h3 : (60 : Int) ≤ (k : Int) := by omega
              clear hbad
              go_wp2
              go_ret
              exact ⟨ret_i64 Hfin.out.symm, rfl⟩
        · have Hnx : Hid (wrongFrom L 0 = wrongFrom (L.drop (k + 1)) (k + 1)) := Lib.hid (by rw [Hk.out, Hst.out, if_neg hbad])
          have h1 : ¬ c < 48 := fun h => hbad (.inl h)
          have h2 : ¬ 57 < c := fun h => hbad (.inr (.inl h))
          have h3 : (k : Int) < 60 := by omega
          clear hbad
          go_wp2
          go_round
          case rel => exact ⟨k + 1, by omega, by go_num, Hnx⟩
          case measure => simp [intOf]; omega
      · have Hfin : Hid (wrongI L = -1) := Lib.hid (by rw [HW.out, Hk.out, List.drop_of_length_le (by omega)]; rfl)
        have hki : ¬ ((k : Int) < (L.length : Int)) := by omega
        go_wp2
        go_ret
        exact ⟨ret_i64 Hfin.out.symm, rfl⟩
theorem trim_zero {x y : UInt8} {r : List UInt8} (h : x.toNat = 48) : trimL (x :: y :: r) = trimL (y :: r) := by rw [trimL, if_pos h]
theorem trim_stop {x y : UInt8} {r : List UInt8} (h : x.toNat ≠ 48) : trimL (x :: y :: r) = x :: y :: r := by rw [trimL, if_neg h]
theorem bs_tail (x : UInt8) (r : List UInt8) : (bs (x :: r)).extract 1 (r.length + 1) = bs r := by
  unfold bs
  rw [ByteArray.extract_mk]
  simp
set_option maxRecDepth 4096 in
set_option maxHeartbeats 1000000 in
theorem ref07_trim (l : List UInt8) (w : World) (hl : l.length ≤ 1000000) :
    Calls Tryd.prog 15 #[.string (bs l)] w fun e w' => e = .returned (.string (bs (trimL l))) ∧ w = w' := by
  go_enter Tryd.func15, Tryd.ntmps15
  go_wp2
  go_loop [0] (fun sv => ∃ L : List UInt8, sv = .string (bs L) ∧ L.length ≤ 1000000 ∧ Hid (trimL L = trimL l)) (fun sv => match sv with | .string b => b.size | _ => 0)
  case atStart => exact ⟨l, rfl, hl, Lib.hid rfl⟩
  case round =>
    obtain ⟨L, rfl, hL, HT⟩ := hrel
    have hsz := bs_size L
    match L, hL, HT, hsz with
    | [], _, HT, hsz =>
      simp only [List.length_nil] at hsz
      go_wp2
      go_ret
      exact ⟨by rw [← HT.out]; rfl, rfl⟩
    | [x], _, HT, hsz =>
      simp only [List.length_cons, List.length_nil] at hsz
      go_wp2
      go_ret
      exact ⟨by rw [← HT.out]; rfl, rfl⟩
    | x :: y :: r, hL, HT, hsz =>
      have hget := bs_get (x :: y :: r) 0 (by simp) (by rw [bs_size]; simp)
      have hget2 : ((x :: y :: r).getD 0 0).toNat = x.toNat := rfl
      rw [hget2] at hget
      have htl := bs_tail x (y :: r)
      have hsz2 := bs_size (y :: r)
      simp only [List.length_cons] at hsz hsz2 htl hL
      by_cases hx : x.toNat = 48
      · have HT2 : Hid (trimL (y :: r) = trimL l) := Lib.hid (by rw [← trim_zero hx]; exact HT.out)
        go_wp2
        go_round
        case rel => exact ⟨y :: r, rfl, by simp; omega, HT2⟩
        case measure =>
          show (bs (y :: r)).size < (bs (x :: y :: r)).size
          rw [bs_size, bs_size]
          simp
      · have HT2 : Hid (x :: y :: r = trimL l) := Lib.hid (by rw [← trim_stop hx]; exact HT.out)
        go_wp2
        go_ret
        exact ⟨by rw [← HT2.out]; rfl, rfl⟩
end Go.Proofs.YtgncfkednfjbpaaDoor
