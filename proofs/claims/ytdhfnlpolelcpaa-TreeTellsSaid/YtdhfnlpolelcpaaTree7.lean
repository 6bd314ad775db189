/-
  Package tree: begin, Parts.
-/
import Derived.Test.YtdhfnlpolelcpaaTree5
import Derived.Test.YtdhfnlpolelcpaaTree6
import Derived.Test.YtdhfnlpolelcpaaTree3
import Derived.Test.YtdhfnlpolelcpaaTreeSaid
import Derived.WalkKit
import Derived.OwnWalk
namespace Go.Proofs.Ytdhfnlpolelcpaa
open Go.WideShapes Go.RowKit Go.Deep

namespace Ex
variable {α : Type}
theorem flat_kids : ∀ t : Ex α, t.flat = flats t.kids ++ [t.root]
  | leaf _ => rfl
  | one t _ => by simp [flat, flats, kids, root]
  | two s t _ => by simp [flat, flats, kids, root]
theorem kids_ok (f : α → Int) : ∀ t : Ex α, t.ok f → (∀ u ∈ t.kids, u.ok f) ∧ tAr (f t.root) = (t.kids.length : Int)
  | leaf _, h => ⟨fun u hu => (by cases hu), h⟩
  | one t _, h => ⟨fun u hu => (by simp [kids] at hu; subst hu; exact h.1), h.2⟩
  | two s t _, h => ⟨fun u hu => (by
      simp [kids] at hu
      rcases hu with rfl | rfl
      · exact h.1
      · exact h.2.1), h.2.2⟩
theorem flats_append (s t : List (Ex α)) : flats (s ++ t) = flats s ++ flats t := by simp [flats]
end Ex
set_option maxRecDepth 4096 in
set_option maxHeartbeats 8000000 in
theorem tree_begin (a : Option Addr) (n c : Nat) (L : List Nd) (w : World) (h : Nds w a n c L) (hn : n ≤ 1000000) (t : Ex Nd) (P S : List Nd) (ht : t.ok Nd.op) (hL : L = P ++ t.flat ++ S) :
    Calls Try.prog 33 #[.slice a n c, .int .i64 ((P.length + t.flat.length : Nat) : Int)] w (Same1 (.int .i64 (P.length : Int)) w) := by
  have HL := Lib.hid h
  have HLl := Lib.hid h.len
  have hbd := h.bound
  clear h
  have HC := Lib.hid fun op w => tree_arity op w
  have HT0 : Hid (L.take (P.length + t.flat.length) = P ++ Ex.flats [t]) := Lib.hid (by rw [hL, List.take_left' (by simp)]; simp [Ex.flats])
  have hle : P.length + t.flat.length ≤ n := by rw [← HLl.out, hL]; simp
  have HT := Lib.hid ht
  clear ht hL
  generalize P.length + t.flat.length = z at *
  go_enter Try.func33, Try.ntmps33
  go_wp2
  go_loop [1, 5] (fun ev mv => ∃ (e : Nat) (ts : List (Ex Nd)), e ≤ n ∧ ev = .int .i64 (e : Int) ∧ mv = .int .i64 (ts.length : Int) ∧ Hid (L.take e = P ++ Ex.flats ts) ∧ Hid (∀ u ∈ ts, u.ok Nd.op)) (fun ev _ => (intOf ev).toNat)
  case atStart => exact ⟨z, [t], hle, rfl, rfl, HT0, Lib.hid (fun u hu => by rw [List.mem_singleton.1 hu]; exact HT.out)⟩
  case round =>
    clear HT0 HT hle
    obtain ⟨e, ts, he, rfl, rfl, HF, HO⟩ := hrel
    rcases List.eq_nil_or_concat ts with rfl | ⟨ts', u, rfl⟩
    · have hpe : e = P.length := by
        have h9 := congrArg List.length HF.out
        rw [List.length_take, HLl.out] at h9
        simp [Ex.flats] at h9
        omega
      subst hpe
      go_wp2
      go_ret
      exact ⟨rfl, rfl⟩
    · rw [List.concat_eq_append] at *
      obtain ⟨hk, hr⟩ := Ex.kids_ok Nd.op u (HO.out u (by simp))
      have hF2 : L.take e = (P ++ Ex.flats (ts' ++ u.kids)) ++ [u.root] := by
        rw [HF.out, Ex.flats_snoc, Ex.flat_kids, Ex.flats_append]
        simp only [List.append_assoc]
      have he0 : 0 < e := by
        rcases Nat.eq_zero_or_pos e with rfl | h9
        · have h8 := congrArg List.length hF2
          simp at h8
        · exact h9
      obtain ⟨e', rfl⟩ : ∃ e', e = e' + 1 := ⟨e - 1, by omega⟩
      obtain ⟨x, hx⟩ := at_some HLl.out (show e' < n by omega)
      have hxe : L.take e' = P ++ Ex.flats (ts' ++ u.kids) ∧ x = u.root := by
        rw [take_snoc hx] at hF2
        have h9 := List.append_inj' hF2 rfl
        exact ⟨h9.1, by simpa using h9.2⟩
      obtain ⟨b, off, rfl, e0, -, -, -⟩ := HL.out.get hx
      have HF3 : Hid (L.take e' = P ++ Ex.flats (ts' ++ u.kids)) := Lib.hid hxe.1
      have HO3 : Hid (∀ v ∈ ts' ++ u.kids, v.ok Nd.op) := Lib.hid (fun v hv => by
        rcases List.mem_append.1 hv with h9 | h9
        · exact HO.out v (by simp [h9])
        · exact hk v h9)
      have HX := Lib.hid (HC.out x.op)
      rw [hxe.2, hr] at HX
      rw [hxe.2] at e0
      have hts : ts'.length ≤ 1000000 := by
        have h9 := congrArg List.length hxe.1
        rw [List.length_take, HLl.out, List.length_append] at h9
        have h8 := Ex.flats_size (ts' ++ u.kids)
        rw [List.length_append] at h8
        omega
      have hkl : u.kids.length ≤ 2 := by cases u <;> simp [Ex.kids]
      have hll : (ts' ++ [u]).length = ts'.length + 1 := by simp
      have hkk : (ts' ++ u.kids).length = ts'.length + u.kids.length := by simp
      have HKK := Lib.hid hkk
      rw [hll]
      generalize u.kids.length = kl at *
      generalize hsl : ts'.length = sl at *
      have q1 : (0 : Int) < ((sl + 1 : Nat) : Int) := by omega
      have k1 : IntKind.i64.wrap (((e' + 1 : Nat) : Int) - 1) = (e' : Int) := by rw [IntKind.wrap_i64]; omega
      have k2 : IntKind.i64.wrap ((kl : Int) - 1) = (kl : Int) - 1 := by rw [IntKind.wrap_i64]; omega
      have k3 : IntKind.i64.wrap (((sl + 1 : Nat) : Int) + ((kl : Int) - 1)) = ((sl + kl : Nat) : Int) := by rw [IntKind.wrap_i64]; omega
      have hki : (e' : Int) < (n : Int) := by omega
      clear hx hxe hF2 hk hr HF HO hkk hll hsl
      go_wp2_with fail
      refine (HX.out _).mono ?_
      rintro e9 w9 ⟨rfl, rfl⟩
      go_wp2
      go_round
      case rel => exact ⟨e', ts' ++ u.kids, by omega, by go_num, by rw [HKK.out]; congr 1; omega, HF3, HO3⟩
      case measure => simp [intOf]
/-- A slice of this many, all of the same number and words as what they mean. -/
theorem sn_at17 {P : Program} {e : TypeId} (h : (P.info? e).map (fun i => (i.zero, i.size, i.bytes)) = some (some (.slice none 0 0), 1, 24)) : (P.info? e).map (fun i => (i.zero, i.size, i.bytes)) = some (some (.slice none 0 0), 1, snK.bytes) := h
theorem keyed_done {w' : World} {X : List Sn} {T : List (Ex Nd)} {N M : Nat} (hl : X.length = T.length) (hk : ∀ j : Nat, j < T.length → ∀ x t, X[j]? = some x → T[j]? = some t → x.L.map Nd.key = t.flat.map Nd.key) (hw : ∀ x ∈ X, snK.good w' x) (hN : ∀ t ∈ T, t.flat.length ≤ N ∧ thinN M t.flat) :
    X.map Sn.sem = T.map (fun u => u.flat.map Nd.sem) ∧ ∀ x ∈ X, x.n ≤ N ∧ thinN M x.L := by
  constructor
  · refine List.ext_getElem (by rw [List.length_map, List.length_map, hl]) fun j h1 h2 => ?_
    rw [List.getElem_map, List.getElem_map]
    rw [List.length_map] at h1 h2
    exact key_sem (hk j h2 _ _ (List.getElem?_eq_getElem h1) (List.getElem?_eq_getElem h2))
  · intro x hx
    obtain ⟨j, hj, rfl⟩ := List.getElem_of_mem hx
    have hj2 : j < T.length := by omega
    have h9 := hk j hj2 _ _ (List.getElem?_eq_getElem hj) (List.getElem?_eq_getElem hj2)
    have h8 := hN _ (List.getElem_mem hj2)
    have h7 : Nds w' X[j].a X[j].n X[j].c X[j].L := hw _ (List.getElem_mem hj)
    refine ⟨?_, key_thin h9 h8.2⟩
    rw [← h7.len, key_len h9]; exact h8.1
theorem infoCode17 : (Try.prog.info? 25).map (fun i => (i.zero, i.size, i.bytes)) = some (some (.slice none 0 0), 1, 24) := by kernel_rfl
set_option maxRecDepth 4096 in
set_option maxHeartbeats 8000000 in
theorem tree_parts_no (a : Option Addr) (n c : Nat) (L : List Nd) (w : World) (h : Nds w a n c L) (hn : n ≤ 1000000) (hw : 0 ≤ tWrong (L.map Nd.op)) : Calls Try.prog 11 #[.slice a n c] w (LstP [] 0 0 false w) := by
  have HW := Lib.hid (tree_right a n c L w h hn)
  rw [decide_eq_false (by omega)] at HW
  clear h hw
  go_enter Try.func11, Try.ntmps11
  go_wp2_with fail
  refine HW.out.mono ?_
  rintro e w1 ⟨rfl, b1⟩
  go_wp2
  go_ret2
  exact ⟨none, 0, 0, [], rfl, Kin.All.nil _, rfl, fun x hx => (by cases hx), b1⟩
set_option maxRecDepth 4096 in
set_option maxHeartbeats 8000000 in
theorem tree_parts (a : Option Addr) (n c : Nat) (L : List Nd) (M : Nat) (w : World) (h : Nds w a n c L) (hn : n ≤ 1000000) (hth : thinN M L) (hM : M ≤ 1000000) (t : Ex Nd) (ht : t.ok Nd.op) (hf : t.flat = L) :
    Calls Try.prog 11 #[.slice a n c] w (LstP (t.kids.map fun u => u.flat.map Nd.sem) n M true w) := by
  have HW := Lib.hid (tree_right a n c L w h hn)
  rw [decide_eq_true (by rw [← hf, Ex.wrong_flat Nd.op ht]; decide)] at HW
  obtain ⟨hk, hr⟩ := Ex.kids_ok Nd.op t ht
  have hL : L = Ex.flats t.kids ++ [t.root] := by rw [← hf]; exact Ex.flat_kids t
  have hlen := h.len
  obtain ⟨m, hm⟩ : ∃ m, (Ex.flats t.kids).length = m := ⟨_, rfl⟩
  have hnm : n = m + 1 := by rw [← hlen, hL]; simp [hm]
  subst hnm
  have hx : L[m]? = some t.root := by rw [hL, List.getElem?_append_right (by omega), hm, Nat.sub_self]; rfl
  have hkl : t.kids.length ≤ 2 := by cases t <;> simp [Ex.kids]
  have hbd := h.bound
  obtain ⟨b, off, rfl, -, -, -, -⟩ := Nds.get h hx
  have hN : ∀ u ∈ t.kids, u.flat.length ≤ m + 1 ∧ thinN M u.flat := by
    intro u hu
    obtain ⟨A, B, e⟩ := List.append_of_mem hu
    have h9 : L = Ex.flats A ++ (u.flat ++ (Ex.flats B ++ [t.root])) := by rw [hL, e]; simp [Ex.flats]
    refine ⟨by rw [← hlen, h9]; simp; omega, fun x hx => hth x (by rw [h9]; simp [hx])⟩
  have HN := Lib.hid hN
  have HL := Lib.hid h
  have HLe := Lib.hid hL
  have HX := Lib.hid hx
  have HK := Lib.hid hk
  have HC := Lib.hid fun w => tree_arity t.root.op w
  rw [hr] at HC
  have HTh := Lib.hid hth
  have hMk := hm
  have Hm := Lib.hid hm
  generalize t.root = rt at *
  generalize t.kids = ks at *
  generalize hkr : ks.length = r at *
  have HKr := Lib.hid hkr
  clear hk hr hL hlen hm hx hN hth h ht hf hMk hkr
  have k1 : IntKind.i64.wrap (((m + 1 : Nat) : Int) - 1) = (m : Int) := by rw [IntKind.wrap_i64]; omega
  have k2 : IntKind.i64.wrap ((r : Int) - 1) = (r : Int) - 1 := by rw [IntKind.wrap_i64]; omega
  have hki : (m : Int) < ((m + 1 : Nat) : Int) := by omega
  go_enter Try.func11, Try.ntmps11
  go_wp2_with fail
  refine HW.out.mono ?_
  rintro e w1 ⟨rfl, b1⟩
  have HB1 := Lib.hid b1
  obtain ⟨e0, -, -, -⟩ := nd_there (Kin.All.later HL.out b1) HX.out
  have hb1 := b1.size
  clear b1
  go_wp2_with fail
  refine (HC.out _).mono ?_
  rintro e w9 ⟨rfl, rfl⟩
  go_wp2_with (at_make; refine Kin.wpList_make (K := snK) rfl _ _ rfl Try.underlying27 infoCode17 (x0 := Sn.zero) rfl rfl rfl (fun w => Kin.All.nil w) w.heap.size _ _ _ _ r r rfl rfl rfl rfl (Nat.le_refl _) (by show 24 * r ≤ _; omega) (by unfold maxLen; omega) hb1 ?_; intro wm hmade hgm hszm)
  have HO := Lib.hid hmade
  have HBm : Hid (Below w.heap.size w wm) := Lib.hid (HB1.out.grown hgm hb1 (fun k hk => by cases hk))
  have hgl : w.heap.size ≤ w1.heap.size := hb1
  generalize w1.heap.size = gg at *
  clear hmade hgm hszm HW HB1 e0 hb1 HC
  go_wp2
  go_loopw [4, 6] (fun ev iv wr => ∃ (i : Nat) (XS : List Sn), i ≤ r ∧ iv = .int .i64 ((i : Int) - 1) ∧ ev = .int .i64 (((Ex.flats (ks.take i)).length : Nat) : Int) ∧ Hid (XS.length = r) ∧ Hid (∀ j : Nat, i ≤ j → j < ks.length → ∀ x t, XS[j]? = some x → ks[j]? = some t → x.L.map Nd.key = t.flat.map Nd.key) ∧ Hid (snK.Mine wr w.heap.size 25 (.slice (some ⟨gg, 0, none⟩) r r) XS) ∧ Hid (Below w.heap.size w wr)) (fun _ iv _ => (intOf iv + 1).toNat)
  case atStart => exact ⟨r, List.replicate r Sn.zero, Nat.le_refl _, rfl, by rw [List.take_of_length_le (by rw [HKr.out]; exact Nat.le_refl _), Hm.out], Lib.hid (by simp), Lib.hid (fun j h1 h2 => by rw [HKr.out] at h2; omega), HO, HBm⟩
  case round =>
    clear HO HBm
    obtain ⟨i, XS, hi, rfl, rfl, HXl, HKe, HO, HB⟩ := hrel
    rcases i with _ | i
    · go_wp2
      go_ret2
      obtain ⟨h8, h9⟩ := keyed_done (N := m + 1) (M := M) (HXl.out.trans HKr.out.symm) (fun j hj => HKe.out j (Nat.zero_le _) hj) HO.out.2 HN.out
      obtain ⟨a9, c9, e9, hal⟩ := HO.out.slice
      rw [HXl.out] at e9 hal
      cases e9
      exact ⟨_, _, _, XS, rfl, hal, h8, h9, HB.out⟩
    · obtain ⟨u, hu⟩ := at_some HKr.out (show i < r by omega)
      have hT : Ex.flats (ks.take (i + 1)) = Ex.flats (ks.take i) ++ u.flat := by rw [take_snoc hu, Ex.flats_snoc]
      have hsplit : L = Ex.flats (ks.take i) ++ u.flat ++ (Ex.flats (ks.drop (i + 1)) ++ [rt]) := by
        rw [HLe.out, ← hT, ← List.append_assoc, ← Ex.flats_append, List.take_append_drop]
      have hum := List.mem_of_getElem? hu
      have hun := HN.out u hum
      obtain ⟨p, hp⟩ : ∃ p, (Ex.flats (ks.take i)).length = p := ⟨_, rfl⟩
      obtain ⟨q, hq⟩ : ∃ q, u.flat.length = q := ⟨_, rfl⟩
      have hpq : p + q ≤ m := by
        have h9 := congrArg List.length hsplit
        rw [HL.out.len] at h9
        simp at h9
        omega
      have hq0 : 0 < q := by rw [← hq]; exact u.flat_pos
      have HBg := Lib.hid fun w1 (hb : Below w.heap.size w w1) => tree_begin (some ⟨b, off, none⟩) (m + 1) c L w1 (Kin.All.later HL.out hb) hn u _ _ (HK.out u hum) hsplit
      have hcut : (L.drop p).take (p + q - p) = u.flat := by
        rw [hsplit, List.append_assoc, List.drop_left' hp, List.take_left' (by omega)]
      have HCp := Lib.hid fun w1 (hb : Below w.heap.size w w1) => tree_copied (some ⟨b, off + p * 3, none⟩) (p + q - p) (c - p) u.flat w1 (by rw [← hcut]; exact Nds.cut (Kin.All.later HL.out hb) (by omega) (by omega)) (by omega) (fun x hx => by have := hun.2 x hx; omega)
      have hTl : (Ex.flats (ks.take (i + 1))).length = p + q := by rw [hT, List.length_append, hp, hq]
      have HP := Lib.hid hp
      rw [hp, hq] at HBg
      rw [hTl, show ((i + 1 : Nat) : Int) - 1 = (i : Int) by omega]
      have HU := Lib.hid hu
      clear hT hsplit hcut hTl hu hun hum
      have q1 : (0 : Int) ≤ (i : Int) := by omega
      have q2 : ¬ c = p := by omega
      have q3 : (p : Int) ≤ ((p + q : Nat) : Int) := by omega
      have q4 : ((p + q : Nat) : Int) ≤ (c : Int) := by omega
      have q5 : (i : Int) < (r : Int) := by omega
      have q6 : IntKind.i64.wrap ((i : Int) - 1) = (i : Int) - 1 := by rw [IntKind.wrap_i64]; omega
      obtain ⟨z, hz⟩ : ∃ z, p + q = z := ⟨_, rfl⟩
      rw [hz] at HBg HCp q3 q4 hpq ⊢
      go_wp2_with fail
      refine (HBg.out _ HB.out).mono ?_
      rintro e9 w9 ⟨rfl, rfl⟩
      go_wp2_with fail
      refine (HCp.out _ HB.out).mono ?_
      rintro e9 w2 ⟨a2, c2, L2, rfl, h2, hk2, b2⟩
      have HM2 := Lib.hid (HO.out.later b2)
      have HB2 := Lib.hid (below_then HB.out b2)
      have hbs : w.heap.size ≤ w2.heap.size := HB2.out.size
      obtain ⟨y, hy⟩ := at_some HXl.out (show i < r by omega)
      obtain ⟨hst, hgr⟩ := HM2.out.put (q := 0) (y := ⟨a2, u.flat.length, c2, L2⟩) (u := .slice a2 u.flat.length c2) hy rfl (by decide) h2
      obtain ⟨p2, f2⟩ := HM2.out.cell hy (q := 0) rfl
      rw [show i * snK.size + 0 = i by simp [snK]] at hst hgr p2 f2
      have HS := Lib.hid hst
      have hlt := HM2.out.1.base gg rfl
      have HB3 := Lib.hid (HB2.out.grown hgr hbs (fun g9 hg9 => by cases hg9; omega))
      have HX3 : Hid ((XS.set i ⟨a2, u.flat.length, c2, L2⟩).length = r) := Lib.hid (by rw [List.length_set]; exact HXl.out)
      have HK3 : Hid (∀ j : Nat, i ≤ j → j < ks.length → ∀ x t, (XS.set i ⟨a2, u.flat.length, c2, L2⟩)[j]? = some x → ks[j]? = some t → x.L.map Nd.key = t.flat.map Nd.key) := Lib.hid (fun j h1 h2 x t hx ht => by
        by_cases hj : i = j
        · subst hj
          rw [List.getElem?_set_self (by rw [HXl.out]; omega)] at hx
          rw [HU.out] at ht
          cases hx
          cases ht
          exact hk2
        · rw [List.getElem?_set_ne hj] at hx
          exact HKe.out j (by omega) h2 x t hx ht)
      clear hst hgr h2 b2 HO HM2 HB HB2 HBg HCp hk2 HXl HKe hy hq
      go_wp2
      go_roundw
      case rel => exact ⟨i, _, by omega, rfl, by rw [HP.out], HX3, HK3, HS, HB3⟩
      case measure => simp [intOf]
end Go.Proofs.Ytdhfnlpolelcpaa
