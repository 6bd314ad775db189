/-
  The walks of the laws of layer 17: TreeTells.
-/
import Derived.Test.YtdhfnlpolelcpaaLaw17Walks1
import Derived.WalkKit
import Derived.Deep.CutRange
import Derived.Deep.RegionHeld3
namespace Go.Proofs.Ytdhfnlpolelcpaa
open Go.RowKit

theorem kids_mem {t u : Ex Nd} (hu : u ∈ t.kids) : ∀ x ∈ u.flat, x ∈ t.flat := fun x hx => by
  cases t with
  | leaf y => simp [Ex.kids] at hu
  | one s y =>
    simp [Ex.kids] at hu
    subst hu
    simp [Ex.flat, hx]
  | two s r y =>
    simp [Ex.kids] at hu
    rcases hu with rfl | rfl <;> simp [Ex.flat, hx]
theorem kids_ok {t u : Ex Nd} {f : Nd → Int} (ht : t.ok f) (hu : u ∈ t.kids) : u.ok f := by
  cases t with
  | leaf y => simp [Ex.kids] at hu
  | one s y =>
    simp [Ex.kids] at hu
    subst hu
    exact ht.1
  | two s r y =>
    simp [Ex.kids] at hu
    rcases hu with rfl | rfl
    · exact ht.1
    · exact ht.2.1
theorem kid_at {α : Type} {K : List Sn} {kids : List (Ex Nd)} {f : Sn → α} {g : Ex Nd → α} (h : K.map f = kids.map g) {k : Nat} {x : Sn} (hx : K[k]? = some x) : ∃ u, kids[k]? = some u ∧ f x = g u := by
  have e1 : (K.map f)[k]? = some (f x) := by rw [List.getElem?_map, hx]; rfl
  rw [h, List.getElem?_map] at e1
  cases hk : kids[k]? with
  | none => rw [hk] at e1; simp at e1
  | some u => rw [hk] at e1; simp at e1; exact ⟨u, rfl, e1.symm⟩
set_option maxRecDepth 4096 in
set_option maxHeartbeats 16000000 in
theorem law17_tells (S : TreeSaid) (a0 : Option Addr) (n0 c0 : Nat) (L : List Nd) (op : Int) (w : World) (h0 : Nds w a0 n0 c0 L) : Calls Try.prog 3 #[.slice a0 n0 c0, .int .i64 op] w (Gives (.bool true) w) := by
  have HW := Lib.hid fun w => law17_works S w
  have HL := Lib.hid h0
  have hll := h0.len
  have hbd := h0.bound
  have HB : Hid (Below w.heap.size w w) := Lib.hid (Below.refl _ _)
  have HLg := Lib.hid (ref17_long a0 n0 c0 L 200 10 w h0 (by omega))
  clear h0
  go_enter Try.func3, Try.ntmps3
  go_wp2_with fail
  refine HLg.out.mono ?_
  rintro e9 wn ⟨r, rfl, rfl, hr⟩
  cases r
  · obtain ⟨hn, ht⟩ := hr rfl
    have HT := Lib.hid ht
    have HLl := Lib.hid hll
    clear hr ht hll HLg
    go_wp2_with fail
    refine (law17_to a0 n0 c0 L _ HL.out (by omega)).mono ?_
    rintro e9 wn ⟨a1, n1, c1, rfl, h1, b⟩
    replace HB := Lib.hid (below_then HB.out b)
    replace HL := Lib.hid (Kin.All.later HL.out b)
    have HX := Lib.hid h1
    obtain rfl : n1 = n0 := h1.len.symm.trans HLl.out
    have hbd1 := h1.bound
    clear h1
    clear b
    obtain ⟨z, hz⟩ : ∃ z, tWrong (L.map Nd.op) = z := ⟨_, rfl⟩
    obtain ⟨dp, hdp⟩ : ∃ dp, tDepth (L.map Nd.op) = dp := ⟨_, rfl⟩
    have hWt := Lib.hid fun w (h : Nds w a1 n1 c1 L) => S.wrong a1 n1 c1 L w h (by omega)
    have hRt := Lib.hid fun w (h : Nds w a1 n1 c1 L) => S.right a1 n1 c1 L w h (by omega)
    have hDt := Lib.hid fun w (h : Nds w a1 n1 c1 L) => S.depth a1 n1 c1 L w h (by omega)
    have hWr := Lib.hid fun w (h : Nds w a0 n1 c0 L) => ref17_wrong a0 n1 c0 L w h
    have hDr := Lib.hid fun w (h : Nds w a0 n1 c0 L) => ref17_depth a0 n1 c0 L w h (by omega)
    have hAt := Lib.hid fun w => S.arity op w
    have hAr := Lib.hid fun w => ref17_arity op w
    generalize tAr op = ar at *
    rw [hz] at hWt hRt hWr
    rw [hdp] at hDt hDr
    by_cases hneg : z < 0
    · obtain ⟨t, hto, htf⟩ := Ex.of_wrong Nd.op (L := L) (by rw [hz]; exact hneg)
      have hzd : decide (z < 0) = true := decide_eq_true hneg
      have hTL := Lib.hid (show thinN 10 L from HT.out)
      go_wp2_with fail
      refine (S.parts a1 n1 c1 L 10 _ HX.out (by omega) HT.out (by omega) t hto htf).mono ?_
      rintro e9 wn ⟨a2, n2, c2, K, rfl, h2, hK, hKb, b⟩
      replace HB := Lib.hid (below_then HB.out b)
      replace HL := Lib.hid (Kin.All.later HL.out b)
      replace HX := Lib.hid (Kin.All.later HX.out b)
      have HP := Lib.hid h2
      have hn2 := h2.len
      have hbd2 := h2.bound
      have HK := Lib.hid hK
      have HKb := Lib.hid hKb
      clear h2 hK hKb
      clear b
      go_wp2_with fail
      refine (hWr.out _ HL.out).mono ?_
      rintro e9 wn ⟨rfl, rfl⟩
      go_wp2_with fail
      refine (hWt.out _ HX.out).mono ?_
      rintro e9 wn ⟨rfl, b⟩
      replace HB := Lib.hid (below_then HB.out b)
      replace HL := Lib.hid (Kin.All.later HL.out b)
      replace HX := Lib.hid (Kin.All.later HX.out b)
      replace HP := Lib.hid (Kin.All.later HP.out b)
      clear b
      go_wp2_with fail
      refine (hRt.out _ HX.out).mono ?_
      rintro e9 wn ⟨rfl, b⟩
      replace HB := Lib.hid (below_then HB.out b)
      replace HL := Lib.hid (Kin.All.later HL.out b)
      replace HX := Lib.hid (Kin.All.later HX.out b)
      replace HP := Lib.hid (Kin.All.later HP.out b)
      rw [hzd]
      clear b
      go_wp2_with fail
      refine (hDt.out _ HX.out).mono ?_
      rintro e9 wn ⟨rfl, b⟩
      replace HB := Lib.hid (below_then HB.out b)
      replace HL := Lib.hid (Kin.All.later HL.out b)
      replace HX := Lib.hid (Kin.All.later HX.out b)
      replace HP := Lib.hid (Kin.All.later HP.out b)
      clear b
      go_wp2_with fail
      refine (hDr.out _ HL.out).mono ?_
      rintro e9 wn ⟨rfl, rfl⟩
      go_wp2_with fail
      refine (hAt.out _).mono ?_
      rintro e9 wn ⟨rfl, b⟩
      replace HB := Lib.hid (below_then HB.out b)
      replace HL := Lib.hid (Kin.All.later HL.out b)
      replace HX := Lib.hid (Kin.All.later HX.out b)
      replace HP := Lib.hid (Kin.All.later HP.out b)
      clear b
      go_wp2_with fail
      refine (hAr.out _).mono ?_
      rintro e9 wn ⟨rfl, rfl⟩
      go_wp2_with fail
      refine (ref17_parts a0 n1 c0 L _ HL.out (by omega) t hto htf).mono ?_
      rintro e9 wn ⟨a3, n3, c3, K2, rfl, h3, hK2, b⟩
      replace HB := Lib.hid (below_then HB.out b)
      replace HL := Lib.hid (Kin.All.later HL.out b)
      replace HX := Lib.hid (Kin.All.later HX.out b)
      replace HP := Lib.hid (Kin.All.later HP.out b)
      have HQ := Lib.hid h3
      have hn3 := h3.len
      have hbd3 := h3.bound
      have HK2 := Lib.hid hK2
      clear h3 hK2
      clear b
      obtain rfl : n3 = n2 := by rw [← hn3, ← hn2, ← List.length_map Sn.L, HK2.out, ← List.length_map Sn.sem, HK.out, List.length_map, List.length_map]
      have HE : Hid (∀ (k : Nat) (x y : Sn), K[k]? = some x → K2[k]? = some y → x.L.map Nd.sem = y.L.map Nd.sem ∧ thinN 1000000 x.L ∧ thinN 1000000 y.L ∧ x.n ≤ 1000) := Lib.hid (fun k x y hx hy => by
        obtain ⟨u, hu, e1⟩ := kid_at HK.out hx
        obtain ⟨v, hv, e2⟩ := kid_at HK2.out hy
        rw [hu] at hv
        obtain rfl := Option.some.inj hv
        have hb := HKb.out x (List.mem_of_getElem? hx)
        refine ⟨by rw [e2]; exact e1, fun q hq => Nat.le_trans (hb.2 q hq) (by omega), fun q hq => ?_, by omega⟩
        rw [e2] at hq
        refine Nat.le_trans (HT.out q ?_) (by omega)
        rw [← htf]
        exact kids_mem (List.mem_of_getElem? hu) q hq)
      have HNx := Lib.hid hn2
      have HNy := Lib.hid hn3
      clear hn2 hn3 hto htf hWt hRt hDt hWr hDr hAt hAr HL HX HKb HK HK2 HT hTL hzd hz hdp
      go_wp2
      go_loopw [10] (fun iv wr => ∃ k : Nat, k ≤ n3 ∧ iv = .int .i64 (k : Int) ∧ Hid (Sns wr a2 n3 c2 K) ∧ Hid (Sns wr a3 n3 c3 K2) ∧ Hid (Below w.heap.size w wr)) (fun iv _ => n3 - (intOf iv).toNat)
      case atStart => exact ⟨0, by omega, by go_num, HP, HQ, HB⟩
      case round =>
        clear HP HQ HB
        obtain ⟨k, hk, rfl, HP, HQ, HB⟩ := hrel
        by_cases hlt : k < n3
        · have hki : (k : Int) < (n3 : Int) := by omega
          obtain ⟨x, hx⟩ := at_some HNx.out hlt
          obtain ⟨y, hy⟩ := at_some HNy.out hlt
          obtain ⟨b0, o0, rfl, -, -⟩ := Sns.get HP.out hx
          obtain ⟨b1, o1, rfl, -, -⟩ := Sns.get HQ.out hy
          obtain ⟨he, hxt, hyt, hxn⟩ := HE.out k x y hx hy
          have HOf := Lib.hid fun w1 (h : Sns w1 (some ⟨b0, o0, none⟩) n3 c2 K) => law17_of x.a x.n x.c x.L w1 (sn_cells h hx rfl).2 (by omega)
          have HSm := Lib.hid fun w1 a9 n9 c9 (h : Nds w1 a9 n9 c9 x.L) (h2 : Sns w1 (some ⟨b1, o1, none⟩) n3 c3 K2) => ref17_same a9 n9 c9 x.L y.a y.n y.c y.L w1 h (sn_cells h2 hy rfl).2 hxt hyt
          rw [he] at HSm
          have hdt : decide (y.L.map Nd.sem = y.L.map Nd.sem) = true := by simp
          rw [hdt] at HSm
          have HQc := Lib.hid fun w1 (h : Sns w1 (some ⟨b0, o0, none⟩) n3 c2 K) (h2 : Sns w1 (some ⟨b1, o1, none⟩) n3 c3 K2) => (show w1.cell? ⟨b0, o0 + k, none⟩ = some (.slice x.a x.n x.c) ∧ w1.cell? ⟨b1, o1 + k, none⟩ = some (.slice y.a y.n y.c) from ⟨(sn_cells h hx rfl).1, (sn_cells h2 hy rfl).1⟩)
          clear hx hy he hxt hyt hxn hdt
          go_upto_region 16 with fail
          have HB9 := Lib.hid (below_then HB.out ((Below.refl _ _).drew : Below wr.heap.size wr wr.drew))
          have HP9 := Lib.hid (Kin.All.later HP.out ((Below.refl _ _).drew : Below wr.heap.size wr wr.drew))
          have HQ9 := Lib.hid (Kin.All.later HQ.out ((Below.refl _ _).drew : Below wr.heap.size wr wr.drew))
          clear HB HP HQ
          have pSn := HQc.out _ HP9.out HQ9.out
          go_region_held3 (fun w' => w'.cell? ⟨b0, o0 + k, none⟩ = some (.slice x.a x.n x.c) ∧ w'.cell? ⟨b1, o1 + k, none⟩ = some (.slice y.a y.n y.c)) (exact pSn)
            (first
            | (go_at_call 21; refine (HOf.out _ HP9.out).mono ?_; rintro e9 wp1 ⟨a9, n9, c9, rfl, h9, b9⟩; replace HB9 := Lib.hid (below_then HB9.out b9); replace HP9 := Lib.hid (Kin.All.later HP9.out b9); replace HQ9 := Lib.hid (Kin.All.later HQ9.out b9); have HN9 := Lib.hid h9; clear h9; clear b9; clear pSn; have pSn := HQc.out _ HP9.out HQ9.out)
            | (go_at_call 20; refine (HSm.out _ a9 n9 c9 HN9.out HQ9.out).mono ?_; rintro e9 wp2 ⟨rfl, b9⟩; replace HB9 := Lib.hid (below_then HB9.out b9); replace HP9 := Lib.hid (Kin.All.later HP9.out b9); replace HQ9 := Lib.hid (Kin.All.later HQ9.out b9); clear HN9; clear b9; clear pSn; have pSn := HQc.out _ HP9.out HQ9.out))
          clear pSn
          go_wp2
          go_roundw
          case rel => exact ⟨k + 1, by omega, by go_num, HP9, HQ9, HB9⟩
          case measure => simp [intOf]; omega
        · obtain rfl : k = n3 := by omega
          go_wp2_with fail
          refine (HW.out _).mono ?_
          rintro e9 wn ⟨rfl, b⟩
          replace HB := Lib.hid (below_then HB.out b)
          go_wp2
          go_ret
          exact ⟨rfl, HB.out⟩
    · have hzd : decide (z < 0) = false := decide_eq_false hneg
      go_wp2_with fail
      refine (S.parts_no a1 n1 c1 L _ HX.out (by omega) (by rw [hz]; omega)).mono ?_
      rintro e9 wn ⟨a2, n2, c2, K, rfl, h2, hK, -, b⟩
      replace HB := Lib.hid (below_then HB.out b)
      replace HL := Lib.hid (Kin.All.later HL.out b)
      replace HX := Lib.hid (Kin.All.later HX.out b)
      obtain rfl : n2 = 0 := by rw [← h2.len, ← List.length_map Sn.sem, hK]; rfl
      clear h2 hK
      clear b
      go_wp2_with fail
      refine (hWr.out _ HL.out).mono ?_
      rintro e9 wn ⟨rfl, rfl⟩
      go_wp2_with fail
      refine (hWt.out _ HX.out).mono ?_
      rintro e9 wn ⟨rfl, b⟩
      replace HB := Lib.hid (below_then HB.out b)
      replace HL := Lib.hid (Kin.All.later HL.out b)
      replace HX := Lib.hid (Kin.All.later HX.out b)
      clear b
      go_wp2_with fail
      refine (hRt.out _ HX.out).mono ?_
      rintro e9 wn ⟨rfl, b⟩
      replace HB := Lib.hid (below_then HB.out b)
      replace HL := Lib.hid (Kin.All.later HL.out b)
      replace HX := Lib.hid (Kin.All.later HX.out b)
      rw [hzd]
      clear b
      go_wp2_with fail
      refine (hDt.out _ HX.out).mono ?_
      rintro e9 wn ⟨rfl, b⟩
      replace HB := Lib.hid (below_then HB.out b)
      replace HL := Lib.hid (Kin.All.later HL.out b)
      replace HX := Lib.hid (Kin.All.later HX.out b)
      clear b
      go_wp2_with fail
      refine (hDr.out _ HL.out).mono ?_
      rintro e9 wn ⟨rfl, rfl⟩
      go_wp2_with fail
      refine (hAt.out _).mono ?_
      rintro e9 wn ⟨rfl, b⟩
      replace HB := Lib.hid (below_then HB.out b)
      replace HL := Lib.hid (Kin.All.later HL.out b)
      replace HX := Lib.hid (Kin.All.later HX.out b)
      clear b
      go_wp2_with fail
      refine (hAr.out _).mono ?_
      rintro e9 wn ⟨rfl, rfl⟩
      go_wp2_with fail
      refine (HW.out _).mono ?_
      rintro e9 wn ⟨rfl, b⟩
      replace HB := Lib.hid (below_then HB.out b)
      go_wp2
      go_ret
      exact ⟨rfl, HB.out⟩
  · clear hr
    go_wp2_with fail
    refine (HW.out _).mono ?_
    rintro e9 wn ⟨rfl, b⟩
    replace HB := Lib.hid (below_then HB.out b)
    go_wp2
    go_ret
    exact ⟨rfl, HB.out⟩
end Go.Proofs.Ytdhfnlpolelcpaa
