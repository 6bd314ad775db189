/-
  The walks of the laws of layer 17: TreeFields.
-/
import Derived.Test.YtdhfnlpolelcpaaLaw17Field
import Derived.Test.YtdhfnlpolelcpaaLaw17Walks1
import Derived.Deep.CutRange
import Derived.Deep.RegionHeld3
namespace Go.Proofs.Ytdhfnlpolelcpaa
open Go.RowKit

theorem six_cells {w : World} {g1 g2 g3 : Nat} {x1 y1 x2 y2 x3 y3 : Value} {t1 t2 t3 : TypeId} (h1 : w.heap[g1]? = some (.cells #[x1, y1] t1 (0, 0))) (h2 : w.heap[g2]? = some (.cells #[x2, y2] t2 (0, 0))) (h3 : w.heap[g3]? = some (.cells #[x3, y3] t3 (0, 0))) :
    w.cell? ⟨g1, 0, none⟩ = some x1 ∧ w.cell? ⟨g1, 1, none⟩ = some y1 ∧ w.cell? ⟨g2, 0, none⟩ = some x2 ∧ w.cell? ⟨g2, 1, none⟩ = some y2 ∧ w.cell? ⟨g3, 0, none⟩ = some x3 ∧ w.cell? ⟨g3, 1, none⟩ = some y3 :=
  ⟨(cells2 h1).1, (cells2 h1).2, (cells2 h2).1, (cells2 h2).2, (cells2 h3).1, (cells2 h3).2⟩
/-- Expressions that say what short ones say are short. -/
theorem long_like {K K' : List Lt} {O O' : List Sn} {N M : Nat} (h : K'.map Lt.tl = K.map Lt.tl) (g : O'.map Sn.L = O.map Sn.L) (hn' : ∀ x ∈ tCodes K' O', x.n = x.L.length) (hn : ∀ x ∈ tCodes K O, x.n = x.L.length) (hp : ∀ x ∈ tCodes K O, x.n ≤ N ∧ thinN M x.L) : ∀ x ∈ tCodes K' O', x.n ≤ N ∧ thinN M x.L := fun x hx => by
  have h9 := codes_all h g (p := fun L => L.length ≤ N ∧ thinN M L) (fun y hy => ⟨by rw [← hn y hy]; exact (hp y hy).1, (hp y hy).2⟩) x hx
  exact ⟨by rw [hn' x hx]; exact h9.1, h9.2⟩
set_option maxRecDepth 4096 in
set_option maxHeartbeats 16000000 in
theorem law17_fields (S : TreeSaid) (a : Option Addr) (n c : Nat) (K : List Lt) (b : Option Addr) (m d : Nat) (O : List Sn) (a' : Option Addr) (n' c' : Nat) (J : List Lt) (b' : Option Addr) (m' d' : Nat) (P : List Sn) (w : World)
    (h : Lts w a n c K) (h2 : Sns w b m d O) (g : Lts w a' n' c' J) (g2 : Sns w b' m' d' P) : Calls Try.prog 4 #[fiV a n c b m d, fiV a' n' c' b' m' d'] w (Gives (.bool true) w) := by
  have HW := Lib.hid fun w => law17_works S w
  have hbd := h.bound
  have hbd2 := h2.bound
  have hbd3 := g.bound
  have hbd4 := g2.bound
  have HKl := Lib.hid h.len
  have HOl := Lib.hid h2.len
  have HJl := Lib.hid g.len
  have HPl := Lib.hid g2.len
  have HB := Lib.hid (below_then (below_alloc w (.cells #[.slice a n c, .slice b m d] 41)) (below_alloc _ (.cells #[.slice a' n' c', .slice b' m' d'] 41)))
  obtain ⟨hx1, hx2⟩ := boxes_at w ((w.alloc (.cells #[.slice a n c, .slice b m d] 41)).alloc (.cells #[.slice a' n' c', .slice b' m' d'] 41)) #[.slice a n c, .slice b m d] #[.slice a' n' c', .slice b' m' d'] 41 41 (Below.refl _ _)
  have HR1 := Lib.hid hx1
  have HR2 := Lib.hid hx2
  have HK := Lib.hid (Kin.All.later h HB.out)
  have HO := Lib.hid (Kin.All.later h2 HB.out)
  have HJ := Lib.hid (Kin.All.later g HB.out)
  have HP := Lib.hid (Kin.All.later g2 HB.out)
  obtain ⟨f0, f1⟩ := cells2 hx1
  obtain ⟨g0, g1⟩ := cells2 hx2
  clear hx1 hx2 h h2 g g2
  go_enter Try.func4, Try.ntmps4
  unfold fiV
  go_wp2_with fail
  refine (ref17_longField a n c K b m d O 12 100 10 _ HK.out HO.out (by omega) (by omega)).mono ?_
  rintro e9 wn ⟨r, rfl, bb, hr⟩
  replace HB := Lib.hid (below_then HB.out bb)
  replace HK := Lib.hid (Kin.All.later HK.out bb)
  replace HO := Lib.hid (Kin.All.later HO.out bb)
  replace HJ := Lib.hid (Kin.All.later HJ.out bb)
  replace HP := Lib.hid (Kin.All.later HP.out bb)
  replace HR1 := Lib.hid (blk_later HR1.out bb)
  replace HR2 := Lib.hid (blk_later HR2.out bb)
  clear f0 f1 g0 g1
  obtain ⟨g0, g1⟩ := cells2 HR2.out
  clear bb
  cases r
  · obtain ⟨q1, q2, q3, q4⟩ := hr rfl
    have HSk := Lib.hid (not_long q3 q4)
    have HSk2 := Lib.hid (fun (x : Sn) (hx : x ∈ tCodes K O) => (show x.n ≤ 1000000 by have := (HSk.out x hx).1; omega))
    clear hr q3 q4
    go_wp2_with fail
    refine (ref17_longField a' n' c' J b' m' d' P 12 100 10 _ HJ.out HP.out (by omega) (by omega)).mono ?_
    rintro e9 wn ⟨r2, rfl, bb, hr⟩
    replace HB := Lib.hid (below_then HB.out bb)
    replace HK := Lib.hid (Kin.All.later HK.out bb)
    replace HO := Lib.hid (Kin.All.later HO.out bb)
    replace HJ := Lib.hid (Kin.All.later HJ.out bb)
    replace HP := Lib.hid (Kin.All.later HP.out bb)
    replace HR1 := Lib.hid (blk_later HR1.out bb)
    replace HR2 := Lib.hid (blk_later HR2.out bb)
    clear g0 g1
    clear bb
    cases r2
    · obtain ⟨q5, q6, q7, q8⟩ := hr rfl
      have HSj := Lib.hid (not_long q7 q8)
      have HSj2 := Lib.hid (fun (x : Sn) (hx : x ∈ tCodes J P) => (show x.n ≤ 1000000 by have := (HSj.out x hx).1; omega))
      obtain ⟨f0, f1⟩ := cells2 HR1.out
      clear hr q7 q8
      go_wp2_with fail
      refine (law17_toField a n c K b m d O _ HK.out HO.out (by omega) (by omega) HSk2.out).mono ?_
      rintro e9 wn ⟨a1, n1, c1, K1, b1, m1, d1, O1, rfl, h1, h2, hk, ho, bb⟩
      replace HB := Lib.hid (below_then HB.out bb)
      replace HK := Lib.hid (Kin.All.later HK.out bb)
      replace HO := Lib.hid (Kin.All.later HO.out bb)
      replace HJ := Lib.hid (Kin.All.later HJ.out bb)
      replace HP := Lib.hid (Kin.All.later HP.out bb)
      replace HR1 := Lib.hid (blk_later HR1.out bb)
      replace HR2 := Lib.hid (blk_later HR2.out bb)
      have hn1 : n1 ≤ 12 := by rw [← h1.len, ← List.length_map Lt.tl, hk, List.length_map, HKl.out]; exact q1
      have hm1 : m1 ≤ 12 := by rw [← h2.len, ← List.length_map Sn.L, ho, List.length_map, HOl.out]; exact q2
      have hbz := h1.bound
      have hbz2 := h2.bound
      have HNx := Lib.hid (codes_n h1 h2)
      have HKk := Lib.hid hk
      have HOo := Lib.hid ho
      have HB9 := Lib.hid (below_alloc wn (.cells #[.slice a1 n1 c1, .slice b1 m1 d1] 45))
      have HX1 := Lib.hid (Kin.All.later h1 HB9.out)
      have HX2 := Lib.hid (Kin.All.later h2 HB9.out)
      have HR3 := Lib.hid (blk_new wn #[.slice a1 n1 c1, .slice b1 m1 d1] 45)
      have HNk := Lib.hid (codes_n HK.out HO.out)
      replace HB := Lib.hid (below_then HB.out HB9.out)
      replace HK := Lib.hid (Kin.All.later HK.out HB9.out)
      replace HO := Lib.hid (Kin.All.later HO.out HB9.out)
      replace HJ := Lib.hid (Kin.All.later HJ.out HB9.out)
      replace HP := Lib.hid (Kin.All.later HP.out HB9.out)
      replace HR1 := Lib.hid (blk_later HR1.out HB9.out)
      replace HR2 := Lib.hid (blk_later HR2.out HB9.out)
      clear bb h1 h2 hk ho f0 f1 HB9
      obtain ⟨gx, hgx⟩ : ∃ gx, wn.heap.size = gx := ⟨_, rfl⟩
      unfold fiV
      have HSx : Hid (∀ x ∈ tCodes K1 O1, x.n ≤ 100 ∧ thinN 10 x.L) := Lib.hid (fun x hx => by
        have h9 := codes_all HKk.out HOo.out (p := fun L => L.length ≤ 100 ∧ thinN 10 L) (fun y hy => ⟨by rw [← HNk.out y hy]; exact (HSk.out y hy).1, (HSk.out y hy).2⟩) x hx
        exact ⟨by rw [HNx.out x hx]; exact h9.1, h9.2⟩)
      obtain ⟨x0, x1⟩ := cells2 HR3.out
      go_wp2_with fail
      rw [hgx] at HR3
      clear hgx
      refine (S.codes a1 n1 c1 K1 b1 m1 d1 O1 100 10 _ HX1.out HX2.out (by omega) (by omega) HSx.out (by omega) (by omega)).mono ?_
      rintro e9 wn ⟨a2, n2, c2, X, rfl, h2, hX, hXb, bb⟩
      replace HB := Lib.hid (below_then HB.out bb)
      replace HK := Lib.hid (Kin.All.later HK.out bb)
      replace HO := Lib.hid (Kin.All.later HO.out bb)
      replace HJ := Lib.hid (Kin.All.later HJ.out bb)
      replace HP := Lib.hid (Kin.All.later HP.out bb)
      replace HX1 := Lib.hid (Kin.All.later HX1.out bb)
      replace HX2 := Lib.hid (Kin.All.later HX2.out bb)
      replace HR1 := Lib.hid (blk_later HR1.out bb)
      replace HR2 := Lib.hid (blk_later HR2.out bb)
      replace HR3 := Lib.hid (blk_later HR3.out bb)
      have HQ := Lib.hid h2
      have hn2 := h2.len
      have hbd5 := h2.bound
      have HXs := Lib.hid hX
      have HXb := Lib.hid hXb
      clear h2 hX hXb x0 x1
      obtain ⟨f0, f1⟩ := cells2 HR1.out
      clear bb
      go_wp2_with fail
      refine (ref17_codes a n c K b m d O _ HK.out HO.out (by omega) (by omega)).mono ?_
      rintro e9 wn ⟨a3, n3, c3, rfl, h3, bb⟩
      replace HB := Lib.hid (below_then HB.out bb)
      replace HK := Lib.hid (Kin.All.later HK.out bb)
      replace HO := Lib.hid (Kin.All.later HO.out bb)
      replace HJ := Lib.hid (Kin.All.later HJ.out bb)
      replace HP := Lib.hid (Kin.All.later HP.out bb)
      replace HX1 := Lib.hid (Kin.All.later HX1.out bb)
      replace HX2 := Lib.hid (Kin.All.later HX2.out bb)
      replace HQ := Lib.hid (Kin.All.later HQ.out bb)
      replace HR1 := Lib.hid (blk_later HR1.out bb)
      replace HR2 := Lib.hid (blk_later HR2.out bb)
      replace HR3 := Lib.hid (blk_later HR3.out bb)
      have HC := Lib.hid h3
      have hn3 := h3.len
      have hbd6 := h3.bound
      clear h3 f0 f1
      clear bb
      obtain rfl : n3 = n2 := by rw [← hn3, ← hn2, ← List.length_map Sn.sem, ← codes_sem HKk.out HOo.out, ← HXs.out, List.length_map]
      have HE : Hid (∀ (k : Nat) (x y : Sn), X[k]? = some x → (tCodes K O)[k]? = some y → x.L.map Nd.sem = y.L.map Nd.sem ∧ thinN 1000000 x.L ∧ thinN 1000000 y.L ∧ x.n ≤ 1000) := Lib.hid (fun k x y hx hy => by
        have e1 : (X.map Sn.sem)[k]? = some x.sem := by rw [List.getElem?_map, hx]; rfl
        have e2 : ((tCodes K O).map Sn.sem)[k]? = some y.sem := by rw [List.getElem?_map, hy]; rfl
        rw [HXs.out, codes_sem HKk.out HOo.out, e2] at e1
        have hb := HXb.out x (List.mem_of_getElem? hx)
        have hb2 := HSk.out y (List.mem_of_getElem? hy)
        exact ⟨(Option.some.inj e1).symm, fun q hq => Nat.le_trans (hb.2 q hq) (by omega), fun q hq => Nat.le_trans (hb2.2 q hq) (by omega), by omega⟩)
      have HNa := Lib.hid hn2
      have HNb := Lib.hid hn3
      clear hn2 hn3
      go_wp2
      go_loopw [8] (fun iv wr => ∃ k : Nat, k ≤ n3 ∧ iv = .int .i64 (k : Int) ∧ Hid (Sns wr a2 n3 c2 X) ∧ Hid (Sns wr a3 n3 c3 (tCodes K O)) ∧ Hid (Lts wr a n c K) ∧ Hid (Sns wr b m d O) ∧ Hid (Lts wr a' n' c' J) ∧ Hid (Sns wr b' m' d' P) ∧ Hid (Lts wr a1 n1 c1 K1) ∧ Hid (Sns wr b1 m1 d1 O1) ∧ Hid (wr.heap[w.heap.size]? = some (.cells #[.slice a n c, .slice b m d] 41 (0, 0))) ∧ Hid (wr.heap[w.heap.size + 1]? = some (.cells #[.slice a' n' c', .slice b' m' d'] 41 (0, 0))) ∧ Hid (wr.heap[gx]? = some (.cells #[.slice a1 n1 c1, .slice b1 m1 d1] 45 (0, 0))) ∧ Hid (Below w.heap.size w wr)) (fun iv _ => n3 - (intOf iv).toNat)
      case atStart => exact ⟨0, by omega, by go_num, HQ, HC, HK, HO, HJ, HP, HX1, HX2, HR1, HR2, HR3, HB⟩
      case round =>
        clear HQ HC HK HO HJ HP HX1 HX2 HR1 HR2 HR3 HB
        obtain ⟨k, hk, rfl, HQ, HC, HK, HO, HJ, HP, HX1, HX2, HR1, HR2, HR3, HB⟩ := hrel
        by_cases hlt : k < n3
        · have hki : (k : Int) < (n3 : Int) := by omega
          obtain ⟨x, hx⟩ := at_some HNa.out hlt
          obtain ⟨y, hy⟩ := at_some HNb.out hlt
          obtain ⟨bq, oq, rfl, -, -⟩ := Sns.get HQ.out hx
          obtain ⟨bc, oc, rfl, -, -⟩ := Sns.get HC.out hy
          obtain ⟨he, hxt, hyt, hxn⟩ := HE.out k x y hx hy
          have HOf := Lib.hid fun w1 (h : Sns w1 (some ⟨bq, oq, none⟩) n3 c2 X) => law17_of x.a x.n x.c x.L w1 (sn_cells h hx rfl).2 (by omega)
          have HSm := Lib.hid fun w1 a9 n9 c9 (h : Nds w1 a9 n9 c9 x.L) (h2 : Sns w1 (some ⟨bc, oc, none⟩) n3 c3 (tCodes K O)) => ref17_same a9 n9 c9 x.L y.a y.n y.c y.L w1 h (sn_cells h2 hy rfl).2 hxt hyt
          rw [he] at HSm
          have hdt : decide (y.L.map Nd.sem = y.L.map Nd.sem) = true := by simp
          rw [hdt] at HSm
          have HQc := Lib.hid fun w1 (h : Sns w1 (some ⟨bq, oq, none⟩) n3 c2 X) (h2 : Sns w1 (some ⟨bc, oc, none⟩) n3 c3 (tCodes K O)) => (show w1.cell? ⟨bq, oq + k, none⟩ = some (.slice x.a x.n x.c) ∧ w1.cell? ⟨bc, oc + k, none⟩ = some (.slice y.a y.n y.c) from ⟨(sn_cells h hx rfl).1, (sn_cells h2 hy rfl).1⟩)
          clear hx hy he hxt hyt hxn hdt
          go_upto_region 11 with fail
          have bd : Below wr.heap.size wr wr.drew := (Below.refl _ _).drew
          have HB9 := Lib.hid (below_then HB.out bd)
          have HQ9 := Lib.hid (Kin.All.later HQ.out bd)
          have HC9 := Lib.hid (Kin.All.later HC.out bd)
          have H99 := Lib.hid bd
          clear HB HQ HC bd
          have pSn := HQc.out _ HQ9.out HC9.out
          go_region_held3 (fun w' => w'.cell? ⟨bq, oq + k, none⟩ = some (.slice x.a x.n x.c) ∧ w'.cell? ⟨bc, oc + k, none⟩ = some (.slice y.a y.n y.c)) (exact pSn)
            (first
            | (go_at_call 21; refine (HOf.out _ HQ9.out).mono ?_; rintro e9 wp1 ⟨a9, n9, c9, rfl, h9, b9⟩; replace HB9 := Lib.hid (below_then HB9.out b9); replace HQ9 := Lib.hid (Kin.All.later HQ9.out b9); replace HC9 := Lib.hid (Kin.All.later HC9.out b9); replace H99 := Lib.hid (below_then H99.out b9); have HN9 := Lib.hid h9; clear h9; clear b9; clear pSn; have pSn := HQc.out _ HQ9.out HC9.out)
            | (go_at_call 20; refine (HSm.out _ a9 n9 c9 HN9.out HC9.out).mono ?_; rintro e9 wp2 ⟨rfl, b9⟩; replace HB9 := Lib.hid (below_then HB9.out b9); replace HQ9 := Lib.hid (Kin.All.later HQ9.out b9); replace HC9 := Lib.hid (Kin.All.later HC9.out b9); replace H99 := Lib.hid (below_then H99.out b9); clear HN9; clear b9; clear pSn; have pSn := HQc.out _ HQ9.out HC9.out))
          clear pSn
          go_wp2
          go_roundw
          case rel => exact ⟨k + 1, by omega, by go_num, HQ9, HC9, Lib.hid (Kin.All.later HK.out H99.out), Lib.hid (Kin.All.later HO.out H99.out), Lib.hid (Kin.All.later HJ.out H99.out), Lib.hid (Kin.All.later HP.out H99.out), Lib.hid (Kin.All.later HX1.out H99.out), Lib.hid (Kin.All.later HX2.out H99.out), Lib.hid (blk_later HR1.out H99.out), Lib.hid (blk_later HR2.out H99.out), Lib.hid (blk_later HR3.out H99.out), HB9⟩
          case measure => simp [intOf]; omega
        · obtain rfl : k = n3 := by omega
          clear HE HQ HC
          have hsz : tSize (tCodes K1 O1) = tSize (tCodes K O) := size_L HNx.out HNk.out (codes_L HKk.out HOo.out)
          have HSz := Lib.hid fun w (h : Lts w a1 n1 c1 K1) (h2 : Sns w b1 m1 d1 O1) => S.size a1 n1 c1 K1 b1 m1 d1 O1 w h h2 (by omega) (by omega) (fun x hx => by have := (HSx.out x hx).1; omega)
          rw [hsz] at HSz
          have HSr := Lib.hid fun w (h : Lts w a n c K) (h2 : Sns w b m d O) => ref17_size a n c K b m d O w h h2 (by omega) (by omega) HSk2.out
          have HTo := Lib.hid fun w (h : Lts w a' n' c' J) (h2 : Sns w b' m' d' P) => law17_toField a' n' c' J b' m' d' P w h h2 (by omega) (by omega) HSj2.out
          have HSf := Lib.hid fun w a4 n4 c4 K4 b4 m4 d4 O4 (h : Lts w a1 n1 c1 K1) (h2 : Sns w b1 m1 d1 O1) (h3 : Lts w a4 n4 c4 K4) (h4 : Sns w b4 m4 d4 O4) (hn4 : n4 ≤ 5000) (hm4 : m4 ≤ 5000) (hs4 : ∀ x ∈ tCodes K4 O4, x.n ≤ 100 ∧ thinN 10 x.L) =>
            S.sameField a1 n1 c1 K1 b1 m1 d1 O1 a4 n4 c4 K4 b4 m4 d4 O4 w h h2 h3 h4 (by omega) (by omega) hn4 hm4 (fun x hx => ⟨by have := (HSx.out x hx).1; omega, fun q hq => Nat.le_trans ((HSx.out x hx).2 q hq) (by omega)⟩) (fun x hx => ⟨by have := (hs4 x hx).1; omega, fun q hq => Nat.le_trans ((hs4 x hx).2 q hq) (by omega)⟩)
          have HSg := Lib.hid fun w (h : Lts w a n c K) (h2 : Sns w b m d O) (h3 : Lts w a' n' c' J) (h4 : Sns w b' m' d' P) =>
            ref17_sameField a n c K b m d O a' n' c' J b' m' d' P w h h2 h3 h4 (by omega) (by omega) (fun x hx q hq => Nat.le_trans ((HSk.out x hx).2 q hq) (by omega)) (fun x hx q hq => Nat.le_trans ((HSj.out x hx).2 q hq) (by omega))
          obtain ⟨rs, hrs⟩ : ∃ rs, decide (tSame K O J P) = rs := ⟨_, rfl⟩
          have HRs := Lib.hid hrs
          have hself : decide (tSame K1 O1 K1 O1) = true := decide_eq_true (tSame_self K1 O1)
          have HSelf := Lib.hid hself
          generalize tSize (tCodes K O) = sz at *
          unfold fiV at HSz HSr HTo HSf HSg
          rw [hrs] at HSg
          clear hrs hself hsz hbd5 hbd6 HXs HXb HNa HNb
          go_upto_region 13 with fail
          have bd : Below wr.heap.size wr wr.drew := (Below.refl _ _).drew
          replace HB := Lib.hid (below_then HB.out bd)
          replace HK := Lib.hid (Kin.All.later HK.out bd)
          replace HO := Lib.hid (Kin.All.later HO.out bd)
          replace HJ := Lib.hid (Kin.All.later HJ.out bd)
          replace HP := Lib.hid (Kin.All.later HP.out bd)
          replace HX1 := Lib.hid (Kin.All.later HX1.out bd)
          replace HX2 := Lib.hid (Kin.All.later HX2.out bd)
          replace HR1 := Lib.hid (blk_later HR1.out bd)
          replace HR2 := Lib.hid (blk_later HR2.out bd)
          replace HR3 := Lib.hid (blk_later HR3.out bd)
          clear bd
          have pSn := six_cells HR1.out HR2.out HR3.out
          go_region_held3 (fun w' => w'.cell? ⟨w.heap.size, 0, none⟩ = some (.slice a n c) ∧ w'.cell? ⟨w.heap.size, 1, none⟩ = some (.slice b m d) ∧ w'.cell? ⟨w.heap.size + 1, 0, none⟩ = some (.slice a' n' c') ∧ w'.cell? ⟨w.heap.size + 1, 1, none⟩ = some (.slice b' m' d') ∧ w'.cell? ⟨gx, 0, none⟩ = some (.slice a1 n1 c1) ∧ w'.cell? ⟨gx, 1, none⟩ = some (.slice b1 m1 d1)) (exact pSn)
            (first
            | (go_at_call 26; refine (HSz.out _ HX1.out HX2.out).mono ?_; rintro e9 wp1 ⟨rfl, bb⟩; replace HB := Lib.hid (below_then HB.out bb); replace HK := Lib.hid (Kin.All.later HK.out bb); replace HO := Lib.hid (Kin.All.later HO.out bb); replace HJ := Lib.hid (Kin.All.later HJ.out bb); replace HP := Lib.hid (Kin.All.later HP.out bb); replace HX1 := Lib.hid (Kin.All.later HX1.out bb); replace HX2 := Lib.hid (Kin.All.later HX2.out bb); replace HR1 := Lib.hid (blk_later HR1.out bb); replace HR2 := Lib.hid (blk_later HR2.out bb); replace HR3 := Lib.hid (blk_later HR3.out bb); clear bb; clear pSn; have pSn := six_cells HR1.out HR2.out HR3.out)
            | (go_at_call 27; refine (HSr.out _ HK.out HO.out).mono ?_; rintro e9 wp2 ⟨rfl, bb⟩; replace HB := Lib.hid (below_then HB.out bb); replace HK := Lib.hid (Kin.All.later HK.out bb); replace HO := Lib.hid (Kin.All.later HO.out bb); replace HJ := Lib.hid (Kin.All.later HJ.out bb); replace HP := Lib.hid (Kin.All.later HP.out bb); replace HX1 := Lib.hid (Kin.All.later HX1.out bb); replace HX2 := Lib.hid (Kin.All.later HX2.out bb); replace HR1 := Lib.hid (blk_later HR1.out bb); replace HR2 := Lib.hid (blk_later HR2.out bb); replace HR3 := Lib.hid (blk_later HR3.out bb); clear bb; clear pSn; have pSn := six_cells HR1.out HR2.out HR3.out)
            | (go_at_call 23; refine (HTo.out _ HJ.out HP.out).mono ?_; rintro e9 wp3 ⟨a4, n4, c4, K4, b4, m4, d4, O4, rfl, h4, h5, hk4, ho4, bb⟩; have HY1 := Lib.hid h4; have HY2 := Lib.hid h5; have hn4 : n4 ≤ 5000 := (by rw [← h4.len, ← List.length_map Lt.tl, hk4, List.length_map, HJl.out]; omega); have hm4 : m4 ≤ 5000 := (by rw [← h5.len, ← List.length_map Sn.L, ho4, List.length_map, HPl.out]; omega); have HNy := Lib.hid (codes_n h4 h5); have HNj := Lib.hid (codes_n HJ.out HP.out); have HKy := Lib.hid hk4; have HOy := Lib.hid ho4; unfold fiV; clear h4 h5 hk4 ho4; replace HB := Lib.hid (below_then HB.out bb); replace HK := Lib.hid (Kin.All.later HK.out bb); replace HO := Lib.hid (Kin.All.later HO.out bb); replace HJ := Lib.hid (Kin.All.later HJ.out bb); replace HP := Lib.hid (Kin.All.later HP.out bb); replace HX1 := Lib.hid (Kin.All.later HX1.out bb); replace HX2 := Lib.hid (Kin.All.later HX2.out bb); replace HR1 := Lib.hid (blk_later HR1.out bb); replace HR2 := Lib.hid (blk_later HR2.out bb); replace HR3 := Lib.hid (blk_later HR3.out bb); clear bb; clear pSn; have pSn := six_cells HR1.out HR2.out HR3.out)
            | (go_at_call 28; (first
              | (have ma := mA; refine (HSf.out _ a1 n1 c1 K1 b1 m1 d1 O1 HX1.out HX2.out HX1.out HX2.out (by omega) (by omega) HSx.out).mono ?_; rintro e9 wp6 ⟨rfl, bb⟩; rw [HSelf.out]; replace HB := Lib.hid (below_then HB.out bb); replace HK := Lib.hid (Kin.All.later HK.out bb); replace HO := Lib.hid (Kin.All.later HO.out bb); replace HJ := Lib.hid (Kin.All.later HJ.out bb); replace HP := Lib.hid (Kin.All.later HP.out bb); replace HX1 := Lib.hid (Kin.All.later HX1.out bb); replace HX2 := Lib.hid (Kin.All.later HX2.out bb); replace HR1 := Lib.hid (blk_later HR1.out bb); replace HR2 := Lib.hid (blk_later HR2.out bb); replace HR3 := Lib.hid (blk_later HR3.out bb); clear bb; clear pSn; have pSn := six_cells HR1.out HR2.out HR3.out)
              | (refine (HSf.out _ a4 n4 c4 K4 b4 m4 d4 O4 HX1.out HX2.out HY1.out HY2.out hn4 hm4 (long_like HKy.out HOy.out HNy.out HNj.out HSj.out)).mono ?_; rintro e9 wp4 ⟨rfl, bb⟩; rw [decide_eq_decide.2 (same_iff HKk.out HOo.out HKy.out HOy.out), HRs.out]; clear HY1 HY2; have mA := True.intro; replace HB := Lib.hid (below_then HB.out bb); replace HK := Lib.hid (Kin.All.later HK.out bb); replace HO := Lib.hid (Kin.All.later HO.out bb); replace HJ := Lib.hid (Kin.All.later HJ.out bb); replace HP := Lib.hid (Kin.All.later HP.out bb); replace HX1 := Lib.hid (Kin.All.later HX1.out bb); replace HX2 := Lib.hid (Kin.All.later HX2.out bb); replace HR1 := Lib.hid (blk_later HR1.out bb); replace HR2 := Lib.hid (blk_later HR2.out bb); replace HR3 := Lib.hid (blk_later HR3.out bb); clear bb; clear pSn; have pSn := six_cells HR1.out HR2.out HR3.out)))
            | (go_at_call 29; refine (HSg.out _ HK.out HO.out HJ.out HP.out).mono ?_; rintro e9 wp5 ⟨rfl, bb⟩; replace HB := Lib.hid (below_then HB.out bb); replace HK := Lib.hid (Kin.All.later HK.out bb); replace HO := Lib.hid (Kin.All.later HO.out bb); replace HJ := Lib.hid (Kin.All.later HJ.out bb); replace HP := Lib.hid (Kin.All.later HP.out bb); replace HX1 := Lib.hid (Kin.All.later HX1.out bb); replace HX2 := Lib.hid (Kin.All.later HX2.out bb); replace HR1 := Lib.hid (blk_later HR1.out bb); replace HR2 := Lib.hid (blk_later HR2.out bb); replace HR3 := Lib.hid (blk_later HR3.out bb); clear bb; clear pSn; have pSn := six_cells HR1.out HR2.out HR3.out)
            | (go_at_call 9; refine (HW.out _).mono ?_; rintro e9 wp7 ⟨rfl, bb⟩; replace HB := Lib.hid (below_then HB.out bb); replace HK := Lib.hid (Kin.All.later HK.out bb); replace HO := Lib.hid (Kin.All.later HO.out bb); replace HJ := Lib.hid (Kin.All.later HJ.out bb); replace HP := Lib.hid (Kin.All.later HP.out bb); replace HX1 := Lib.hid (Kin.All.later HX1.out bb); replace HX2 := Lib.hid (Kin.All.later HX2.out bb); replace HR1 := Lib.hid (blk_later HR1.out bb); replace HR2 := Lib.hid (blk_later HR2.out bb); replace HR3 := Lib.hid (blk_later HR3.out bb); clear bb; clear pSn; have pSn := six_cells HR1.out HR2.out HR3.out))
          go_wp2
          go_ret
          exact ⟨by first | rfl | simp, HB.out⟩
    · clear hr
      go_wp2_with fail
      refine (HW.out _).mono ?_
      rintro e9 wn ⟨rfl, b⟩
      replace HB := Lib.hid (below_then HB.out b)
      go_wp2
      go_ret
      exact ⟨rfl, HB.out⟩
  · clear hr
    go_wp2_with fail
    refine (HW.out _).mono ?_
    rintro e9 wn ⟨rfl, b⟩
    replace HB := Lib.hid (below_then HB.out b)
    go_wp2
    go_ret
    exact ⟨rfl, HB.out⟩
end Go.Proofs.Ytdhfnlpolelcpaa
