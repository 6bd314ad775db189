/-
  Several texts of this claim as one, group 12.
-/
import Derived.Test.YthblmpkdcahmkaaG11
import Derived.Test.YthblmpkdcahmkaaG6
import Derived.Test.YthblmpkdcahmkaaG5
import Derived.Laws.ResultCell
import Derived.Laws.Rows
/-
  The document's answer of layer 18: field.
-/
namespace Go.Proofs.Ythblmpkdcahmkaa
open Go.WideShapes Go.RowKit Go.Deep

/-- Lets, outs comes back; the reader has gone on to this. -/
def FieldOut (P St Lt' Sl : TypeId) (B g : Nat) (a : Option Addr) (n c : Nat) (W : List Lw) (E : Nat) (r : List (List UInt8 × List Np) × List (List Np) × Ps) (w : World) (e : Ending) (w' : World) : Prop :=
  ∃ (al : Option Addr) (cl : Nat) (X : List Lt) (ao : Option Addr) (co : Nat) (Y : List Sn) (nv : Value) (M : List (List UInt8)), e = .returned (.agg #[.slice al X.length cl, .slice ao Y.length co]) ∧ ltK.Mine w' (g + 1) Lt' (.slice al X.length cl) X ∧ snK.Mine w' (g + 1) Sl (.slice ao Y.length co) Y ∧ X.map ltP = r.1 ∧ Y.map Sn.sem = r.2.1 ∧
    (∀ x ∈ X, x.n ≤ 100000 ∧ thinN 20 x.L) ∧ (∀ x ∈ Y, x.n ≤ 100000 ∧ thinN 20 x.L) ∧ FarL g X ∧ FarS g Y ∧ PS P St w' g a n c W E nv M r.2.2 ∧ Below B w w'
theorem names_past {P St : TypeId} {w w' : World} {g : Nat} {a : Option Addr} {n c : Nat} {W : List Lw} {E : Nat} {nv : Value} {N : List (List UInt8)} {s : Ps} {base : Nat} (h : stK.Mine w base St nv N) (hp : PS P St w g a n c W E nv N s) (hg : w.grownBy w' (some g)) : stK.Mine w' base St nv N :=
  ⟨h.1.beside hg (fun k hk e => hp.far k hk (Option.some.inj e)), fun _ _ => trivial⟩
theorem lets_thin {X : List Lt} (h : ∀ x ∈ X, x.n ≤ 100000 ∧ thinN 20 x.L) {x : Lt} (hn : x.n ≤ 100000) (ht : thinN 20 x.L) : ∀ y ∈ X ++ [x], y.n ≤ 100000 ∧ thinN 20 y.L := fun y hy => by
  rcases List.mem_append.1 hy with h9 | h9
  · exact h y h9
  · rw [List.mem_singleton.1 h9]; exact ⟨hn, ht⟩
theorem outs_thin {X : List Sn} (h : ∀ x ∈ X, x.n ≤ 100000 ∧ thinN 20 x.L) {x : Sn} (hn : x.n ≤ 100000) (ht : thinN 20 x.L) : ∀ y ∈ X ++ [x], y.n ≤ 100000 ∧ thinN 20 y.L := fun y hy => by
  rcases List.mem_append.1 hy with h9 | h9
  · exact h y h9
  · rw [List.mem_singleton.1 h9]; exact ⟨hn, ht⟩
theorem st_news (w : World) (t : List UInt8) (e : TypeId) {z : Nat} (hz : w.heap.size = z) : ∀ j u, ([t].flatMap stK.cells)[j]? = some u → (w.alloc (.cells #[.string (bs t)] e)).cell? ((⟨z, 0, none⟩ : Addr).add j) = some u := by
  subst hz
  exact Cls.news_one (C := stK.toCls) w t e
theorem lt_news_at (w : World) (x : Lt) (e : TypeId) {z : Nat} (hz : w.heap.size = z) : ∀ j u, ([x].flatMap ltK.cells)[j]? = some u → (w.alloc (.cells #[.string (bs x.t), .slice x.a x.n x.c] e)).cell? ((⟨z, 0, none⟩ : Addr).add j) = some u := by
  subst hz
  exact lt_news w x e
theorem sn_news_at (w : World) (x : Sn) (e : TypeId) {z : Nat} (hz : w.heap.size = z) : ∀ j u, ([x].flatMap snK.cells)[j]? = some u → (w.alloc (.cells #[.slice x.a x.n x.c] e)).cell? ((⟨z, 0, none⟩ : Addr).add j) = some u := by
  subst hz
  exact sn_news w x e
theorem field_done {P St LT' SL FT' : TypeId} {w w4 : World} {B g r base : Nat} {a : Option Addr} {n c : Nat} {W : List Lw} {E : Nat} {nv : Value} {M : List (List UInt8)} {s' : Ps} {al ao : Option Addr} {cl co : Nat} {X : List Lt} {Y : List Sn} {R : List (List UInt8 × List Np) × List (List Np) × Ps}
    (hp : PS P St w4 g a n c W E nv M s') (hR : w4.heap[r]? = some (.cells #[.slice none 0 0, .slice none 0 0] FT' (0, 0))) (hgr : g < r) (hne : St ≠ FT') (hM : ltK.Mine w4 base LT' (.slice al X.length cl) X) (hO : snK.Mine w4 base SL (.slice ao Y.length co) Y) (hbase : r < base)
    (hFL : FarL g X) (hFS : FarS g Y) (hTh : ∀ x ∈ X, x.n ≤ 100000 ∧ thinN 20 x.L) (hTo : ∀ x ∈ Y, x.n ≤ 100000 ∧ thinN 20 x.L) (hBl : Below B w w4) (hB : B ≤ g) (hRr : R = (X.map ltP, Y.map Sn.sem, s')) :
    FieldOut P St LT' SL B g a n c W E R w (.returned (.agg #[.slice al X.length cl, .slice ao Y.length co])) ((w4.setCell ⟨r, 0, none⟩ (.slice al X.length cl)).setCell ⟨r, 1, none⟩ (.slice ao Y.length co)) := by
  subst hRr
  have g1 := grown_cell w4 r 0 (.slice al X.length cl)
  have hRa : (w4.setCell ⟨r, 0, none⟩ (.slice al X.length cl)).heap[r]? = some (.cells #[.slice al X.length cl, .slice none 0 0] FT' (0, 0)) := by simpa using blk_set hR 0 (.slice al X.length cl)
  have g2 := grown_cell (w4.setCell ⟨r, 0, none⟩ (.slice al X.length cl)) r 1 (.slice ao Y.length co)
  have hM1 := Kin.Mine.boxed hM hR (fun u hu => slice_let (two_slices u hu)) (fun k hk e => by have := hM.base k hk; omega) 0 (.slice al X.length cl)
  have hM2 := Kin.Mine.boxed hM1 hRa (fun u hu => slice_let (two_slices u hu)) (fun k hk e => by have := hM.base k hk; omega) 1 (.slice ao Y.length co)
  have hO1 := Kin.Mine.boxed hO hR two_slices (fun k hk e => by have := hO.base k hk; omega) 0 (.slice al X.length cl)
  have hO2 := Kin.Mine.boxed hO1 hRa two_slices (fun k hk e => by have := hO.base k hk; omega) 1 (.slice ao Y.length co)
  exact ⟨al, cl, X, ao, co, Y, nv, M, rfl, hM2.low (by omega), hO2.low (by omega), rfl, rfl, hTh, hTo, hFL, hFS, (hp.box hR hne hgr g1).box hRa hne hgr g2, (hBl.setCell (p := ⟨r, 0, none⟩) (show B ≤ r by omega) _).setCell (p := ⟨r, 1, none⟩) (show B ≤ r by omega) _⟩
theorem infoLet18 : (Try.prog.info? 72).map (fun i => (i.zero, i.size, i.bytes)) = some (some (.agg #[.string ⟨#[]⟩, .slice none 0 0]), 2, 40) := by kernel_rfl
theorem infoOut18 : (Try.prog.info? 45).map (fun i => (i.zero, i.size, i.bytes)) = some (some (.slice none 0 0), 1, 24) := by kernel_rfl
theorem infoName18 : (Try.prog.info? 9).map (fun i => (i.zero, i.size, i.bytes)) = some (some (.string ⟨#[]⟩), 1, 16) := by kernel_rfl
set_option maxRecDepth 4096 in
set_option maxHeartbeats 16000000 in
theorem ref18_field (W : List Lw) (E : Nat) (hW : ∀ x ∈ W, Wk x) (hlen : W.length ≤ 4000) (B g : Nat) (a : Option Addr) (n c : Nat) (nv0 : Value) (s0 : Ps) (w : World) (h : PS 68 9 w g a n c W E nv0 [] s0) (hN : stK.Mine w B 9 nv0 []) (hB : B ≤ g) (hd0 : s0.deep = 0) (hi0 : s0.i ≤ W.length) :
    Calls Try.prog 28 #[.pointer (some ⟨g, 0, none⟩)] w (FieldOut 68 9 72 45 B g a n c W E (pField W E s0) w) := by
  have hA1 := lt_at Try.underlying31 infoLet18
  have hA2 := sn_at Try.underlying32 infoOut18
  have hA3 := st_at Try.underlying41 infoName18
  have ne1 : 9 ≠ 72 := by decide
  have ne2 : 9 ≠ 45 := by decide
  have ne3 : 9 ≠ 34 := by decide
  have HAll := Lib.hid fun N => (ref18_all W E N hW (by omega) 41).2
  have HFin := Lib.hid fun N => (pAll_fine W E N 41).2
  have hgl := h.lt
  have hnl := h.len
  have hbd := h.words.bound
  have HW := Lib.hid hW
  obtain ⟨R, hR⟩ : ∃ R, pField W E s0 = R := ⟨_, rfl⟩
  rw [hR]
  obtain ⟨RL, hRL⟩ : ∃ RL, pLets W E W.length [] [] s0 = RL := ⟨_, rfl⟩
  unfold pField at hR
  rw [hRL] at hR
  try dsimp only at hR
  have HRr := Lib.hid hR
  have HRL := Lib.hid hRL
  have b1 := below_alloc w (.cells #[.slice none 0 0, .slice none 0 0] 34)
  have b2 := below_alloc (w.alloc (.cells #[.slice none 0 0, .slice none 0 0] 34)) (.cells #[.slice none 0 0, .slice none 0 0] 34)
  have HP0 := Lib.hid (h.later (below_then b1 b2))
  have HN0 := Lib.hid (hN.later (below_then b1 b2))
  have HRb0 := Lib.hid (blk_later (blk_new w #[.slice none 0 0, .slice none 0 0] 34) b2)
  have HFb0 : Hid (((w.alloc (.cells #[.slice none 0 0, .slice none 0 0] 34)).alloc (.cells #[.slice none 0 0, .slice none 0 0] 34)).heap[w.heap.size + 1]? = some (.cells #[.slice none 0 0, .slice none 0 0] 34 (0, 0))) := Lib.hid (by
    have h9 := blk_new (w.alloc (.cells #[.slice none 0 0, .slice none 0 0] 34)) #[.slice none 0 0, .slice none 0 0] 34
    rw [blk_size] at h9; exact h9)
  have HB0 := Lib.hid ((below_then b1 b2).mono (show B ≤ w.heap.size by omega))
  have hsz0 : w.heap.size + 2 ≤ ((w.alloc (.cells #[.slice none 0 0, .slice none 0 0] 34)).alloc (.cells #[.slice none 0 0, .slice none 0 0] 34)).heap.size := by simp
  clear h hW hN hR hRL b1 b2
  go_enter Try.func28, Try.ntmps28
  go_wp2
  generalize ((w.alloc (.cells #[.slice none 0 0, .slice none 0 0] 34)).alloc (.cells #[.slice none 0 0, .slice none 0 0] 34)) = wz at *
  go_loopw [4] (fun _ wr => w.heap.size + 2 ≤ wr.heap.size ∧ ∃ (m : Nat) (M : List (List UInt8)) (K : List (List UInt8 × List Np)) (X : List Lt) (al : Option Addr) (cl : Nat) (nv : Value) (s : Ps), Hid (PS 68 9 wr g a n c W E nv M s) ∧ Hid (stK.Mine wr B 9 nv M) ∧ Hid (wr.heap[w.heap.size]? = some (.cells #[.slice none 0 0, .slice none 0 0] 34 (0, 0))) ∧ Hid (wr.heap[w.heap.size + 1]? = some (.cells #[.slice al X.length cl, .slice none 0 0] 34 (0, 0))) ∧ Hid (ltK.Mine wr (w.heap.size + 2) 72 (.slice al X.length cl) X) ∧ Hid (X.map ltP = K) ∧ Hid (∀ x ∈ X, x.n ≤ 100000 ∧ thinN 20 x.L) ∧ Hid (FarL g X) ∧ Hid (Below B w wr) ∧ Hid (pLets W E m M K s = RL) ∧ W.length ≤ s.i + m ∧ s.deep = 0 ∧ s.i ≤ W.length ∧ X.length ≤ s.i ∧ M.length ≤ s.i) (fun _ wr => W.length + 1 - heldI wr g)
  case atStart => exact ⟨hsz0, W.length, [], [], [], none, 0, nv0, s0, HP0, HN0, HRb0, HFb0, Lib.hid (Kin.Mine.nil _ _ _), Lib.hid rfl, Lib.hid (fun x hx => by cases hx), Lib.hid (farL_nil g), HB0, HRL, by omega, hd0, hi0, by simp, by simp⟩
  case round =>
    clear HP0 HN0 HRb0 HFb0 HB0 HRL
    obtain ⟨hsz, m, M, K, X, al, cl, nv, s, HP, HNm, HRb, HFb, HM, HK, HTh, HFr, HBl, HLt, hb1, hb2, hb3, hb4, hb5⟩ := hrel
    have HPh := Lib.hid HP.out.held
    have HSl := Lib.hid (ref18_sees g a n c W E nv M s [108, 101, 116] wr HP.out)
    by_cases hx : pSees W s [108, 101, 116] = true
    · have hi := pSees_i W hx
      obtain ⟨m, rfl⟩ : ∃ m', m = m' + 1 := ⟨m - 1, by omega⟩
      have hLt := HLt.out
      rw [pLets, if_pos hx] at hLt
      try dsimp only at hLt
      rw [hx] at HSl
      clear hx HLt
      have NM0 := HNm
      have RB0 := HRb
      have FB0 := HFb
      have ML0 := HM
      have BL0 := HBl
      clear HNm HRb HFb HM HBl
      go_wp2_with fail
      refine HSl.out.mono ?_
      rintro e w1 ⟨rfl, b1⟩
      have P1 := Lib.hid (HP.out.later b1)
      have hs1 : w.heap.size + 2 ≤ w1.heap.size := Nat.le_trans hsz b1.size
      have NM1 := Lib.hid (NM0.out.later b1)
      have RB1 := Lib.hid (blk_later RB0.out b1)
      have FB1 := Lib.hid (blk_later FB0.out b1)
      have ML1 := Lib.hid (ML0.out.later b1)
      have BL1 := Lib.hid (BL0.out.trans (b1.mono (by have := BL0.out.size; omega)))
      clear NM0 RB0 FB0 ML0 BL0
      clear b1 HSl HP
      obtain ⟨e0, e1, e2, e3, e4, e5⟩ := P1.out.cells
      have ef := P1.out.free 1
      have ki : IntKind.i64.wrap ((s.i : Int) + 1) = ((s.i + 1 : Nat) : Int) := by rw [IntKind.wrap_i64]; omega
      obtain ⟨h2, g2⟩ := P1.out.set1 (s.i + 1)
      have P2 := Lib.hid h2
      have NM2 := Lib.hid (names_past NM1.out P1.out g2)
      have RB2 := Lib.hid (box_past RB1.out g2 (by omega))
      have FB2 := Lib.hid (box_past FB1.out g2 (by omega))
      have ML2 := Lib.hid (lets_past ML1.out P1.out g2 (by omega) HFr.out)
      have BL2 := Lib.hid (BL1.out.grown g2 (by have := BL1.out.size; omega) (fun k hk => by have := Option.some.inj hk; omega))
      clear NM1 RB1 FB1 ML1 BL1
      have hs2 := Nat.le_trans hs1 g2.size
      have HFe := Lib.hid (ref18_free g a n c W E nv M { s with i := s.i + 1 } _ h2)
      clear h2 g2
      by_cases hf : pFree W { s with i := s.i + 1 } = true
      · rw [if_pos hf] at hLt
        rw [hf] at HFe
        have hkk : pKind W { s with i := s.i + 1 } = 2 := by
          have h9 := hf
          unfold pFree at h9
          simp at h9
          exact h9.1.1.1.1
        have hi2 := pKind_i W (s := { s with i := s.i + 1 }) (by omega)
        dsimp only at hi2
        obtain ⟨x, hxw⟩ : ∃ x, W[s.i + 1]? = some x := ⟨W[s.i + 1]'hi2.2, List.getElem?_eq_getElem _⟩
        have hT : pText W { s with i := s.i + 1 } = x.t := by unfold pText; rw [hxw]
        rw [hT] at hLt
        have HXw := Lib.hid hxw
        clear hf hkk hT hxw
        go_wp2_with fail
        refine HFe.out.mono ?_
        rintro e w3 ⟨rfl, b3⟩
        have P3 := Lib.hid (P2.out.later b3)
        have hs3 : w.heap.size + 2 ≤ w3.heap.size := Nat.le_trans hs2 b3.size
        have NM3 := Lib.hid (NM2.out.later b3)
        have RB3 := Lib.hid (blk_later RB2.out b3)
        have FB3 := Lib.hid (blk_later FB2.out b3)
        have ML3 := Lib.hid (ML2.out.later b3)
        have BL3 := Lib.hid (BL2.out.trans (b3.mono (by have := BL2.out.size; omega)))
        clear NM2 RB2 FB2 ML2 BL2
        clear b3 HFe P2 e0 e1 e2 e3 e4 e5 ef P1 hs1 hs2
        obtain ⟨b, off, rfl, hlt, f0, f1, f2⟩ := P3.out.word HXw.out
        obtain ⟨e0, e1, e2, e3, e4, e5⟩ := P3.out.cells
        have ef := P3.out.free 1
        dsimp only at f0 f1 f2 e1 e3 e5
        have k1 : ((s.i + 1 : Nat) : Int) < (n : Int) := by omega
        have ki2 : IntKind.i64.wrap (((s.i + 1 : Nat) : Int) + 1) = ((s.i + 1 + 1 : Nat) : Int) := by rw [IntKind.wrap_i64]; omega
        generalize x.t = t at *
        go_wp2
        go_region
        have bd : Below w3.heap.size w3 w3.drew := (Below.refl _ _).drew
        have P4 := Lib.hid (P3.out.later bd)
        have NM4 := Lib.hid (NM3.out.later bd)
        have RB4 := Lib.hid (blk_later RB3.out bd)
        have FB4 := Lib.hid (blk_later FB3.out bd)
        have ML4 := Lib.hid (ML3.out.later bd)
        have BL4 := Lib.hid (BL3.out.trans (bd.mono (by have := BL3.out.size; omega)))
        clear NM3 RB3 FB3 ML3 BL3
        obtain ⟨h5, g5⟩ := P4.out.set1 (s.i + 1 + 1)
        have P5 := Lib.hid h5
        have NM5 := Lib.hid (names_past NM4.out P4.out g5)
        have RB5 := Lib.hid (box_past RB4.out g5 (by omega))
        have FB5 := Lib.hid (box_past FB4.out g5 (by omega))
        have ML5 := Lib.hid (lets_past ML4.out P4.out g5 (by omega) HFr.out)
        have BL5 := Lib.hid (BL4.out.grown g5 (by have := BL4.out.size; omega) (fun k hk => by have := Option.some.inj hk; omega))
        clear NM4 RB4 FB4 ML4 BL4
        have hs5 : w.heap.size + 2 ≤ (w3.drew.setCell ⟨g, 1, none⟩ (.int .i64 ((s.i + 1 + 1 : Nat) : Int))).heap.size := Nat.le_trans hs3 g5.size
        have HMu := Lib.hid (ref18_must g (some ⟨b, off, none⟩) n c W E nv M { s with i := s.i + 1 + 1 } [61] _ h5 (by dsimp only; omega))
        have d1 := (pMust_on W E [61]).deep { s with i := s.i + 1 + 1 }
        have d2 := (pMust_on W E [61]).within { s with i := s.i + 1 + 1 } (by dsimp only; omega)
        have d3 := (pMust_on W E [61]).len { s with i := s.i + 1 + 1 }
        generalize pMust W E [61] { s with i := s.i + 1 + 1 } = s6 at *
        dsimp only at d1 d2 d3
        clear h5 g5 bd P3 P4
        go_wp2_with fail
        refine HMu.out.mono ?_
        rintro e w6 ⟨rfl, h6, g6⟩
        have hs6 := Nat.le_trans hs5 g6.size
        have P6 := Lib.hid h6
        have NM6 := Lib.hid (names_past NM5.out P5.out g6)
        have RB6 := Lib.hid (box_past RB5.out g6 (by omega))
        have FB6 := Lib.hid (box_past FB5.out g6 (by omega))
        have ML6 := Lib.hid (lets_past ML5.out P5.out g6 (by omega) HFr.out)
        have BL6 := Lib.hid (BL5.out.grown g6 (by have := BL5.out.size; omega) (fun k hk => by have := Option.some.inj hk; omega))
        clear NM5 RB5 FB5 ML5 BL5
        clear h6 g6 HMu P5 e0 e1 e2 e3 e4 e5 ef f0 f1 f2 hs3 hs5
        go_upto_region 10 with fail
        have bd : Below w6.heap.size w6 w6.drew := (Below.refl _ _).drew
        have P7 := Lib.hid (P6.out.later bd)
        have NM7 := Lib.hid (NM6.out.later bd)
        have RB7 := Lib.hid (blk_later RB6.out bd)
        have FB7 := Lib.hid (blk_later FB6.out bd)
        have ML7 := Lib.hid (ML6.out.later bd)
        have BL7 := Lib.hid (BL6.out.trans (bd.mono (by have := BL6.out.size; omega)))
        clear NM6 RB6 FB6 ML6 BL6
        have hs7 : w.heap.size + 2 ≤ w6.drew.heap.size := hs6
        have HEx := Lib.hid (HAll.out M g (some ⟨b, off, none⟩) n c nv s6 _ P7.out ⟨by omega, fun h9 => absurd h9 (by decide), by omega⟩)
        have q1 := (HFin.out M).deep s6
        have q2 := (HFin.out M).within s6 (by omega)
        have q3 := (HFin.out M).len s6
        generalize (pAll W E M 41).2 s6 = r8 at *
        obtain ⟨code, s8⟩ := r8
        dsimp only at hLt q1 q2 q3
        have HLt2 := Lib.hid hLt
        have pf0 := (cells2 FB7.out).1
        clear hLt bd P6
        go_region_law (first
          | (refine Kin.step_append hA1 rfl _ _ rfl (w.heap.size + 2) _ X rfl (Kin.Mine.later ML8.out (below_alloc w8 _)) ⟨_, 0, none⟩ 1 1 [⟨t, a8, L8.length, c8, L8⟩] rfl rfl (lt_news_at _ ⟨t, a8, L8.length, c8, L8⟩ _ rfl) (fun y hy => by rw [List.mem_singleton.1 hy]; exact Kin.All.later N8.out (below_alloc w8 _)) (by unfold maxLen; omega) (by show (X.length + 1) * 40 ≤ _; omega) (by rw [blk_size]; omega) ?_; intro v' w9 hrow hgrow hnew; obtain ⟨al9, cl9, rfl, -⟩ := hrow.slice; have FB9 := Lib.hid (blk_stays (blk_later FB8.out (below_alloc w8 _)) hgrow (fun k hk => by have := ML8.out.base k hk; omega)); have pg0 := (cells2 FB9.out).1; have pg1 := blk_free FB9.out 0)
          | (go_simp; go_at_call 33; refine HEx.out.mono ?_; rintro e9 w8 ⟨v8, L8, rfl, m8, sm8, th8, h8, g8⟩; obtain ⟨a8, c8, rfl, hal8⟩ := m8.slice; have N8 := Lib.hid hal8; have hs8 : w.heap.size + 2 ≤ w8.heap.size := Nat.le_trans hs7 g8.size; have far8 : ∀ b off, a8 = some ⟨b, off, none⟩ → g < b := (fun b off e => by have := mine_far m8 b off e; omega); have SM8 : Hid (L8.map Nd.sem = code) := Lib.hid sm8; have TH8 := Lib.hid th8; have FR8 := Lib.hid far8; have P8 := Lib.hid h8; have hL8 : L8.length ≤ 100000 := (by rw [sem_len sm8]; dsimp only; omega); have NM8 := Lib.hid (names_past NM7.out P7.out g8); have RB8 := Lib.hid (box_past RB7.out g8 (by omega)); have FB8 := Lib.hid (box_past FB7.out g8 (by omega)); have ML8 := Lib.hid (lets_past ML7.out P7.out g8 (by omega) HFr.out); have BL8 := Lib.hid (BL7.out.grown g8 (by have := BL7.out.size; omega) (fun k hk => by have := Option.some.inj hk; omega)); have pf1 := (cells2 FB8.out).1; have pf2 := (cells2 (blk_later FB8.out (below_alloc w8 (.cells #[.string (bs t), .slice a8 L8.length c8] 72)))).1; clear m8 hal8 far8 sm8 th8 h8 g8))
        all_goals (
          have hb9 := below_alloc w8 (.cells #[.string (bs t), .slice a8 L8.length c8] 72)
          have ML8a := Kin.Mine.later ML8.out hb9
          have P9 := Lib.hid ((P8.out.later hb9).past ML8a hgrow (by omega) ne1)
          have NM9 := Lib.hid (names_keep (NM8.out.later hb9) ML8a hgrow ne1)
          have RB9 := Lib.hid (blk_stays (blk_later RB8.out hb9) hgrow (fun k hk => by have := ML8.out.base k hk; omega))
          have BL9 := Lib.hid ((BL8.out.trans (hb9.mono (by have := BL8.out.size; omega))).grown hgrow (by rw [blk_size]; omega) (fun k hk => by have := ML8.out.base k hk; omega))
          have hs9 : w.heap.size + 2 ≤ w9.heap.size := by have := hgrow.size; rw [blk_size] at this; omega
          have hgc := grown_cell w9 (w.heap.size + 1) 0 (.slice al9 (X.length + 1) cl9)
          have P10 := Lib.hid (P9.out.box FB9.out ne3 (by omega) hgc)
          have NM10 := Lib.hid (names_keep_box NM9.out FB9.out ne3 hgc)
          have RB10 := Lib.hid (blk_apart RB9.out (show w.heap.size ≠ w.heap.size + 1 by omega) 0 (.slice al9 (X.length + 1) cl9))
          have FB10 : Hid ((w9.setCell ⟨w.heap.size + 1, 0, none⟩ (.slice al9 (X.length + 1) cl9)).heap[w.heap.size + 1]? = some (.cells #[.slice al9 (X.length + 1) cl9, .slice none 0 0] 34 (0, 0))) := Lib.hid (by simpa using blk_set FB9.out 0 (.slice al9 (X.length + 1) cl9))
          have ML10 : Hid (ltK.Mine (w9.setCell ⟨w.heap.size + 1, 0, none⟩ (.slice al9 (X.length + 1) cl9)) (w.heap.size + 2) 72 (.slice al9 (X.length + 1) cl9) (X ++ [⟨t, a8, L8.length, c8, L8⟩])) := Lib.hid (by
            have h9 := Kin.Mine.boxed hrow FB9.out (box_let ⟨_, _, _, rfl⟩) (fun k hk e => by have := hrow.base k hk; omega) 0 (.slice al9 (X.length + 1) cl9)
            simpa using h9)
          have BL10 := Lib.hid (BL9.out.setCell (p := ⟨w.heap.size + 1, 0, none⟩) (show B ≤ w.heap.size + 1 by omega) (.slice al9 (X.length + 1) cl9))
          have hs10 : w.heap.size + 2 ≤ (w9.setCell ⟨w.heap.size + 1, 0, none⟩ (.slice al9 (X.length + 1) cl9)).heap.size := Nat.le_trans hs9 hgc.size
          have HFr10 := Lib.hid (farL_snoc HFr.out (x := ⟨t, a8, L8.length, c8, L8⟩) FR8.out)
          have HTh10 := Lib.hid (lets_thin HTh.out (x := ⟨t, a8, L8.length, c8, L8⟩) hL8 TH8.out)
          have HK10 : Hid ((X ++ [(⟨t, a8, L8.length, c8, L8⟩ : Lt)]).map ltP = K ++ [(t, code)]) := Lib.hid (by rw [List.map_append, HK.out, List.map_singleton]; unfold ltP; rw [SM8.out])
          have HXn : Hid ((X ++ [(⟨t, a8, L8.length, c8, L8⟩ : Lt)]).length = X.length + 1) := Lib.hid (by simp)
          have HMu := Lib.hid (ref18_must g (some ⟨b, off, none⟩) n c W E nv M s8 [59] _ P10.out (by omega))
          have d4 := (pMust_on W E [59]).deep s8
          have d5 := (pMust_on W E [59]).within s8 (by omega)
          have d6 := (pMust_on W E [59]).len s8
          generalize pMust W E [59] s8 = s11 at *
          clear hb9 ML8a hgrow hrow hnew hgc P8 P9 HFr HTh HK pf0 pf1 pf2 pg0 pg1 SM8 TH8 FR8 P7 HEx
          clear NM7 RB7 FB7 ML7 BL7 NM8 RB8 FB8 ML8 BL8 NM9 RB9 FB9 BL9 N8
          go_wp2_with fail
          refine HMu.out.mono ?_
          rintro e w11 ⟨rfl, h11, g11⟩
          have hs11 := Nat.le_trans hs10 g11.size
          have P11 := Lib.hid h11
          have NM11 := Lib.hid (names_past NM10.out P10.out g11)
          have RB11 := Lib.hid (box_past RB10.out g11 (by omega))
          have FB11 := Lib.hid (box_past FB10.out g11 (by omega))
          have ML11 := Lib.hid (lets_past ML10.out P10.out g11 (by omega) HFr10.out)
          have BL11 := Lib.hid (BL10.out.grown g11 (by have := BL10.out.size; omega) (fun k hk => by have := Option.some.inj hk; omega))
          clear h11 g11 HMu P10 hs10
          clear NM10 RB10 FB10 ML10 BL10
          obtain ⟨an, cn, hnv, -⟩ := NM11.out.1.slice
          subst hnv
          obtain ⟨e0, e1, e2, e3, e4, e5⟩ := P11.out.cells
          have hML : M.length ≤ 100000 := by omega
          go_wp2_with (at_builtin; refine Kin.wpList_append (K := stK) hA3 rfl _ _ rfl B _ M rfl (Kin.Mine.later NM11.out (below_alloc _ _)) ⟨_, 0, none⟩ 1 1 [t] rfl rfl (st_news w11 t _ (by simp)) (fun _ _ => trivial) (by unfold maxLen; omega) (by show (M.length + 1) * 16 ≤ _; omega) (by rw [blk_size]; have := BL11.out.size; omega) ?_)
          intro v12 w12 hrow hgrow hnew
          obtain ⟨a12, c12, hv12, -⟩ := hrow.1.slice
          rw [show (M ++ [t]).length = M.length + 1 by simp] at hv12
          subst hv12
          have hb12 := below_alloc w11 (.cells #[.string (bs t)] 9)
          have P11a := P11.out.later hb12
          have NM11a := Kin.Mine.later NM11.out hb12
          have hne := words_names P11a P11a.names
          obtain ⟨h13, hb13⟩ := P11a.named hrow hgrow hnew hne
          have P13 := Lib.hid h13
          have hgs := grown_cell w12 g 4 (.slice a12 (M.length + 1) c12)
          have hfar : ∀ k, (Value.slice a12 (M.length + 1) c12).ownBlock = some k → g ≠ k := P13.out.far
          have NM13 : Hid (stK.Mine (w12.setCell ⟨g, 4, none⟩ (.slice a12 (M.length + 1) c12)) B 9 (.slice a12 (M.length + 1) c12) (M ++ [t])) := Lib.hid ⟨hrow.1.beside hgs (fun k hk e => hfar k hk (Option.some.inj e)), fun _ _ => trivial⟩
          have RB13 := Lib.hid (box_past (names_box (blk_later RB11.out hb12) NM11a hgrow ne3) hgs (by omega))
          have FB13 := Lib.hid (box_past (names_box (blk_later FB11.out hb12) NM11a hgrow ne3) hgs (by omega))
          have ML13 := Lib.hid (lets_past_only (names_lets (ML11.out.later hb12) NM11a hgrow ne1) (only_ps hb13) hgs (by omega) HFr10.out)
          have BL13 := Lib.hid (((BL11.out.trans (hb12.mono (by have := BL11.out.size; omega))).grown hgrow (by rw [blk_size]; have := BL11.out.size; omega) (fun k hk => NM11.out.base k hk)).grown hgs (by have := BL11.out.size; have := hgrow.size; rw [blk_size] at this; omega) (fun k hk => by have := Option.some.inj hk; omega))
          have hs13 : w.heap.size + 2 ≤ (w12.setCell ⟨g, 4, none⟩ (.slice a12 (M.length + 1) c12)).heap.size := by have := hgrow.size; rw [blk_size] at this; have := hgs.size; omega
          have c4 := blk_cell hb13 4
          have z4 := blk_free hb13 4
          simp only [psCells, List.getElem?_toArray, List.getElem?_cons_zero, List.getElem?_cons_succ] at c4
          clear hrow hgrow hnew hb12 P11a NM11a hne h13 hb13 hgs hfar e0 e1 e2 e3 e4 e5 P11
          clear NM11 RB11 FB11 ML11 BL11
          go_wp2
          go_roundw
          (case rel => exact ⟨hs13, m, M ++ [t], K ++ [(t, code)], X ++ [⟨t, a8, L8.length, c8, L8⟩], al9, cl9, _, s11, P13, NM13, RB13, by rw [HXn.out]; exact FB13, by rw [HXn.out]; exact ML13, HK10, HTh10, HFr10, BL13, HLt2, by omega, by omega, by omega, by rw [HXn.out]; omega, by rw [List.length_append]; simp; omega⟩)
          (case measure => rw [P13.out.held, HPh.out]; omega))
      · rw [if_neg hf] at hLt
        rw [Bool.not_eq_true] at hf
        rw [hf] at HFe
        have h9 := HRr.out
        rw [← hLt, if_pos rfl] at h9
        try dsimp only at h9
        have HRf := Lib.hid h9
        clear h9 hf hLt
        go_wp2_with fail
        refine HFe.out.mono ?_
        rintro e w3 ⟨rfl, b3⟩
        have P3 := Lib.hid (P2.out.later b3)
        have NM3 := Lib.hid (NM2.out.later b3)
        have RB3 := Lib.hid (blk_later RB2.out b3)
        have FB3 := Lib.hid (blk_later FB2.out b3)
        have ML3 := Lib.hid (ML2.out.later b3)
        have BL3 := Lib.hid (BL2.out.trans (b3.mono (by have := BL2.out.size; omega)))
        clear NM2 RB2 FB2 ML2 BL2
        clear b3 HFe P2 e0 e1 e2 e3 e4 e5 ef P1
        have HBd := Lib.hid (ref18_bad g a n c W E nv M { s with i := s.i + 1 } w3 P3.out)
        go_wp2_with fail
        refine HBd.out.mono ?_
        rintro e w4 ⟨rfl, h4, g4⟩
        have P4 := Lib.hid h4
        have NM4 := Lib.hid (names_past NM3.out P3.out g4)
        have RB4 := Lib.hid (box_past RB3.out g4 (by omega))
        have FB4 := Lib.hid (box_past FB3.out g4 (by omega))
        have ML4 := Lib.hid (lets_past ML3.out P3.out g4 (by omega) HFr.out)
        have BL4 := Lib.hid (BL3.out.grown g4 (by have := BL3.out.size; omega) (fun k hk => by have := Option.some.inj hk; omega))
        clear NM3 RB3 FB3 ML3 BL3
        clear h4 g4 HBd P3
        obtain ⟨f0, f1⟩ := cells2 FB4.out
        obtain ⟨r0, r1⟩ := cells2 RB4.out
        have z0 := blk_free RB4.out 0
        have z1 := blk_free RB4.out 1
        have HG := Lib.hid (blk_set2 RB4.out (.slice al X.length cl) (.slice none 0 0))
        go_wp2
        refine bodyPost_ret (results_cell_row Try.results28 _ _ w.heap.size 34 #[.slice al X.length cl, .slice none 0 0] (0, 0) _ rfl HG.out Try.underlying34 rfl (by kernel_rfl)) rfl ?_
        exact field_done (base := w.heap.size + 2) (Y := []) P4.out RB4.out hgl ne3 ML4.out (Kin.Mine.nil _ _ _) (by omega) HFr.out (farS_nil g) HTh.out (fun x hx => (by cases hx)) BL4.out hB (by rw [← HRf.out, HK.out]; rfl)
    · rw [Bool.not_eq_true] at hx
      have hLt : RL = (K, M, s, false) := by
        rw [← HLt.out]
        cases m with
        | zero => rfl
        | succ m => rw [pLets, if_neg (by rw [hx]; decide)]
      have h9 := HRr.out
      rw [hLt] at h9
      rw [if_neg (by simp)] at h9
      try dsimp only at h9
      rw [hx] at HSl
      clear hx HLt hLt
      have RB0 := HRb
      have FB0 := HFb
      have ML0 := HM
      have BL0 := HBl
      have HFo : Hid (FarS g []) := Lib.hid (farS_nil g)
      have HTo : Hid (∀ x ∈ ([] : List Sn), x.n ≤ 100000 ∧ thinN 20 x.L) := Lib.hid (fun x hx => by cases hx)
      have MO0 : Hid (snK.Mine wr (w.heap.size + 2) 45 (.slice none 0 0) []) := Lib.hid (Kin.Mine.nil _ _ _)
      have ne4 : 72 ≠ 45 := by decide
      have HYl : Hid (([] : List Sn).length = 0) := Lib.hid rfl
      clear HRb HFb HM HBl HNm
      go_wp2_with fail
      refine HSl.out.mono ?_
      rintro e w1 ⟨rfl, b1⟩
      have P1 := Lib.hid (HP.out.later b1)
      have hs1 : w.heap.size + 2 ≤ w1.heap.size := Nat.le_trans hsz b1.size
      have RB1 := Lib.hid (blk_later RB0.out b1)
      have FB1 := Lib.hid (blk_later FB0.out b1)
      have ML1 := Lib.hid (ML0.out.later b1)
      have MO1 := Lib.hid (MO0.out.later b1)
      have BL1 := Lib.hid (BL0.out.trans (b1.mono (by have := BL0.out.size; omega)))
      clear RB0 FB0 ML0 MO0 BL0
      clear b1 HSl HP
      have HMu := Lib.hid (ref18_must g a n c W E nv M s [91] w1 P1.out (by omega))
      have d1 := (pMust_on W E [91]).deep s
      have d2 := (pMust_on W E [91]).within s hb3
      generalize pMust W E [91] s = s6 at *
      go_wp2_with fail
      refine HMu.out.mono ?_
      rintro e w6 ⟨rfl, h6, g6⟩
      have hs6 := Nat.le_trans hs1 g6.size
      have P6 := Lib.hid h6
      have RB6 := Lib.hid (box_past RB1.out g6 (by omega))
      have FB6 := Lib.hid (box_past FB1.out g6 (by omega))
      have ML6 := Lib.hid (lets_past ML1.out P1.out g6 (by omega) HFr.out)
      have MO6 := Lib.hid (outs_past MO1.out P1.out g6 (by omega) HFo.out)
      have BL6 := Lib.hid (BL1.out.grown g6 (by have := BL1.out.size; omega) (fun k hk => by have := Option.some.inj hk; omega))
      clear RB1 FB1 ML1 MO1 BL1
      clear h6 g6 HMu P1
      go_upto_region 14 with fail
      have bd : Below w6.heap.size w6 w6.drew := (Below.refl _ _).drew
      have P7 := Lib.hid (P6.out.later bd)
      have RB7 := Lib.hid (blk_later RB6.out bd)
      have FB7 := Lib.hid (blk_later FB6.out bd)
      have ML7 := Lib.hid (ML6.out.later bd)
      have MO7 := Lib.hid (MO6.out.later bd)
      have BL7 := Lib.hid (BL6.out.trans (bd.mono (by have := BL6.out.size; omega)))
      clear RB6 FB6 ML6 MO6 BL6
      have hs7 : w.heap.size + 2 ≤ w6.drew.heap.size := hs6
      have HEx := Lib.hid (HAll.out M g a n c nv s6 _ P7.out ⟨by omega, fun h9 => absurd h9 (by decide), by omega⟩)
      have q1 := (HFin.out M).deep s6
      have q2 := (HFin.out M).within s6 (by omega)
      have q3 := (HFin.out M).len s6
      generalize hr8 : (pAll W E M 41).2 s6 = r8 at *
      obtain ⟨code, s8⟩ := r8
      dsimp only at h9 q1 q2 q3
      have HLt2 := Lib.hid h9
      have pf0 := (cells2 FB7.out).2
      clear hr8 h9 bd P6
      go_region_law (first
        | (refine Kin.step_append hA2 rfl _ _ rfl (w.heap.size + 2) _ ([] : List Sn) rfl (Kin.Mine.later MO8.out (below_alloc w8 _)) ⟨_, 0, none⟩ 1 1 [⟨a8, L8.length, c8, L8⟩] rfl rfl (sn_news_at _ ⟨a8, L8.length, c8, L8⟩ _ rfl) (fun y hy => by rw [List.mem_singleton.1 hy]; exact Kin.All.later N8.out (below_alloc w8 _)) (by rw [HYl.out]; unfold maxLen; omega) (by rw [HYl.out]; show (0 + 1) * 24 ≤ _; omega) (by rw [blk_size]; omega) ?_; intro v' w9 hrow hgrow hnew; obtain ⟨ao9, co9, hv9, -⟩ := hrow.slice; rw [HYl1.out] at hv9; subst hv9; have FB9 := Lib.hid (blk_stays (blk_later FB8.out (below_alloc w8 _)) hgrow (fun k hk => by have := MO8.out.base k hk; omega)); have pg0 := (cells2 FB9.out).2; have pg1 := blk_free FB9.out 1)
        | (go_simp; go_at_call 33; refine HEx.out.mono ?_; rintro e9 w8 ⟨v8, L8, rfl, m8, sm8, th8, h8, g8⟩; obtain ⟨a8, c8, rfl, hal8⟩ := m8.slice; have N8 := Lib.hid hal8; have hs8 : w.heap.size + 2 ≤ w8.heap.size := Nat.le_trans hs7 g8.size; have far8 : ∀ b off, a8 = some ⟨b, off, none⟩ → g < b := (fun b off e => by have := mine_far m8 b off e; omega); have SM8 : Hid (L8.map Nd.sem = code) := Lib.hid sm8; have TH8 := Lib.hid th8; have FR8 := Lib.hid far8; have P8 := Lib.hid h8; have hL8 : L8.length ≤ 100000 := (by rw [sem_len sm8]; dsimp only; omega); have HYl1 : Hid ((([] : List Sn) ++ [(⟨a8, L8.length, c8, L8⟩ : Sn)]).length = 1) := Lib.hid (by rw [List.length_append, HYl.out]; rfl); have RB8 := Lib.hid (box_past RB7.out g8 (by omega)); have FB8 := Lib.hid (box_past FB7.out g8 (by omega)); have ML8 := Lib.hid (lets_past ML7.out P7.out g8 (by omega) HFr.out); have MO8 := Lib.hid (outs_past MO7.out P7.out g8 (by omega) HFo.out); have BL8 := Lib.hid (BL7.out.grown g8 (by have := BL7.out.size; omega) (fun k hk => by have := Option.some.inj hk; omega)); have pf1 := (cells2 FB8.out).2; have pf2 := (cells2 (blk_later FB8.out (below_alloc w8 (.cells #[.slice a8 L8.length c8] 45)))).2; clear m8 hal8 far8 sm8 th8 h8 g8))
      all_goals (
        have hb9 := below_alloc w8 (.cells #[.slice a8 L8.length c8] 45)
        have MO8a := Kin.Mine.later MO8.out hb9
        have P9 := Lib.hid ((P8.out.later hb9).past MO8a hgrow (by omega) ne2)
        have ML9 := Lib.hid (lets_keep (ML8.out.later hb9) MO8a hgrow ne4)
        have RB9 := Lib.hid (blk_stays (blk_later RB8.out hb9) hgrow (fun k hk => by have := MO8.out.base k hk; omega))
        have BL9 := Lib.hid ((BL8.out.trans (hb9.mono (by have := BL8.out.size; omega))).grown hgrow (by rw [blk_size]; omega) (fun k hk => by have := MO8.out.base k hk; omega))
        have hs9 : w.heap.size + 2 ≤ w9.heap.size := by have := hgrow.size; rw [blk_size] at this; omega
        have hgc := grown_cell w9 (w.heap.size + 1) 1 (.slice ao9 1 co9)
        have P10 := Lib.hid (P9.out.box FB9.out ne3 (by omega) hgc)
        have RB10 := Lib.hid (blk_apart RB9.out (show w.heap.size ≠ w.heap.size + 1 by omega) 1 (.slice ao9 1 co9))
        have FB10 : Hid ((w9.setCell ⟨w.heap.size + 1, 1, none⟩ (.slice ao9 1 co9)).heap[w.heap.size + 1]? = some (.cells #[.slice al X.length cl, .slice ao9 1 co9] 34 (0, 0))) := Lib.hid (by simpa using blk_set FB9.out 1 (.slice ao9 1 co9))
        have ML10 := Lib.hid (Kin.Mine.boxed ML9.out FB9.out (fun u hu => slice_let (two_slices u hu)) (fun k hk e => by have := ML9.out.base k hk; omega) 1 (.slice ao9 1 co9))
        have MO10 : Hid (snK.Mine (w9.setCell ⟨w.heap.size + 1, 1, none⟩ (.slice ao9 1 co9)) (w.heap.size + 2) 45 (.slice ao9 1 co9) (([] : List Sn) ++ [⟨a8, L8.length, c8, L8⟩])) := Lib.hid (Kin.Mine.boxed hrow FB9.out two_slices (fun k hk e => by have := hrow.base k hk; omega) 1 (.slice ao9 1 co9))
        have BL10 := Lib.hid (BL9.out.setCell (p := ⟨w.heap.size + 1, 1, none⟩) (show B ≤ w.heap.size + 1 by omega) (.slice ao9 1 co9))
        have hs10 : w.heap.size + 2 ≤ (w9.setCell ⟨w.heap.size + 1, 1, none⟩ (.slice ao9 1 co9)).heap.size := Nat.le_trans hs9 hgc.size
        have HFo10 := Lib.hid (farS_snoc HFo.out (x := ⟨a8, L8.length, c8, L8⟩) FR8.out)
        have HTo10 := Lib.hid (outs_thin HTo.out (x := ⟨a8, L8.length, c8, L8⟩) hL8 TH8.out)
        have HO10 : Hid ((([] : List Sn) ++ [(⟨a8, L8.length, c8, L8⟩ : Sn)]).map Sn.sem = ([] : List Sn).map Sn.sem ++ [code]) := Lib.hid (by rw [List.map_append, List.map_singleton]; unfold Sn.sem; rw [SM8.out])
        clear hb9 MO8a hgrow hrow hnew hgc P8 P9 pf0 pf1 pf2 pg0 pg1 SM8 TH8 FR8 P7 HEx
        clear RB7 FB7 ML7 MO7 BL7 RB8 FB8 ML8 MO8 BL8 RB9 FB9 ML9 BL9 N8
        obtain ⟨RO, hRO⟩ : ∃ RO, pOuts W (pAll W E M 41).2 W.length [code] s8 = RO := ⟨_, rfl⟩
        have h8 := HLt2.out
        rw [hRO] at h8
        have HRO := Lib.hid hRO
        have HRR := Lib.hid h8
        have HO11 : Hid ([(⟨a8, L8.length, c8, L8⟩ : Sn)].map Sn.sem = [code]) := HO10
        clear h8 hRO HLt2 HO10
        go_wp2
        go_loopw [71] (fun _ wr => w.heap.size + 2 ≤ wr.heap.size ∧ ∃ (m : Nat) (O : List (List Np)) (Y : List Sn) (ao : Option Addr) (co yl : Nat) (s : Ps), Hid (PS 68 9 wr g a n c W E nv M s) ∧ Hid (wr.heap[w.heap.size]? = some (.cells #[.slice none 0 0, .slice none 0 0] 34 (0, 0))) ∧ Hid (wr.heap[w.heap.size + 1]? = some (.cells #[.slice al X.length cl, .slice ao yl co] 34 (0, 0))) ∧ Hid (ltK.Mine wr (w.heap.size + 2) 72 (.slice al X.length cl) X) ∧ Hid (snK.Mine wr (w.heap.size + 2) 45 (.slice ao yl co) Y) ∧ Hid (Y.map Sn.sem = O) ∧ Hid (∀ x ∈ Y, x.n ≤ 100000 ∧ thinN 20 x.L) ∧ Hid (FarS g Y) ∧ Hid (Below B w wr) ∧ Hid (pOuts W (pAll W E M 41).2 m O s = RO) ∧ Hid (Y.length = yl) ∧ W.length ≤ s.i + m ∧ s.deep = 0 ∧ s.i ≤ W.length ∧ yl ≤ s.i + 1) (fun _ wr => W.length + 1 - heldI wr g)
        case atStart => exact ⟨hs10, W.length, [code], [⟨a8, L8.length, c8, L8⟩], ao9, co9, 1, s8, P10, RB10, FB10, ML10, MO10, HO11, HTo10, HFo10, BL10, HRO, HYl1, by omega, by omega, by omega, by omega⟩
        case round =>
          clear P10 RB10 FB10 ML10 MO10 HO11 HTo10 HFo10 BL10 HRO HYl1 HFo HTo HYl hs10 hs9 hs8 hs7 hs6 q1 q2 q3 d1 d2 hb1 hb2 hb3 hb4 hb5 hL8
          obtain ⟨hsz2, m2, O, Y, ao, co, yl, s, HP, RB0, FB0, ML0, MO0, HO, HTo, HFo, BL0, HOt, HYl, hb1, hb2, hb3, hb4⟩ := hrel
          have HPh := Lib.hid HP.out.held
          have HSc := Lib.hid (ref18_sees g a n c W E nv M s [44] wr HP.out)
          by_cases hx : pSees W s [44] = true
          · have hi := pSees_i W hx
            obtain ⟨m2, rfl⟩ : ∃ m', m2 = m' + 1 := ⟨m2 - 1, by omega⟩
            have hOt := HOt.out
            rw [pOuts, if_pos hx] at hOt
            try dsimp only at hOt
            rw [hx] at HSc
            clear hx HOt
            go_wp2_with fail
            refine HSc.out.mono ?_
            rintro e w1 ⟨rfl, b1⟩
            have P1 := Lib.hid (HP.out.later b1)
            have hs1 : w.heap.size + 2 ≤ w1.heap.size := Nat.le_trans hsz2 b1.size
            have RB1 := Lib.hid (blk_later RB0.out b1)
            have FB1 := Lib.hid (blk_later FB0.out b1)
            have ML1 := Lib.hid (ML0.out.later b1)
            have MO1 := Lib.hid (MO0.out.later b1)
            have BL1 := Lib.hid (BL0.out.trans (b1.mono (by have := BL0.out.size; omega)))
            clear RB0 FB0 ML0 MO0 BL0
            clear b1 HSc HP
            obtain ⟨e0, e1, e2, e3, e4, e5⟩ := P1.out.cells
            have ef := P1.out.free 1
            have ki : IntKind.i64.wrap ((s.i : Int) + 1) = (s.i : Int) + 1 := by rw [IntKind.wrap_i64]; omega
            obtain ⟨h6, g6⟩ := P1.out.set1z (i' := s.i + 1) (z := (s.i : Int) + 1) (by omega)
            have P6 := Lib.hid h6
            have RB6 := Lib.hid (box_past RB1.out g6 (by omega))
            have FB6 := Lib.hid (box_past FB1.out g6 (by omega))
            have ML6 := Lib.hid (lets_past ML1.out P1.out g6 (by omega) HFr.out)
            have MO6 := Lib.hid (outs_past MO1.out P1.out g6 (by omega) HFo.out)
            have BL6 := Lib.hid (BL1.out.grown g6 (by have := BL1.out.size; omega) (fun k hk => by have := Option.some.inj hk; omega))
            clear RB1 FB1 ML1 MO1 BL1
            have hs6 := Nat.le_trans hs1 g6.size
            obtain ⟨s6, hs6e⟩ : ∃ s6 : Ps, s6 = { s with i := s.i + 1 } := ⟨_, rfl⟩
            rw [← hs6e] at P6 hOt
            have t1 : s6.deep = 0 := by rw [hs6e]; exact hb2
            have t2 : s6.i = s.i + 1 := by rw [hs6e]
            clear h6 hs6e g6
            go_upto_region 17 with fail
            generalize w1.setCell ⟨g, 1, none⟩ (.int .i64 ((s.i : Int) + 1)) = w6 at *
            clear e0 e1 e2 e3 e4 e5 ef P1 hs1
            have bd : Below w6.heap.size w6 w6.drew := (Below.refl _ _).drew
            have P7 := Lib.hid (P6.out.later bd)
            have RB7 := Lib.hid (blk_later RB6.out bd)
            have FB7 := Lib.hid (blk_later FB6.out bd)
            have ML7 := Lib.hid (ML6.out.later bd)
            have MO7 := Lib.hid (MO6.out.later bd)
            have BL7 := Lib.hid (BL6.out.trans (bd.mono (by have := BL6.out.size; omega)))
            clear RB6 FB6 ML6 MO6 BL6
            have hs7 : w.heap.size + 2 ≤ w6.drew.heap.size := hs6
            have HEx := Lib.hid (HAll.out M g a n c nv s6 _ P7.out ⟨by omega, fun h9 => absurd h9 (by decide), by omega⟩)
            have q1 := (HFin.out M).deep s6
            have q2 := (HFin.out M).within s6 (by omega)
            have q3 := (HFin.out M).len s6
            generalize hr8 : (pAll W E M 41).2 s6 = r8 at *
            obtain ⟨code, s8⟩ := r8
            dsimp only at hOt q1 q2 q3
            have HLt2 := Lib.hid hOt
            have pf0 := (cells2 FB7.out).2
            clear hr8 hOt bd P6
            go_region_law (first
              | (refine Kin.step_append hA2 rfl _ _ rfl (w.heap.size + 2) _ Y rfl (Kin.Mine.later MO8.out (below_alloc w8 _)) ⟨_, 0, none⟩ 1 1 [⟨a8, L8.length, c8, L8⟩] rfl rfl (sn_news_at _ ⟨a8, L8.length, c8, L8⟩ _ rfl) (fun y hy => by rw [List.mem_singleton.1 hy]; exact Kin.All.later N8.out (below_alloc w8 _)) (by rw [HYl.out]; unfold maxLen; omega) (by rw [HYl.out]; show (yl + 1) * 24 ≤ _; omega) (by rw [blk_size]; omega) ?_; intro v' w9 hrow hgrow hnew; obtain ⟨ao9, co9, hv9, -⟩ := hrow.slice; rw [HYl1.out] at hv9; subst hv9; have FB9 := Lib.hid (blk_stays (blk_later FB8.out (below_alloc w8 _)) hgrow (fun k hk => by have := MO8.out.base k hk; omega)); have pg0 := (cells2 FB9.out).2; have pg1 := blk_free FB9.out 1)
              | (go_simp; go_at_call 33; refine HEx.out.mono ?_; rintro e9 w8 ⟨v8, L8, rfl, m8, sm8, th8, h8, g8⟩; obtain ⟨a8, c8, rfl, hal8⟩ := m8.slice; have N8 := Lib.hid hal8; have hs8 : w.heap.size + 2 ≤ w8.heap.size := Nat.le_trans hs7 g8.size; have far8 : ∀ b off, a8 = some ⟨b, off, none⟩ → g < b := (fun b off e => by have := mine_far m8 b off e; omega); have SM8 : Hid (L8.map Nd.sem = code) := Lib.hid sm8; have TH8 := Lib.hid th8; have FR8 := Lib.hid far8; have P8 := Lib.hid h8; have hL8 : L8.length ≤ 100000 := (by rw [sem_len sm8]; dsimp only; omega); have HYl1 : Hid ((Y ++ [(⟨a8, L8.length, c8, L8⟩ : Sn)]).length = (yl + 1)) := Lib.hid (by rw [List.length_append, HYl.out]; rfl); have RB8 := Lib.hid (box_past RB7.out g8 (by omega)); have FB8 := Lib.hid (box_past FB7.out g8 (by omega)); have ML8 := Lib.hid (lets_past ML7.out P7.out g8 (by omega) HFr.out); have MO8 := Lib.hid (outs_past MO7.out P7.out g8 (by omega) HFo.out); have BL8 := Lib.hid (BL7.out.grown g8 (by have := BL7.out.size; omega) (fun k hk => by have := Option.some.inj hk; omega)); have pf1 := (cells2 FB8.out).2; have pf2 := (cells2 (blk_later FB8.out (below_alloc w8 (.cells #[.slice a8 L8.length c8] 45)))).2; clear m8 hal8 far8 sm8 th8 h8 g8))
            all_goals (
              have hb9 := below_alloc w8 (.cells #[.slice a8 L8.length c8] 45)
              have MO8a := Kin.Mine.later MO8.out hb9
              have P9 := Lib.hid ((P8.out.later hb9).past MO8a hgrow (by omega) ne2)
              have ML9 := Lib.hid (lets_keep (ML8.out.later hb9) MO8a hgrow ne4)
              have RB9 := Lib.hid (blk_stays (blk_later RB8.out hb9) hgrow (fun k hk => by have := MO8.out.base k hk; omega))
              have BL9 := Lib.hid ((BL8.out.trans (hb9.mono (by have := BL8.out.size; omega))).grown hgrow (by rw [blk_size]; omega) (fun k hk => by have := MO8.out.base k hk; omega))
              have hs9 : w.heap.size + 2 ≤ w9.heap.size := by have := hgrow.size; rw [blk_size] at this; omega
              have hgc := grown_cell w9 (w.heap.size + 1) 1 (.slice ao9 (yl + 1) co9)
              have P10 := Lib.hid (P9.out.box FB9.out ne3 (by omega) hgc)
              have RB10 := Lib.hid (blk_apart RB9.out (show w.heap.size ≠ w.heap.size + 1 by omega) 1 (.slice ao9 (yl + 1) co9))
              have FB10 : Hid ((w9.setCell ⟨w.heap.size + 1, 1, none⟩ (.slice ao9 (yl + 1) co9)).heap[w.heap.size + 1]? = some (.cells #[.slice al X.length cl, .slice ao9 (yl + 1) co9] 34 (0, 0))) := Lib.hid (by simpa using blk_set FB9.out 1 (.slice ao9 (yl + 1) co9))
              have ML10 := Lib.hid (Kin.Mine.boxed ML9.out FB9.out (fun u hu => slice_let (two_slices u hu)) (fun k hk e => by have := ML9.out.base k hk; omega) 1 (.slice ao9 (yl + 1) co9))
              have MO10 : Hid (snK.Mine (w9.setCell ⟨w.heap.size + 1, 1, none⟩ (.slice ao9 (yl + 1) co9)) (w.heap.size + 2) 45 (.slice ao9 (yl + 1) co9) (Y ++ [⟨a8, L8.length, c8, L8⟩])) := Lib.hid (Kin.Mine.boxed hrow FB9.out two_slices (fun k hk e => by have := hrow.base k hk; omega) 1 (.slice ao9 (yl + 1) co9))
              have BL10 := Lib.hid (BL9.out.setCell (p := ⟨w.heap.size + 1, 1, none⟩) (show B ≤ w.heap.size + 1 by omega) (.slice ao9 (yl + 1) co9))
              have hs10 : w.heap.size + 2 ≤ (w9.setCell ⟨w.heap.size + 1, 1, none⟩ (.slice ao9 (yl + 1) co9)).heap.size := Nat.le_trans hs9 hgc.size
              have HFo10 := Lib.hid (farS_snoc HFo.out (x := ⟨a8, L8.length, c8, L8⟩) FR8.out)
              have HTo10 := Lib.hid (outs_thin HTo.out (x := ⟨a8, L8.length, c8, L8⟩) hL8 TH8.out)
              have HO10 : Hid ((Y ++ [(⟨a8, L8.length, c8, L8⟩ : Sn)]).map Sn.sem = Y.map Sn.sem ++ [code]) := Lib.hid (by rw [List.map_append, List.map_singleton]; unfold Sn.sem; rw [SM8.out])
              clear hb9 MO8a hgrow hrow hnew hgc P8 P9 pf0 pf1 pf2 pg0 pg1 SM8 TH8 FR8 P7 HEx
              clear RB7 FB7 ML7 MO7 BL7 RB8 FB8 ML8 MO8 BL8 RB9 FB9 ML9 BL9 N8
              have HO11 : Hid ((Y ++ [(⟨a8, L8.length, c8, L8⟩ : Sn)]).map Sn.sem = O ++ [code]) := Lib.hid (by rw [HO10.out, HO.out])
              clear HO10 HO HFo HTo HYl
              go_wp2
              go_roundw
              (case rel => exact ⟨hs10, m2, O ++ [code], Y ++ [⟨a8, L8.length, c8, L8⟩], ao9, co9, yl + 1, s8, P10, RB10, FB10, ML10, MO10, HO11, HTo10, HFo10, BL10, HLt2, HYl1, by omega, by omega, by omega, by omega⟩)
              (case measure => rw [P10.out.held, HPh.out]; dsimp only; omega)
            )
          · rw [Bool.not_eq_true] at hx
            have hOt : RO = (O, s) := by
              rw [← HOt.out]
              cases m2 with
              | zero => rfl
              | succ m => rw [pOuts, if_neg (by rw [hx]; decide)]
            rw [hx] at HSc
            have h9 := HRR.out
            rw [hOt] at h9
            dsimp only at h9
            have HRf := Lib.hid h9
            have hyl := HYl.out
            subst hyl
            clear hx HOt hOt h9 HYl
            go_wp2_with fail
            refine HSc.out.mono ?_
            rintro e w1 ⟨rfl, b1⟩
            have P1 := Lib.hid (HP.out.later b1)
            have hs1 : w.heap.size + 2 ≤ w1.heap.size := Nat.le_trans hsz2 b1.size
            have RB1 := Lib.hid (blk_later RB0.out b1)
            have FB1 := Lib.hid (blk_later FB0.out b1)
            have ML1 := Lib.hid (ML0.out.later b1)
            have MO1 := Lib.hid (MO0.out.later b1)
            have BL1 := Lib.hid (BL0.out.trans (b1.mono (by have := BL0.out.size; omega)))
            clear RB0 FB0 ML0 MO0 BL0
            clear b1 HSc HP
            have HMu := Lib.hid (ref18_must g a n c W E nv M s [93] w1 P1.out (by omega))
            go_wp2_with fail
            refine HMu.out.mono ?_
            rintro e w6 ⟨rfl, h6, g6⟩
            have P6 := Lib.hid h6
            have RB6 := Lib.hid (box_past RB1.out g6 (by omega))
            have FB6 := Lib.hid (box_past FB1.out g6 (by omega))
            have ML6 := Lib.hid (lets_past ML1.out P1.out g6 (by omega) HFr.out)
            have MO6 := Lib.hid (outs_past MO1.out P1.out g6 (by omega) HFo.out)
            have BL6 := Lib.hid (BL1.out.grown g6 (by have := BL1.out.size; omega) (fun k hk => by have := Option.some.inj hk; omega))
            clear RB1 FB1 ML1 MO1 BL1
            clear h6 g6 HMu P1
            obtain ⟨f0, f1⟩ := cells2 FB6.out
            obtain ⟨r0, r1⟩ := cells2 RB6.out
            have z0 := blk_free RB6.out 0
            have z1 := blk_free RB6.out 1
            have HG := Lib.hid (blk_set2 RB6.out (.slice al X.length cl) (.slice ao Y.length co))
            go_wp2
            refine bodyPost_ret (results_cell_row Try.results28 _ _ w.heap.size 34 #[.slice al X.length cl, .slice ao Y.length co] (0, 0) _ rfl HG.out Try.underlying34 rfl (by kernel_rfl)) rfl ?_
            exact field_done (base := w.heap.size + 2) P6.out RB6.out hgl ne3 ML6.out MO6.out (by omega) HFr.out HFo.out HTh.out HTo.out BL6.out hB (by rw [← HRf.out, HK.out, HO.out])
      )
end Go.Proofs.Ythblmpkdcahmkaa

/-
  A result of which the first part lies in a box. Of no program.
-/
namespace Go.Proofs.Ythblmpkdcahmkaa
open Go.RowKit

theorem results_row_tmp {P : Program} {fn : Func} {p u : Tmp} {ty : TypeId} (h : fn.results = #[.cell p ty, .tmp u]) (tmps : Array Value) (w : World) (g : Nat) (t : TypeId) (cs : Array Value) (fr : Nat × Nat) (d : TypeDesc)
    (hp : tmps.getD p undef = .pointer (some ⟨g, 0, none⟩)) (hg : w.heap[g]? = some (.cells cs t fr))
    (hu : P.underlying ty = some d) (hd : (match d with | .struct _ | .array _ _ => true | _ => false) = true) (hi : (P.info? ty).map (·.size) = some cs.size) :
    (results fn tmps).run P w = .ok (.tuple #[.agg cs, tmps.getD u undef]) w := by
  rw [results_cell_tmp h, hp]
  simp [asAddr, run_loadVar_row w g t ty cs fr d hg hu hd hi]
end Go.Proofs.Ythblmpkdcahmkaa

/-
  The document's answer of layer 18: Parse.
-/
namespace Go.Proofs.Ythblmpkdcahmkaa
open Go.WideShapes Go.RowKit Go.Deep

/-- A field, and the place at which there is none. -/
def ParseOut (r : List (List UInt8 × List Np) × List (List Np) × Int) (w : World) (e : Ending) (w' : World) : Prop :=
  ∃ (al : Option Addr) (cl : Nat) (X : List Lt) (ao : Option Addr) (co : Nat) (Y : List Sn), e = .returned (.tuple #[fiV al X.length cl ao Y.length co, .int .i64 r.2.2]) ∧ Lts w' al X.length cl X ∧ Sns w' ao Y.length co Y ∧ X.map ltP = r.1 ∧ Y.map Sn.sem = r.2.1 ∧
    (∀ x ∈ X, x.n ≤ 100000 ∧ thinN 20 x.L) ∧ (∀ x ∈ Y, x.n ≤ 100000 ∧ thinN 20 x.L) ∧ Below w.heap.size w w'
theorem parse_done {LT' SL FT' : TypeId} {w w4 w6 : World} {base : Nat} {al ao : Option Addr} {cl co : Nat} {X : List Lt} {Y : List Sn} {at' : Int} {R : List (List UInt8 × List Np) × List (List Np) × Int}
    (hR : w4.heap[w.heap.size]? = some (.cells #[.slice none 0 0, .slice none 0 0] FT' (0, 0))) (hM : ltK.Mine w4 base LT' (.slice al X.length cl) X) (hO : snK.Mine w4 base SL (.slice ao Y.length co) Y) (hbase : w.heap.size < base)
    (hTh : ∀ x ∈ X, x.n ≤ 100000 ∧ thinN 20 x.L) (hTo : ∀ x ∈ Y, x.n ≤ 100000 ∧ thinN 20 x.L) (hBl : Below w.heap.size w w4) (hw : Below ((w4.setCell ⟨w.heap.size, 0, none⟩ (.slice al X.length cl)).setCell ⟨w.heap.size, 1, none⟩ (.slice ao Y.length co)).heap.size ((w4.setCell ⟨w.heap.size, 0, none⟩ (.slice al X.length cl)).setCell ⟨w.heap.size, 1, none⟩ (.slice ao Y.length co)) w6) (hRr : R = (X.map ltP, Y.map Sn.sem, at')) :
    ParseOut R w (.returned (.tuple #[.agg #[.slice al X.length cl, .slice ao Y.length co], .int .i64 at'])) w6 := by
  subst hRr
  have g1 := grown_cell w4 w.heap.size 0 (.slice al X.length cl)
  have hRa : (w4.setCell ⟨w.heap.size, 0, none⟩ (.slice al X.length cl)).heap[w.heap.size]? = some (.cells #[.slice al X.length cl, .slice none 0 0] FT' (0, 0)) := by simpa using blk_set hR 0 (.slice al X.length cl)
  have hM1 := Kin.Mine.boxed hM hR (fun u hu => slice_let (two_slices u hu)) (fun k hk e => by have := hM.base k hk; omega) 0 (.slice al X.length cl)
  have hM2 := Kin.Mine.boxed hM1 hRa (fun u hu => slice_let (two_slices u hu)) (fun k hk e => by have := hM.base k hk; omega) 1 (.slice ao Y.length co)
  have hO1 := Kin.Mine.boxed hO hR two_slices (fun k hk e => by have := hO.base k hk; omega) 0 (.slice al X.length cl)
  have hO2 := Kin.Mine.boxed hO1 hRa two_slices (fun k hk e => by have := hO.base k hk; omega) 1 (.slice ao Y.length co)
  have hB2 := below_set2 hBl (Nat.le_refl w.heap.size) (.slice al X.length cl) (.slice ao Y.length co)
  obtain ⟨a1, c1, e1, k1⟩ := (hM2.later hw).slice
  obtain ⟨a2, c2, e2, k2⟩ := (hO2.later hw).slice
  simp only [Value.slice.injEq] at e1 e2
  obtain ⟨rfl, -, rfl⟩ := e1
  obtain ⟨rfl, -, rfl⟩ := e2
  exact ⟨al, cl, X, ao, co, Y, rfl, k1, k2, rfl, rfl, hTh, hTo, below_then hB2 hw⟩
set_option maxRecDepth 4096 in
set_option maxHeartbeats 8000000 in
theorem ref18_parse (l : List UInt8) (w : World) : Calls Try.prog 8 #[.string (bs l)] w (ParseOut (pF l) w) := by
  have HBg := Lib.hid fun (w1 : World) (z : Addr) => ref18_begin l (some z) 0 0 [] w1 (Cls.Has.void w1 z (by omega)) (by omega)
  have hlen := lexScan_len l
  have HWk := Lib.hid (lexScan_wk l)
  obtain ⟨R, hR⟩ : ∃ R, pF l = R := ⟨_, rfl⟩
  rw [hR]
  unfold pF pParse at hR
  try dsimp only at hR
  have ne3 : 9 ≠ 34 := by decide
  go_enter Try.func8, Try.ntmps8
  go_wp2_with fail
  refine (HBg.out _ _).mono ?_
  rintro e w3 ⟨a1, n1, c1, nv, rfl, h1, hN1, b1⟩
  have hw2 : ((w.alloc (.cells #[.slice none 0 0, .slice none 0 0] 34)).alloc (.cells #[] 9)).heap.size = w.heap.size + 2 := by simp
  have hsz3 : w.heap.size + 2 ≤ w3.heap.size := by have := b1.size; omega
  have hN2 : stK.Mine w3 (w.heap.size + 2) 9 nv [] := ⟨by rw [hw2] at hN1; exact hN1, fun _ _ => trivial⟩
  obtain ⟨an, cn, rfl, -⟩ := hN1.slice
  have hp : PS 68 9 (w3.alloc (.cells #[.slice a1 n1 c1, .int .i64 0, .int .i64 (l.length : Int), .int .i64 0, .slice an 0 cn, .int .i64 (lexScan l).2] 68)) w3.heap.size a1 n1 c1 (lexScan l).1 l.length (.slice an 0 cn) [] ⟨0, 0, (lexScan l).2⟩ := PS.init (E := l.length) 68 (at' := (lexScan l).2) h1 hN1
  have b4 := below_alloc w3 (.cells #[.slice a1 n1 c1, .int .i64 0, .int .i64 (l.length : Int), .int .i64 0, .slice an 0 cn, .int .i64 (lexScan l).2] 68)
  have HN4 := Lib.hid (hN2.later b4)
  have HRb4 := Lib.hid (blk_later (blk_later (blk_later (blk_new w #[.slice none 0 0, .slice none 0 0] 34) (below_alloc _ (.cells #[] 9))) b1) b4)
  have HB4 := Lib.hid (below_then (below_then (below_then (below_alloc w (.cells #[.slice none 0 0, .slice none 0 0] 34)) (below_alloc _ (.cells #[] 9))) b1) b4)
  have HP4 := Lib.hid hp
  obtain ⟨e0, e1, e2, e3, e4, e5⟩ := hp.cells
  obtain ⟨r0, r1⟩ := cells2 HRb4.out
  have z0 := blk_free HRb4.out 0
  have z1 := blk_free HRb4.out 1
  unfold psCells
  dsimp only at e1 e3 e5 ⊢
  clear hp h1 hN1 hN2 b1 b4 hw2 HBg
  by_cases hb : 0 ≤ (lexScan l).2
  · rw [if_pos hb] at hR
    subst hR
    have HG := Lib.hid (blk_set2 HRb4.out (.slice none 0 0) (.slice none 0 0))
    go_wp2
    go_region
    go_wp2
    refine bodyPost_ret (results_row_tmp Try.results8 _ _ w.heap.size 34 #[.slice none 0 0, .slice none 0 0] (0, 0) _ rfl HG.out Try.underlying34 rfl (by kernel_rfl)) rfl ?_
    exact parse_done (LT' := 72) (SL := 45) (base := w.heap.size + 1) (X := []) (Y := []) HRb4.out (Kin.Mine.nil _ _ _) (Kin.Mine.nil _ _ _) (by omega) (fun x hx => by cases hx) (fun x hx => by cases hx) HB4.out (Below.refl _ _).drew rfl
  · rw [if_neg hb] at hR
    have hmono := HB4.out
    have HFd := Lib.hid (ref18_field (lexScan l).1 l.length HWk.out hlen (w.heap.size + 2) w3.heap.size a1 n1 c1 (.slice an 0 cn) ⟨0, 0, (lexScan l).2⟩ _ HP4.out HN4.out hsz3 rfl (Nat.zero_le _))
    generalize pField (lexScan l).1 l.length ⟨0, 0, (lexScan l).2⟩ = r at *
    obtain ⟨rK, rO, s5⟩ := r
    try dsimp only at hR
    have HOv := Lib.hid fun nv M w9 h9 => ref18_over w3.heap.size a1 n1 c1 (lexScan l).1 l.length nv M s5 w9 h9
    generalize pOver (lexScan l).1 l.length s5 = s7 at *
    have hsz4 : w3.heap.size + 1 = (w3.alloc (.cells #[.slice a1 n1 c1, .int .i64 0, .int .i64 (l.length : Int), .int .i64 0, .slice an 0 cn, .int .i64 (lexScan l).2] 68)).heap.size := by rw [blk_size]
    clear hmono r0 r1 z0 z1
    go_wp2_with fail
    refine HFd.out.mono ?_
    rintro e w5 ⟨al, cl, X, ao, co, Y, nv, M, rfl, hX, hY, kX, kY, tX, tY, fX, fY, h5, b5⟩
    dsimp only at kX kY h5
    have b6 := below_alloc w5 (.cells #[.slice al X.length cl, .slice ao Y.length co] 34)
    have hsz5 : w3.heap.size + 1 ≤ w5.heap.size := Nat.le_trans (Nat.le_of_eq hsz4) b5.size
    have P6 := Lib.hid (h5.later b6)
    have hR5 : w5.heap[w.heap.size]? = some (.cells #[.slice none 0 0, .slice none 0 0] 34 (0, 0)) := (b5.block w.heap.size (by omega)).trans HRb4.out
    have RB6 := Lib.hid (blk_later hR5 b6)
    have FB6 := Lib.hid (blk_new w5 #[.slice al X.length cl, .slice ao Y.length co] 34)
    have ML6 := Lib.hid (hX.later b6)
    have MO6 := Lib.hid (hY.later b6)
    have BL6 := Lib.hid (below_then (HB4.out.trans (b5.mono (show w.heap.size ≤ w.heap.size + 2 by omega))) b6)
    have KX := Lib.hid kX
    have KY := Lib.hid kY
    have TX := Lib.hid tX
    have TY := Lib.hid tY
    have HOw := Lib.hid (HOv.out nv M _ P6.out)
    clear h5 b5 b6 hR5 hX hY kX kY tX tY HFd HOv HRb4 HB4 HP4 HN4 e0 e1 e2 e3 e4 e5
    go_wp2_with fail
    refine HOw.out.mono ?_
    rintro e w7 ⟨rfl, h7, g7⟩
    have RB7 := Lib.hid (blk_stays RB6.out g7 (fun k hk => by have := Option.some.inj hk; omega))
    have FB7 := Lib.hid (blk_stays FB6.out g7 (fun k hk => by have := Option.some.inj hk; omega))
    have ML7 := Lib.hid (lets_past ML6.out P6.out g7 (Nat.lt_succ_self _) fX)
    have MO7 := Lib.hid (outs_past MO6.out P6.out g7 (Nat.lt_succ_self _) fY)
    have BL7 := Lib.hid (below_grown_new BL6.out g7 (by omega))
    obtain ⟨e0, e1, e2, e3, e4, e5⟩ := h7.cells
    obtain ⟨r0, r1⟩ := cells2 RB7.out
    obtain ⟨f0, f1⟩ := cells2 FB7.out
    have z0 := blk_free RB7.out 0
    have z1 := blk_free RB7.out 1
    clear h7 g7 RB6 FB6 ML6 MO6 BL6 P6 HOw fX fY
    by_cases hb7 : 0 ≤ s7.bad
    · rw [if_pos hb7] at hR
      subst hR
      have HG := Lib.hid (blk_set2 RB7.out (.slice none 0 0) (.slice none 0 0))
      go_wp2
      go_region
      go_wp2
      refine bodyPost_ret (results_row_tmp Try.results8 _ _ w.heap.size 34 #[.slice none 0 0, .slice none 0 0] (0, 0) _ rfl HG.out Try.underlying34 rfl (by kernel_rfl)) rfl ?_
      exact parse_done (LT' := 72) (SL := 45) (base := w.heap.size + 1) (X := []) (Y := []) RB7.out (Kin.Mine.nil _ _ _) (Kin.Mine.nil _ _ _) (by omega) (fun x hx => by cases hx) (fun x hx => by cases hx) BL7.out (Below.refl _ _).drew rfl
    · rw [if_neg hb7] at hR
      subst hR
      have HG := Lib.hid (blk_set2 RB7.out (.slice al X.length cl) (.slice ao Y.length co))
      go_wp2
      refine bodyPost_ret (results_row_tmp Try.results8 _ _ w.heap.size 34 #[.slice al X.length cl, .slice ao Y.length co] (0, 0) _ rfl HG.out Try.underlying34 rfl (by kernel_rfl)) rfl ?_
      exact parse_done (base := w3.heap.size + 1) RB7.out ML7.out MO7.out (by omega) TX.out TY.out BL7.out (Below.refl _ _) (by rw [KX.out, KY.out])
end Go.Proofs.Ythblmpkdcahmkaa
