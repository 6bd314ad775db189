/-
  The laws of layer 17: ToField.
-/
import Derived.Test.YtdhfnlpolelcpaaLaw17Own
import Derived.Test.YtdhfnlpolelcpaaLaw17Same
import Derived.WalkKit
import Derived.Deep.RegionLaw
import Derived.Deep.CutRange
namespace Go.Proofs.Ytdhfnlpolelcpaa
open Go.RowKit

theorem grown_set (w : World) (g i : Nat) (u : Value) : w.grownBy (w.setCell ⟨g, i, none⟩ u) (some g) :=
  ⟨rfl, rfl, rfl, ((Below.refl 0 w).setCell (p := ⟨g, i, none⟩) (Nat.zero_le _) u).size, fun k _ hk => Below.heap_setCell _ _ _ k (fun e => hk (by rw [e]))⟩
/-- A box of such cells, as what grows. -/
theorem only_box {p : Value → Prop} {w : World} {g : Nat} {cur : Array Value} {t : TypeId} (hg : w.heap[g]? = some (.cells cur t (0, 0))) (h : ∀ u ∈ cur.toList, p u) : Only p w (.slice (some ⟨g, 0, none⟩) 0 0) := only_block hg h
theorem Kin.Mine.boxed {α : Type} {K : Kin α} {w : World} {base : Nat} {e : TypeId} {v : Value} {L : List α} (h : K.Mine w base e v L) {g : Nat} {cur : Array Value} {t : TypeId} (hg : w.heap[g]? = some (.cells cur t (0, 0))) (hp : ∀ u ∈ cur.toList, K.p u) (hne : ∀ k, v.ownBlock = some k → k ≠ g) (i : Nat) (u : Value) : K.Mine (w.setCell ⟨g, i, none⟩ u) base e v L :=
  ⟨h.1.beside (grown_set w g i u) fun k hk e => hne k hk (Option.some.inj e).symm, fun x hx => K.aside (h.2 x hx) (only_box hg hp) (grown_set w g i u)⟩
theorem Lts.only {w w' : World} {v : Value} {a : Option Addr} {n c : Nat} {K : List Lt} (h : Lts w a n c K) {p : Value → Prop} (ho : Only p w v) (hg : w.grownBy w' v.ownBlock) (hno : ∀ (k : IntKind) (n : Int), ¬ p (.int k n)) (hns : ∀ s : ByteArray, ¬ p (.string s)) : Lts w' a n c K :=
  ⟨h.1.aside ho hg fun _ => ⟨0, _, rfl, hns _⟩, fun x hx => Nds.only (h.2 x hx) ho hg hno⟩
theorem slice_noInt : ∀ (k : IntKind) (n : Int), ¬ isSlice (.int k n) := fun k n ⟨_, _, _, e⟩ => by cases e
theorem slice_noStr : ∀ s : ByteArray, ¬ isSlice (.string s) := fun s ⟨_, _, _, e⟩ => by cases e
theorem two_slices {a : Option Addr} {n c : Nat} {b : Option Addr} {m d : Nat} : ∀ u ∈ (#[Value.slice a n c, .slice b m d] : Array Value).toList, isSlice u := fun u hu => by
  simp at hu
  rcases hu with rfl | rfl
  · exact ⟨_, _, _, rfl⟩
  · exact ⟨_, _, _, rfl⟩
theorem slice_let {u : Value} (h : isSlice u) : isLet u := .inr h
theorem lt_at {P : Program} {t e : TypeId} (ht : P.underlying t = some (.slice e)) (h : (P.info? e).map (fun i => (i.zero, i.size, i.bytes)) = some (some (.agg #[.string ⟨#[]⟩, .slice none 0 0]), 2, 40)) : ltK.toCls.At P t e :=
  Cls.atOf ltK.toCls ht h rfl (fun u hu => by
    simp [Value.cells] at hu
    rcases hu with rfl | rfl
    · exact .inl ⟨_, rfl⟩
    · exact .inr ⟨_, _, _, rfl⟩)
theorem lt_news (w : World) (x : Lt) (e : TypeId) : ∀ j u, ([x].flatMap ltK.cells)[j]? = some u → (w.alloc (.cells #[.string (bs x.t), .slice x.a x.n x.c] e)).cell? ((⟨w.heap.size, 0, none⟩ : Addr).add j) = some u := Cls.news_one (C := ltK.toCls) w x e
theorem lt_cells {w : World} {b off n c k : Nat} {K : List Lt} {xt : List UInt8} {xa : Option Addr} {xn xc : Nat} {xL : List Nd} (h : Lts w (some ⟨b, off, none⟩) n c K) (hx : K[k]? = some ⟨xt, xa, xn, xc, xL⟩) : w.cell? ⟨b, off + k * 2, none⟩ = some (.string (bs xt)) ∧ w.cell? ⟨b, off + k * 2 + 1, none⟩ = some (.slice xa xn xc) := by
  obtain ⟨b', o', e, h1, h2, -⟩ := h.get hx
  simp only [Option.some.injEq, Addr.mk.injEq, and_true] at e
  obtain ⟨rfl, rfl⟩ := e
  exact ⟨h1, h2⟩
theorem box_let {v : Value} (h : isSlice v) : ∀ u ∈ (#[v, .slice none 0 0] : Array Value).toList, ltK.p u := fun u hu => by
  simp at hu
  rcases hu with rfl | rfl
  · exact .inr h
  · exact .inr ⟨_, _, _, rfl⟩
theorem two_isSlice {u v : Value} (hu : isSlice u) (hv : isSlice v) : ∀ x ∈ (#[u, v] : Array Value).toList, isSlice x := fun x hx => by
  simp at hx
  rcases hx with rfl | rfl
  · exact hu
  · exact hv
/-- A field that says this. -/
def LstF (K : List Lt) (O : List Sn) (w : World) (e : Ending) (w' : World) : Prop :=
  ∃ (a : Option Addr) (n c : Nat) (K' : List Lt) (b : Option Addr) (m d : Nat) (O' : List Sn), e = .returned (fiV a n c b m d) ∧ Lts w' a n c K' ∧ Sns w' b m d O' ∧ K'.map Lt.tl = K.map Lt.tl ∧ O'.map Sn.L = O.map Sn.L ∧ Below w.heap.size w w'
theorem infoLet17 : (Try.prog.info? 71).map (fun i => (i.zero, i.size, i.bytes)) = some (some (.agg #[.string ⟨#[]⟩, .slice none 0 0]), 2, 40) := by kernel_rfl
theorem infoOut17 : (Try.prog.info? 25).map (fun i => (i.zero, i.size, i.bytes)) = some (some (.slice none 0 0), 1, 24) := by kernel_rfl
set_option maxRecDepth 4096 in
set_option maxHeartbeats 16000000 in
theorem law17_toField (a : Option Addr) (n c : Nat) (K : List Lt) (b : Option Addr) (m d : Nat) (O : List Sn) (w : World) (h : Lts w a n c K) (h2 : Sns w b m d O) (hn : n ≤ 10000) (hm : m ≤ 10000) (hs : ∀ x ∈ tCodes K O, x.n ≤ 1000000) :
    Calls Try.prog 23 #[fiV a n c b m d] w (LstF K O w) := by
  have hA := lt_at Try.underlying43 infoLet17
  have hA2 := sn_at Try.underlying27 infoOut17
  have HKl := Lib.hid h.len
  have HOl := Lib.hid h2.len
  have hbd := h.bound
  have hbd2 := h2.bound
  have HK := Lib.hid h
  have HO := Lib.hid h2
  have HSz := Lib.hid hs
  clear h h2 hs
  have HR0 := Lib.hid (blk_later (blk_new w #[.slice a n c, .slice b m d] 41) (below_then (below_alloc _ (.cells #[.slice none 0 0, .slice none 0 0] 45)) (below_alloc _ (.cells #[.slice none 0 0, .slice none 0 0] 45))))
  have HR1 : Hid ((((w.alloc (.cells #[.slice a n c, .slice b m d] 41)).alloc (.cells #[.slice none 0 0, .slice none 0 0] 45)).alloc (.cells #[.slice none 0 0, .slice none 0 0] 45)).heap[w.heap.size + 1]? = some (.cells #[.slice none 0 0, .slice none 0 0] 45 (0, 0))) := Lib.hid (by
    have h9 := blk_later (blk_new (w.alloc (.cells #[.slice a n c, .slice b m d] 41)) #[.slice none 0 0, .slice none 0 0] 45) (below_alloc _ (.cells #[.slice none 0 0, .slice none 0 0] 45))
    rw [blk_size] at h9; exact h9)
  have HR2 : Hid ((((w.alloc (.cells #[.slice a n c, .slice b m d] 41)).alloc (.cells #[.slice none 0 0, .slice none 0 0] 45)).alloc (.cells #[.slice none 0 0, .slice none 0 0] 45)).heap[w.heap.size + 1 + 1]? = some (.cells #[.slice none 0 0, .slice none 0 0] 45 (0, 0))) := Lib.hid (by
    have h9 := blk_new ((w.alloc (.cells #[.slice a n c, .slice b m d] 41)).alloc (.cells #[.slice none 0 0, .slice none 0 0] 45)) #[.slice none 0 0, .slice none 0 0] 45
    rw [blk_size, blk_size] at h9; exact h9)
  have HB0 := Lib.hid (below_then (below_then (below_alloc w (.cells #[.slice a n c, .slice b m d] 41)) (below_alloc _ (.cells #[.slice none 0 0, .slice none 0 0] 45))) (below_alloc _ (.cells #[.slice none 0 0, .slice none 0 0] 45)))
  go_enter Try.func23, Try.ntmps23
  unfold fiV
  go_wp2
  generalize (((w.alloc (.cells #[.slice a n c, .slice b m d] 41)).alloc (.cells #[.slice none 0 0, .slice none 0 0] 45)).alloc (.cells #[.slice none 0 0, .slice none 0 0] 45)) = w0 at *
  go_loopw [4] (fun iv wr => ∃ (k : Nat) (v : Value) (Z : List Lt), k ≤ n ∧ iv = .int .i64 (k : Int) ∧ Hid (wr.heap[w.heap.size]? = some (.cells #[.slice a n c, .slice b m d] 41 (0, 0))) ∧ Hid (wr.heap[w.heap.size + 1]? = some (.cells #[.slice none 0 0, .slice none 0 0] 45 (0, 0))) ∧ Hid (wr.heap[w.heap.size + 1 + 1]? = some (.cells #[v, .slice none 0 0] 45 (0, 0))) ∧ Hid (ltK.Mine wr (w.heap.size + 1 + 1 + 1) 71 v Z) ∧ Hid (Z.map Lt.tl = (K.take k).map Lt.tl) ∧ Hid (Below w.heap.size w wr)) (fun iv _ => n - (intOf iv).toNat)
  case atStart => exact ⟨0, _, [], by omega, by go_num, HR0, HR1, HR2, Lib.hid (Kin.Mine.nil _ _ _), Lib.hid (by simp), HB0⟩
  case round =>
    clear HR0 HR1 HR2 HB0
    obtain ⟨k, v, Z, hk, rfl, HR0, HR1, HR2, HM, HZ, HB⟩ := hrel
    obtain ⟨f0, f1⟩ := cells2 HR0.out
    obtain ⟨o0, o1⟩ := cells2 HR2.out
    have hsz : w.heap.size + 1 + 1 < wr.heap.size := (Array.getElem?_eq_some_iff.1 HR2.out).1
    have hZl : Z.length ≤ n := by rw [← List.length_map Lt.tl, HZ.out, List.length_map, List.length_take]; omega
    by_cases hlt : k < n
    · have hki : (k : Int) < (n : Int) := by omega
      obtain ⟨x, hx⟩ := at_some HKl.out hlt
      obtain ⟨bb, off, rfl, e0, e1, hw2⟩ := Lts.get (Kin.All.later HK.out HB.out) hx
      have HN := Lib.hid hw2
      have hxn : x.n ≤ 1000000 := HSz.out x.sn (by unfold tCodes; exact List.mem_append_left _ (List.mem_map.2 ⟨x, List.mem_of_getElem? hx, rfl⟩))
      have HT2 : Hid ((K.take (k + 1)).map Lt.tl = (K.take k).map Lt.tl ++ [x.tl]) := Lib.hid (by rw [take_snoc hx]; simp)
      have HTo := Lib.hid fun w (h : Nds w x.a x.n x.c x.L) => law17_to x.a x.n x.c x.L w h hxn
      clear hw2
      obtain ⟨xt, xa, xn, xc, xL⟩ := x
      dsimp only at e0 e1 HN HTo hxn
      clear hx
      have hvs : isSlice v := by
        obtain ⟨av, cv, hv, -⟩ := HM.out.slice
        exact ⟨_, _, _, hv⟩
      have HVs := Lib.hid hvs
      clear hvs o1 f1
      go_upto_region 5 with fail
      have HBd := Lib.hid (below_then HB.out ((Below.refl _ _).drew : Below wr.heap.size wr wr.drew))
      have HNd := Lib.hid (Kin.All.later HN.out ((Below.refl _ _).drew : Below wr.heap.size wr wr.drew))
      have HMd := Lib.hid (Kin.Mine.later HM.out ((Below.refl _ _).drew : Below wr.heap.size wr wr.drew))
      have HR0d := Lib.hid (blk_later HR0.out ((Below.refl _ _).drew : Below wr.heap.size wr wr.drew))
      have HR1d := Lib.hid (blk_later HR1.out ((Below.refl _ _).drew : Below wr.heap.size wr wr.drew))
      have HR2d := Lib.hid (blk_later HR2.out ((Below.refl _ _).drew : Below wr.heap.size wr wr.drew))
      clear HB HN HM HR0 HR1 HR2 HK HO HSz HKl HOl
      go_region_law (first
        | (refine Kin.step_append hA rfl _ _ rfl (w.heap.size + 1 + 1 + 1) _ Z rfl (Kin.Mine.later HM4.out (below_alloc w4 _)) ⟨_, 0, none⟩ 1 1 [⟨xt, a9, n9, c9, xL⟩] rfl rfl (lt_news _ ⟨xt, a9, n9, c9, xL⟩ _) (fun y hy => by rw [List.mem_singleton.1 hy]; exact Kin.All.later HN4.out (below_alloc w4 _)) (by unfold maxLen; omega) (by show (Z.length + 1) * 40 ≤ _; omega) (by simp; omega) ?_; intro v' w5 hrow hgrow hnew; obtain ⟨av5, cv5, rfl, -⟩ := hrow.slice; have HR25 := Lib.hid (blk_stays (blk_later HR24.out (below_alloc w4 _)) hgrow (fun g hg => by have := Kin.Mine.base HM4.out g hg; omega)); have g0 := (cells2 HR25.out).1; have g1 := blk_free HR25.out 0)
        | (go_simp; go_at_call 10; refine (HTo.out _ HNd.out).mono ?_; rintro e9 w4 ⟨a9, n9, c9, rfl, h9, b9⟩; have HN4 := Lib.hid h9; have HB4 := Lib.hid (below_then HBd.out b9); have HR04 := Lib.hid (blk_later HR0d.out b9); have HR14 := Lib.hid (blk_later HR1d.out b9); have HR24 := Lib.hid (blk_later HR2d.out b9); have HM4 := Lib.hid (Kin.Mine.later HMd.out b9); have hs4 : w.heap.size + 1 + 1 < w4.heap.size := (Array.getElem?_eq_some_iff.1 HR24.out).1; have p0 := (cells2 HR04.out).1; have p1 := (cells2 HR24.out).1; have p2 := cell_later (below_then ((Below.refl _ _).drew : Below wr.heap.size wr wr.drew) b9) e0; have p3 := cell_later (below_then ((Below.refl _ _).drew : Below wr.heap.size wr wr.drew) b9) e1; have p4 := (cells2 (blk_later HR24.out (below_alloc w4 (.cells #[.string (bs xt), .slice a9 n9 c9] 71)))).1; clear h9 b9))
      all_goals (
        have HB5 : Hid (Below w.heap.size w w5) := Lib.hid ((below_then HB4.out (below_alloc w4 _)).grown hgrow (by simp; omega) (fun g hg => by have := Kin.Mine.base HM4.out g hg; omega))
        have HR05 := Lib.hid (blk_stays (blk_later HR04.out (below_alloc w4 _)) hgrow (fun g hg => by have := Kin.Mine.base HM4.out g hg; omega))
        have HR15 := Lib.hid (blk_stays (blk_later HR14.out (below_alloc w4 _)) hgrow (fun g hg => by have := Kin.Mine.base HM4.out g hg; omega))
        have HM6 := Lib.hid (Kin.Mine.boxed hrow HR25.out (box_let HVs.out) (fun g hg e => by have := Kin.Mine.base hrow g hg; omega) 0 (.slice av5 (Z.length + 1) cv5))
        have HR26 := Lib.hid (blk_set HR25.out 0 (.slice av5 (Z.length + 1) cv5))
        have HR06 := Lib.hid (blk_apart HR05.out (show w.heap.size ≠ w.heap.size + 1 + 1 by omega) 0 (.slice av5 (Z.length + 1) cv5))
        have HR16 := Lib.hid (blk_apart HR15.out (show w.heap.size + 1 ≠ w.heap.size + 1 + 1 by omega) 0 (.slice av5 (Z.length + 1) cv5))
        have HB6 := Lib.hid (HB5.out.setCell (p := ⟨w.heap.size + 1 + 1, 0, none⟩) (show w.heap.size ≤ w.heap.size + 1 + 1 by omega) (.slice av5 (Z.length + 1) cv5))
        have HZ6 : Hid ((Z ++ [(⟨xt, a9, n9, c9, xL⟩ : Lt)]).map Lt.tl = (K.take (k + 1)).map Lt.tl) := Lib.hid (by rw [HT2.out, List.map_append, HZ.out]; rfl)
        clear hrow hgrow hnew g0 g1 p0 p1 p2 p3 p4
        go_wp2
        go_roundw
        (case rel => exact ⟨k + 1, .slice av5 (Z.length + 1) cv5, Z ++ [⟨xt, a9, n9, c9, xL⟩], by omega, by go_num, HR06, HR16, Lib.hid (by simpa using HR26.out), Lib.hid (by simpa using HM6.out), HZ6, HB6⟩)
        (case measure => simp [intOf]; omega))
    · obtain rfl : k = n := by omega
      have htk : K.take k = K := List.take_of_length_le (by rw [HKl.out]; exact Nat.le_refl _)
      rw [htk] at HZ
      obtain ⟨av, cv, rfl, hlt2⟩ := HM.out.slice
      have HLt := Lib.hid hlt2
      obtain ⟨B2, hB2⟩ : ∃ B2, wr.heap.size = B2 := ⟨_, rfl⟩
      have hg2 : w.heap.size + 1 + 1 < B2 := by omega
      clear htk hlt2 HM
      go_wp2
      go_loopw [5] (fun iv ws => B2 ≤ ws.heap.size ∧ ∃ (j : Nat) (v2 : Value) (Y : List Sn), j ≤ m ∧ iv = .int .i64 (j : Int) ∧ Hid (ws.heap[w.heap.size]? = some (.cells #[.slice a k c, .slice b m d] 41 (0, 0))) ∧ Hid (ws.heap[w.heap.size + 1]? = some (.cells #[.slice none 0 0, .slice none 0 0] 45 (0, 0))) ∧ Hid (ws.heap[w.heap.size + 1 + 1]? = some (.cells #[.slice av Z.length cv, v2] 45 (0, 0))) ∧ Hid (Lts ws av Z.length cv Z) ∧ Hid (snK.Mine ws B2 25 v2 Y) ∧ Hid (Y.map Sn.L = (O.take j).map Sn.L) ∧ Hid (Below w.heap.size w ws)) (fun iv _ => m - (intOf iv).toNat)
      case atStart => exact ⟨by omega, 0, _, [], by omega, by go_num, HR0, HR1, HR2, HLt, Lib.hid (Kin.Mine.nil _ _ _), Lib.hid (by simp), HB⟩
      case round =>
        clear HR0 HR1 HR2 HLt HB f0 f1 o0 o1 hB2 hsz
        obtain ⟨hws, j, v2, Y, hj, rfl, HR0, HR1, HR2, HLt, HM, HY, HB⟩ := hrel
        obtain ⟨f0, f1⟩ := cells2 HR0.out
        obtain ⟨o0, o1⟩ := cells2 HR2.out
        have hYl : Y.length ≤ m := by rw [← List.length_map Sn.L, HY.out, List.length_map, List.length_take]; omega
        by_cases hjt : j < m
        · have hji : (j : Int) < (m : Int) := by omega
          obtain ⟨x, hx⟩ := at_some HOl.out hjt
          obtain ⟨bb, off, rfl, e0, hw2⟩ := Sns.get (Kin.All.later HO.out HB.out) hx
          have HN := Lib.hid hw2
          have hxn : x.n ≤ 1000000 := HSz.out x (by unfold tCodes; exact List.mem_append_right _ (List.mem_of_getElem? hx))
          have HT2 : Hid ((O.take (j + 1)).map Sn.L = (O.take j).map Sn.L ++ [x.L]) := Lib.hid (by rw [take_snoc hx]; simp)
          have HTo := Lib.hid fun w (h : Nds w x.a x.n x.c x.L) => law17_to x.a x.n x.c x.L w h hxn
          obtain ⟨xa, xn, xc, xL⟩ := x
          dsimp only at e0 HN HTo hxn
          have hvs : isSlice v2 := by
            obtain ⟨ay, cy, hy, -⟩ := HM.out.slice
            exact ⟨_, _, _, hy⟩
          have HVs := Lib.hid hvs
          clear hvs o0 f0 hw2 hx
          go_upto_region 9 with fail
          have HBd := Lib.hid (below_then HB.out ((Below.refl _ _).drew : Below wr.heap.size wr wr.drew))
          have HNd := Lib.hid (Kin.All.later HN.out ((Below.refl _ _).drew : Below wr.heap.size wr wr.drew))
          have HMd := Lib.hid (Kin.Mine.later HM.out ((Below.refl _ _).drew : Below wr.heap.size wr wr.drew))
          have HLd := Lib.hid (Kin.All.later HLt.out ((Below.refl _ _).drew : Below wr.heap.size wr wr.drew))
          have HR0d := Lib.hid (blk_later HR0.out ((Below.refl _ _).drew : Below wr.heap.size wr wr.drew))
          have HR1d := Lib.hid (blk_later HR1.out ((Below.refl _ _).drew : Below wr.heap.size wr wr.drew))
          have HR2d := Lib.hid (blk_later HR2.out ((Below.refl _ _).drew : Below wr.heap.size wr wr.drew))
          clear HB HN HM HR0 HR1 HR2 HK HO HSz HKl HOl HLt
          go_region_law (first
            | (refine Kin.step_append hA2 rfl _ _ rfl B2 _ Y rfl (Kin.Mine.later HM4.out (below_alloc w4 _)) ⟨_, 0, none⟩ 1 1 [⟨a9, n9, c9, xL⟩] rfl rfl (sn_news _ ⟨a9, n9, c9, xL⟩ _) (fun y hy => by rw [List.mem_singleton.1 hy]; exact Kin.All.later HN4.out (below_alloc w4 _)) (by unfold maxLen; omega) (by show (Y.length + 1) * 24 ≤ _; omega) (by simp; omega) ?_; intro v' w5 hrow hgrow hnew; obtain ⟨av5, cv5, rfl, -⟩ := hrow.slice; have HR25 := Lib.hid (blk_stays (blk_later HR24.out (below_alloc w4 _)) hgrow (fun g hg => by have := Kin.Mine.base HM4.out g hg; omega)); have g0 := (cells2 HR25.out).2; have g1 := blk_free HR25.out 1)
            | (go_simp; go_at_call 10; refine (HTo.out _ HNd.out).mono ?_; rintro e9 w4 ⟨a9, n9, c9, rfl, h9, b9⟩; have HN4 := Lib.hid h9; have HB4 := Lib.hid (below_then HBd.out b9); have HL4 := Lib.hid (Kin.All.later HLd.out b9); have HR04 := Lib.hid (blk_later HR0d.out b9); have HR14 := Lib.hid (blk_later HR1d.out b9); have HR24 := Lib.hid (blk_later HR2d.out b9); have HM4 := Lib.hid (Kin.Mine.later HMd.out b9); have hs4 : B2 ≤ w4.heap.size := Nat.le_trans hws (show wr.heap.size ≤ w4.heap.size from b9.size); have p0 := (cells2 HR04.out).2; have p1 := (cells2 HR24.out).2; have p2 := cell_later (below_then ((Below.refl _ _).drew : Below wr.heap.size wr wr.drew) b9) e0; have p4 := (cells2 (blk_later HR24.out (below_alloc w4 (.cells #[.slice a9 n9 c9] 25)))).2; clear h9 b9))
          all_goals (
            have HB5 : Hid (Below w.heap.size w w5) := Lib.hid ((below_then HB4.out (below_alloc w4 _)).grown hgrow (by simp; omega) (fun g hg => by have := Kin.Mine.base HM4.out g hg; omega))
            have HR05 := Lib.hid (blk_stays (blk_later HR04.out (below_alloc w4 _)) hgrow (fun g hg => by have := Kin.Mine.base HM4.out g hg; omega))
            have HR15 := Lib.hid (blk_stays (blk_later HR14.out (below_alloc w4 _)) hgrow (fun g hg => by have := Kin.Mine.base HM4.out g hg; omega))
            have HL5 := Lib.hid (Lts.only (Kin.All.later HL4.out (below_alloc w4 _)) (Kin.Mine.later HM4.out (below_alloc w4 _)).1.2 hgrow slice_noInt slice_noStr)
            have HM6 := Lib.hid (Kin.Mine.boxed hrow HR25.out (two_isSlice ⟨_, _, _, rfl⟩ HVs.out) (fun g hg e => by have := Kin.Mine.base hrow g hg; omega) 1 (.slice av5 (Y.length + 1) cv5))
            have HL6 := Lib.hid (Lts.only HL5.out (only_box HR25.out (two_isSlice ⟨_, _, _, rfl⟩ HVs.out)) (grown_set w5 (w.heap.size + 1 + 1) 1 (.slice av5 (Y.length + 1) cv5)) slice_noInt slice_noStr)
            have HR26 := Lib.hid (blk_set HR25.out 1 (.slice av5 (Y.length + 1) cv5))
            have HR06 := Lib.hid (blk_apart HR05.out (show w.heap.size ≠ w.heap.size + 1 + 1 by omega) 1 (.slice av5 (Y.length + 1) cv5))
            have HR16 := Lib.hid (blk_apart HR15.out (show w.heap.size + 1 ≠ w.heap.size + 1 + 1 by omega) 1 (.slice av5 (Y.length + 1) cv5))
            have HB6 := Lib.hid (HB5.out.setCell (p := ⟨w.heap.size + 1 + 1, 1, none⟩) (show w.heap.size ≤ w.heap.size + 1 + 1 by omega) (.slice av5 (Y.length + 1) cv5))
            have HY6 : Hid ((Y ++ [(⟨a9, n9, c9, xL⟩ : Sn)]).map Sn.L = (O.take (j + 1)).map Sn.L) := Lib.hid (by rw [HT2.out, List.map_append, HY.out]; rfl)
            have hs5 : B2 ≤ w5.heap.size := by
              have h9 := hgrow.size
              simp at h9
              omega
            clear hrow hgrow hnew g0 g1 p0 p1 p2 p4
            go_wp2
            go_roundw
            (case rel => exact ⟨by simp; omega, j + 1, .slice av5 (Y.length + 1) cv5, Y ++ [⟨a9, n9, c9, xL⟩], by omega, by go_num, HR06, HR16, Lib.hid (by simpa using HR26.out), HL6, Lib.hid (by simpa using HM6.out), HY6, HB6⟩)
            (case measure => simp [intOf]; omega))
        · obtain rfl : j = m := by omega
          have htk : O.take j = O := List.take_of_length_le (by rw [HOl.out]; exact Nat.le_refl _)
          rw [htk] at HY
          obtain ⟨ay, cy, rfl, -⟩ := HM.out.slice
          obtain ⟨r0, r1⟩ := cells2 HR1.out
          have q0 := blk_free HR1.out 0
          have q1 := blk_free HR1.out 1
          have HG := Lib.hid (blk_set2 HR1.out (.slice av Z.length cv) (.slice ay Y.length cy))
          have HM1 := Kin.Mine.boxed HM.out HR1.out two_slices (fun g hg e => by have := Kin.Mine.base HM.out g hg; omega) 0 (.slice av Z.length cv)
          have HRa : (wr.setCell ⟨w.heap.size + 1, 0, none⟩ (.slice av Z.length cv)).heap[w.heap.size + 1]? = some (.cells #[.slice av Z.length cv, .slice none 0 0] 45 (0, 0)) := by simpa using blk_set HR1.out 0 (.slice av Z.length cv)
          have HM2 := Kin.Mine.boxed HM1 HRa two_slices (fun g hg e => by have := Kin.Mine.base HM.out g hg; omega) 1 (.slice ay Y.length cy)
          have HL1 := Lts.only HLt.out (only_box HR1.out two_slices) (grown_set wr (w.heap.size + 1) 0 (.slice av Z.length cv)) slice_noInt slice_noStr
          have HL2 := Lib.hid (Lts.only HL1 (only_box HRa two_slices) (grown_set _ (w.heap.size + 1) 1 (.slice ay Y.length cy)) slice_noInt slice_noStr)
          have HB2 := Lib.hid (below_set2 HB.out (show w.heap.size ≤ w.heap.size + 1 by omega) (.slice av Z.length cv) (.slice ay Y.length cy))
          obtain ⟨az, cz, hz, hS⟩ := HM2.slice
          simp only [Value.slice.injEq] at hz
          obtain ⟨rfl, -, rfl⟩ := hz
          have HS2 := Lib.hid hS
          clear HM1 HM2 HL1 HRa hS htk
          go_wp2
          refine bodyPost_ret (results_cell_row Try.results23 _ _ (w.heap.size + 1) 45 #[.slice av Z.length cv, .slice ay Y.length cy] (0, 0) _ rfl HG.out Try.underlying45 rfl (by kernel_rfl)) rfl ?_
          exact ⟨av, Z.length, cv, Z, ay, Y.length, cy, Y, rfl, HL2.out, HS2.out, HZ.out, HY.out, HB2.out⟩
end Go.Proofs.Ytdhfnlpolelcpaa
