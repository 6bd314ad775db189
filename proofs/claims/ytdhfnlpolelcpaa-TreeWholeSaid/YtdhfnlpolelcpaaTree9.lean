/-
  Package tree: Codes.
-/
import Derived.Test.YtdhfnlpolelcpaaTree8
import Derived.Test.YtdhfnlpolelcpaaTree4
import Derived.WalkKit
import Derived.OwnWalk
namespace Go.Proofs.Ytdhfnlpolelcpaa
open Go.WideShapes Go.RowKit Go.Deep

theorem codes_more {K : List Sn} {X : List Sn} {k : Nat} {x y : Sn} (hX : X.map Sn.sem = (K.take k).map Sn.sem) (hx : K[k]? = some x) (hy : y.L.map Nd.key = x.L.map Nd.key) : (X ++ [y]).map Sn.sem = (K.take (k + 1)).map Sn.sem := by
  rw [take_snoc hx, List.map_append, List.map_append, hX, List.map_singleton, List.map_singleton]
  unfold Sn.sem
  rw [key_sem hy]
theorem codes_thin {X : List Sn} {N M : Nat} {L L2 : List Nd} {a : Option Addr} {c : Nat} (h : ∀ x ∈ X, x.n ≤ N ∧ thinN M x.L) (hk : L2.map Nd.key = L.map Nd.key) (hn : L.length ≤ N) (ht : thinN M L) : ∀ x ∈ X ++ [⟨a, L.length, c, L2⟩], x.n ≤ N ∧ thinN M x.L := by
  intro x hx
  rcases List.mem_append.1 hx with h9 | h9
  · exact h x h9
  · rw [List.mem_singleton.1 h9]
    exact ⟨hn, key_thin hk ht⟩
set_option maxRecDepth 4096 in
set_option maxHeartbeats 8000000 in
theorem tree_codes (a : Option Addr) (n c : Nat) (K : List Lt) (b : Option Addr) (m d : Nat) (O : List Sn) (N M : Nat) (w : World) (h : Lts w a n c K) (h2 : Sns w b m d O) (hn : n ≤ 100000) (hm : m ≤ 100000) (hs : ∀ x ∈ tCodes K O, x.n ≤ N ∧ thinN M x.L) (hN : N ≤ 1000000) (hM : M ≤ 1000000) :
    Calls Try.prog 24 #[fiV a n c b m d] w (LstE ((tCodes K O).map Sn.sem) N M w) := by
  have hA := sn_at Try.underlying27 infoCode17
  have HK := Lib.hid h
  have HO := Lib.hid h2
  have HKl := Lib.hid h.len
  have HOl := Lib.hid h2.len
  have hbd := h.bound
  have hbd2 := h2.bound
  have HSk : Hid (∀ x ∈ K, x.n ≤ N ∧ thinN M x.L) := Lib.hid (fun x hx => hs x.sn (lt_sn_mem hx))
  have HSo : Hid (∀ x ∈ O, x.n ≤ N ∧ thinN M x.L) := Lib.hid (fun x hx => hs x (List.mem_append.2 (.inr hx)))
  have k0 : IntKind.i64.wrap ((n : Int) + (m : Int)) = ((n + m : Nat) : Int) := by rw [IntKind.wrap_i64]; omega
  clear h h2 hs
  go_enter Try.func24, Try.ntmps24
  unfold fiV
  obtain ⟨f0, f1⟩ := cells2 (blk_new w #[.slice a n c, .slice b m d] 45)
  go_wp2_with (at_make; refine Kin.wpList_make (K := snK) rfl _ _ rfl Try.underlying27 infoCode17 (x0 := Sn.zero) rfl rfl rfl (fun w => Kin.All.nil w) (w.heap.size + 1) _ _ _ _ 0 (n + m) rfl rfl (by omega) (by omega) (Nat.zero_le _) (by show 24 * (n + m) ≤ _; omega) (by unfold maxLen; omega) (by rw [blk_size]; omega) ?_; intro wm hmade hgm hszm; obtain ⟨g0, g1⟩ := cells2 (blk_stays (blk_new w #[.slice a n c, .slice b m d] 45) hgm (fun k hk => by cases hk)))
  have HR0 : Hid (wm.heap[w.heap.size]? = some (.cells #[.slice a n c, .slice b m d] 45 (0, 0))) := Lib.hid (blk_stays (blk_new w #[.slice a n c, .slice b m d] 45) hgm (fun k hk => by cases hk))
  have HX0 := Lib.hid hmade
  have HB0 : Hid (Below w.heap.size w wm) := Lib.hid ((below_alloc w _).grown hgm (by rw [blk_size]; omega) (fun k hk => by cases hk))
  clear hmade hgm hszm f0 f1
  rw [blk_size] at HX0
  go_loopw [3, 19] (fun v iv wr => ∃ (k : Nat) (X : List Sn), k ≤ n ∧ iv = .int .i64 (k : Int) ∧ Hid (X.map Sn.sem = ((K.map Lt.sn).take k).map Sn.sem) ∧ Hid (∀ x ∈ X, x.n ≤ N ∧ thinN M x.L) ∧ Hid (X.length = k) ∧ Hid (snK.Mine wr (w.heap.size + 1) 25 v X) ∧ Hid (Below w.heap.size w wr) ∧ Hid (wr.heap[w.heap.size]? = some (.cells #[.slice a n c, .slice b m d] 45 (0, 0)))) (fun _ iv _ => n - (intOf iv).toNat)
  case atStart => exact ⟨0, [], by omega, by go_num, Lib.hid rfl, Lib.hid (fun x hx => by cases hx), Lib.hid rfl, HX0, HB0, HR0⟩
  case round =>
    clear g0 g1 HX0 HB0 HR0
    obtain ⟨k, X, hk, rfl, HE, HT, HXl, HX, HB, HR⟩ := hrel
    by_cases hlt : k < n
    · have hki : (k : Int) < (n : Int) := by omega
      obtain ⟨x, hx⟩ := at_some HKl.out hlt
      obtain ⟨b0, off, rfl, e0, e1, hw2⟩ := Lts.get (Kin.All.later HK.out HB.out) hx
      have ba := below_alloc wr (.cells #[.string (bs x.t), .slice x.a x.n x.c] 71)
      have hxs := HSk.out x (List.mem_of_getElem? hx)
      have hxl : x.L.length = x.n := hw2.len
      have HBa := Lib.hid ba
      have HC := Lib.hid (tree_copied x.a x.n x.c x.L _ (Kin.All.later hw2 ba) (by omega) (fun y hy => by have := hxs.2 y hy; omega))
      obtain ⟨x0, x1⟩ := cells2 (blk_new wr #[.string (bs x.t), .slice x.a x.n x.c] 71)
      have HXx : Hid ((K.map Lt.sn)[k]? = some x.sn) := Lib.hid (by rw [List.getElem?_map, hx]; rfl)
      clear hw2 ba hx
      go_wp2_with fail
      refine HC.out.mono ?_
      rintro e9 w2 ⟨a2, c2, L2, rfl, h2, hk2, b2⟩
      have HB2 := Lib.hid (below_then (below_then HB.out HBa.out) b2)
      have HR2 := Lib.hid (blk_later (blk_later HR.out HBa.out) b2)
      have HX2 := Lib.hid (Kin.Mine.later (Kin.Mine.later HX.out HBa.out) b2)
      have HN := Lib.hid h2
      have HE2 := Lib.hid (codes_more (y := ⟨a2, x.L.length, c2, L2⟩) HE.out HXx.out hk2)
      have HT2 := Lib.hid (codes_thin (a := a2) (c := c2) HT.out hk2 (by rw [hxl]; exact hxs.1) hxs.2)
      have hbs2 : w.heap.size + 1 ≤ w2.heap.size := (Array.getElem?_eq_some_iff.1 HR2.out).1
      clear h2 hk2 b2 HC HBa HB HR HX HE HT x0 x1 e0 e1 hxs hxl
      go_wp2_with (at_builtin; refine Kin.wpList_append hA rfl _ _ rfl (w.heap.size + 1) _ X rfl (Kin.Mine.later HX2.out (below_alloc w2 _)) ⟨w2.heap.size, 0, none⟩ 1 1 [⟨a2, x.L.length, c2, L2⟩] rfl rfl (sn_news w2 ⟨a2, x.L.length, c2, L2⟩ _) (fun y hy => by rw [List.mem_singleton.1 hy]; exact Kin.All.later HN.out (below_alloc w2 _)) (by rw [HXl.out]; unfold maxLen; omega) (by rw [HXl.out]; show (k + 1) * 24 ≤ _; omega) (by rw [blk_size]; omega) ?_)
      intro v' w5 hrow hgrow hnew
      have HX5 := Lib.hid hrow
      have HB5 : Hid (Below w.heap.size w w5) := Lib.hid ((below_then HB2.out (below_alloc w2 _)).grown hgrow (by rw [blk_size]; omega) (fun g hg => by have := Kin.Mine.base HX2.out g hg; omega))
      have HR5 := Lib.hid (blk_stays (blk_later HR2.out (below_alloc w2 _)) hgrow (fun g hg => by have := Kin.Mine.base HX2.out g hg; omega))
      have HXl5 : Hid ((X ++ [(⟨a2, x.L.length, c2, L2⟩ : Sn)]).length = k + 1) := Lib.hid (by rw [List.length_append, HXl.out]; rfl)
      clear hrow hgrow hnew HX2 HB2 HR2 HN HXl
      go_wp2
      go_roundw
      case rel => exact ⟨k + 1, _, by omega, by go_num, HE2, HT2, HXl5, HX5, HB5, HR5⟩
      case measure => simp [intOf]; omega
    · obtain rfl : k = n := by omega
      have HEk : Hid (X.map Sn.sem = (K.map Lt.sn).map Sn.sem) := Lib.hid (by rw [HE.out, List.take_of_length_le (by rw [List.length_map, HKl.out]; exact Nat.le_refl _)])
      obtain ⟨f0, f1⟩ := cells2 HR.out
      clear HE HK HKl HSk
      go_wp2
      go_loopw [3, 33] (fun v iv wr => ∃ (j : Nat) (Y : List Sn), j ≤ m ∧ iv = .int .i64 (j : Int) ∧ Hid (Y.map Sn.sem = (K.map Lt.sn).map Sn.sem ++ (O.take j).map Sn.sem) ∧ Hid (∀ x ∈ Y, x.n ≤ N ∧ thinN M x.L) ∧ Hid (Y.length = k + j) ∧ Hid (snK.Mine wr (w.heap.size + 1) 25 v Y) ∧ Hid (Below w.heap.size w wr) ∧ w.heap.size + 1 ≤ wr.heap.size) (fun _ iv _ => m - (intOf iv).toNat)
      case atStart => exact ⟨0, X, by omega, by go_num, Lib.hid (by rw [HEk.out]; simp), HT, HXl, HX, HB, (Array.getElem?_eq_some_iff.1 HR.out).1⟩
      case round =>
        clear f0 f1 HT HXl HX HB HR HEk
        obtain ⟨j, Y, hj, rfl, HE, HT, HYl, HY, HB, hbs⟩ := hrel
        by_cases hjt : j < m
        · have hji : (j : Int) < (m : Int) := by omega
          obtain ⟨x, hx⟩ := at_some HOl.out hjt
          obtain ⟨b0, off, rfl, e0, hw2⟩ := Sns.get (Kin.All.later HO.out HB.out) hx
          have hxs := HSo.out x (List.mem_of_getElem? hx)
          have hxl : x.L.length = x.n := hw2.len
          have HC := Lib.hid (tree_copied x.a x.n x.c x.L _ hw2 (by omega) (fun y hy => by have := hxs.2 y hy; omega))
          have HTk := Lib.hid (take_snoc hx)
          clear hw2 hx
          go_wp2_with fail
          refine HC.out.mono ?_
          rintro e9 w2 ⟨a2, c2, L2, rfl, h2, hk2, b2⟩
          have HB2 := Lib.hid (below_then HB.out b2)
          have HY2 := Lib.hid (Kin.Mine.later HY.out b2)
          have HN := Lib.hid h2
          have HE2 : Hid ((Y ++ [(⟨a2, x.L.length, c2, L2⟩ : Sn)]).map Sn.sem = (K.map Lt.sn).map Sn.sem ++ (O.take (j + 1)).map Sn.sem) := Lib.hid (by
            rw [HTk.out, List.map_append, HE.out, List.map_append, List.append_assoc, List.map_singleton, List.map_singleton]
            unfold Sn.sem
            rw [key_sem hk2])
          have HT2 := Lib.hid (codes_thin (a := a2) (c := c2) HT.out hk2 (by rw [hxl]; exact hxs.1) hxs.2)
          have hbs2 : w.heap.size + 1 ≤ w2.heap.size := Nat.le_trans hbs b2.size
          clear h2 hk2 b2 HC HB HY HE HT e0 hxs hxl
          go_wp2_with (at_builtin; refine Kin.wpList_append hA rfl _ _ rfl (w.heap.size + 1) _ Y rfl (Kin.Mine.later HY2.out (below_alloc w2 _)) ⟨w2.heap.size, 0, none⟩ 1 1 [⟨a2, x.L.length, c2, L2⟩] rfl rfl (sn_news w2 ⟨a2, x.L.length, c2, L2⟩ _) (fun y hy => by rw [List.mem_singleton.1 hy]; exact Kin.All.later HN.out (below_alloc w2 _)) (by rw [HYl.out]; unfold maxLen; omega) (by rw [HYl.out]; show (k + j + 1) * 24 ≤ _; omega) (by rw [blk_size]; omega) ?_)
          intro v' w5 hrow hgrow hnew
          have HX5 := Lib.hid hrow
          have HB5 : Hid (Below w.heap.size w w5) := Lib.hid ((below_then HB2.out (below_alloc w2 _)).grown hgrow (by rw [blk_size]; omega) (fun g hg => by have := Kin.Mine.base HY2.out g hg; omega))
          have hbs5 : w.heap.size + 1 ≤ w5.heap.size := by have := hgrow.size; rw [blk_size] at this; omega
          have HXl5 : Hid ((Y ++ [(⟨a2, x.L.length, c2, L2⟩ : Sn)]).length = k + (j + 1)) := Lib.hid (by rw [List.length_append, HYl.out]; rfl)
          clear hrow hgrow hnew HY2 HB2 HN HYl
          go_wp2
          go_roundw
          case rel => exact ⟨j + 1, _, by omega, by go_num, HE2, HT2, HXl5, HX5, HB5, hbs5⟩
          case measure => simp [intOf]; omega
        · obtain rfl : j = m := by omega
          go_wp2
          go_ret
          obtain ⟨a9, c9, rfl, hal⟩ := HY.out.slice
          exact ⟨a9, _, c9, Y, rfl, hal, by unfold tCodes; rw [HE.out, List.map_append, List.take_of_length_le (by rw [HOl.out]; exact Nat.le_refl _)], HT.out, HB.out⟩
end Go.Proofs.Ytdhfnlpolelcpaa
