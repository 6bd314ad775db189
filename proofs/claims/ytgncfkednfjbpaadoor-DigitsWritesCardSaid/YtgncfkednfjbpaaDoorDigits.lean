/-
  Package digits at this seat: wrongAt, Read.
-/
import Derived.Test.YtgncfkednfjbpaaDoorText2
import Derived.Test.YtgncfkednfjbpaaDoorWhole
import Derived.Test.YtgncfkednfjbpaaDoorProd2
namespace Go.Proofs.YtgncfkednfjbpaaDoor
open Go.RowKit

theorem results_tmp_cell {P : Program} {fn : Func} {p u : Tmp} {ty : TypeId} (h : fn.results = #[.tmp u, .cell p ty]) (tmps : Array Value) (w : World) (g : Nat) (t : TypeId) (cs : Array Value) (fr : Nat × Nat) (d : TypeDesc)
    (hp : tmps.getD p undef = .pointer (some ⟨g, 0, none⟩)) (hg : w.heap[g]? = some (.cells cs t fr))
    (hu : P.underlying ty = some d) (hd : (match d with | .struct _ | .array _ _ => true | _ => false) = true) (hi : (P.info? ty).map (·.size) = some cs.size) :
    (results fn tmps).run P w = .ok (.tuple #[tmps.getD u undef, .agg cs]) w := by
  have hp' : tmps[p]?.getD undef = .pointer (some ⟨g, 0, none⟩) := by simpa using hp
  simp [results, h, hp', asAddr, run_loadVar_row w g t ty cs fr d hg hu hd hi, Result.andThen]
theorem blk_set4 {w : World} {g : Nat} {x y z u : Value} {t : TypeId} (h : w.heap[g]? = some (.cells #[x, y, z, u] t (0, 0))) (x' y' z' u' : Value) : ((((w.setCell ⟨g, 0, none⟩ x').setCell ⟨g, 1, none⟩ y').setCell ⟨g, 2, none⟩ z').setCell ⟨g, 3, none⟩ u').heap[g]? = some (.cells #[x', y', z', u'] t (0, 0)) := by
  have h1 := blk_set (blk_set (blk_set (blk_set h 0 x') 1 y') 2 z') 3 u'
  simpa using h1
theorem no_words4 {a b c d : Int} : ∀ (j : Nat) (k : Int), (#[Value.int .i64 a, .int .i64 b, .int .i64 c, .int .i64 d] : Array Value)[j]? ≠ some (.int .u32 k) := by
  intro j k
  match j with
  | 0 => simp
  | 1 => simp
  | 2 => simp
  | 3 => simp
  | j + 4 => simp
theorem Wd.stored4 {w : World} {a : Option Addr} {n cap : Nat} {l : List Nat} (h : Wd w a n cap l) {g : Nat} {x0 x1 x2 x3 : Int} {t : TypeId} (hg : w.heap[g]? = some (.cells #[.int .i64 x0, .int .i64 x1, .int .i64 x2, .int .i64 x3] t (0, 0))) (y0 y1 y2 y3 : Int) :
    Wd ((((w.setCell ⟨g, 0, none⟩ (.int .i64 y0)).setCell ⟨g, 1, none⟩ (.int .i64 y1)).setCell ⟨g, 2, none⟩ (.int .i64 y2)).setCell ⟨g, 3, none⟩ (.int .i64 y3)) a n cap l := by
  have h0 := h.stored hg no_words4 0 (.int .i64 y0)
  have g0 : (w.setCell ⟨g, 0, none⟩ (.int .i64 y0)).heap[g]? = some (.cells #[.int .i64 y0, .int .i64 x1, .int .i64 x2, .int .i64 x3] t (0, 0)) := by simpa using blk_set hg 0 (.int .i64 y0)
  have h1 := h0.stored g0 no_words4 1 (.int .i64 y1)
  have g1 : ((w.setCell ⟨g, 0, none⟩ (.int .i64 y0)).setCell ⟨g, 1, none⟩ (.int .i64 y1)).heap[g]? = some (.cells #[.int .i64 y0, .int .i64 y1, .int .i64 x2, .int .i64 x3] t (0, 0)) := by simpa using blk_set g0 1 (.int .i64 y1)
  have h2 := h1.stored g1 no_words4 2 (.int .i64 y2)
  have g2 : (((w.setCell ⟨g, 0, none⟩ (.int .i64 y0)).setCell ⟨g, 1, none⟩ (.int .i64 y1)).setCell ⟨g, 2, none⟩ (.int .i64 y2)).heap[g]? = some (.cells #[.int .i64 y0, .int .i64 y1, .int .i64 y2, .int .i64 x3] t (0, 0)) := by simpa using blk_set g1 2 (.int .i64 y2)
  exact h2.stored g2 no_words4 3 (.int .i64 y3)
theorem below_set4 {w w1 : World} {g : Nat} (h : Below w.heap.size w w1) (hg : w.heap.size ≤ g) (x y z u : Value) : Below w.heap.size w ((((w1.setCell ⟨g, 0, none⟩ x).setCell ⟨g, 1, none⟩ y).setCell ⟨g, 2, none⟩ z).setCell ⟨g, 3, none⟩ u) :=
  (((h.setCell (p := ⟨g, 0, none⟩) hg x).setCell (p := ⟨g, 1, none⟩) hg y).setCell (p := ⟨g, 2, none⟩) hg z).setCell (p := ⟨g, 3, none⟩) hg u
set_option maxRecDepth 4096 in
theorem digits_wrongAt (i : Int) (w : World) : Calls Tryd.prog 22 #[.int .i64 i] w (Gives (faultV 1 0 0 i) w) := by
  go_enter Tryd.func22, Tryd.ntmps22
  go_wp2
  refine bodyPost_ret (results_cell_row Tryd.results22 _ _ w.heap.size 28 #[.int .i64 1, .int .i64 0, .int .i64 0, .int .i64 i] (0, 0) _ rfl (blk_new _ _ _) Tryd.underlying28 rfl (by kernel_rfl)) rfl ?_
  exact ⟨rfl, below_alloc _ _⟩
def ReadPost (l : List UInt8) (w : World) (e : Ending) (w' : World) : Prop :=
  (wrongI l < 0 ∧ Lst2 (dg (readV l)) (faultV 0 0 0 0) w e w') ∨ (0 ≤ wrongI l ∧ Lst2 [] (faultV 1 0 0 (wrongI l)) w e w')
set_option maxRecDepth 4096 in
set_option maxHeartbeats 2000000 in
theorem digits_read (l : List UInt8) (w : World) (hl : l.length ≤ 1000) : Calls Tryd.prog 10 #[.string (bs l)] w (ReadPost l w) := by
  cases l with
  | nil =>
    have hem : (bs []).toList.isEmpty = true := by rw [bs_list]; rfl
    go_enter Tryd.func10, Tryd.ntmps10
    go_wp2_with fail
    refine (digits_wrongAt 0 _).mono ?_
    rintro e w1 ⟨rfl, b1⟩
    unfold faultV
    have hR := blk_later (blk_new w #[.int .i64 0, .int .i64 0, .int .i64 0, .int .i64 0] 28) b1
    have hR0 := blk_cell hR 0
    have hR1 := blk_cell hR 1
    have hR2 := blk_cell hR 2
    have hR3 := blk_cell hR 3
    have hF0 := blk_free hR 0
    have hF1 := blk_free hR 1
    have hF2 := blk_free hR 2
    have hF3 := blk_free hR 3
    have HG4 := Lib.hid (blk_set4 hR (.int .i64 1) (.int .i64 0) (.int .i64 0) (.int .i64 0))
    have HB4 := Lib.hid (below_set4 (below_then (below_alloc w _) b1) (show w.heap.size ≤ w.heap.size from Nat.le_refl _) (.int .i64 1) (.int .i64 0) (.int .i64 0) (.int .i64 0))
    simp only [List.getElem?_toArray, List.getElem?_cons_zero, List.getElem?_cons_succ] at hR0 hR1 hR2 hR3
    clear hR b1
    go_wp2
    refine bodyPost_ret (results_tmp_cell Tryd.results10 _ _ w.heap.size 28 #[.int .i64 1, .int .i64 0, .int .i64 0, .int .i64 0] (0, 0) _ rfl HG4.out Tryd.underlying28 rfl (by kernel_rfl)) rfl ?_
    exact .inr ⟨by decide, none, 0, 0, rfl, Wd.ofNil _, HB4.out⟩
  | cons y r =>
    have hem : (bs (y :: r)).toList.isEmpty = false := by rw [bs_list]; rfl
    have HW : Hid (wrongI (y :: r) = wrongFrom (y :: r) 0) := Lib.hid rfl
    have hsz := bs_size (y :: r)
    generalize y :: r = L at *
    go_enter Tryd.func10, Tryd.ntmps10
    go_wp2_with fail
    go_loopw [4, 12] (fun av iv wr => ∃ (k : Nat) (a : Option Addr) (n c : Nat), k ≤ L.length ∧ k ≤ 60 ∧ iv = .int .i64 (k : Int) ∧ av = .slice a n c ∧ Hid (alldig (L.take k)) ∧ Hid (wrongFrom L 0 = wrongFrom (L.drop k) k) ∧ Hid (Wd wr a n c (dg (readV (L.take k)))) ∧ Hid (wr.heap[w.heap.size]? = some (.cells #[.int .i64 0, .int .i64 0, .int .i64 0, .int .i64 0] 28 (0, 0))) ∧ Below w.heap.size w wr) (fun _ iv _ => L.length - (intOf iv).toNat)
    case atStart => exact ⟨0, none, 0, 0, by omega, by omega, rfl, rfl, Lib.hid (fun x hx => by rw [List.take_zero] at hx; cases hx), Lib.hid rfl, Lib.hid (by rw [List.take_zero]; show Wd _ _ _ _ (dg 0); rw [dg_zero]; exact Wd.ofNil _), Lib.hid (blk_new w _ _), below_alloc _ _⟩
    case round =>
      obtain ⟨k, a, n, c, hk, hk60, rfl, rfl, HD, Hk, HA, HR, hB⟩ := hrel
      by_cases hlt : k < L.length
      · have hki : (k : Int) < (L.length : Int) := by omega
        have hget := bs_get L k hlt (by rw [bs_size]; exact hlt)
        have Hx : Hid (L.getD k 0 = L[k]) := Lib.hid (by rw [List.getD_eq_getElem?_getD, List.getElem?_eq_getElem hlt]; rfl)
        have Hst : Hid (wrongFrom (L.drop k) k = if (L.getD k 0).toNat < 48 ∨ 57 < (L.getD k 0).toNat ∨ 60 ≤ k then (k : Int) else wrongFrom (L.drop (k + 1)) (k + 1)) := Lib.hid (by
          rw [List.drop_eq_getElem_cons hlt, wrongFrom, Hx.out])
        have Hv := Lib.hid (readV_take hlt)
        have hxb : (L.getD k 0).toNat < 256 := (L.getD k 0).toNat_lt
        have HD2 : Hid (48 ≤ (L.getD k 0).toNat → (L.getD k 0).toNat ≤ 57 → alldig (L.take (k + 1))) := Lib.hid (fun h1 h2 x hx => by
          rw [List.take_succ_eq_append_getElem hlt] at hx
          rcases List.mem_append.1 hx with h3 | h3
          · exact HD.out x h3
          · simp only [List.mem_singleton] at h3
            rw [h3, ← Hx.out]
            exact ⟨h1, h2⟩)
        clear Hx
        generalize (L.getD k 0).toNat = x at *
        obtain ⟨d, hd⟩ : ∃ d : Nat, ((x : Int) - 48) % 256 = (d : Int) := ⟨(((x : Int) - 48) % 256).toNat, by omega⟩
        have hdb : d < 256 := by omega
        by_cases hbad : x < 48 ∨ 57 < x ∨ 60 ≤ k
        · have Hfin : Hid (wrongI L = (k : Int)) := Lib.hid (by rw [HW.out, Hk.out, Hst.out, if_pos hbad])
          have hbd : k = 60 ∨ (k < 60 ∧ 10 ≤ d) := by omega
          clear hbad HD2 Hv
          rcases hbd with h60 | ⟨h60, hd10⟩
          · have h6 : ((k : Int) == 60) = true := by simp; omega
            clear h60
            go_wp2_with fail
            refine (digits_wrongAt (k : Int) _).mono ?_
            rintro e w1 ⟨rfl, b1⟩
            unfold faultV
            have hR := blk_later HR.out b1
            have hR0 := blk_cell hR 0
            have hR1 := blk_cell hR 1
            have hR2 := blk_cell hR 2
            have hR3 := blk_cell hR 3
            have hF0 := blk_free hR 0
            have hF1 := blk_free hR 1
            have hF2 := blk_free hR 2
            have hF3 := blk_free hR 3
            have HG4 := Lib.hid (blk_set4 hR (.int .i64 1) (.int .i64 0) (.int .i64 0) (.int .i64 (k : Int)))
            have HB4 := Lib.hid (below_set4 (below_then hB b1) (show w.heap.size ≤ w.heap.size from Nat.le_refl _) (.int .i64 1) (.int .i64 0) (.int .i64 0) (.int .i64 (k : Int)))
            simp only [List.getElem?_toArray, List.getElem?_cons_zero, List.getElem?_cons_succ] at hR0 hR1 hR2 hR3
            clear hR b1 hB HA
            go_wp2
            refine bodyPost_ret (results_tmp_cell Tryd.results10 _ _ w.heap.size 28 #[.int .i64 1, .int .i64 0, .int .i64 0, .int .i64 (k : Int)] (0, 0) _ rfl HG4.out Tryd.underlying28 rfl (by kernel_rfl)) rfl ?_
            exact .inr ⟨by rw [Hfin.out]; omega, none, 0, 0, by rw [Hfin.out]; rfl, Wd.ofNil _, HB4.out⟩
          · have h6 : ((k : Int) == 60) = false := by simp; omega
            have h7 : (10 : Int) ≤ (d : Int) := by omega
            rcases (show x < 48 ∨ 57 < x by omega) with hx | hx
            · clear h60 hd10
              go_wp2_with fail
              refine (digits_wrongAt (k : Int) _).mono ?_
              rintro e w1 ⟨rfl, b1⟩
              unfold faultV
              have hR := blk_later HR.out b1
              have hR0 := blk_cell hR 0
              have hR1 := blk_cell hR 1
              have hR2 := blk_cell hR 2
              have hR3 := blk_cell hR 3
              have hF0 := blk_free hR 0
              have hF1 := blk_free hR 1
              have hF2 := blk_free hR 2
              have hF3 := blk_free hR 3
              have HG4 := Lib.hid (blk_set4 hR (.int .i64 1) (.int .i64 0) (.int .i64 0) (.int .i64 (k : Int)))
              have HB4 := Lib.hid (below_set4 (below_then hB b1) (show w.heap.size ≤ w.heap.size from Nat.le_refl _) (.int .i64 1) (.int .i64 0) (.int .i64 0) (.int .i64 (k : Int)))
              simp only [List.getElem?_toArray, List.getElem?_cons_zero, List.getElem?_cons_succ] at hR0 hR1 hR2 hR3
              clear hR b1 hB HA
              go_wp2
              refine bodyPost_ret (results_tmp_cell Tryd.results10 _ _ w.heap.size 28 #[.int .i64 1, .int .i64 0, .int .i64 0, .int .i64 (k : Int)] (0, 0) _ rfl HG4.out Tryd.underlying28 rfl (by kernel_rfl)) rfl ?_
              exact .inr ⟨by rw [Hfin.out]; omega, none, 0, 0, by rw [Hfin.out]; rfl, Wd.ofNil _, HB4.out⟩
            · have hd2 : (x : Int) - 48 = (d : Int) := by omega
              clear h60 hd10 hd
              go_wp2_with fail
              refine (digits_wrongAt (k : Int) _).mono ?_
              rintro e w1 ⟨rfl, b1⟩
              unfold faultV
              have hR := blk_later HR.out b1
              have hR0 := blk_cell hR 0
              have hR1 := blk_cell hR 1
              have hR2 := blk_cell hR 2
              have hR3 := blk_cell hR 3
              have hF0 := blk_free hR 0
              have hF1 := blk_free hR 1
              have hF2 := blk_free hR 2
              have hF3 := blk_free hR 3
              have HG4 := Lib.hid (blk_set4 hR (.int .i64 1) (.int .i64 0) (.int .i64 0) (.int .i64 (k : Int)))
              have HB4 := Lib.hid (below_set4 (below_then hB b1) (show w.heap.size ≤ w.heap.size from Nat.le_refl _) (.int .i64 1) (.int .i64 0) (.int .i64 0) (.int .i64 (k : Int)))
              simp only [List.getElem?_toArray, List.getElem?_cons_zero, List.getElem?_cons_succ] at hR0 hR1 hR2 hR3
              clear hR b1 hB HA
              go_wp2
              refine bodyPost_ret (results_tmp_cell Tryd.results10 _ _ w.heap.size 28 #[.int .i64 1, .int .i64 0, .int .i64 0, .int .i64 (k : Int)] (0, 0) _ rfl HG4.out Tryd.underlying28 rfl (by kernel_rfl)) rfl ?_
              exact .inr ⟨by rw [Hfin.out]; omega, none, 0, 0, by rw [Hfin.out]; rfl, Wd.ofNil _, HB4.out⟩
        · have h1 : 48 ≤ x := by omega
          have h2 : x ≤ 57 := by omega
          have h3 : (k : Int) < 60 := by omega
          have hdd : d = x - 48 := by omega
          have h4 : (d : Int) < 10 := by omega
          have h5 : (x : Int) - 48 = (d : Int) := by omega
          have h6 : ((k : Int) == 60) = false := by simp; omega
          have hn7 : n ≤ 7 := by
            rw [← HA.out.len]
            apply dg_length_le
            have h7 := readV_lt HD.out
            have h8 : (10 : Nat) ^ (L.take k).length ≤ 10 ^ 60 := Nat.pow_le_pow_right (by decide) (by rw [List.length_take]; omega)
            have h9 : (10 : Nat) ^ 60 ≤ 4294967296 ^ 7 := by decide
            omega
          have Hnx : Hid (wrongFrom L 0 = wrongFrom (L.drop (k + 1)) (k + 1)) := Lib.hid (by rw [Hk.out, Hst.out, if_neg hbad])
          have HDn := Lib.hid (HD2.out h1 h2)
          have HVn : Hid (readV (L.take k) * 10 + d = readV (L.take (k + 1))) := Lib.hid (by rw [Hv.out, hdd])
          clear hbad HD2 Hv hdd Hst hd
          go_wp2_with fail
          refine (prod_word _ _ _ _ 10 d _ HA.out (by omega) (by omega) (by omega)).mono ?_
          rintro e w1 ⟨a1, n1, c1, rfl, h8, b1⟩
          rw [val_dg, HVn.out] at h8
          have HA2 := Lib.hid h8
          have HR2 := Lib.hid (blk_later HR.out b1)
          have hB2 := below_then hB b1
          clear h8 b1 hB HA HR
          go_wp2
          go_roundw
          case rel => exact ⟨k + 1, a1, n1, c1, by omega, by omega, by go_num, rfl, HDn, Hnx, HA2, HR2, hB2⟩
          case measure => simp [intOf]; omega
      · have htk : L.take k = L := List.take_of_length_le (by omega)
        have Hfin : Hid (wrongI L = -1) := Lib.hid (by rw [HW.out, Hk.out, List.drop_of_length_le (by omega)]; rfl)
        have hki : ¬ ((k : Int) < (L.length : Int)) := by omega
        rw [htk] at HA
        clear htk
        have hR := HR.out
        have hR0 := blk_cell hR 0
        have hR1 := blk_cell hR 1
        have hR2 := blk_cell hR 2
        have hR3 := blk_cell hR 3
        have hF0 := blk_free hR 0
        have hF1 := blk_free hR 1
        have hF2 := blk_free hR 2
        have hF3 := blk_free hR 3
        have HG4 := Lib.hid (blk_set4 hR (.int .i64 0) (.int .i64 0) (.int .i64 0) (.int .i64 0))
        have HB4 := Lib.hid (below_set4 hB (show w.heap.size ≤ w.heap.size from Nat.le_refl _) (.int .i64 0) (.int .i64 0) (.int .i64 0) (.int .i64 0))
        simp only [List.getElem?_toArray, List.getElem?_cons_zero, List.getElem?_cons_succ] at hR0 hR1 hR2 hR3
        have HS4 := Lib.hid (HA.out.stored4 hR 0 0 0 0)
        clear hR HA hB
        go_wp2
        refine bodyPost_ret (results_tmp_cell Tryd.results10 _ _ w.heap.size 28 #[.int .i64 0, .int .i64 0, .int .i64 0, .int .i64 0] (0, 0) _ rfl HG4.out Tryd.underlying28 rfl (by kernel_rfl)) rfl ?_
        exact .inl ⟨by rw [Hfin.out]; decide, a, n, c, rfl, HS4.out, HB4.out⟩
theorem digits_read_ok (l : List UInt8) (w : World) (hl : l.length ≤ 1000) (hw : Hid (wrongI l < 0)) : Calls Tryd.prog 10 #[.string (bs l)] w (Lst2 (dg (readV l)) (faultV 0 0 0 0) w) :=
  (digits_read l w hl).mono fun _ _ h => h.elim (fun h => h.2) fun h => absurd hw.out (by have := h.1; omega)
theorem digits_read_no (l : List UInt8) (w : World) (hl : l.length ≤ 1000) (hw : Hid (0 ≤ wrongI l)) : Calls Tryd.prog 10 #[.string (bs l)] w (Lst2 [] (faultV 1 0 0 (wrongI l)) w) :=
  (digits_read l w hl).mono fun _ _ h => h.elim (fun h => absurd hw.out (by have := h.1; omega)) fun h => h.2
end Go.Proofs.YtgncfkednfjbpaaDoor
