/-
  Several texts of this claim as one, group 10.
-/
import Derived.Test.YteoeicfbaffjcaaGreatDoorG9
import Derived.Test.YteoeicfbaffjcaaGreatDoorG3
import Derived.Test.YteoeicfbaffjcaaGreatDoorG5
import Derived.Test.YteoeicfbaffjcaaGreatDoorG8
import Derived.Deep.RegionHeld3
import Derived.BigRegion
import Derived.Test.YteoeicfbaffjcaaGreatDoorG6
import Derived.Test.YteoeicfbaffjcaaGreatDoorG1
import Derived.Test.YteoeicfbaffjcaaGreatDoorG2
import Derived.Test.YteoeicfbaffjcaaGreatDoorG7
import Derived.Test.YteoeicfbaffjcaaGreatDoorG4
/-
  Package digits at this seat: wrongAt, Read.
-/
namespace Go.Proofs.YteoeicfbaffjcaaGreatDoor
open Go.RowKit

theorem results_tmp_cell {P : Program} {fn : Func} {p u : Tmp} {ty : TypeId} (h : fn.results = #[.tmp u, .cell p ty]) (tmps : Array Value) (w : World) (g : Nat) (t : TypeId) (cs : Array Value) (fr : Nat × Nat) (d : TypeDesc)
    (hp : tmps.getD p undef = .pointer (some ⟨g, 0, none⟩)) (hg : w.heap[g]? = some (.cells cs t fr))
    (hu : P.underlying ty = some d) (hd : (match d with | .struct _ | .array _ _ => true | _ => false) = true) (hi : (P.info? ty).map (·.size) = some cs.size) :
    (results fn tmps).run P w = .ok (.tuple #[tmps.getD u undef, .agg cs]) w := by
  have hp' : tmps[p]?.getD undef = .pointer (some ⟨g, 0, none⟩) := by simpa using hp
  simp [results, h, hp', asAddr, run_loadVar_row w g t ty cs fr d hg hu hd hi, Result.andThen]
theorem blk_set4 {w : World} {g : Nat} {x y z u : Value} {t : TypeId} (h : w.heap[g]? = some (.cells #[x, y, z, u] t (0, 0))) (x' y' z' u' : Value) : ((((w.setCell ⟨g, 0, none⟩ x').setCell ⟨g, 1, none⟩ y').setCell ⟨g, 2, none⟩ z').setCell ⟨g, 3, none⟩ u').heap[g]? = some (.cells #[x', y', z', u'] t (0, 0)) := by
  have h1 := blk_set (blk_set (blk_set (blk_set h 0 x') 1 y') 2 z') 3 u'
  simpa using h1
theorem no_words4 {a b c d : Int} : ∀ (j : Nat) (k : Int), (#[Value.int .i64 a, .int .i64 b, .int .i64 c, .int .i64 d] : Array Value)[j]? ≠ some (.int .u32 k) := by
  intro j k
  match j with
  | 0 => simp
  | 1 => simp
  | 2 => simp
  | 3 => simp
  | j + 4 => simp
theorem Wd.stored4 {w : World} {a : Option Addr} {n cap : Nat} {l : List Nat} (h : Wd w a n cap l) {g : Nat} {x0 x1 x2 x3 : Int} {t : TypeId} (hg : w.heap[g]? = some (.cells #[.int .i64 x0, .int .i64 x1, .int .i64 x2, .int .i64 x3] t (0, 0))) (y0 y1 y2 y3 : Int) :
    Wd ((((w.setCell ⟨g, 0, none⟩ (.int .i64 y0)).setCell ⟨g, 1, none⟩ (.int .i64 y1)).setCell ⟨g, 2, none⟩ (.int .i64 y2)).setCell ⟨g, 3, none⟩ (.int .i64 y3)) a n cap l := by
  have h0 := h.stored hg no_words4 0 (.int .i64 y0)
  have g0 : (w.setCell ⟨g, 0, none⟩ (.int .i64 y0)).heap[g]? = some (.cells #[.int .i64 y0, .int .i64 x1, .int .i64 x2, .int .i64 x3] t (0, 0)) := by simpa using blk_set hg 0 (.int .i64 y0)
  have h1 := h0.stored g0 no_words4 1 (.int .i64 y1)
  have g1 : ((w.setCell ⟨g, 0, none⟩ (.int .i64 y0)).setCell ⟨g, 1, none⟩ (.int .i64 y1)).heap[g]? = some (.cells #[.int .i64 y0, .int .i64 y1, .int .i64 x2, .int .i64 x3] t (0, 0)) := by simpa using blk_set g0 1 (.int .i64 y1)
  have h2 := h1.stored g1 no_words4 2 (.int .i64 y2)
  have g2 : (((w.setCell ⟨g, 0, none⟩ (.int .i64 y0)).setCell ⟨g, 1, none⟩ (.int .i64 y1)).setCell ⟨g, 2, none⟩ (.int .i64 y2)).heap[g]? = some (.cells #[.int .i64 y0, .int .i64 y1, .int .i64 y2, .int .i64 x3] t (0, 0)) := by simpa using blk_set g1 2 (.int .i64 y2)
  exact h2.stored g2 no_words4 3 (.int .i64 y3)
theorem below_set4 {w w1 : World} {g : Nat} (h : Below w.heap.size w w1) (hg : w.heap.size ≤ g) (x y z u : Value) : Below w.heap.size w ((((w1.setCell ⟨g, 0, none⟩ x).setCell ⟨g, 1, none⟩ y).setCell ⟨g, 2, none⟩ z).setCell ⟨g, 3, none⟩ u) :=
  (((h.setCell (p := ⟨g, 0, none⟩) hg x).setCell (p := ⟨g, 1, none⟩) hg y).setCell (p := ⟨g, 2, none⟩) hg z).setCell (p := ⟨g, 3, none⟩) hg u
set_option maxRecDepth 4096 in
theorem digits_wrongAt (i : Int) (w : World) : Calls Tryz.prog 94 #[.int .i64 i] w (Gives (faultV 1 0 0 i) w) := by
  go_enter Tryz.func94, Tryz.ntmps94
  go_wp2
  refine bodyPost_ret (results_cell_row Tryz.results94 _ _ w.heap.size 38 #[.int .i64 1, .int .i64 0, .int .i64 0, .int .i64 i] (0, 0) _ rfl (blk_new _ _ _) Tryz.underlying38 rfl (by kernel_rfl)) rfl ?_
  exact ⟨rfl, below_alloc _ _⟩
def ReadPost (l : List UInt8) (w : World) (e : Ending) (w' : World) : Prop :=
  (wrongI l < 0 ∧ Lst2 (dg (readV l)) (faultV 0 0 0 0) w e w') ∨ (0 ≤ wrongI l ∧ Lst2 [] (faultV 1 0 0 (wrongI l)) w e w')
set_option maxRecDepth 4096 in
set_option maxHeartbeats 2000000 in
theorem digits_read (l : List UInt8) (w : World) (hl : l.length ≤ 1000) : Calls Tryz.prog 49 #[.string (bs l)] w (ReadPost l w) := by
  cases l with
  | nil =>
    have hem : (bs []).toList.isEmpty = true := by rw [bs_list]; rfl
    go_enter Tryz.func49, Tryz.ntmps49
    go_wp2_with fail
    refine (digits_wrongAt 0 _).mono ?_
    rintro e w1 ⟨rfl, b1⟩
    unfold faultV
    have hR := blk_later (blk_new w #[.int .i64 0, .int .i64 0, .int .i64 0, .int .i64 0] 38) b1
    have hR0 := blk_cell hR 0
    have hR1 := blk_cell hR 1
    have hR2 := blk_cell hR 2
    have hR3 := blk_cell hR 3
    have hF0 := blk_free hR 0
    have hF1 := blk_free hR 1
    have hF2 := blk_free hR 2
    have hF3 := blk_free hR 3
    have HG4 := Lib.hid (blk_set4 hR (.int .i64 1) (.int .i64 0) (.int .i64 0) (.int .i64 0))
    have HB4 := Lib.hid (below_set4 (below_then (below_alloc w _) b1) (show w.heap.size ≤ w.heap.size from Nat.le_refl _) (.int .i64 1) (.int .i64 0) (.int .i64 0) (.int .i64 0))
    simp only [List.getElem?_toArray, List.getElem?_cons_zero, List.getElem?_cons_succ] at hR0 hR1 hR2 hR3
    clear hR b1
    go_wp2
    refine bodyPost_ret (results_tmp_cell Tryz.results49 _ _ w.heap.size 38 #[.int .i64 1, .int .i64 0, .int .i64 0, .int .i64 0] (0, 0) _ rfl HG4.out Tryz.underlying38 rfl (by kernel_rfl)) rfl ?_
    exact .inr ⟨by decide, none, 0, 0, rfl, Wd.ofNil _, HB4.out⟩
  | cons y r =>
    have hem : (bs (y :: r)).toList.isEmpty = false := by rw [bs_list]; rfl
    have HW : Hid (wrongI (y :: r) = wrongFrom (y :: r) 0) := Lib.hid rfl
    have hsz := bs_size (y :: r)
    generalize y :: r = L at *
    go_enter Tryz.func49, Tryz.ntmps49
    go_wp2_with fail
    go_loopw [4, 12] (fun av iv wr => ∃ (k : Nat) (a : Option Addr) (n c : Nat), k ≤ L.length ∧ k ≤ 60 ∧ iv = .int .i64 (k : Int) ∧ av = .slice a n c ∧ Hid (alldig (L.take k)) ∧ Hid (wrongFrom L 0 = wrongFrom (L.drop k) k) ∧ Hid (Wd wr a n c (dg (readV (L.take k)))) ∧ Hid (wr.heap[w.heap.size]? = some (.cells #[.int .i64 0, .int .i64 0, .int .i64 0, .int .i64 0] 38 (0, 0))) ∧ Below w.heap.size w wr) (fun _ iv _ => L.length - (intOf iv).toNat)
    case atStart => exact ⟨0, none, 0, 0, by omega, by omega, rfl, rfl, Lib.hid (fun x hx => by rw [List.take_zero] at hx; cases hx), Lib.hid rfl, Lib.hid (by rw [List.take_zero]; show Wd _ _ _ _ (dg 0); rw [dg_zero]; exact Wd.ofNil _), Lib.hid (blk_new w _ _), below_alloc _ _⟩
    case round =>
      obtain ⟨k, a, n, c, hk, hk60, rfl, rfl, HD, Hk, HA, HR, hB⟩ := hrel
      by_cases hlt : k < L.length
      · have hki : (k : Int) < (L.length : Int) := by omega
        have hget := bs_get L k hlt (by rw [bs_size]; exact hlt)
        have Hx : Hid (L.getD k 0 = L[k]) := Lib.hid (by rw [List.getD_eq_getElem?_getD, List.getElem?_eq_getElem hlt]; rfl)
        have Hst : Hid (wrongFrom (L.drop k) k = if (L.getD k 0).toNat < 48 ∨ 57 < (L.getD k 0).toNat ∨ 60 ≤ k then (k : Int) else wrongFrom (L.drop (k + 1)) (k + 1)) := Lib.hid (by
          rw [List.drop_eq_getElem_cons hlt, wrongFrom, Hx.out])
        have Hv := Lib.hid (readV_take hlt)
        have hxb : (L.getD k 0).toNat < 256 := (L.getD k 0).toNat_lt
        have HD2 : Hid (48 ≤ (L.getD k 0).toNat → (L.getD k 0).toNat ≤ 57 → alldig (L.take (k + 1))) := Lib.hid (fun h1 h2 x hx => by
          rw [List.take_succ_eq_append_getElem hlt] at hx
          rcases List.mem_append.1 hx with h3 | h3
          · exact HD.out x h3
          · simp only [List.mem_singleton] at h3
            rw [h3, ← Hx.out]
            exact ⟨h1, h2⟩)
        clear Hx
        generalize (L.getD k 0).toNat = x at *
        obtain ⟨d, hd⟩ : ∃ d : Nat, ((x : Int) - 48) % 256 = (d : Int) := ⟨(((x : Int) - 48) % 256).toNat, by omega⟩
        have hdb : d < 256 := by omega
        by_cases hbad : x < 48 ∨ 57 < x ∨ 60 ≤ k
        · have Hfin : Hid (wrongI L = (k : Int)) := Lib.hid (by rw [HW.out, Hk.out, Hst.out, if_pos hbad])
          have hbd : k = 60 ∨ (k < 60 ∧ 10 ≤ d) := by omega
          clear hbad HD2 Hv
          rcases hbd with h60 | ⟨h60, hd10⟩
          · have h6 : ((k : Int) == 60) = true := by simp; omega
            clear h60
            go_wp2_with fail
            refine (digits_wrongAt (k : Int) _).mono ?_
            rintro e w1 ⟨rfl, b1⟩
            unfold faultV
            have hR := blk_later HR.out b1
            have hR0 := blk_cell hR 0
            have hR1 := blk_cell hR 1
            have hR2 := blk_cell hR 2
            have hR3 := blk_cell hR 3
            have hF0 := blk_free hR 0
            have hF1 := blk_free hR 1
            have hF2 := blk_free hR 2
            have hF3 := blk_free hR 3
            have HG4 := Lib.hid (blk_set4 hR (.int .i64 1) (.int .i64 0) (.int .i64 0) (.int .i64 (k : Int)))
            have HB4 := Lib.hid (below_set4 (below_then hB b1) (show w.heap.size ≤ w.heap.size from Nat.le_refl _) (.int .i64 1) (.int .i64 0) (.int .i64 0) (.int .i64 (k : Int)))
            simp only [List.getElem?_toArray, List.getElem?_cons_zero, List.getElem?_cons_succ] at hR0 hR1 hR2 hR3
            clear hR b1 hB HA
            go_wp2
            refine bodyPost_ret (results_tmp_cell Tryz.results49 _ _ w.heap.size 38 #[.int .i64 1, .int .i64 0, .int .i64 0, .int .i64 (k : Int)] (0, 0) _ rfl HG4.out Tryz.underlying38 rfl (by kernel_rfl)) rfl ?_
            exact .inr ⟨by rw [Hfin.out]; omega, none, 0, 0, by rw [Hfin.out]; rfl, Wd.ofNil _, HB4.out⟩
          · have h6 : ((k : Int) == 60) = false := by simp; omega
            have h7 : (10 : Int) ≤ (d : Int) := by omega
            rcases (show x < 48 ∨ 57 < x by omega) with hx | hx
            · clear h60 hd10
              go_wp2_with fail
              refine (digits_wrongAt (k : Int) _).mono ?_
              rintro e w1 ⟨rfl, b1⟩
              unfold faultV
              have hR := blk_later HR.out b1
              have hR0 := blk_cell hR 0
              have hR1 := blk_cell hR 1
              have hR2 := blk_cell hR 2
              have hR3 := blk_cell hR 3
              have hF0 := blk_free hR 0
              have hF1 := blk_free hR 1
              have hF2 := blk_free hR 2
              have hF3 := blk_free hR 3
              have HG4 := Lib.hid (blk_set4 hR (.int .i64 1) (.int .i64 0) (.int .i64 0) (.int .i64 (k : Int)))
              have HB4 := Lib.hid (below_set4 (below_then hB b1) (show w.heap.size ≤ w.heap.size from Nat.le_refl _) (.int .i64 1) (.int .i64 0) (.int .i64 0) (.int .i64 (k : Int)))
              simp only [List.getElem?_toArray, List.getElem?_cons_zero, List.getElem?_cons_succ] at hR0 hR1 hR2 hR3
              clear hR b1 hB HA
              go_wp2
              refine bodyPost_ret (results_tmp_cell Tryz.results49 _ _ w.heap.size 38 #[.int .i64 1, .int .i64 0, .int .i64 0, .int .i64 (k : Int)] (0, 0) _ rfl HG4.out Tryz.underlying38 rfl (by kernel_rfl)) rfl ?_
              exact .inr ⟨by rw [Hfin.out]; omega, none, 0, 0, by rw [Hfin.out]; rfl, Wd.ofNil _, HB4.out⟩
            · have hd2 : (x : Int) - 48 = (d : Int) := by omega
              clear h60 hd10 hd
              go_wp2_with fail
              refine (digits_wrongAt (k : Int) _).mono ?_
              rintro e w1 ⟨rfl, b1⟩
              unfold faultV
              have hR := blk_later HR.out b1
              have hR0 := blk_cell hR 0
              have hR1 := blk_cell hR 1
              have hR2 := blk_cell hR 2
              have hR3 := blk_cell hR 3
              have hF0 := blk_free hR 0
              have hF1 := blk_free hR 1
              have hF2 := blk_free hR 2
              have hF3 := blk_free hR 3
              have HG4 := Lib.hid (blk_set4 hR (.int .i64 1) (.int .i64 0) (.int .i64 0) (.int .i64 (k : Int)))
              have HB4 := Lib.hid (below_set4 (below_then hB b1) (show w.heap.size ≤ w.heap.size from Nat.le_refl _) (.int .i64 1) (.int .i64 0) (.int .i64 0) (.int .i64 (k : Int)))
              simp only [List.getElem?_toArray, List.getElem?_cons_zero, List.getElem?_cons_succ] at hR0 hR1 hR2 hR3
              clear hR b1 hB HA
              go_wp2
              refine bodyPost_ret (results_tmp_cell Tryz.results49 _ _ w.heap.size 38 #[.int .i64 1, .int .i64 0, .int .i64 0, .int .i64 (k : Int)] (0, 0) _ rfl HG4.out Tryz.underlying38 rfl (by kernel_rfl)) rfl ?_
              exact .inr ⟨by rw [Hfin.out]; omega, none, 0, 0, by rw [Hfin.out]; rfl, Wd.ofNil _, HB4.out⟩
        · have h1 : 48 ≤ x := by omega
          have h2 : x ≤ 57 := by omega
          have h3 : (k : Int) < 60 := by omega
          have hdd : d = x - 48 := by omega
          have h4 : (d : Int) < 10 := by omega
          have h5 : (x : Int) - 48 = (d : Int) := by omega
          have h6 : ((k : Int) == 60) = false := by simp; omega
          have hn7 : n ≤ 7 := by
            rw [← HA.out.len]
            apply dg_length_le
            have h7 := readV_lt HD.out
            have h8 : (10 : Nat) ^ (L.take k).length ≤ 10 ^ 60 := Nat.pow_le_pow_right (by decide) (by rw [List.length_take]; omega)
            have h9 : (10 : Nat) ^ 60 ≤ 4294967296 ^ 7 := by decide
            omega
          have Hnx : Hid (wrongFrom L 0 = wrongFrom (L.drop (k + 1)) (k + 1)) := Lib.hid (by rw [Hk.out, Hst.out, if_neg hbad])
          have HDn := Lib.hid (HD2.out h1 h2)
          have HVn : Hid (readV (L.take k) * 10 + d = readV (L.take (k + 1))) := Lib.hid (by rw [Hv.out, hdd])
          clear hbad HD2 Hv hdd Hst hd
          go_wp2_with fail
          refine (prod_word _ _ _ _ 10 d _ HA.out (by omega) (by omega) (by omega)).mono ?_
          rintro e w1 ⟨a1, n1, c1, rfl, h8, b1⟩
          rw [val_dg, HVn.out] at h8
          have HA2 := Lib.hid h8
          have HR2 := Lib.hid (blk_later HR.out b1)
          have hB2 := below_then hB b1
          clear h8 b1 hB HA HR
          go_wp2
          go_roundw
          case rel => exact ⟨k + 1, a1, n1, c1, by omega, by omega, by go_num, rfl, HDn, Hnx, HA2, HR2, hB2⟩
          case measure => simp [intOf]; omega
      · have htk : L.take k = L := List.take_of_length_le (by omega)
        have Hfin : Hid (wrongI L = -1) := Lib.hid (by rw [HW.out, Hk.out, List.drop_of_length_le (by omega)]; rfl)
        have hki : ¬ ((k : Int) < (L.length : Int)) := by omega
        rw [htk] at HA
        clear htk
        have hR := HR.out
        have hR0 := blk_cell hR 0
        have hR1 := blk_cell hR 1
        have hR2 := blk_cell hR 2
        have hR3 := blk_cell hR 3
        have hF0 := blk_free hR 0
        have hF1 := blk_free hR 1
        have hF2 := blk_free hR 2
        have hF3 := blk_free hR 3
        have HG4 := Lib.hid (blk_set4 hR (.int .i64 0) (.int .i64 0) (.int .i64 0) (.int .i64 0))
        have HB4 := Lib.hid (below_set4 hB (show w.heap.size ≤ w.heap.size from Nat.le_refl _) (.int .i64 0) (.int .i64 0) (.int .i64 0) (.int .i64 0))
        simp only [List.getElem?_toArray, List.getElem?_cons_zero, List.getElem?_cons_succ] at hR0 hR1 hR2 hR3
        have HS4 := Lib.hid (HA.out.stored4 hR 0 0 0 0)
        clear hR HA hB
        go_wp2
        refine bodyPost_ret (results_tmp_cell Tryz.results49 _ _ w.heap.size 38 #[.int .i64 0, .int .i64 0, .int .i64 0, .int .i64 0] (0, 0) _ rfl HG4.out Tryz.underlying38 rfl (by kernel_rfl)) rfl ?_
        exact .inl ⟨by rw [Hfin.out]; decide, a, n, c, rfl, HS4.out, HB4.out⟩
theorem digits_read_ok (l : List UInt8) (w : World) (hl : l.length ≤ 1000) (hw : Hid (wrongI l < 0)) : Calls Tryz.prog 49 #[.string (bs l)] w (Lst2 (dg (readV l)) (faultV 0 0 0 0) w) :=
  (digits_read l w hl).mono fun _ _ h => h.elim (fun h => h.2) fun h => absurd hw.out (by have := h.1; omega)
theorem digits_read_no (l : List UInt8) (w : World) (hl : l.length ≤ 1000) (hw : Hid (0 ≤ wrongI l)) : Calls Tryz.prog 49 #[.string (bs l)] w (Lst2 [] (faultV 1 0 0 (wrongI l)) w) :=
  (digits_read l w hl).mono fun _ _ h => h.elim (fun h => absurd hw.out (by have := h.1; omega)) fun h => h.2
end Go.Proofs.YteoeicfbaffjcaaGreatDoor

/-
  Package whole at this seat: Read.
-/
namespace Go.Proofs.YteoeicfbaffjcaaGreatDoor
open Go.RowKit

theorem blk_drew {w : World} {g : Nat} {o : Obj} (h : w.heap[g]? = some o) : w.drew.heap[g]? = some o := h
theorem wrongI_len (l : List UInt8) : wrongI l ≤ l.length := by
  have hr := @wrongFrom_range l 0
  unfold wrongI
  split <;> omega
theorem blk_apart4 {w : World} {A g : Nat} {o : Obj} (h : w.heap[A]? = some o) (hne : A ≠ g) (x y z u : Value) : ((((w.setCell ⟨g, 0, none⟩ x).setCell ⟨g, 1, none⟩ y).setCell ⟨g, 2, none⟩ z).setCell ⟨g, 3, none⟩ u).heap[A]? = some o :=
  blk_apart (blk_apart (blk_apart (blk_apart h hne 0 x) hne 1 y) hne 2 z) hne 3 u
set_option maxRecDepth 4096 in
set_option maxHeartbeats 3000000 in
theorem whole_read_ok (D : DigitsSaid) (l : List UInt8) (w : World) (hl : l.length ≤ 1000) (hz : Hid (zwrong l < 0)) :
    Calls Tryz.prog 48 #[.string (bs l)] w (LstZV (zread l) (faultV 0 0 0 0) w) := by
  obtain ⟨hl1, hl2⟩ := cut_len l
  have HB0 : Hid (Below w.heap.size w ((w.alloc (.cells #[.bool false, .slice none 0 0] 28)).alloc (.cells #[.int .i64 0, .int .i64 0, .int .i64 0, .int .i64 0] 38))) := Lib.hid (below_then (below_alloc _ _) (below_alloc _ _))
  have p12 := boxes_at w ((w.alloc (.cells #[.bool false, .slice none 0 0] 28)).alloc (.cells #[.int .i64 0, .int .i64 0, .int .i64 0, .int .i64 0] 38)) #[.bool false, .slice none 0 0] #[.int .i64 0, .int .i64 0, .int .i64 0, .int .i64 0] 28 38 (Below.refl _ _)
  have HR0 := Lib.hid p12.1
  have HF0 := Lib.hid p12.2
  have hz1 := bs_size l
  have hz2 := bs_size (cutMinus l)
  clear p12
  have HW : Hid (wrongI (cutMinus l) < 0) := Lib.hid ((cut_wrong l).1 hz.out)
  have HV := Lib.hid (cut_ok HW.out)
  have hvn : (dg (readV (cutMinus l))).length ≤ 16777214 := by
    have hok := wrongI_none HW.out
    exact Nat.le_trans (dg_length_le (Nat.lt_of_lt_of_le (readV_lt hok.1) (Nat.le_trans (Nat.pow_le_pow_right (by decide) hok.2.2) (show 10 ^ 60 ≤ 4294967296 ^ 20 by decide)))) (by decide)
  go_enter Tryz.func48, Tryz.ntmps48
  go_wp2_with fail
  refine (strings_CutPrefix l _ hl).mono ?_
  rintro e w' ⟨rfl, rfl⟩
  go_wp2_with fail
  refine (D.read_ok (cutMinus l) _ (by omega) HW).mono ?_
  rintro e w1 ⟨a1, n1, c1, rfl, h1, b1⟩
  have hn1 : n1 ≤ 16777214 := by rw [← h1.len]; exact hvn
  have hb2 := below_alloc w1 (.cells #[.int .i64 0, .int .i64 0, .int .i64 0, .int .i64 0] 38)
  have HR1 := Lib.hid (blk_later (blk_later HR0.out b1) hb2)
  have HF1 := Lib.hid (blk_later (blk_later HF0.out b1) hb2)
  have HB1 := Lib.hid (below_then HB0.out (below_then b1 hb2))
  have H1 := Lib.hid (h1.later hb2)
  clear h1 b1 hb2 HR0 HF0 HB0
  unfold faultV
  go_wp2_with fail
  refine (whole_signed _ a1 n1 c1 _ _ H1.out hn1).mono ?_
  rintro e w2 ⟨a2, n2, c2, rfl, h2, b2⟩
  rw [HV.out] at h2
  rw [HV.out]
  have HR2 := Lib.hid (blk_later HR1.out b2)
  have HF2 := Lib.hid (blk_later HF1.out b2)
  have HB2 := Lib.hid (below_then HB1.out b2)
  have H2 := Lib.hid h2
  clear h2 b2 HR1 HF1 HB1 H1
  generalize zread l = z at *
  have r0 := blk_cell HR2.out 0
  have r1 := blk_cell HR2.out 1
  have f0 := blk_free HR2.out 0
  have f1 := blk_free HR2.out 1
  have s0 := blk_cell HF2.out 0
  have s1 := blk_cell HF2.out 1
  have s2 := blk_cell HF2.out 2
  have s3 := blk_cell HF2.out 3
  have g0 := blk_free HF2.out 0
  have g1 := blk_free HF2.out 1
  have g2 := blk_free HF2.out 2
  have g3 := blk_free HF2.out 3
  simp only [List.getElem?_toArray, List.getElem?_cons_zero, List.getElem?_cons_succ] at r0 r1 s0 s1 s2 s3
  have HN2 := Lib.hid (blk_apart2 HF2.out (show w.heap.size + 1 ≠ w.heap.size by omega) (.bool (zneg z)) (.slice a2 n2 c2))
  have HG1 := Lib.hid (blk_apart4 (blk_set2 HR2.out (.bool (zneg z)) (.slice a2 n2 c2)) (show w.heap.size ≠ w.heap.size + 1 by omega) (.int .i64 0) (.int .i64 0) (.int .i64 0) (.int .i64 0))
  have HG2 := Lib.hid (blk_set4 HN2.out (.int .i64 0) (.int .i64 0) (.int .i64 0) (.int .i64 0))
  have HBz := Lib.hid (below_set4 (below_set2 HB2.out (show w.heap.size ≤ w.heap.size from Nat.le_refl _) (.bool (zneg z)) (.slice a2 n2 c2)) (show w.heap.size ≤ w.heap.size + 1 by omega) (.int .i64 0) (.int .i64 0) (.int .i64 0) (.int .i64 0))
  have HL := Lib.hid ((H2.out.stored2 HR2.out (zneg z) (.slice a2 n2 c2)).stored4 HN2.out 0 0 0 0)
  unfold whV
  go_wp2
  refine bodyPost_ret (results_rows2 Tryz.results48 _ _ w.heap.size (w.heap.size + 1) 28 38 #[.bool (zneg z), .slice a2 n2 c2] #[.int .i64 0, .int .i64 0, .int .i64 0, .int .i64 0] (0, 0) (0, 0) _ _ rfl HG1.out Tryz.underlying28 rfl (by kernel_rfl) rfl HG2.out Tryz.underlying38 rfl (by kernel_rfl)) rfl ?_
  exact ⟨a2, n2, c2, rfl, HL.out, HBz.out⟩
set_option maxRecDepth 4096 in
set_option maxHeartbeats 3000000 in
theorem whole_read_no (D : DigitsSaid) (l : List UInt8) (w : World) (hl : l.length ≤ 1000) (hz : Hid (0 ≤ zwrong l)) :
    Calls Tryz.prog 48 #[.string (bs l)] w (LstZV 0 (faultV 1 0 0 (zwrong l)) w) := by
  obtain ⟨hl1, hl2⟩ := cut_len l
  have HB0 : Hid (Below w.heap.size w ((w.alloc (.cells #[.bool false, .slice none 0 0] 28)).alloc (.cells #[.int .i64 0, .int .i64 0, .int .i64 0, .int .i64 0] 38))) := Lib.hid (below_then (below_alloc _ _) (below_alloc _ _))
  have p12 := boxes_at w ((w.alloc (.cells #[.bool false, .slice none 0 0] 28)).alloc (.cells #[.int .i64 0, .int .i64 0, .int .i64 0, .int .i64 0] 38)) #[.bool false, .slice none 0 0] #[.int .i64 0, .int .i64 0, .int .i64 0, .int .i64 0] 28 38 (Below.refl _ _)
  have HR0 := Lib.hid p12.1
  have HF0 := Lib.hid p12.2
  have hz1 := bs_size l
  have hz2 := bs_size (cutMinus l)
  clear p12
  have hw0 : ¬ wrongI (cutMinus l) < 0 := fun h => by have h1 := (cut_wrong l).2 h; have h2 := hz.out; omega
  have HW : Hid (0 ≤ wrongI (cutMinus l)) := Lib.hid (by omega)
  have HV := Lib.hid (cut_bad HW.out)
  have hwb : 0 ≤ wrongI (cutMinus l) ∧ wrongI (cutMinus l) ≤ 1000 := ⟨HW.out, Int.le_trans (wrongI_len _) (by omega)⟩
  clear hw0
  go_enter Tryz.func48, Tryz.ntmps48
  go_wp2_with fail
  refine (strings_CutPrefix l _ hl).mono ?_
  rintro e w' ⟨rfl, rfl⟩
  go_wp2_with fail
  refine (D.read_no (cutMinus l) _ (by omega) HW).mono ?_
  rintro e w1 ⟨a1, n1, c1, rfl, h1, b1⟩
  unfold faultV
  generalize wrongI (cutMinus l) = p at *
  have hb2 := below_alloc w1 (.cells #[.int .i64 1, .int .i64 0, .int .i64 0, .int .i64 (p + ((l.length : Int) - ((cutMinus l).length : Int)))] 38)
  have HR2 := Lib.hid (blk_later (blk_later HR0.out b1) hb2)
  have HF2 := Lib.hid (blk_later (blk_later HF0.out b1) hb2)
  have HB2 := Lib.hid (below_then HB0.out (below_then b1 hb2))
  have hX := blk_new w1 #[.int .i64 1, .int .i64 0, .int .i64 0, .int .i64 (p + ((l.length : Int) - ((cutMinus l).length : Int)))] 38
  have hXs : w.heap.size + 2 ≤ w1.heap.size := by have h7 := b1.size; rw [blk_size, blk_size] at h7; omega
  clear h1 b1 hb2 HR0 HF0 HB0
  go_wp2
  rw [HV.out] at HR2 HF2 HB2 hX
  rw [HV.out]
  generalize zwrong l = k at *
  generalize w1.alloc (.cells #[.int .i64 1, .int .i64 0, .int .i64 0, .int .i64 k] 38) = W at *
  generalize w1.heap.size = X at *
  have x0 := blk_cell hX 0
  have x1 := blk_cell hX 1
  have x2 := blk_cell hX 2
  have x3 := blk_cell hX 3
  simp only [List.getElem?_toArray, List.getElem?_cons_zero, List.getElem?_cons_succ] at x0 x1 x2 x3
  clear hX
  have r0 := blk_cell HR2.out 0
  have r1 := blk_cell HR2.out 1
  have f0 := blk_free HR2.out 0
  have f1 := blk_free HR2.out 1
  have s0 := blk_cell HF2.out 0
  have s1 := blk_cell HF2.out 1
  have s2 := blk_cell HF2.out 2
  have s3 := blk_cell HF2.out 3
  have g0 := blk_free HF2.out 0
  have g1 := blk_free HF2.out 1
  have g2 := blk_free HF2.out 2
  have g3 := blk_free HF2.out 3
  simp only [List.getElem?_toArray, List.getElem?_cons_zero, List.getElem?_cons_succ] at r0 r1 s0 s1 s2 s3
  have HN2 := Lib.hid (blk_apart2 HF2.out (show w.heap.size + 1 ≠ w.heap.size by omega) (.bool false) (.slice none 0 0))
  have HG1 := Lib.hid (blk_apart4 (blk_set2 HR2.out (.bool false) (.slice none 0 0)) (show w.heap.size ≠ w.heap.size + 1 by omega) (.int .i64 1) (.int .i64 0) (.int .i64 0) (.int .i64 k))
  have HG2 := Lib.hid (blk_set4 HN2.out (.int .i64 1) (.int .i64 0) (.int .i64 0) (.int .i64 k))
  have HBz := Lib.hid (below_set4 (below_set2 HB2.out (show w.heap.size ≤ w.heap.size from Nat.le_refl _) (.bool false) (.slice none 0 0)) (show w.heap.size ≤ w.heap.size + 1 by omega) (.int .i64 1) (.int .i64 0) (.int .i64 0) (.int .i64 k))
  have HD0 : Hid (dg (0 : Int).natAbs = []) := Lib.hid (by rw [show (0 : Int).natAbs = 0 from rfl, dg_zero])
  have ne1 : w.heap.size ≠ X := by omega
  have ne2 : w.heap.size + 1 ≠ X := by omega
  go_region
  go_wp2
  refine bodyPost_ret (results_rows2 Tryz.results48 _ _ w.heap.size (w.heap.size + 1) 28 38 #[.bool false, .slice none 0 0] #[.int .i64 1, .int .i64 0, .int .i64 0, .int .i64 k] (0, 0) (0, 0) _ _ rfl (blk_drew HG1.out) Tryz.underlying28 rfl (by kernel_rfl) rfl (blk_drew HG2.out) Tryz.underlying38 rfl (by kernel_rfl)) rfl ?_
  exact ⟨none, 0, 0, rfl, by rw [HD0.out]; exact Wd.ofNil _, HBz.out.drew⟩
end Go.Proofs.YteoeicfbaffjcaaGreatDoor

/-
  What package digits' functions owe, proved.
-/
namespace Go.Proofs.YteoeicfbaffjcaaGreatDoor
open Go.RowKit

theorem digitsSaid : DigitsSaid where
  text := digits_text
  len := digits_len
  read_ok := digits_read_ok
  read_no := digits_read_no
end Go.Proofs.YteoeicfbaffjcaaGreatDoor

/-
  What package whole's functions owe, proved.
-/
namespace Go.Proofs.YteoeicfbaffjcaaGreatDoor
open Go.RowKit

theorem whole_floor_yes (na : Bool) (a : Option Addr) (n cap : Nat) (la : List Nat) (nb : Bool) (b : Option Addr) (m cap' : Nat) (lb : List Nat) (w : World) (ha : Wd w a n cap la) (hb : Wd w b m cap' lb) (hn : n ≤ 100000) (hm : m ≤ 100000) (hy : zval nb (val lb) ≠ 0) :
    Calls Tryz.prog 117 #[whV na a n cap, whV nb b m cap'] w (LstZZB (Int.fdiv (zval na (val la)) (zval nb (val lb))) (Int.fmod (zval na (val la)) (zval nb (val lb))) true w) := by
  have hv : val lb ≠ 0 := fun h => hy (by rw [h]; cases nb <;> rfl)
  by_cases hne : na = nb
  · subst hne; exact whole_floor_like na a n cap la b m cap' lb w ha hb hn hm hv
  · by_cases h0 : val la % val lb = 0
    · exact whole_floor_even na a n cap la nb b m cap' lb w ha hb hn hm hv (Lib.hid hne) h0
    · exact whole_floor_down na a n cap la nb b m cap' lb w ha hb hn hm hv (Lib.hid hne) h0
theorem wholeSaid : WholeSaid where
  norm := fun neg a n cap l z w h hn hz => by subst hz; exact whole_norm neg a n cap l w h (by omega)
  of := fun z w hz => whole_of z w hz
  sign := fun neg a n cap l z w h hn hz => by subst hz; exact whole_sign neg a n cap l w h (by omega)
  cmp := fun na a n cap la x nb b m cap' lb y w ha hb hn hm hx hy => by subst hx; subst hy; exact whole_cmp na a n cap la nb b m cap' lb w ha hb (by omega) (by omega)
  add := fun na a n cap la x nb b m cap' lb y w ha hb hn hm hx hy => by subst hx; subst hy; exact whole_add na a n cap la nb b m cap' lb w ha hb (by omega) (by omega)
  mul := fun na a n cap la x nb b m cap' lb y w ha hb hn hm hx hy => by subst hx; subst hy; exact whole_mul na a n cap la nb b m cap' lb w ha hb (by omega) (by omega)
  floor_no := fun na a n cap la x nb b m cap' lb y w ha hb _ hm hx hy h0 => by subst hx; subst hy; exact whole_floor_no na a n cap la nb b m cap' lb w ha hb (by omega) h0
  floor := fun na a n cap la x nb b m cap' lb y w ha hb hn hm hx hy h0 => by subst hx; subst hy; exact whole_floor_yes na a n cap la nb b m cap' lb w ha hb (by omega) (by omega) h0
  text := fun neg a n cap l z w h hn hz hT => by subst hz; exact whole_text digitsSaid neg a n cap l w h hn hT
  read_ok := fun l w hl hz => whole_read_ok digitsSaid l w hl hz
  read_no := fun l w hl hz => whole_read_no digitsSaid l w hl hz
end Go.Proofs.YteoeicfbaffjcaaGreatDoor

/-
  What package common's functions owe (layer 6), as one hypothesis: the contracts that the laws' walks lean on.
-/
namespace Go.Proofs.YteoeicfbaffjcaaGreatDoor
open Go.RowKit

/-- Two lists of words come back. -/
def Pair2 (p q : List Nat) (w : World) (e : Ending) (w' : World) : Prop :=
  ∃ (a : Option Addr) (n cap : Nat) (b : Option Addr) (m cap' : Nat), e = .returned (.tuple #[.slice a n cap, .slice b m cap']) ∧ Wd w' a n cap p ∧ Wd w' b m cap' q ∧ Below w.heap.size w w'
/-- The common divisor of the values of lists. -/
def gcds : List (List Nat) → Nat
  | [] => 0
  | l :: r => Nat.gcd (val l) (gcds r)
theorem gcds_append (a b : List (List Nat)) : gcds (a ++ b) = Nat.gcd (gcds a) (gcds b) := by
  induction a with
  | nil => simp [gcds]
  | cons l r ih => simp [gcds, ih, Nat.gcd_assoc]
theorem gcds_take (ls : List (List Nat)) (k : Nat) (hk : k < ls.length) : gcds (ls.take (k + 1)) = Nat.gcd (gcds (ls.take k)) (val (ls.getD k [])) := by
  rw [List.take_succ_eq_append_getElem hk, gcds_append, List.getD_eq_getElem?_getD, List.getElem?_eq_getElem hk]; simp [gcds]
structure CommonSaid : Prop where
  gcd : ∀ (a : Option Addr) (n cap : Nat) (la : List Nat) (b : Option Addr) (m cap' : Nat) (lb : List Nat) (w : World), Wd w a n cap la → Wd w b m cap' lb → n ≤ 1000 → m ≤ 1000 →
    Calls Tryz.prog 105 #[.slice a n cap, .slice b m cap'] w (Lst (dg (Nat.gcd (val la) (val lb))) w)
  cancel : ∀ (a : Option Addr) (n cap : Nat) (la : List Nat) (b : Option Addr) (m cap' : Nat) (lb : List Nat) (w : World), Wd w a n cap la → Wd w b m cap' lb → n ≤ 1000 → m ≤ 1000 →
    Calls Tryz.prog 63 #[.slice a n cap, .slice b m cap'] w (Pair2 (dg (val la / Nat.gcd (val la) (val lb))) (dg (val lb / Nat.gcd (val la) (val lb))) w)
end Go.Proofs.YteoeicfbaffjcaaGreatDoor

/-
  Plain mathematics: the common divisor by Euclid's way from the heads of two numbers. Nothing of the program.
-/
namespace Go.Proofs.YteoeicfbaffjcaaGreatDoor

/-- By how much so many times the one and so many times the other differ. -/
def gapOf (A B x z : Nat) : Nat := x * A - z * B + (z * B - x * A)
theorem gapOf_one (A B : Nat) : gapOf A B 1 0 = A := by unfold gapOf; omega
theorem gapOf_two (A B : Nat) : gapOf A B 0 1 = B := by unfold gapOf; omega
/-- Counts on the way from α and β: a and b are the last two rests. -/
structure Way (α β a b ya yb na nb : Nat) : Prop where
  side : (ya * α = a + yb * β ∧ nb * β = b + na * α ∧ ya * nb = yb * na + 1) ∨ (yb * β = a + ya * α ∧ na * α = b + nb * β ∧ yb * na = ya * nb + 1)
  sum : nb * a + yb * b = α
  le : na ≤ nb
  les : ya + na ≤ yb + nb
  pos : 1 ≤ nb
  ord : b ≤ a
theorem way_start {α β : Nat} (h : β ≤ α) : Way α β α β 1 0 0 1 := ⟨.inl ⟨by omega, by omega, by omega⟩, by omega, by omega, by omega, by omega, h⟩
theorem way_step {α β a b ya yb na nb : Nat} (h : Way α β a b ya yb na nb) (hb : nb ≤ b) : Way α β b (a % b) na nb (ya + a / b * na) (yb + a / b * nb) := by
  have h0 : 0 < b := by have := h.pos; omega
  have hq := Nat.div_add_mod a b
  have hr := Nat.mod_lt a h0
  have hq1 : 1 ≤ a / b := (Nat.le_div_iff_mul_le h0).2 (by have := h.ord; omega)
  generalize a / b = q at *
  generalize a % b = r at *
  subst hq
  have e1 : b * q * nb = q * nb * b := by rw [Nat.mul_comm b q, Nat.mul_assoc, Nat.mul_comm b nb, ← Nat.mul_assoc]
  refine ⟨?_, ?_, ?_, ?_, ?_, by omega⟩
  · have p1 : ∀ z : Nat, q * na * z = q * (na * z) := fun z => Nat.mul_assoc _ _ _
    have p2 : ∀ z : Nat, q * nb * z = q * (nb * z) := fun z => Nat.mul_assoc _ _ _
    have p3 : nb * (q * na) = q * (nb * na) := by rw [Nat.mul_left_comm]
    have p4 : na * (q * nb) = q * (nb * na) := by rw [Nat.mul_left_comm, Nat.mul_comm na nb]
    have p5 : b * q = q * b := Nat.mul_comm _ _
    have p6 : na * yb = yb * na := Nat.mul_comm _ _
    have p7 : nb * ya = ya * nb := Nat.mul_comm _ _
    rcases h.side with ⟨h1, h2, h3⟩ | ⟨h1, h2, h3⟩
    · have h4 : q * (nb * β) = q * b + q * (na * α) := by rw [h2, Nat.mul_add]
      right
      refine ⟨by omega, ?_, ?_⟩
      · rw [Nat.add_mul, Nat.add_mul, p1, p2]; omega
      · rw [Nat.mul_add, Nat.mul_add, p3, p4]; omega
    · have h4 : q * (na * α) = q * b + q * (nb * β) := by rw [h2, Nat.mul_add]
      left
      refine ⟨by omega, ?_, ?_⟩
      · rw [Nat.add_mul, Nat.add_mul, p1, p2]; omega
      · rw [Nat.mul_add, Nat.mul_add, p3, p4]; omega
  · have h1 := h.sum
    rw [Nat.add_mul, ← h1, Nat.mul_add nb, show nb * (b * q) = q * nb * b by rw [← e1, Nat.mul_comm]]
    omega
  · obtain ⟨k, rfl⟩ : ∃ k, q = k + 1 := ⟨q - 1, by omega⟩
    have h1 : k * na ≤ k * nb := Nat.mul_le_mul_left _ h.le
    have h2 := h.les
    rw [Nat.add_mul, Nat.add_mul]; omega
  · have h1 : q * na ≤ q * nb := Nat.mul_le_mul_left _ h.le
    have h2 := h.les
    have h3 := h.le
    omega
  · have h1 : 1 * nb ≤ q * nb := Nat.mul_le_mul_right _ hq1
    have h2 := h.pos
    omega
/-- Where Collins' condition holds, the numbers behind the heads go the same way. -/
theorem way_true {A B M a b ya yb na nb : Nat} (hM : 0 < M) (h : Way (A / M) (B / M) a b ya yb na nb) (hb : nb ≤ b) (hab : yb + nb ≤ a - b) :
    gapOf A B na nb < gapOf A B ya yb ∧ Nat.gcd (gapOf A B ya yb) (gapOf A B na nb) = Nat.gcd A B := by
  have hA := Nat.div_add_mod A M
  have hB := Nat.div_add_mod B M
  have hA0 := Nat.mod_lt A hM
  have hB0 := Nat.mod_lt B hM
  generalize A / M = α at *
  generalize B / M = β at *
  generalize A % M = A0 at *
  generalize B % M = B0 at *
  obtain ⟨d, rfl⟩ : ∃ d, a = b + d := ⟨a - b, by have := h.ord; omega⟩
  have hd : yb + nb ≤ d := by omega
  have hle := h.le
  have hles := h.les
  have hpos := h.pos
  -- what stands behind the heads weighs less than a step of theirs
  have k1 : na * A0 ≤ b * M := Nat.mul_le_mul (by omega) (by omega)
  have k2 : nb * B0 ≤ b * M := Nat.mul_le_mul (by omega) (by omega)
  have k3 : (yb + nb) * M ≤ d * M := Nat.mul_le_mul_right _ hd
  have k4 : (yb + nb) * B0 < (yb + nb) * M := Nat.mul_lt_mul_of_pos_left hB0 (by omega)
  have k5 : (ya + na) * A0 ≤ (yb + nb) * A0 := Nat.mul_le_mul_right _ hles
  have k6 : (yb + nb) * A0 < (yb + nb) * M := Nat.mul_lt_mul_of_pos_left hA0 (by omega)
  simp only [Nat.add_mul] at k3 k4 k5 k6
  have x1 : ∀ z : Nat, z * (M * α + A0) = M * (z * α) + z * A0 := fun z => by rw [Nat.mul_add, Nat.mul_left_comm]
  have x2 : ∀ z : Nat, z * (M * β + B0) = M * (z * β) + z * B0 := fun z => by rw [Nat.mul_add, Nat.mul_left_comm]
  have y1 := x1 ya
  have y2 := x2 yb
  have y3 := x1 na
  have y4 := x2 nb
  rw [hA] at y1 y3
  rw [hB] at y2 y4
  have hbM : b * M = M * b := Nat.mul_comm _ _
  have hdM : d * M = M * d := Nat.mul_comm _ _
  rcases h.side with ⟨h1, h2, h3⟩ | ⟨h1, h2, h3⟩
  · have z1 : M * (ya * α) = M * b + M * d + M * (yb * β) := by rw [h1, Nat.mul_add, Nat.mul_add]
    have z2 : M * (nb * β) = M * b + M * (na * α) := by rw [h2, Nat.mul_add]
    have g1 : yb * B ≤ ya * A := by omega
    have g2 : na * A ≤ nb * B := by omega
    have r1 : gapOf A B ya yb = ya * A - yb * B := by unfold gapOf; omega
    have r2 : gapOf A B na nb = nb * B - na * A := by unfold gapOf; omega
    rw [r1, r2]
    refine ⟨by omega, ?_⟩
    obtain ⟨R, hR⟩ : ∃ R, ya * A = R + yb * B := ⟨ya * A - yb * B, by omega⟩
    obtain ⟨S, hS⟩ : ∃ S, nb * B = S + na * A := ⟨nb * B - na * A, by omega⟩
    rw [hR, hS, Nat.add_sub_cancel, Nat.add_sub_cancel]
    have eA : A = nb * R + yb * S := by
      have e1 : nb * (ya * A) = nb * R + nb * (yb * B) := by rw [hR, Nat.mul_add]
      have e2 : yb * (nb * B) = yb * S + yb * (na * A) := by rw [hS, Nat.mul_add]
      have e3 : nb * (yb * B) = yb * (nb * B) := Nat.mul_left_comm _ _ _
      have e4 : nb * (ya * A) = yb * (na * A) + A := by rw [← Nat.mul_assoc, Nat.mul_comm nb ya, h3, Nat.add_mul, Nat.mul_assoc, Nat.one_mul]
      omega
    have eB : B = na * R + ya * S := by
      have e1 : na * (ya * A) = na * R + na * (yb * B) := by rw [hR, Nat.mul_add]
      have e2 : ya * (nb * B) = ya * S + ya * (na * A) := by rw [hS, Nat.mul_add]
      have e3 : na * (ya * A) = ya * (na * A) := Nat.mul_left_comm _ _ _
      have e4 : ya * (nb * B) = na * (yb * B) + B := by rw [← Nat.mul_assoc, h3, Nat.add_mul, Nat.one_mul, Nat.mul_comm yb na, Nat.mul_assoc]
      omega
    apply Nat.dvd_antisymm
    · have d1 := Nat.gcd_dvd_left R S
      have d2 := Nat.gcd_dvd_right R S
      refine Nat.dvd_gcd ?_ ?_
      · conv => rhs; rw [eA]
        exact Nat.dvd_add (Nat.dvd_mul_left_of_dvd d1 _) (Nat.dvd_mul_left_of_dvd d2 _)
      · conv => rhs; rw [eB]
        exact Nat.dvd_add (Nat.dvd_mul_left_of_dvd d1 _) (Nat.dvd_mul_left_of_dvd d2 _)
    · have d1 := Nat.gcd_dvd_left A B
      have d2 := Nat.gcd_dvd_right A B
      refine Nat.dvd_gcd ?_ ?_
      · exact (Nat.dvd_add_iff_left (Nat.dvd_mul_left_of_dvd d2 yb)).2 (hR ▸ Nat.dvd_mul_left_of_dvd d1 ya)
      · exact (Nat.dvd_add_iff_left (Nat.dvd_mul_left_of_dvd d1 na)).2 (hS ▸ Nat.dvd_mul_left_of_dvd d2 nb)
  · have z1 : M * (yb * β) = M * b + M * d + M * (ya * α) := by rw [h1, Nat.mul_add, Nat.mul_add]
    have z2 : M * (na * α) = M * b + M * (nb * β) := by rw [h2, Nat.mul_add]
    have g1 : ya * A ≤ yb * B := by omega
    have g2 : nb * B ≤ na * A := by omega
    have r1 : gapOf A B ya yb = yb * B - ya * A := by unfold gapOf; omega
    have r2 : gapOf A B na nb = na * A - nb * B := by unfold gapOf; omega
    rw [r1, r2]
    refine ⟨by omega, ?_⟩
    obtain ⟨R, hR⟩ : ∃ R, yb * B = R + ya * A := ⟨yb * B - ya * A, by omega⟩
    obtain ⟨S, hS⟩ : ∃ S, na * A = S + nb * B := ⟨na * A - nb * B, by omega⟩
    rw [hR, hS, Nat.add_sub_cancel, Nat.add_sub_cancel]
    have eA : A = nb * R + yb * S := by
      have e1 : nb * (yb * B) = nb * R + nb * (ya * A) := by rw [hR, Nat.mul_add]
      have e2 : yb * (na * A) = yb * S + yb * (nb * B) := by rw [hS, Nat.mul_add]
      have e3 : nb * (yb * B) = yb * (nb * B) := Nat.mul_left_comm _ _ _
      have e4 : yb * (na * A) = nb * (ya * A) + A := by rw [← Nat.mul_assoc, h3, Nat.add_mul, Nat.one_mul, Nat.mul_comm ya nb, Nat.mul_assoc]
      omega
    have eB : B = na * R + ya * S := by
      have e1 : na * (yb * B) = na * R + na * (ya * A) := by rw [hR, Nat.mul_add]
      have e2 : ya * (na * A) = ya * S + ya * (nb * B) := by rw [hS, Nat.mul_add]
      have e3 : na * (ya * A) = ya * (na * A) := Nat.mul_left_comm _ _ _
      have e4 : na * (yb * B) = ya * (nb * B) + B := by rw [← Nat.mul_assoc, Nat.mul_comm na yb, h3, Nat.add_mul, Nat.mul_assoc, Nat.one_mul]
      omega
    apply Nat.dvd_antisymm
    · have d1 := Nat.gcd_dvd_left R S
      have d2 := Nat.gcd_dvd_right R S
      refine Nat.dvd_gcd ?_ ?_
      · conv => rhs; rw [eA]
        exact Nat.dvd_add (Nat.dvd_mul_left_of_dvd d1 _) (Nat.dvd_mul_left_of_dvd d2 _)
      · conv => rhs; rw [eB]
        exact Nat.dvd_add (Nat.dvd_mul_left_of_dvd d1 _) (Nat.dvd_mul_left_of_dvd d2 _)
    · have d1 := Nat.gcd_dvd_left A B
      have d2 := Nat.gcd_dvd_right A B
      refine Nat.dvd_gcd ?_ ?_
      · exact (Nat.dvd_add_iff_left (Nat.dvd_mul_left_of_dvd d1 ya)).2 (hR ▸ Nat.dvd_mul_left_of_dvd d2 yb)
      · exact (Nat.dvd_add_iff_left (Nat.dvd_mul_left_of_dvd d2 nb)).2 (hS ▸ Nat.dvd_mul_left_of_dvd d1 na)
/-- Counts with which the two numbers become two others with the same common divisor: lesser ones, unless xb is 0. -/
structure Good (A B xa xb ya yb : Nat) : Prop where
  lt : gapOf A B ya yb < gapOf A B xa xb
  gcd : Nat.gcd (gapOf A B xa xb) (gapOf A B ya yb) = Nat.gcd A B
  second : gapOf A B ya yb ≤ B
  first : xb = 0 ∨ gapOf A B xa xb ≤ B
/-- What stands at the head of the loop. -/
structure Heads (A B M a b xa xb ya yb na nb : Nat) : Prop where
  way : Way (A / M) (B / M) a b ya yb na nb
  wx : xa < 4294967296 ∧ xb < 4294967296
  wy : ya < 4294967296 ∧ yb < 4294967296
  wn : na < 18446744073709551616 ∧ nb < 18446744073709551616
  here : (xb = 0 ∧ ya = 1 ∧ yb = 0 ∧ na = 0 ∧ nb = 1) ∨ Good A B xa xb ya yb
theorem heads_start {A B M : Nat} (h : B ≤ A) : Heads A B M (A / M) (B / M) 0 0 1 0 0 1 := ⟨way_start (Nat.div_le_div_right h), by omega, by omega, by omega, .inl ⟨rfl, rfl, rfl, rfl, rfl⟩⟩
theorem heads_small {A B M a b xa xb ya yb na nb : Nat} (h : Heads A B M a b xa xb ya yb na nb) (hα : A / M < 18446744073709551616) (hb : nb ≤ b) : na < 4294967296 ∧ nb < 4294967296 := by
  have h1 := h.way.sum
  have h2 := h.way.le
  have h3 := h.way.ord
  have h4 : nb * nb ≤ nb * a := Nat.mul_le_mul_left _ (by omega)
  have h5 : nb < 4294967296 := by
    rcases Nat.lt_or_ge nb 4294967296 with h6 | h6
    · exact h6
    · have h7 : 4294967296 * 4294967296 ≤ nb * nb := Nat.mul_le_mul h6 h6
      omega
  omega
/-- What the step makes stays within 64 bits. -/
theorem heads_room {A B M a b xa xb ya yb na nb : Nat} (h : Heads A B M a b xa xb ya yb na nb) (hα : A / M < 18446744073709551616) (hb : nb ≤ b) :
    a / b * na < 18446744073709551616 ∧ a / b * nb < 18446744073709551616 ∧ ya + a / b * na < 18446744073709551616 ∧ yb + a / b * nb < 18446744073709551616 := by
  have h1 := way_step h.way hb
  have h2 := h1.sum
  have h3 := h1.le
  have h4 := h.way.pos
  have h5 : (yb + a / b * nb) * 1 ≤ (yb + a / b * nb) * b := Nat.mul_le_mul_left _ (by omega)
  omega
theorem heads_step {A B M a b xa xb ya yb na nb : Nat} (hM : 0 < M) (h : Heads A B M a b xa xb ya yb na nb) (hα : A / M < 18446744073709551616) (hb : nb ≤ b) (hab : yb + nb ≤ a - b) :
    Heads A B M b (a % b) ya yb na nb (ya + a / b * na) (yb + a / b * nb) := by
  obtain ⟨_, _, r3, r4⟩ := heads_room h hα hb
  obtain ⟨t1, t2⟩ := way_true hM h.way hb hab
  refine ⟨way_step h.way hb, h.wy, heads_small h hα hb, ⟨r3, r4⟩, .inr ⟨t1, t2, ?_, ?_⟩⟩
  · rcases h.here with ⟨_, rfl, rfl, rfl, rfl⟩ | g
    · rw [gapOf_two]; exact Nat.le_refl _
    · have := g.second; omega
  · rcases h.here with ⟨_, rfl, rfl, rfl, rfl⟩ | g
    · exact .inl rfl
    · exact .inr g.second
/-- The head of a list: its highest places, as many as 64 bits hold. -/
theorem head_word {l : List Nat} {k s : Nat} (ho : okw l) (hs : s ≤ 31) (hv : val l < 2 ^ (32 * (k + 3) - s)) :
    atw l (k + 2) * 4294967296 + atw l (k + 1) < 2 ^ (64 - s) ∧ atw l k / 2 ^ (32 - s) < 2 ^ s ∧ (atw l (k + 2) * 4294967296 + atw l (k + 1)) * 2 ^ s + atw l k / 2 ^ (32 - s) = val l / 2 ^ (32 * k + (32 - s)) := by
  have e1 : val l / 2 ^ (32 * k) = top l k := (top_div ho k).symm
  have e2 : top l k < 2 ^ (96 - s) := by
    rw [← e1]
    rw [Nat.div_lt_iff_lt_mul (Nat.two_pow_pos _), ← Nat.pow_add, show 96 - s + 32 * k = 32 * (k + 3) - s by omega]
    exact hv
  have h1 : top l k = atw l k + 4294967296 * top l (k + 1) := top_succ l k
  have h2 : top l (k + 1) = atw l (k + 1) + 4294967296 * top l (k + 2) := top_succ l (k + 1)
  have h3 : top l (k + 2) = atw l (k + 2) + 4294967296 * top l (k + 3) := top_succ l (k + 2)
  have h4 : 2 ^ (96 - s) ≤ (79228162514264337593543950336 : Nat) := by
    rw [show (79228162514264337593543950336 : Nat) = 2 ^ 96 by decide]
    exact Nat.pow_le_pow_right (by decide) (by omega)
  have hw := atw_lt ho k
  have hP : 2 ^ s * 2 ^ (32 - s) = (4294967296 : Nat) := by rw [← Nat.pow_add, show s + (32 - s) = 32 by omega]
  have hQ : 2 ^ (64 - s) * 4294967296 = 2 ^ (96 - s) := by rw [show (4294967296 : Nat) = 2 ^ 32 by decide, ← Nat.pow_add, show 64 - s + 32 = 96 - s by omega]
  have e5 : val l / 2 ^ (32 * k + (32 - s)) = top l k / 2 ^ (32 - s) := by rw [Nat.pow_add, ← Nat.div_div_eq_div_mul, e1]
  have hp := Nat.two_pow_pos (32 - s)
  rw [e5]
  clear e1 e5 hv
  generalize 2 ^ (32 - s) = P at *
  generalize 2 ^ (96 - s) = Q at *
  generalize 2 ^ (64 - s) = R at *
  generalize 2 ^ s = S at *
  generalize atw l k = x0 at *
  generalize atw l (k + 1) = x1 at *
  generalize atw l (k + 2) = x2 at *
  generalize top l (k + 3) = t3 at *
  generalize top l (k + 2) = t2 at *
  generalize top l (k + 1) = t1 at *
  generalize top l k = t0 at *
  have e3 : t3 = 0 := by omega
  have e4 : t0 = (x2 * 4294967296 + x1) * 4294967296 + x0 := by omega
  refine ⟨by omega, ?_, ?_⟩
  · rw [Nat.div_lt_iff_lt_mul hp, hP]; exact hw
  · have e6 : (x2 * 4294967296 + x1) * 4294967296 = P * ((x2 * 4294967296 + x1) * S) := by
      rw [← hP]
      generalize x2 * (S * P) + x1 = H
      rw [Nat.mul_comm S P, Nat.mul_left_comm]
    rw [e4, e6, Nat.mul_add_div hp]
/-- A number with so many noughts ahead of its first bit. -/
theorem head_room {l : List Nat} {n : Nat} (ho : okw l) (hl : l.length = n) (hn : 3 ≤ n) (h0 : atw l (n - 1) ≠ 0) : val l < 2 ^ (32 * n - (32 - blen (atw l (n - 1)))) := by
  obtain ⟨i, rfl⟩ : ∃ i, n = i + 1 := ⟨n - 1, by omega⟩
  rw [Nat.add_sub_cancel] at h0 ⊢
  have h1 := blen_top ho (i := i) (by rw [top_ge (by omega)]) h0
  have h2 := lt_blen (val l)
  have h3 : blen (atw l i) ≤ 32 := blen_le.2 (atw_lt ho i)
  rw [h1] at h2
  rw [show 32 * (i + 1) - (32 - blen (atw l i)) = 32 * i + blen (atw l i) by omega]
  exact h2
/-- Euclid's step. -/
theorem gcd_rest {X Y : Nat} (h : Y ≠ 0) : Nat.gcd Y (X % Y) = Nat.gcd X Y ∧ X % Y < Y := by
  refine ⟨?_, Nat.mod_lt _ (Nat.pos_of_ne_zero h)⟩
  rw [Nat.gcd_comm X Y, Nat.gcd_rec Y X, Nat.gcd_comm]
end Go.Proofs.YteoeicfbaffjcaaGreatDoor

/-
  The contracts of package common (layer 6) at this seat: a word of a list, the noughts ahead of a word, the head of a list.
-/
namespace Go.Proofs.YteoeicfbaffjcaaGreatDoor
open Go.RowKit

theorem or_u64_nat (x y : Nat) (hx : x < 18446744073709551616) (hy : y < 18446744073709551616) : bits .or .u64 (x : Int) (y : Int) = ((x ||| y : Nat) : Int) := by
  have h1 : (BitVec.ofInt 64 (x : Int)).toNat = x := by rw [BitVec.ofInt_natCast, BitVec.toNat_ofNat]; exact Nat.mod_eq_of_lt (by omega)
  have h2 : (BitVec.ofInt 64 (y : Int)).toNat = y := by rw [BitVec.ofInt_natCast, BitVec.toNat_ofNat]; exact Nat.mod_eq_of_lt (by omega)
  have h3 : x ||| y < 2 ^ 64 := Nat.or_lt_two_pow (by omega) (by omega)
  show IntKind.u64.wrap ((BitVec.ofInt 64 (x : Int) ||| BitVec.ofInt 64 (y : Int)).toNat : Int) = _
  rw [BitVec.toNat_or, h1, h2, IntKind.wrap_u64]
  omega
theorem or_high {h s y : Nat} (hh : h * 2 ^ s < 18446744073709551616) (hy : y < 2 ^ s) (hs : s ≤ 64) : bits .or .u64 ((h * 2 ^ s : Nat) : Int) (y : Int) = ((h * 2 ^ s + y : Nat) : Int) := by
  have hy2 : y < 18446744073709551616 := Nat.lt_of_lt_of_le hy (show 2 ^ s ≤ 2 ^ 64 from Nat.pow_le_pow_right (by decide) hs)
  rw [or_u64_nat _ _ hh hy2]
  have := Nat.two_pow_add_eq_or_of_lt hy h
  rw [Nat.mul_comm h, this]

theorem common_word (a : Option Addr) (n cap k x : Nat) (l : List Nat) (w : World) (h : Wd w a n cap l) (hk : k ≤ 9223372036854775807) (hx : Hid (x = atw l k)) :
    Calls Tryz.prog 168 #[.slice a n cap, .int .i64 (k : Int)] w fun e w' => e = .returned (.int .u64 (x : Int)) ∧ w = w' := by
  obtain ⟨hb1, hb2⟩ := h.bound
  by_cases hlt : k < n
  · obtain ⟨b, off, rfl, hc⟩ := h.at (by omega)
    have hck := hc k hlt
    have hw := atw_lt h.ok k
    rw [← hx.out] at hck hw
    clear hc h
    go_enter Tryz.func168, Tryz.ntmps168
    go_wp2
    go_ret
    exact ⟨rfl, rfl⟩
  · have ha : x = 0 := by rw [hx.out]; exact atw_ge (by have := h.len; omega)
    subst ha
    clear h
    go_enter Tryz.func168, Tryz.ntmps168
    go_wp2
    go_ret
    exact ⟨rfl, rfl⟩
theorem bits_lz32 (x : Nat) (w : World) (h1 : x < 4294967296) :
    Calls Tryz.prog 153 #[.int .u32 (x : Int)] w fun e w' => e = .returned (.int .i64 ((32 - blen x : Nat) : Int)) ∧ w = w' := by
  have hb : blen x ≤ 32 := blen_le.2 (by omega)
  have Hb := Lib.hid (bitLen_blen (x := x) (by omega))
  obtain ⟨y, hy⟩ : ∃ y, y = blen x := ⟨_, rfl⟩
  rw [← hy] at hb Hb ⊢
  obtain ⟨z, hz⟩ : ∃ z : Nat, 32 - (y : Int) = (z : Int) := ⟨32 - y, by omega⟩
  have Hz : Hid (z = 32 - y) := Lib.hid (by omega)
  clear hy
  go_enter Tryz.func153, Tryz.ntmps153
  go_wp2_with fail
  refine (bits_len32 (x : Int) _ (by omega) (by omega)).mono ?_
  rintro e w' ⟨rfl, rfl⟩
  rw [Int.toNat_natCast, Hb.out]
  go_wp2
  go_ret
  exact ⟨ret_i64 (by rw [← Hz.out]), rfl⟩
set_option maxRecDepth 4096 in
set_option maxHeartbeats 2000000 in
theorem common_head (a : Option Addr) (n cap k s : Nat) (l : List Nat) (w : World) (h : Wd w a n cap l) (hk : k ≤ 1000000) (hs : s ≤ 31) (hv : Hid (val l < 2 ^ (32 * (k + 3) - s))) :
    Calls Tryz.prog 155 #[.slice a n cap, .int .i64 ((k + 3 : Nat) : Int), .int .i64 (s : Int)] w fun e w' => e = .returned (.int .u64 ((val l / 2 ^ (32 * k + (32 - s)) : Nat) : Int)) ∧ ∃ q, w' = w.drewN q := by
  obtain ⟨t1, t2, t3⟩ := head_word h.ok hs hv.out
  have hx0 := atw_lt h.ok k
  have hx1 := atw_lt h.ok (k + 1)
  have hx2 := atw_lt h.ok (k + 2)
  have Hw := Lib.hid h
  obtain ⟨p1, e1⟩ : ∃ p1 : Nat, ((k + 3 : Nat) : Int) - 1 = (p1 : Int) := ⟨k + 2, by omega⟩
  obtain ⟨p2, e2⟩ : ∃ p2 : Nat, ((k + 3 : Nat) : Int) - 2 = (p2 : Int) := ⟨k + 1, by omega⟩
  obtain ⟨p3, e3⟩ : ∃ p3 : Nat, ((k + 3 : Nat) : Int) - 3 = (p3 : Int) := ⟨k, by omega⟩
  obtain rfl : p3 = k := by omega
  have f1 : p1 = p3 + 2 := by omega
  have f2 : p2 = p3 + 1 := by omega
  have hp1 : p1 ≤ 9223372036854775807 := by omega
  have hp2 : p2 ≤ 9223372036854775807 := by omega
  have hp3 : p3 ≤ 9223372036854775807 := by omega
  rw [← f1, ← f2] at t1 t3
  rw [← f1] at hx2
  rw [← f2] at hx1
  obtain ⟨n3, hn3⟩ : ∃ n3 : Nat, n3 = p3 + 3 := ⟨_, rfl⟩
  rw [← hn3] at e1 e2 e3 ⊢
  have hn3b : n3 ≤ 1000003 := by omega
  clear f1 f2 h hv hn3 hk
  obtain ⟨x0, y0⟩ : ∃ x, x = atw l p3 := ⟨_, rfl⟩
  obtain ⟨x1, y1⟩ : ∃ x, x = atw l p2 := ⟨_, rfl⟩
  obtain ⟨x2, y2⟩ : ∃ x, x = atw l p1 := ⟨_, rfl⟩
  rw [← y0] at hx0 t2 t3
  rw [← y1] at hx1 t1 t3
  rw [← y2] at hx2 t1 t3
  have Y0 := Lib.hid y0
  have Y1 := Lib.hid y1
  have Y2 := Lib.hid y2
  clear y0 y1 y2
  have o1 : bits .or .u64 ((x2 : Int) * 4294967296) (x1 : Int) = (x2 : Int) * 4294967296 + (x1 : Int) := or_words (by omega) (by omega) (by omega) (by omega)
  obtain ⟨hi, hhi⟩ : ∃ hi : Nat, (x2 : Int) * 4294967296 + (x1 : Int) = (hi : Int) := ⟨x2 * 4294967296 + x1, by omega⟩
  rw [hhi] at o1
  have f3 : x2 * 4294967296 + x1 = hi := by omega
  rw [f3] at t1 t3
  have hhb : hi < 18446744073709551616 := by omega
  obtain ⟨r, hr⟩ : ∃ r : Nat, (32 : Int) - (s : Int) = (r : Int) := ⟨32 - s, by omega⟩
  have hre : 32 - s = r := by omega
  rw [hre] at t2 t3 ⊢
  have hrb : r ≤ 32 := by omega
  obtain ⟨z, hz⟩ : ∃ z : Nat, (x0 : Int) / 2 ^ r = (z : Int) := ⟨x0 / 2 ^ r, div_pow_int x0 r⟩
  have hze : x0 / 2 ^ r = z := by have := div_pow_int x0 r; omega
  rw [hze] at t2 t3
  have hzb : z < 4294967296 := by rw [← hze]; exact div_pow_lt hx0 r
  have t4 : hi * 2 ^ s < 18446744073709551616 := by
    have h1 : hi * 2 ^ s < 2 ^ (64 - s) * 2 ^ s := Nat.mul_lt_mul_of_pos_right t1 (Nat.two_pow_pos s)
    rw [← Nat.pow_add, show 64 - s + s = 64 by omega] at h1
    exact h1
  have o2 := or_high t4 t2 (by omega)
  rw [t3] at o2
  have t5 : (hi : Int) * 2 ^ s = ((hi * 2 ^ s : Nat) : Int) := mul_pow_int hi s
  obtain ⟨g, hg⟩ : ∃ g, g = hi * 2 ^ s := ⟨_, rfl⟩
  rw [← hg] at t4 t5 o2
  have t6 : (hi : Int) * 2 ^ s % 18446744073709551616 = (g : Int) := by rw [t5]; omega
  obtain ⟨v, hv⟩ : ∃ v, v = val l / 2 ^ (32 * p3 + r) := ⟨_, rfl⟩
  rw [← hv] at o2 ⊢
  clear hv hg t3 hze hre f3 t1 t2
  go_enter Tryz.func155, Tryz.ntmps155
  go_wp2_with fail
  refine (common_word _ _ _ p1 x2 _ _ Hw.out hp1 Y2).mono ?_
  rintro e w' ⟨rfl, rfl⟩
  go_wp2_with fail
  refine (common_word _ _ _ p2 x1 _ _ Hw.out hp2 Y1).mono ?_
  rintro e w' ⟨rfl, rfl⟩
  go_wp2
  go_quiet ((go_at_call 168; exact quiet_here (common_word _ _ _ p3 x0 _ _ (Hw.out.later (below_draws _ _)) hp3 Y0) ⟨_, rfl⟩))
  go_wp2
  go_ret
  exact ⟨rfl, _, rfl⟩
end Go.Proofs.YteoeicfbaffjcaaGreatDoor

/-
  The contracts of package common (layer 6) at this seat: a rest from its counts, and Euclid's way from two heads.
-/
namespace Go.Proofs.YteoeicfbaffjcaaGreatDoor
open Go.RowKit

theorem two_cells6 {w : World} {A : Nat} {x y : Value} {t : TypeId} (h1 : w.heap[A]? = some (.cells #[x, y] t (0, 0))) : w.cell? ⟨A, 0, none⟩ = some x ∧ w.cell? ⟨A, 1, none⟩ = some y := ⟨blk_cell h1 0, blk_cell h1 1⟩
theorem gapOf_vals (A B x z : Nat) : val (dg (A * x + 0)) - val (dg (B * z + 0)) + (val (dg (B * z + 0)) - val (dg (A * x + 0))) = gapOf A B x z := by
  rw [val_dg, val_dg, Nat.add_zero, Nat.add_zero, Nat.mul_comm A, Nat.mul_comm B]; rfl
theorem dg_word_length {x : Nat} (h : x < 4294967296) : (dg x).length ≤ 1 := dg_length_le (by simpa using h)
theorem results_cell_cell {P : Program} {fn : Func} {p q : Tmp} {ty : TypeId} (h : fn.results = #[.cell p ty, .cell q ty]) (tmps : Array Value) (w : World) (g g' : Nat) (t : TypeId) (cs ds : Array Value) (fr : Nat × Nat) (d : TypeDesc)
    (hp : tmps.getD p undef = .pointer (some ⟨g, 0, none⟩)) (hq : tmps.getD q undef = .pointer (some ⟨g', 0, none⟩)) (hg : w.heap[g]? = some (.cells cs t fr)) (hg' : w.heap[g']? = some (.cells ds t fr))
    (hu : P.underlying ty = some d) (hd : (match d with | .struct _ | .array _ _ => true | _ => false) = true) (hi : (P.info? ty).map (·.size) = some cs.size) (hi' : (P.info? ty).map (·.size) = some ds.size) :
    (results fn tmps).run P w = .ok (.tuple #[.agg cs, .agg ds]) w := by
  have hp' : tmps[p]?.getD undef = .pointer (some ⟨g, 0, none⟩) := by simpa using hp
  have hq' : tmps[q]?.getD undef = .pointer (some ⟨g', 0, none⟩) := by simpa using hq
  simp [results, h, hp', hq', asAddr, run_loadVar_row w g t ty cs fr d hg hu hd hi, run_loadVar_row w g' t ty ds fr d hg' hu hd hi', Sem.run_bind, Result.andThen]
/-- Counts, as a value. -/
def cntV (x z : Nat) : Value := .agg #[.int .u64 (x : Int), .int .u64 (z : Int)]
set_option maxRecDepth 4096 in
set_option maxHeartbeats 4000000 in
theorem common_of (x z : Nat) (a : Option Addr) (n cap : Nat) (la : List Nat) (b : Option Addr) (m cap' : Nat) (lb : List Nat) (w : World) (ha : Wd w a n cap la) (hb : Wd w b m cap' lb) (hn : n ≤ 100000) (hm : m ≤ 100000) (hx : x < 4294967296) (hz : z < 4294967296) :
    Calls Tryz.prog 156 #[cntV x z, .slice a n cap, .slice b m cap'] w (Lst (dg (gapOf (val la) (val lb) x z)) w) := by
  have hB0 : Below w.heap.size w (w.alloc (.cells #[.int .u64 (x : Int), .int .u64 (z : Int)] 173)) := below_alloc _ _
  have Ha := Lib.hid (ha.later hB0)
  have Hb := Lib.hid (hb.later hB0)
  have HB := Lib.hid hB0
  have hN := blk_new w #[.int .u64 (x : Int), .int .u64 (z : Int)] 173
  have Hl1 : Hid ((dg (val la * x + 0)).length ≤ 100001) := Lib.hid (by
    have h1 := dg_mul_length (val la) x
    have h2 := ha.trim_le
    have h3 := dg_word_length hx
    rw [Nat.add_zero]; omega)
  have Hl2 : Hid ((dg (val lb * z + 0)).length ≤ 100001) := Lib.hid (by
    have h1 := dg_mul_length (val lb) z
    have h2 := hb.trim_le
    have h3 := dg_word_length hz
    rw [Nat.add_zero]; omega)
  have HX := Lib.hid hx
  have HZ := Lib.hid hz
  have HWx : Hid (IntKind.u32.wrap (x : Int) = (x : Int)) := Lib.hid (by rw [wrapu32]; omega)
  have HWz : Hid (IntKind.u32.wrap (z : Int) = (z : Int)) := Lib.hid (by rw [wrapu32]; omega)
  clear ha hb hB0
  go_enter Tryz.func156, Tryz.ntmps156
  unfold cntV
  go_wp2
  generalize w.alloc (.cells #[.int .u64 (x : Int), .int .u64 (z : Int)] 173) = W at *
  have hNd : W.drew.heap[w.heap.size]? = some (.cells #[.int .u64 (x : Int), .int .u64 (z : Int)] 173 (0, 0)) := hN
  have Hd : Below W.heap.size W W.drew := (Below.refl _ _).drew
  have HN := Lib.hid hNd
  have Sd := two_cells6 hNd
  clear hN hNd
  go_region_held3 (fun w' => w'.cell? ⟨w.heap.size, 0, none⟩ = some (.int .u64 (x : Int)) ∧ w'.cell? ⟨w.heap.size, 1, none⟩ = some (.int .u64 (z : Int))) (first | exact Sd | exact S1 | exact S2 | exact S3)
    (first
    | (go_at_call 84; (first
      | (have S0 := S1; rw [HWz.out]; (refine (prod_word b m cap' lb z 0 _ ((Hb.out.later Hd).later b1) ?q3 HZ.out ?q4).mono ?_); (case q3 => omega); (case q4 => omega); rintro e w2 ⟨a2, n2, c2, rfl, h2, b2⟩; have S2 := two_cells6 (blk_later (blk_later HN.out b1) b2))
      | (rw [HWx.out]; (refine (prod_word a n cap la x 0 _ (Ha.out.later Hd) ?q1 HX.out ?q2).mono ?_); (case q1 => omega); (case q2 => omega); rintro e w1 ⟨a1, n1, c1, rfl, h1, b1⟩; have S1 := two_cells6 (blk_later HN.out b1))))
    | (go_at_call 107; (refine (natSaid.gap a1 n1 c1 _ a2 n2 c2 _ _ (h1.later b2) h2 ?q5 ?q6).mono ?_); (case q5 => have := h1.len; have := Hl1.out; omega); (case q6 => have := h2.len; have := Hl2.out; omega); rintro e w3 ⟨a3, n3, c3, rfl, h3, b3⟩; have S3 := two_cells6 (blk_later (blk_later (blk_later HN.out b1) b2) b3)))
  go_wp2
  go_ret
  rw [gapOf_vals] at h3
  exact ⟨a3, n3, c3, rfl, h3, below_then HB.out (below_then Hd (below_then b1 (below_then b2 b3)))⟩
end Go.Proofs.YteoeicfbaffjcaaGreatDoor
