/-
  Several texts of this claim as one, group 16.
-/
import Derived.Test.YtiblojmdgjnfbaaDoorG14
import Derived.Test.YtiblojmdgjnfbaaDoorG8
import Derived.Test.YtiblojmdgjnfbaaDoorG13
import Derived.Test.YtiblojmdgjnfbaaDoorG15
import Derived.Deep.RegionHeld3
import Derived.BigRegion
import Derived.Test.YtiblojmdgjnfbaaDoorG10
import Derived.Test.YtiblojmdgjnfbaaDoorG1
import Derived.ProofKit
import Derived.OpenShut
import Derived.Deep.Matrix
import Derived.Test.YtiblojmdgjnfbaaDoorG5
import Derived.Lib.SmallJoins
import Derived.ChangeArms
import Derived.WalkKit
import Derived.Test.YtiblojmdgjnfbaaDoorRows
import Derived.Lib.LaidTab
/-
  Package whole at this seat: Read.
-/
namespace Go.Proofs.YtiblojmdgjnfbaaDoor
open Go.RowKit

theorem blk_drew {w : World} {g : Nat} {o : Obj} (h : w.heap[g]? = some o) : w.drew.heap[g]? = some o := h
theorem wrongI_len (l : List UInt8) : wrongI l ≤ l.length := by
  have hr := @wrongFrom_range l 0
  unfold wrongI
  split <;> omega
theorem blk_apart4 {w : World} {A g : Nat} {o : Obj} (h : w.heap[A]? = some o) (hne : A ≠ g) (x y z u : Value) : ((((w.setCell ⟨g, 0, none⟩ x).setCell ⟨g, 1, none⟩ y).setCell ⟨g, 2, none⟩ z).setCell ⟨g, 3, none⟩ u).heap[A]? = some o :=
  blk_apart (blk_apart (blk_apart (blk_apart h hne 0 x) hne 1 y) hne 2 z) hne 3 u
set_option maxRecDepth 4096 in
set_option maxHeartbeats 3000000 in
theorem whole_read_ok (D : DigitsSaid) (l : List UInt8) (w : World) (hl : l.length ≤ 1000) (hz : Hid (zwrong l < 0)) :
    Calls Tryd.prog 26 #[.string (bs l)] w (LstZV (zread l) (faultV 0 0 0 0) w) := by
  obtain ⟨hl1, hl2⟩ := cut_len l
  have HB0 : Hid (Below w.heap.size w ((w.alloc (.cells #[.bool false, .slice none 0 0] 30)).alloc (.cells #[.int .i64 0, .int .i64 0, .int .i64 0, .int .i64 0] 42))) := Lib.hid (below_then (below_alloc _ _) (below_alloc _ _))
  have p12 := boxes_at w ((w.alloc (.cells #[.bool false, .slice none 0 0] 30)).alloc (.cells #[.int .i64 0, .int .i64 0, .int .i64 0, .int .i64 0] 42)) #[.bool false, .slice none 0 0] #[.int .i64 0, .int .i64 0, .int .i64 0, .int .i64 0] 30 42 (Below.refl _ _)
  have HR0 := Lib.hid p12.1
  have HF0 := Lib.hid p12.2
  have hz1 := bs_size l
  have hz2 := bs_size (cutMinus l)
  clear p12
  have HW : Hid (wrongI (cutMinus l) < 0) := Lib.hid ((cut_wrong l).1 hz.out)
  have HV := Lib.hid (cut_ok HW.out)
  have hvn : (dg (readV (cutMinus l))).length ≤ 16777214 := by
    have hok := wrongI_none HW.out
    exact Nat.le_trans (dg_length_le (Nat.lt_of_lt_of_le (readV_lt hok.1) (Nat.le_trans (Nat.pow_le_pow_right (by decide) hok.2.2) (show 10 ^ 60 ≤ 4294967296 ^ 20 by decide)))) (by decide)
  go_enter Tryd.func26, Tryd.ntmps26
  go_wp2_with fail
  refine (strings_CutPrefix l _ hl).mono ?_
  rintro e w' ⟨rfl, rfl⟩
  go_wp2_with fail
  refine (D.read_ok (cutMinus l) _ (by omega) HW).mono ?_
  rintro e w1 ⟨a1, n1, c1, rfl, h1, b1⟩
  have hn1 : n1 ≤ 16777214 := by rw [← h1.len]; exact hvn
  have hb2 := below_alloc w1 (.cells #[.int .i64 0, .int .i64 0, .int .i64 0, .int .i64 0] 42)
  have HR1 := Lib.hid (blk_later (blk_later HR0.out b1) hb2)
  have HF1 := Lib.hid (blk_later (blk_later HF0.out b1) hb2)
  have HB1 := Lib.hid (below_then HB0.out (below_then b1 hb2))
  have H1 := Lib.hid (h1.later hb2)
  clear h1 b1 hb2 HR0 HF0 HB0
  unfold faultV
  go_wp2_with fail
  refine (whole_signed _ a1 n1 c1 _ _ H1.out hn1).mono ?_
  rintro e w2 ⟨a2, n2, c2, rfl, h2, b2⟩
  rw [HV.out] at h2
  rw [HV.out]
  have HR2 := Lib.hid (blk_later HR1.out b2)
  have HF2 := Lib.hid (blk_later HF1.out b2)
  have HB2 := Lib.hid (below_then HB1.out b2)
  have H2 := Lib.hid h2
  clear h2 b2 HR1 HF1 HB1 H1
  generalize zread l = z at *
  have r0 := blk_cell HR2.out 0
  have r1 := blk_cell HR2.out 1
  have f0 := blk_free HR2.out 0
  have f1 := blk_free HR2.out 1
  have s0 := blk_cell HF2.out 0
  have s1 := blk_cell HF2.out 1
  have s2 := blk_cell HF2.out 2
  have s3 := blk_cell HF2.out 3
  have g0 := blk_free HF2.out 0
  have g1 := blk_free HF2.out 1
  have g2 := blk_free HF2.out 2
  have g3 := blk_free HF2.out 3
  simp only [List.getElem?_toArray, List.getElem?_cons_zero, List.getElem?_cons_succ] at r0 r1 s0 s1 s2 s3
  have HN2 := Lib.hid (blk_apart2 HF2.out (show w.heap.size + 1 ≠ w.heap.size by omega) (.bool (zneg z)) (.slice a2 n2 c2))
  have HG1 := Lib.hid (blk_apart4 (blk_set2 HR2.out (.bool (zneg z)) (.slice a2 n2 c2)) (show w.heap.size ≠ w.heap.size + 1 by omega) (.int .i64 0) (.int .i64 0) (.int .i64 0) (.int .i64 0))
  have HG2 := Lib.hid (blk_set4 HN2.out (.int .i64 0) (.int .i64 0) (.int .i64 0) (.int .i64 0))
  have HBz := Lib.hid (below_set4 (below_set2 HB2.out (show w.heap.size ≤ w.heap.size from Nat.le_refl _) (.bool (zneg z)) (.slice a2 n2 c2)) (show w.heap.size ≤ w.heap.size + 1 by omega) (.int .i64 0) (.int .i64 0) (.int .i64 0) (.int .i64 0))
  have HL := Lib.hid ((H2.out.stored2 HR2.out (zneg z) (.slice a2 n2 c2)).stored4 HN2.out 0 0 0 0)
  unfold whV
  go_wp2
  refine bodyPost_ret (results_rows2 Tryd.results26 _ _ w.heap.size (w.heap.size + 1) 30 42 #[.bool (zneg z), .slice a2 n2 c2] #[.int .i64 0, .int .i64 0, .int .i64 0, .int .i64 0] (0, 0) (0, 0) _ _ rfl HG1.out Tryd.underlying30 rfl (by kernel_rfl) rfl HG2.out Tryd.underlying42 rfl (by kernel_rfl)) rfl ?_
  exact ⟨a2, n2, c2, rfl, HL.out, HBz.out⟩
set_option maxRecDepth 4096 in
set_option maxHeartbeats 3000000 in
theorem whole_read_no (D : DigitsSaid) (l : List UInt8) (w : World) (hl : l.length ≤ 1000) (hz : Hid (0 ≤ zwrong l)) :
    Calls Tryd.prog 26 #[.string (bs l)] w (LstZV 0 (faultV 1 0 0 (zwrong l)) w) := by
  obtain ⟨hl1, hl2⟩ := cut_len l
  have HB0 : Hid (Below w.heap.size w ((w.alloc (.cells #[.bool false, .slice none 0 0] 30)).alloc (.cells #[.int .i64 0, .int .i64 0, .int .i64 0, .int .i64 0] 42))) := Lib.hid (below_then (below_alloc _ _) (below_alloc _ _))
  have p12 := boxes_at w ((w.alloc (.cells #[.bool false, .slice none 0 0] 30)).alloc (.cells #[.int .i64 0, .int .i64 0, .int .i64 0, .int .i64 0] 42)) #[.bool false, .slice none 0 0] #[.int .i64 0, .int .i64 0, .int .i64 0, .int .i64 0] 30 42 (Below.refl _ _)
  have HR0 := Lib.hid p12.1
  have HF0 := Lib.hid p12.2
  have hz1 := bs_size l
  have hz2 := bs_size (cutMinus l)
  clear p12
  have hw0 : ¬ wrongI (cutMinus l) < 0 := fun h => by have h1 := (cut_wrong l).2 h; have h2 := hz.out; omega
  have HW : Hid (0 ≤ wrongI (cutMinus l)) := Lib.hid (by omega)
  have HV := Lib.hid (cut_bad HW.out)
  have hwb : 0 ≤ wrongI (cutMinus l) ∧ wrongI (cutMinus l) ≤ 1000 := ⟨HW.out, Int.le_trans (wrongI_len _) (by omega)⟩
  clear hw0
  go_enter Tryd.func26, Tryd.ntmps26
  go_wp2_with fail
  refine (strings_CutPrefix l _ hl).mono ?_
  rintro e w' ⟨rfl, rfl⟩
  go_wp2_with fail
  refine (D.read_no (cutMinus l) _ (by omega) HW).mono ?_
  rintro e w1 ⟨a1, n1, c1, rfl, h1, b1⟩
  unfold faultV
  generalize wrongI (cutMinus l) = p at *
  have hb2 := below_alloc w1 (.cells #[.int .i64 1, .int .i64 0, .int .i64 0, .int .i64 (p + ((l.length : Int) - ((cutMinus l).length : Int)))] 42)
  have HR2 := Lib.hid (blk_later (blk_later HR0.out b1) hb2)
  have HF2 := Lib.hid (blk_later (blk_later HF0.out b1) hb2)
  have HB2 := Lib.hid (below_then HB0.out (below_then b1 hb2))
  have hX := blk_new w1 #[.int .i64 1, .int .i64 0, .int .i64 0, .int .i64 (p + ((l.length : Int) - ((cutMinus l).length : Int)))] 42
  have hXs : w.heap.size + 2 ≤ w1.heap.size := by have h7 := b1.size; rw [blk_size, blk_size] at h7; omega
  clear h1 b1 hb2 HR0 HF0 HB0
  go_wp2
  rw [HV.out] at HR2 HF2 HB2 hX
  rw [HV.out]
  generalize zwrong l = k at *
  generalize w1.alloc (.cells #[.int .i64 1, .int .i64 0, .int .i64 0, .int .i64 k] 42) = W at *
  generalize w1.heap.size = X at *
  have x0 := blk_cell hX 0
  have x1 := blk_cell hX 1
  have x2 := blk_cell hX 2
  have x3 := blk_cell hX 3
  simp only [List.getElem?_toArray, List.getElem?_cons_zero, List.getElem?_cons_succ] at x0 x1 x2 x3
  clear hX
  have r0 := blk_cell HR2.out 0
  have r1 := blk_cell HR2.out 1
  have f0 := blk_free HR2.out 0
  have f1 := blk_free HR2.out 1
  have s0 := blk_cell HF2.out 0
  have s1 := blk_cell HF2.out 1
  have s2 := blk_cell HF2.out 2
  have s3 := blk_cell HF2.out 3
  have g0 := blk_free HF2.out 0
  have g1 := blk_free HF2.out 1
  have g2 := blk_free HF2.out 2
  have g3 := blk_free HF2.out 3
  simp only [List.getElem?_toArray, List.getElem?_cons_zero, List.getElem?_cons_succ] at r0 r1 s0 s1 s2 s3
  have HN2 := Lib.hid (blk_apart2 HF2.out (show w.heap.size + 1 ≠ w.heap.size by omega) (.bool false) (.slice none 0 0))
  have HG1 := Lib.hid (blk_apart4 (blk_set2 HR2.out (.bool false) (.slice none 0 0)) (show w.heap.size ≠ w.heap.size + 1 by omega) (.int .i64 1) (.int .i64 0) (.int .i64 0) (.int .i64 k))
  have HG2 := Lib.hid (blk_set4 HN2.out (.int .i64 1) (.int .i64 0) (.int .i64 0) (.int .i64 k))
  have HBz := Lib.hid (below_set4 (below_set2 HB2.out (show w.heap.size ≤ w.heap.size from Nat.le_refl _) (.bool false) (.slice none 0 0)) (show w.heap.size ≤ w.heap.size + 1 by omega) (.int .i64 1) (.int .i64 0) (.int .i64 0) (.int .i64 k))
  have HD0 : Hid (dg (0 : Int).natAbs = []) := Lib.hid (by rw [show (0 : Int).natAbs = 0 from rfl, dg_zero])
  have ne1 : w.heap.size ≠ X := by omega
  have ne2 : w.heap.size + 1 ≠ X := by omega
  go_region
  go_wp2
  refine bodyPost_ret (results_rows2 Tryd.results26 _ _ w.heap.size (w.heap.size + 1) 30 42 #[.bool false, .slice none 0 0] #[.int .i64 1, .int .i64 0, .int .i64 0, .int .i64 k] (0, 0) (0, 0) _ _ rfl (blk_drew HG1.out) Tryd.underlying30 rfl (by kernel_rfl) rfl (blk_drew HG2.out) Tryd.underlying42 rfl (by kernel_rfl)) rfl ?_
  exact ⟨none, 0, 0, rfl, by rw [HD0.out]; exact Wd.ofNil _, HBz.out.drew⟩
end Go.Proofs.YtiblojmdgjnfbaaDoor

/-
  What package digits' functions owe, proved.
-/
namespace Go.Proofs.YtiblojmdgjnfbaaDoor
open Go.RowKit

theorem digitsSaid : DigitsSaid where
  text := digits_text
  read_ok := digits_read_ok
  read_no := digits_read_no
end Go.Proofs.YtiblojmdgjnfbaaDoor

/-
  What package whole's functions owe, proved.
-/
namespace Go.Proofs.YtiblojmdgjnfbaaDoor
open Go.RowKit

theorem whole_floor_yes (na : Bool) (a : Option Addr) (n cap : Nat) (la : List Nat) (nb : Bool) (b : Option Addr) (m cap' : Nat) (lb : List Nat) (w : World) (ha : Wd w a n cap la) (hb : Wd w b m cap' lb) (hn : n ≤ 100000) (hm : m ≤ 100000) (hy : zval nb (val lb) ≠ 0) :
    Calls Tryd.prog 24 #[whV na a n cap, whV nb b m cap'] w (LstZZB (Int.fdiv (zval na (val la)) (zval nb (val lb))) (Int.fmod (zval na (val la)) (zval nb (val lb))) true w) := by
  have hv : val lb ≠ 0 := fun h => hy (by rw [h]; cases nb <;> rfl)
  by_cases hne : na = nb
  · subst hne; exact whole_floor_like na a n cap la b m cap' lb w ha hb hn hm hv
  · by_cases h0 : val la % val lb = 0
    · exact whole_floor_even na a n cap la nb b m cap' lb w ha hb hn hm hv (Lib.hid hne) h0
    · exact whole_floor_down na a n cap la nb b m cap' lb w ha hb hn hm hv (Lib.hid hne) h0
theorem wholeSaid : WholeSaid where
  norm := fun neg a n cap l z w h hn hz => by subst hz; exact whole_norm neg a n cap l w h (by omega)
  of := fun z w hz => whole_of z w hz
  int := fun neg a n cap l z w h hn hz => by subst hz; exact whole_int neg a n cap l w h (by omega)
  sign := fun neg a n cap l z w h hn hz => by subst hz; exact whole_sign neg a n cap l w h (by omega)
  cmp := fun na a n cap la x nb b m cap' lb y w ha hb hn hm hx hy => by subst hx; subst hy; exact whole_cmp na a n cap la nb b m cap' lb w ha hb (by omega) (by omega)
  neg := fun neg a n cap l z w h hn hz => by subst hz; exact whole_neg neg a n cap l w h (by omega)
  add := fun na a n cap la x nb b m cap' lb y w ha hb hn hm hx hy => by subst hx; subst hy; exact whole_add na a n cap la nb b m cap' lb w ha hb (by omega) (by omega)
  sub := fun na a n cap la x nb b m cap' lb y w ha hb hn hm hx hy => by subst hx; subst hy; exact whole_sub na a n cap la nb b m cap' lb w ha hb (by omega) (by omega)
  mul := fun na a n cap la x nb b m cap' lb y w ha hb hn hm hx hy => by subst hx; subst hy; exact whole_mul na a n cap la nb b m cap' lb w ha hb (by omega) (by omega)
  floor_no := fun na a n cap la x nb b m cap' lb y w ha hb _ hm hx hy h0 => by subst hx; subst hy; exact whole_floor_no na a n cap la nb b m cap' lb w ha hb (by omega) h0
  floor := fun na a n cap la x nb b m cap' lb y w ha hb hn hm hx hy h0 => by subst hx; subst hy; exact whole_floor_yes na a n cap la nb b m cap' lb w ha hb (by omega) (by omega) h0
  text := fun neg a n cap l z w h hn hz hT => by subst hz; exact whole_text digitsSaid neg a n cap l w h hn hT
  read_ok := fun l w hl hz => whole_read_ok digitsSaid l w hl hz
  read_no := fun l w hl hz => whole_read_no digitsSaid l w hl hz
end Go.Proofs.YtiblojmdgjnfbaaDoor

/-
  An argument of type []uint32, [][]uint32, opened: the words that it holds. Of no program.
-/
namespace Go.Proofs.YtiblojmdgjnfbaaDoor
open Go.ChangeShapes Go.WideShapes Go.ChangeAt Go.RowKit
section
variable {H : Type} {enc : TypeId × Value → H} {P : Program} {W : World} {base : Nat}

theorem words_of_ints {zs : List Int} (h : ∀ n ∈ zs, (Lit.int .u32 n).wf = true) : ∃ l : List Nat, zs = l.map (fun x => ((x : Nat) : Int)) ∧ okw l := by
  refine ⟨zs.map Int.toNat, ?_, ?_⟩
  · rw [List.map_map]
    have : ∀ z ∈ zs, ((fun x => ((x : Nat) : Int)) ∘ Int.toNat) z = z := fun z hz => by
      have := bounds_u32 (h z hz)
      show ((z.toNat : Nat) : Int) = z
      omega
    conv => lhs; rw [← List.map_id zs]
    exact List.map_congr_left (fun z hz => (this z hz).symm)
  · intro x hx
    obtain ⟨z, hz, rfl⟩ := List.mem_map.1 hx
    have := bounds_u32 (h z hz)
    omega
theorem getD_words (l : List Nat) (j : Nat) : (l.map fun x => ((x : Nat) : Int)).getD j 0 = ((atw l j : Nat) : Int) := by
  unfold atw
  rw [List.getD_eq_getElem?_getD, List.getD_eq_getElem?_getD, List.getElem?_map]
  cases l[j]? <;> rfl

/-- Cells that hold integers of kind u32, as words. -/
theorem Wd.ofInts {a : Option Addr} {len cap : Nat} {zs : List Int} (hl : len ≤ cap) (hm : cap ≤ maxLen) (hn : a = none → cap = 0) (hz : len ≤ zs.length) (hw : ∀ n ∈ zs, (Lit.int .u32 n).wf = true)
    (hc : ∀ a', a = some a' → ∀ i, i < len → W.cell? (a'.add i) = some (.int .u32 (zs.getD i 0))) : ∃ l, Wd W a len cap l := by
  obtain ⟨l, rfl, ho⟩ := words_of_ints hw
  have hll : (l.take len).length = len := by rw [List.length_take]; simp at hz; omega
  refine ⟨l.take len, hll, hl, by unfold maxLen at hm; omega, okw_take ho len, hn, ?_⟩
  by_cases h0 : len = 0
  · exact .inl h0
  · cases a with
    | none => have := hn rfl; omega
    | some a' =>
      obtain ⟨b, off, spot⟩ := a'
      have hspot : spot = none := by simpa [Addr.add] using World.cell?_spot (hc _ rfl 0 (by omega))
      subst hspot
      refine .inr ⟨b, off, rfl, fun j hj => ?_⟩
      rw [← add_plain, hc _ rfl j hj, getD_words, atw_take hj]

theorem open_words {t e : TypeId} {v : Value} {d : DataW H} {p : List MemPlace} (ht : P.underlying t = some (.slice e)) (he : P.underlying e = some (.int .u32)) (hce : P.cellsOf e = 1)
    (hv : Value.okWide P W .any base t v) (h : DataW.Trod enc P W 0 (fun _ => true) true t v d p) : ∃ (a : Option Addr) (n cap : Nat) (l : List Nat), v = .slice a n cap ∧ Wd W a n cap l := by
  obtain ⟨a0, len, cap, rfl⟩ := okWide_slice ht hv
  obtain ⟨fuel, hf⟩ := h
  rcases open_ints ht he hce hf with ⟨hcs, _⟩ | ⟨a, len', cap', zs, hcs, _, hl, hm, hz, _, hc, hw⟩
  · simp [Value.cells] at hcs
    obtain ⟨rfl, rfl, rfl⟩ := hcs
    exact ⟨_, _, _, [], rfl, Wd.ofNil W⟩
  · simp [Value.cells] at hcs
    obtain ⟨rfl, rfl, rfl⟩ := hcs
    simp only [if_true] at hz
    obtain ⟨l, hl'⟩ := Wd.ofInts (W := W) (a := some a) hl hm (fun e => by cases e) (by omega) hw (fun a' e i hi => by cases e; exact hc i (by omega))
    exact ⟨_, _, _, l, rfl, hl'⟩

theorem open_rows {t e q : TypeId} {v : Value} {d : DataW H} {p : List MemPlace} (ht : P.underlying t = some (.slice e)) (he : P.underlying e = some (.slice q)) (hq : P.underlying q = some (.int .u32)) (hce : P.cellsOf e = 1) (hcq : P.cellsOf q = 1)
    (hv : Value.okWide P W .any base t v) (h : DataW.Trod enc P W 0 (fun _ => true) true t v d p) : ∃ (a : Option Addr) (n cap : Nat) (ls : List (List Nat)), v = .slice a n cap ∧ Wds W a n cap ls := by
  obtain ⟨a0, len, cap, rfl⟩ := okWide_slice ht hv
  obtain ⟨fuel, hf⟩ := h
  rcases Go.Deep.open_int_rows ht he hq hce hcq hf with ⟨hcs, _⟩ | ⟨a, len', cap', A, L, C, Z, hcs, _, hl, hm, _, hc⟩
  · simp [Value.cells] at hcs
    obtain ⟨rfl, rfl, rfl⟩ := hcs
    exact ⟨_, _, _, [], rfl, rfl, Nat.le_refl _, by omega, fun _ => rfl, .inl rfl⟩
  · simp [Value.cells] at hcs
    obtain ⟨rfl, rfl, rfl⟩ := hcs
    have hrow : ∀ r, r < cap → ∃ l, Wd W (A r) (L r) (C r) l := fun r hr => by
      obtain ⟨_, h2, h3, h4, h5, h6, h7⟩ := hc r hr
      exact Wd.ofInts h2 h3 h6 (by omega) h5 (fun a' e i hi => (h7 a' e).2 i (by omega))
    let F : Nat → List Nat := fun r => if hr : r < cap then (hrow r hr).choose else []
    have hF : ∀ r, r < cap → Wd W (A r) (L r) (C r) (F r) := fun r hr => by simp only [F, hr, dif_pos]; exact (hrow r hr).choose_spec
    refine ⟨_, _, _, (List.range len).map F, rfl, by simp, hl, by unfold maxLen at hm; omega, fun e => (by cases e), ?_⟩
    by_cases h0 : len = 0
    · exact .inl h0
    · have h00 := (hc 0 (by omega)).1
      obtain ⟨b, off, sp⟩ := a
      have hsp : sp = none := by simpa [Addr.add] using World.cell?_spot h00
      subst hsp
      refine .inr ⟨b, off, rfl, fun j hj => ⟨A j, L j, C j, ?_, ?_⟩⟩
      · rw [← add_plain]; exact (hc j (by omega)).1
      · have e1 : ((List.range len).map F).getD j [] = F j := by rw [List.getD_eq_getElem?_getD, List.getElem?_map, List.getElem?_range hj]; rfl
        rw [e1]
        exact hF j (by omega)
/-- An array of two words by value. -/
theorem open_pair {t e : TypeId} {v : Value} {d : DataW H} {p : List MemPlace} (ht : P.underlying t = some (.array 2 e)) (he : P.underlying e = some (.int .u32)) (hct : P.cellsOf t = 2) (hce : P.cellsOf e = 1)
    (hv : Value.okWide P W .any base t v) (h : DataW.Trod enc P W 0 (fun _ => true) true t v d p) : ∃ x y : Nat, v = .agg #[.int .u32 (x : Int), .int .u32 (y : Int)] ∧ x < 4294967296 ∧ y < 4294967296 := by
  obtain ⟨cs, rfl, hsz⟩ : ∃ cs, v = .agg cs ∧ cs.size = P.cellsOf t := by
    simp only [Value.okWide, ht] at hv
    obtain ⟨cs, h1, h2, _⟩ := hv
    exact ⟨cs, h1, h2⟩
  rw [hct] at hsz
  obtain ⟨l⟩ := cs
  match l, hsz with
  | [c0, c1], _ =>
    obtain ⟨fuel, hf⟩ := h
    obtain ⟨xs, m, _, _, _, hl, hel⟩ := DataW.trod_array ht hf
    have h0 := hel 0 (by omega)
    have h1 := hel 1 (by omega)
    rw [hce, List.getElem?_eq_getElem (by omega)] at h0 h1
    obtain ⟨z0, e0, _, w0⟩ := DataW.trod_int he h0
    obtain ⟨z1, e1, _, w1⟩ := DataW.trod_int he h1
    simp [Value.cells] at e0 e1
    subst e0 e1
    have b0 := bounds_u32 w0
    have b1 := bounds_u32 w1
    refine ⟨z0.toNat, z1.toNat, ?_, by omega, by omega⟩
    rw [Int.toNat_of_nonneg b0.1, Int.toNat_of_nonneg b1.1]
end
end Go.Proofs.YtiblojmdgjnfbaaDoor

/-
  An argument of a struct type opened: a whole number, a fraction. Of no program.
-/
namespace Go.Proofs.YtiblojmdgjnfbaaDoor
open Go.ChangeShapes Go.WideShapes Go.ChangeAt Go.RowKit Go.Deep
section
variable {H : Type} {enc : TypeId × Value → H} {P : Program} {W : World} {base : Nat}

theorem words_cell {t e : TypeId} {n0 : Nat} {v : Value} {y : DataW H × List MemPlace} (ht : P.underlying t = some (.slice e)) (he : P.underlying e = some (.int .u32)) (hce : P.cellsOf e = 1)
    (hf : DataW.trod enc P W 0 (fun _ => true) true n0 t [v] = some y) : ∃ (a : Option Addr) (n cap : Nat) (l : List Nat), v = .slice a n cap ∧ Wd W a n cap l := by
  rcases open_ints ht he hce hf with ⟨hcs, _⟩ | ⟨a, len', cap', zs, hcs, _, hl, hm, hz, _, hc, hw⟩
  · simp at hcs
    exact ⟨_, _, _, [], hcs, Wd.ofNil W⟩
  · simp at hcs
    simp only [if_true] at hz
    obtain ⟨l, hl'⟩ := Wd.ofInts (W := W) (a := some a) hl hm (fun e => by cases e) (by omega) hw (fun a' e i hi => by cases e; exact hc i (by omega))
    exact ⟨_, _, _, l, hcs, hl'⟩
theorem open_whole {t : TypeId} {f0 f1 : Field} {e : TypeId} {v : Value} {d : DataW H} {p : List MemPlace} (hs : P.underlying t = some (.struct #[f0, f1])) (hone : oneCellFields P #[f0, f1] = true) (hC : P.cellsOf t = 2)
    (hb : P.underlying f0.type = some .bool) (ht : P.underlying f1.type = some (.slice e)) (he : P.underlying e = some (.int .u32)) (hce : P.cellsOf e = 1)
    (hv : Value.okWide P W .any base t v) (h : DataW.Trod enc P W 0 (fun _ => true) true t v d p) : ∃ (neg : Bool) (a : Option Addr) (n cap : Nat) (l : List Nat), v = whV neg a n cap ∧ Wd W a n cap l := by
  obtain ⟨v0, v1, y0, y1, m, rfl, _, _, h0, h1⟩ := Joins.open_agg2 hs hone hC hv h
  obtain ⟨b, e0, _⟩ := DataW.trod_bool hb h0
  simp at e0
  subst e0
  obtain ⟨a, n, cap, l, rfl, hw⟩ := words_cell ht he hce h1
  exact ⟨b, a, n, cap, l, rfl, hw⟩
/-- A fraction, as a value. -/
def frV (neg : Bool) (a : Option Addr) (n cap : Nat) (b : Option Addr) (m cap' : Nat) : Value := .agg #[.bool neg, .slice a n cap, .slice b m cap']
theorem open_frac {t : TypeId} {f0 f1 f2 : Field} {e : TypeId} {v : Value} {d : DataW H} {p : List MemPlace} (hs : P.underlying t = some (.struct #[f0, f1, f2])) (hone : oneCellFields P #[f0, f1, f2] = true) (hC : P.cellsOf t = 3)
    (hb : P.underlying f0.type = some .bool) (ht : P.underlying f1.type = some (.slice e)) (ht2 : P.underlying f2.type = some (.slice e)) (he : P.underlying e = some (.int .u32)) (hce : P.cellsOf e = 1)
    (hv : Value.okWide P W .any base t v) (h : DataW.Trod enc P W 0 (fun _ => true) true t v d p) :
    ∃ (neg : Bool) (a : Option Addr) (n cap : Nat) (l : List Nat) (b : Option Addr) (m cap' : Nat) (k : List Nat), v = frV neg a n cap b m cap' ∧ Wd W a n cap l ∧ Wd W b m cap' k := by
  obtain ⟨v0, v1, v2, y0, y1, y2, m, rfl, _, _, h0, h1, h2⟩ := Joins.open_agg3 hs hone hC hv h
  obtain ⟨b, e0, _⟩ := DataW.trod_bool hb h0
  simp at e0
  subst e0
  obtain ⟨a, n, cap, l, rfl, hw⟩ := words_cell ht he hce h1
  obtain ⟨a2, n2, cap2, l2, rfl, hw2⟩ := words_cell ht2 he hce h2
  exact ⟨b, a, n, cap, l, a2, n2, cap2, l2, rfl, hw, hw2⟩
end
end Go.Proofs.YtiblojmdgjnfbaaDoor

/-
  What every law's row asks behind its walk, said once: a law that returned true and left all that was there as it was meets its specification. Of no program.
-/
namespace Go.Proofs.YtiblojmdgjnfbaaDoor
open Go.ChangeShapes Go.WideShapes Go.ChangeAt Go.RowKit

theorem below_of_same {w w' : World} (h : w = w') : Below w.heap.size w w' := by subst h; exact Below.refl _ _
/-- A law's walk that leaves the world as it was, in the form that leaves what was there. -/
theorem same_below {P : Program} {f : FuncId} {args : Array Value} {w : World} (h : Calls P f args w fun e w' => e = .returned (.bool true) ∧ w = w') : Calls P f args w fun e w' => e = .returned (.bool true) ∧ Below w.heap.size w w' :=
  h.mono fun _ _ ⟨he, hw⟩ => ⟨he, below_of_same hw⟩

/-- The arguments read again as they read before. -/
theorem stays_all {H : Type} {enc : TypeId × Value → H} {P : Program} (hl : laidOutB P = true) {W W' : World} (hb : Below W.heap.size W W') :
    ∀ (ts : List TypeId) (vs : List Value) (ds : List (DataW H)) (ps : List MemPlace), (ts.all fun t => P.readableRec t && decide (t < P.types.size)) = true →
      DataW.TrodAll enc P W 0 (fun _ => true) true ts vs ds ps → (∀ x ∈ ps, x.block < W.heap.size) →
      DataW.TrodAll enc P W' 0 (fun b => decide (b < W.heap.size)) true ts vs ds ps
  | [], [], [], _, _, h, _ => h
  | t :: ts, v :: vs, d :: ds, ps, hr, h, hlt => by
    obtain ⟨p, q, h1, h2, rfl⟩ := h
    simp only [List.all_cons, Bool.and_eq_true, decide_eq_true_eq] at hr
    exact ⟨p, q, Below.trod hl hr.1.1 hr.1.2 h1 hb (fun x hx => hlt x (by simp [hx])), stays_all hl hb ts vs ds q hr.2 h2 (fun x hx => hlt x (by simp [hx])), rfl⟩
  | [], [], _ :: _, _, _, h, _ => h.elim
  | [], _ :: _, _, _, _, h, _ => h.elim
  | _ :: _, [], _, _, _, h, _ => h.elim
  | _ :: _, _ :: _, [], _, _, h, _ => h.elim

theorem law_post {H : Type} {enc : TypeId × Value → H} {P : Program} {f : Func} {s : ChangeSpec} {apart fresh handsOn : Bool} {W W' : World} {args : Array Value} {ds gs : List (DataW H)} {before : List MemPlace} {tb : TypeId}
    (hl : laidOutB P = true) (hr : (f.params.toList.all fun t => P.readableRec t && decide (t < P.types.size)) = true) (hrt : f.resultTypes = #[tb]) (htb : P.underlying tb = some .bool) (hvars : s.vars = [])
    (hs : s.fn H ds = { results := [.lit (.bool true)], args := ds })
    (hW : DataW.Whole enc P f.params.toList s.vars apart W args.toList ds gs before) (hb : Below W.heap.size W W') :
    s.post enc P f apart fresh handsOn false W args (.bool true) W' := by
  have hW0 := hW
  obtain ⟨p, q, hA, hV, rfl, _, _⟩ := hW
  rw [hvars] at hV
  obtain ⟨rfl, rfl⟩ := trodVars_none hV
  have hlt : ∀ x ∈ p, x.block < W.heap.size := fun x hx => hW0.lt x (by simp [hx])
  refine ⟨ds, [], p ++ [], [], p, [], hW0, ?_, ?_, ?_, hb.frame _, fun h => by cases h⟩
  · rw [List.append_nil, hs, hrt]
    exact trodAll_mk1 (shut_bool htb true)
  · rw [List.append_nil, hs]
    exact stays_all hl hb _ _ _ _ hr hA hlt
  · rw [List.append_nil, hs, hvars]
    rfl
end Go.Proofs.YtiblojmdgjnfbaaDoor

/-
  What a row lists of the library's tables, wherever it stands on the list. Of no program.
-/
namespace Go.Proofs.YtiblojmdgjnfbaaDoor

theorem laidMet_rest {P : Program} {x : String × DataW Unit} {r : List (String × DataW Unit)} {w : World} (h : laidMet P (x :: r) w) : laidMet P r w := by
  obtain ⟨ps, hv, hnd, hrows⟩ := h
  obtain ⟨n, d⟩ := x
  obtain ⟨g, t, cs, fuel, p, q, _, _, _, _, hq, rfl⟩ := hv
  exact ⟨q, hq, List.Nodup.sublist (List.sublist_append_right _ _) hnd, fun b off hm => hrows b off (List.mem_append_right _ hm)⟩
theorem laidMet_drop {P : Program} {w : World} (k : Nat) {laid : List (String × DataW Unit)} (h : laidMet P laid w) : laidMet P (laid.drop k) w := by
  induction k generalizing laid with
  | zero => exact h
  | succ k ih =>
    cases laid with
    | nil => exact h
    | cons x r => exact ih (laidMet_rest h)
theorem tab_of_laid {P : Program} {W : World} {laid : List (String × DataW Unit)} {k : IntKind} {zs : List Int} {g : Nat} {t e : TypeId} {n : Nat} (K : Nat) (nm : String) (hl : laid.drop K = (nm, Lib.tabData k zs) :: laid.drop (K + 1))
    (hg : P.globalNamed nm = some g) (hty : (P.globals[g]?).map (·.type) = some t) (ht : P.underlying t = some (.array n e)) (he : P.underlying e = some (.int k)) (hce : P.cellsOf e = 1) (hct : P.cellsOf t = n)
    (h : laidMet P laid W) (name : String) (hn : P.globalNamed name = some g) : Lib.TabIs P W name k zs := by
  have h1 := laidMet_drop K h
  rw [hl] at h1
  have h2 := Lib.tabIs_of_head hg hty ht he hce hct h1
  unfold Lib.TabIs World.var? at h2 ⊢
  rw [hn]
  rwa [hg] at h2
end Go.Proofs.YtiblojmdgjnfbaaDoor

/-
  The contract of the document's answer for layer 8: Floor, where both signs are alike.
-/
namespace Go.Proofs.YtiblojmdgjnfbaaDoor
open Go.RowKit

set_option maxRecDepth 4096 in
set_option maxHeartbeats 16000000 in
theorem ref08_floor_same (na : Bool) (a : Option Addr) (n cap : Nat) (la : List Nat) (nb : Bool) (b : Option Addr) (m cap' : Nat) (lb : List Nat) (w : World) (ha : Wd w a n cap la) (hb : Wd w b m cap' lb) (hn : n ≤ 20000) (hm : m ≤ 20000) (h0 : Hid (val lb ≠ 0)) (hne0 : Hid (na = nb)) :
    Calls Tryd.prog 25 #[whV na a n cap, whV nb b m cap'] w (LstZZ (flq na nb (val la) (val lb)) (zval na (val la) + -(flq na nb (val la) (val lb) * zval nb (val lb))) w) := by
  have hB4 : Below w.heap.size w ((((w.alloc (.cells #[.bool na, .slice a n cap] 24)).alloc (.cells #[.bool nb, .slice b m cap'] 24)).alloc (.cells #[.bool false, .slice none 0 0] 24)).alloc (.cells #[.bool false, .slice none 0 0] 24)) := below_then (below_then (below_then (below_alloc _ _) (below_alloc _ _)) (below_alloc _ _)) (below_alloc _ _)
  have Ha := Lib.hid (ha.later hB4)
  have Hb := Lib.hid (hb.later hB4)
  have HB := Lib.hid hB4
  have hlen := @flq_len na nb (val la) (val lb) n m (by rw [← ha.len]; exact val_lt ha.ok) hb.trim_le
  have Hl1 := Lib.hid hlen.1
  have Hl2 := Lib.hid hlen.2
  clear ha hb hB4 hlen
  obtain ⟨q, HQ⟩ : ∃ q, Hid (q = flq na nb (val la) (val lb)) := ⟨_, rfl⟩
  rw [← HQ.out] at Hl2 ⊢
  go_enter Tryd.func25, Tryd.ntmps25
  unfold whV
  go_wp2_with fail
  refine (ref05_div a n cap la b m cap' lb _ Ha.out Hb.out (by omega) (by omega) h0).mono ?_
  rintro e w1 ⟨a1, n1, c1, a2, n2, c2, rfl, h1, h2, b1⟩
  have H1 := Lib.hid h1
  have H2 := Lib.hid (Wd.own h2.out (okw_dg _))
  obtain ⟨hA, hBb, hR1, hR2⟩ := boxes4_at w _ _ _ _ _ _ _ _ w1 b1
  have HB1 := Lib.hid (below_then HB.out b1)
  have Ha1 := Lib.hid (Ha.out.later b1)
  have Hb1 := Lib.hid (Hb.out.later b1)
  have c0 := blk_cell hA 0
  have c1' := blk_cell hBb 0
  simp only [List.getElem?_toArray, List.getElem?_cons_zero] at c0 c1'
  have HA := Lib.hid hA
  have HBb := Lib.hid hBb
  have HR1 := Lib.hid hR1
  have HR2 := Lib.hid hR2
  have Hn2 : Hid ((dg (val la % val lb)).length = n2) := Lib.hid H2.out.len
  have Hn1 : Hid ((dg (val la / val lb)).length = n1) := Lib.hid H1.out.len
  have hn1 : n1 ≤ 20001 := by
    rw [← Hn1.out]
    exact Nat.le_trans (dg_length_mono (by omega)) (Nat.le_trans Hl1.out (by omega))
  clear hA hBb hR1 hR2 h1 h2 b1 HB Ha Hb
  have hne := hne0.out
  · subst hne
    have hq0 : (na == na) = true := by simp
    have HNq : Hid (zval false (val la / val lb) = q) := Lib.hid (by rw [HQ.out, flq, if_neg (by simp), hq0]; rfl)
    have Hcall := Lib.hid (ref08_normN false a1 n1 c1 _ w1 H1.out (by omega))
    rw [HNq.out] at Hcall
    go_wp2_with fail
    refine Hcall.out.mono ?_
    rintro e wq ⟨aq, nq, cq, rfl, hq9, bq⟩
    unfold whV
    have Hlq : Hid (nq ≤ 20001) := Lib.hid (by rw [← hq9.len, HQ.out, flq, zval_abs]; exact Nat.le_trans Hl1.out (by omega))
    have HAg := Lib.hid (blk_later (blk_later HA.out bq) (below_alloc wq (.cells #[.bool (zneg q), .slice aq nq cq] 24)))
    have HBg := Lib.hid (blk_later (blk_later HBb.out bq) (below_alloc wq (.cells #[.bool (zneg q), .slice aq nq cq] 24)))
    have HR1g := Lib.hid (blk_later (blk_later HR1.out bq) (below_alloc wq (.cells #[.bool (zneg q), .slice aq nq cq] 24)))
    have HR2g := Lib.hid (blk_later (blk_later HR2.out bq) (below_alloc wq (.cells #[.bool (zneg q), .slice aq nq cq] 24)))
    have kz : w.heap.size + 1 + 1 + 1 < wq.heap.size := (Array.getElem?_eq_some_iff.1 (blk_later HR2.out bq)).1
    have HG := Lib.hid (blk_new wq #[.bool (zneg q), .slice aq nq cq] 24)
    have Hqg := Lib.hid (hq9.later (below_alloc wq (.cells #[.bool (zneg q), .slice aq nq cq] 24)))
    have Hag := Lib.hid ((Ha1.out.later bq).later (below_alloc wq (.cells #[.bool (zneg q), .slice aq nq cq] 24)))
    have Hbg := Lib.hid ((Hb1.out.later bq).later (below_alloc wq (.cells #[.bool (zneg q), .slice aq nq cq] 24)))
    have Hlow := Lib.hid (below_then (below_then HB1.out bq) (below_alloc wq (.cells #[.bool (zneg q), .slice aq nq cq] 24)))
    have Kz := Lib.hid kz
    clear kz hq9 bq Hcall c0 c1'
    go_wp2
    generalize wq.alloc (.cells #[.bool (zneg q), .slice aq nq cq] 24) = W at *
    generalize wq.heap.size = g at *
    have Hd : Below W.heap.size W W.drew := (Below.refl _ _).drew
    have Sd := six_cells (w := W.drew) HAg.out HBg.out HG.out
    go_region_held3 (fun w' => w'.cell? ⟨w.heap.size, 0, none⟩ = some (.bool na) ∧ w'.cell? ⟨w.heap.size, 1, none⟩ = some (.slice a n cap) ∧ w'.cell? ⟨w.heap.size + 1, 0, none⟩ = some (.bool na) ∧ w'.cell? ⟨w.heap.size + 1, 1, none⟩ = some (.slice b m cap') ∧ w'.cell? ⟨g, 0, none⟩ = some (.bool (zneg q)) ∧ w'.cell? ⟨g, 1, none⟩ = some (.slice aq nq cq)) (first | exact Sd | exact S1 | exact S2 | exact S3.out | exact S4.out | exact S5.out)
      (first
      | (go_at_call 23; (refine (ref08_mulZ q aq nq cq na b m cap' lb _ (Hqg.out.later Hd) (Hbg.out.later Hd) ?q3 ?q4).mono ?_); (case q3 => have := Hlq.out; omega); (case q4 => omega); rintro e w6 ⟨a6, n6, c6, rfl, h6, b6⟩; have b6' := below_then Hd b6; have S1 := six_cells (blk_later HAg.out b6') (blk_later HBg.out b6') (blk_later HG.out b6'))
      | (go_at_call 10; (refine (ref08_negZ (q * zval na (val lb)) a6 n6 c6 _ h6 ?q5).mono ?_); (case q5 => have h9 := Hl2.out; rw [h6.len] at h9; omega); rintro e w7 ⟨a7, n7, c7, rfl, h7, b7⟩; have b7' := below_then b6' b7; have S2 := six_cells (blk_later HAg.out b7') (blk_later HBg.out b7') (blk_later HG.out b7'))
      | (go_at_call 9; (refine (ref08_addZ na a n cap la (-(q * zval na (val lb))) a7 n7 c7 _ (Hag.out.later b7') h7 ?q6 ?q7).mono ?_); (case q6 => omega); (case q7 => have h9 := Hl2.out; rw [← Int.natAbs_neg, h7.len] at h9; omega); rintro e w8 ⟨a8, n8, c8, rfl, h8, b8⟩; have b8' := below_then b7' b8; have S3 := Lib.hid (six_cells (blk_later HAg.out b8') (blk_later HBg.out b8') (blk_later HG.out b8')); have N1 := Lib.hid (show w.heap.size + 1 + 1 ≠ g by have := Kz.out; omega); have N2 := Lib.hid (show w.heap.size + 1 + 1 + 1 ≠ g by have := Kz.out; omega); have A4 := Lib.hid (blk_apart2 (g := w.heap.size + 1 + 1) (blk_later HAg.out b8') (by omega) (.bool (zneg q)) (.slice aq nq cq)); have B4 := Lib.hid (blk_apart2 (g := w.heap.size + 1 + 1) (blk_later HBg.out b8') (by omega) (.bool (zneg q)) (.slice aq nq cq)); have G4 := Lib.hid (blk_apart2 (g := w.heap.size + 1 + 1) (blk_later HG.out b8') N1.out.symm (.bool (zneg q)) (.slice aq nq cq)); have S4 := Lib.hid (six_cells A4.out B4.out G4.out); have S5 := Lib.hid (six_cells (blk_apart2 (g := w.heap.size + 1 + 1 + 1) A4.out (by omega) (.bool (zneg (zval na (val la) + -(q * zval na (val lb))))) (.slice a8 n8 c8)) (blk_apart2 (g := w.heap.size + 1 + 1 + 1) B4.out (by omega) (.bool (zneg (zval na (val la) + -(q * zval na (val lb))))) (.slice a8 n8 c8)) (blk_apart2 (g := w.heap.size + 1 + 1 + 1) G4.out N2.out.symm (.bool (zneg (zval na (val la) + -(q * zval na (val lb))))) (.slice a8 n8 c8))); have M1 := Lib.hid (blk_later HR1g.out b8'); have M3 := Lib.hid (blk_apart2 (g := w.heap.size + 1 + 1) (blk_later HR2g.out b8') (by omega) (.bool (zneg q)) (.slice aq nq cq)); have r0 := blk_cell M1.out 0; have r1 := blk_cell M1.out 1; have f0 := blk_free M1.out 0; have f1 := blk_free M1.out 1; have r2 := blk_cell M3.out 0; have r3 := blk_cell M3.out 1; have f2 := blk_free M3.out 0; have f3 := blk_free M3.out 1; simp only [List.getElem?_toArray, List.getElem?_cons_zero, List.getElem?_cons_succ] at r0 r1 r2 r3; unfold whV))
    have Hq8 := Lib.hid ((Hqg.out.later b8').stored2 M1.out (zneg q) (.slice aq nq cq))
    have H8 := Lib.hid (h8.stored2 M1.out (zneg q) (.slice aq nq cq))
    have HL8 := Lib.hid (below_set2 (below_then Hlow.out b8') (show w.heap.size ≤ w.heap.size + 1 + 1 by omega) (.bool (zneg q)) (.slice aq nq cq))
    have HG1 := Lib.hid (blk_set2 M1.out (.bool (zneg q)) (.slice aq nq cq))
    generalize hzz : zval na (val la) + -(q * zval na (val lb)) = z at *
    have Hq9 := Lib.hid (Hq8.out.stored2 M3.out (zneg z) (.slice a8 n8 c8))
    have H9 := Lib.hid (H8.out.stored2 M3.out (zneg z) (.slice a8 n8 c8))
    have HL9 := Lib.hid (below_set2 HL8.out (show w.heap.size ≤ w.heap.size + 1 + 1 + 1 by omega) (.bool (zneg z)) (.slice a8 n8 c8))
    have HG2 := Lib.hid (blk_set2 M3.out (.bool (zneg z)) (.slice a8 n8 c8))
    have HG3 := Lib.hid (blk_apart2 (g := w.heap.size + 1 + 1 + 1) HG1.out (by omega) (.bool (zneg z)) (.slice a8 n8 c8))
    go_wp2
    refine bodyPost_ret (results_rows2 Tryd.results25 _ _ (w.heap.size + 1 + 1) (w.heap.size + 1 + 1 + 1) 24 24 #[.bool (zneg q), .slice aq nq cq] #[.bool (zneg z), .slice a8 n8 c8] (0, 0) (0, 0) _ _ rfl HG3.out Tryd.underlying24 rfl (by kernel_rfl) rfl HG2.out Tryd.underlying24 rfl (by kernel_rfl)) rfl ?_
    exact ⟨aq, nq, cq, a8, n8, c8, rfl, Hq9.out, H9.out, HL9.out⟩
end Go.Proofs.YtiblojmdgjnfbaaDoor
