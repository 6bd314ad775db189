/-
  Package tree: slices.Clone of words and of nodes, copied.
-/
import Derived.Test.YtdhfnlpolelcpaaTree1
import Derived.Test.YtdhfnlpolelcpaaRef17c
import Derived.Test.YtdhfnlpolelcpaaKinMore
import Derived.Lib.SliceRun
import Derived.WalkKit
import Derived.OwnWalk
namespace Go.Proofs.Ytdhfnlpolelcpaa
open Go.WideShapes Go.RowKit Go.Deep

/-- An empty literal. -/
theorem Cls.Own.lit0 {α : Type} {C : Cls α} (w : World) (e : TypeId) : C.Own (w.alloc (.cells #[] e)) w.heap.size e (.slice (some ⟨w.heap.size, 0, none⟩) 0 0) [] :=
  ⟨World.ownsRow_lit w #[] 0 (Nat.le_refl _) (by decide) (by simp), only_block (heap_alloc_new w _) (fun u hu => by simp at hu)⟩
theorem Kin.Mine.lit0 {α : Type} {K : Kin α} (w : World) (e : TypeId) : K.Mine (w.alloc (.cells #[] e)) w.heap.size e (.slice (some ⟨w.heap.size, 0, none⟩) 0 0) [] := ⟨Cls.Own.lit0 w e, fun x hx => by cases hx⟩
/-- Words, as rows of anything. -/
def wdC : Cls Nat where
  cells := fun x => [.int .u32 (x : Int)]
  size := 1
  bytes := 4
  p := fun u => ∃ k : Int, u = .int .u32 k
  pos := by decide
  len := fun _ => rfl
  one := fun x u hu => by
    simp at hu
    subst hu; rfl
  ok := fun x u hu => by
    simp at hu
    exact ⟨_, hu⟩
theorem wd_flat (l : List Nat) : l.flatMap wdC.cells = wcells l := by
  unfold wcells wdC
  induction l with
  | nil => rfl
  | cons x r ih => rw [List.flatMap_cons, List.map_cons, ih]; rfl
theorem wd_at {P : Program} {t e : TypeId} (ht : P.underlying t = some (.slice e)) (h : (P.info? e).map (fun i => (i.zero, i.size, i.bytes)) = some (some (.int .u32 0), 1, 4)) : wdC.At P t e :=
  Cls.atOf wdC ht h rfl (fun u hu => by
    simp [Value.cells] at hu
    exact ⟨_, hu⟩)
theorem nd_at {P : Program} {t e : TypeId} (ht : P.underlying t = some (.slice e)) (h : (P.info? e).map (fun i => (i.zero, i.size, i.bytes)) = some (some (.agg #[.int .i64 0, .int .i64 0, .slice none 0 0]), 3, 40)) : ndK.toCls.At P t e :=
  Cls.atOf ndK.toCls ht h rfl (fun u hu => by
    simp [Value.cells] at hu
    rcases hu with rfl | rfl
    · exact .inl ⟨_, rfl⟩
    · exact .inr ⟨_, _, _, rfl⟩)
theorem infoWord17 : (Try.prog.info? 79).map (fun i => (i.zero, i.size, i.bytes)) = some (some (.int .u32 0), 1, 4) := by kernel_rfl
set_option maxRecDepth 4096 in
set_option maxHeartbeats 8000000 in
theorem tree_cloneWords (a : Option Addr) (n c : Nat) (l : List Nat) (w : World) (h : Wd w a n c l) (hn : n ≤ 1000000000) : Calls Try.prog 45 #[.slice a n c] w (fun e w' => ∃ a' c', e = .returned (.slice a' n c') ∧ Wd w' a' n c' l ∧ Below w.heap.size w w') := by
  have q22 : ∀ (w : World) (a : Option Addr) (n c n' c' : Nat), (binOp .eql 53 (.slice a n c) (.slice none n' c')).run Try.prog w = .ok (.bool a.isNone) w := fun w a n c n' c' => Lib.run_eql_slice_nil w _ _ a n c n' c' Try.underlying53
  have hA := wd_at Try.underlying53 infoWord17
  cases a with
  | none =>
    obtain ⟨rfl, rfl, rfl⟩ := h.ofNone
    clear h
    go_enter Try.func45, Try.ntmps45
    go_wp2
    go_ret
    exact ⟨_, _, rfl, Wd.ofNil _, Below.refl _ _⟩
  | some ad =>
    have ho := h.ok
    have hl := h.len
    have hcell : ∀ j u, (l.flatMap wdC.cells)[j]? = some u → (w.alloc (.cells #[] 79)).cell? (ad.add j) = some u := by
      intro j u hu
      rw [wd_flat] at hu
      by_cases h0 : n = 0
      · rw [List.eq_nil_of_length_eq_zero (hl.trans h0)] at hu; simp [wcells] at hu
      · obtain ⟨b, off, e, _⟩ := h.at (by omega)
        obtain rfl := Option.some.inj e
        exact (h.later (below_alloc w _)).cells j u hu
    have HCell := Lib.hid hcell
    have HLl := Lib.hid hl
    clear h hl hcell
    go_enter Try.func45, Try.ntmps45
    go_wp2_with (at_builtin; refine Cls.wpList_append hA rfl _ _ rfl w.heap.size _ [] rfl (Cls.Own.lit0 w _) ad n c l rfl HLl.out HCell.out (by simp [maxLen]; omega) (by show (0 + n) * 4 ≤ _; omega) (by rw [blk_size]; omega) ?_)
    intro v' w5 hrow hgrow hnew
    have HX := Lib.hid hrow
    have HB := Lib.hid ((below_alloc w (.cells #[] 79)).grown hgrow (by rw [blk_size]; omega) (fun g hg => by simp [Value.ownBlock] at hg; omega))
    clear hrow hgrow hnew
    go_wp2
    go_ret
    obtain ⟨a9, c9, rfl, h9⟩ := HX.out.slice
    have h8 := HX.out.1
    simp only [wd_flat] at h8
    simp only [HLl.out] at h8 ⊢
    exact ⟨a9, c9, rfl, Wd.own h8 ho, HB.out⟩
/-- What a node is, wherever its number lies. -/
def Nd.key (x : Nd) : Int × Int × List Nat := (x.op, x.i, x.l)
theorem key_sem {L L' : List Nd} (h : L'.map Nd.key = L.map Nd.key) : L'.map Nd.sem = L.map Nd.sem := by
  have e : ∀ L : List Nd, L.map Nd.sem = (L.map Nd.key).map (fun k => (k.1, k.2.1, val k.2.2)) := fun L => by simp [Nd.key, Nd.sem, Function.comp_def]
  rw [e, e, h]
theorem key_thin {L L' : List Nd} (h : L'.map Nd.key = L.map Nd.key) {N : Nat} (ht : thinN N L) : thinN N L' := by
  intro x hx
  have hk : x.key ∈ L.map Nd.key := by rw [← h]; exact List.mem_map.2 ⟨x, hx, rfl⟩
  obtain ⟨y, hy, e⟩ := List.mem_map.1 hk
  have e2 : y.l = x.l := congrArg (fun k => k.2.2) e
  rw [← e2]; exact ht y hy
theorem key_len {L L' : List Nd} (h : L'.map Nd.key = L.map Nd.key) : L'.length = L.length := by simpa using congrArg List.length h
theorem infoNode17 : (Try.prog.info? 55).map (fun i => (i.zero, i.size, i.bytes)) = some (some (.agg #[.int .i64 0, .int .i64 0, .slice none 0 0]), 3, 40) := by kernel_rfl
set_option maxRecDepth 4096 in
set_option maxHeartbeats 8000000 in
theorem tree_cloneNodes (a : Option Addr) (n c : Nat) (L : List Nd) (w : World) (h : Nds w a n c L) (hn : n ≤ 1000000) : Calls Try.prog 44 #[.slice a n c] w (fun e w' => ∃ v, e = .returned v ∧ ndK.Mine w' w.heap.size 55 v L ∧ Below w.heap.size w w') := by
  have q22 : ∀ (w : World) (a : Option Addr) (n c n' c' : Nat), (binOp .eql 25 (.slice a n c) (.slice none n' c')).run Try.prog w = .ok (.bool a.isNone) w := fun w a n c n' c' => Lib.run_eql_slice_nil w _ _ a n c n' c' Try.underlying25
  have hA := nd_at Try.underlying25 infoNode17
  have hl := h.len
  cases a with
  | none =>
    have hc : c = 0 := h.1.2.2.2.1 rfl
    have hn0 : n = 0 := by have := h.bound; omega
    subst hc hn0
    obtain rfl : L = [] := List.eq_nil_of_length_eq_zero hl
    clear h
    go_enter Try.func44, Try.ntmps44
    go_wp2
    go_ret
    exact ⟨_, rfl, Kin.Mine.nil _ _ _, Below.refl _ _⟩
  | some ad =>
    have hcell : ∀ j u, (L.flatMap ndK.cells)[j]? = some u → (w.alloc (.cells #[] 55)).cell? (ad.add j) = some u := by
      intro j u hu
      by_cases h0 : n = 0
      · rw [List.eq_nil_of_length_eq_zero (hl.trans h0)] at hu; simp at hu
      · obtain ⟨b, off, e, _⟩ := h.1.at (by omega)
        obtain rfl := Option.some.inj e
        exact (h.1.later (below_alloc w _)).news j u hu
    have HCell := Lib.hid hcell
    have HLl := Lib.hid hl
    have HG := Lib.hid (show ∀ x ∈ L, ndK.good (w.alloc (.cells #[] 55)) x from fun x hx => ndK.later (h.2 x hx) (below_alloc w _))
    clear h hl hcell
    go_enter Try.func44, Try.ntmps44
    go_wp2_with (at_builtin; refine Kin.wpList_append hA rfl _ _ rfl w.heap.size _ [] rfl (Kin.Mine.lit0 w _) ad n c L rfl HLl.out HCell.out HG.out (by simp [maxLen]; omega) (by show (0 + n) * 40 ≤ _; omega) (by rw [blk_size]; omega) ?_)
    intro v' w5 hrow hgrow hnew
    have HX := Lib.hid hrow
    have HB := Lib.hid ((below_alloc w (.cells #[] 55)).grown hgrow (by rw [blk_size]; omega) (fun g hg => by simp [Value.ownBlock] at hg; omega))
    clear hrow hgrow hnew
    go_wp2
    go_ret
    exact ⟨v', rfl, HX.out, HB.out⟩
/-- An expression as it was, in memory of its own. -/
def LstX (L : List Nd) (w : World) (e : Ending) (w' : World) : Prop :=
  ∃ (a : Option Addr) (c : Nat) (L' : List Nd), e = .returned (.slice a L.length c) ∧ Nds w' a L.length c L' ∧ L'.map Nd.key = L.map Nd.key ∧ Below w.heap.size w w'
set_option maxRecDepth 4096 in
set_option maxHeartbeats 8000000 in
theorem tree_copied (a : Option Addr) (n c : Nat) (L : List Nd) (w : World) (h : Nds w a n c L) (hn : n ≤ 1000000) (ht : thinN 1000000 L) : Calls Try.prog 34 #[.slice a n c] w (LstX L w) := by
  have HC := Lib.hid (tree_cloneNodes a n c L w h hn)
  have hl := h.len
  subst hl
  have HT := Lib.hid ht
  clear h ht
  go_enter Try.func34, Try.ntmps34
  go_wp2_with fail
  refine HC.out.mono ?_
  rintro e w1 ⟨v, rfl, h1, b1⟩
  have HM := Lib.hid h1
  have HB1 := Lib.hid b1
  obtain ⟨a1, c1, rfl, hal⟩ := h1.slice
  have hbd := hal.bound
  have hb1 := b1.size
  clear h1 b1 HC hal
  go_wp2
  go_loopw [10] (fun iv wr => ∃ (k : Nat) (L' : List Nd), k ≤ L.length ∧ iv = .int .i64 (k : Int) ∧ Hid (L'.map Nd.key = L.map Nd.key) ∧ Hid (ndK.Mine wr w.heap.size 55 (.slice a1 L.length c1) L') ∧ Hid (Below w.heap.size w wr)) (fun iv _ => L.length - (intOf iv).toNat)
  case atStart => exact ⟨0, L, by omega, by go_num, Lib.hid rfl, HM, HB1⟩
  case round =>
    clear HM HB1
    obtain ⟨k, L', hk, rfl, HK, HM, HB⟩ := hrel
    by_cases hlt : k < L.length
    · have hki : (k : Int) < (L.length : Int) := by omega
      obtain ⟨g, rfl, hbg, hgs⟩ := HM.out.1.form (by omega)
      obtain ⟨x, hx⟩ := at_some (key_len HK.out) hlt
      have hxm := List.mem_of_getElem? hx
      have hw := HM.out.2 x hxm
      replace hw : Wd wr x.a x.n x.c x.l := hw
      have hxl := key_thin HK.out HT.out x hxm
      have hxn := hw.len
      have e0 : wr.cell? ⟨g, k * 3, none⟩ = some (.int .i64 x.op) := (HM.out.cell hx (q := 0) rfl).1
      have e1 : wr.cell? ⟨g, k * 3 + 1, none⟩ = some (.int .i64 x.i) := (HM.out.cell hx (q := 1) rfl).1
      have e2 : wr.cell? ⟨g, k * 3 + 2, none⟩ = some (.slice x.a x.n x.c) := (HM.out.cell hx (q := 2) rfl).1
      have ba := below_alloc wr (.cells #[.int .i64 x.op, .int .i64 x.i, .slice x.a x.n x.c] 55)
      obtain ⟨x0, x1, x2⟩ := nd_box (x := x) (blk_new wr #[.int .i64 x.op, .int .i64 x.i, .slice x.a x.n x.c] 55)
      have HC := Lib.hid (tree_cloneWords x.a x.n x.c x.l _ (hw.later ba) (by omega))
      have HBa := Lib.hid ba
      have HX := Lib.hid hx
      clear hw ba hx hxm
      go_wp2_with fail
      refine HC.out.mono ?_
      rintro e w2 ⟨a2, c2, rfl, h2, b2⟩
      have HM2 := Lib.hid ((HM.out.later HBa.out).later b2)
      have HB2 := Lib.hid (below_then (below_then HB.out HBa.out) b2)
      have hbs : w.heap.size ≤ w2.heap.size := HB2.out.size
      obtain ⟨hst, hgr⟩ := HM2.out.put (q := 2) (y := ⟨x.op, x.i, a2, x.n, c2, x.l⟩) (u := .slice a2 x.n c2) HX.out rfl (by decide) h2
      obtain ⟨p2, f2⟩ := HM2.out.cell HX.out (q := 2) rfl
      replace p2 : w2.cell? ⟨g, k * 3 + 2, none⟩ = some (.slice x.a x.n x.c) := p2
      replace f2 : w2.frozen? ⟨g, k * 3 + 2, none⟩ = false := f2
      have HS : Hid (ndK.Mine (w2.setCell ⟨g, k * 3 + 2, none⟩ (.slice a2 x.n c2)) w.heap.size 55 (.slice (some ⟨g, 0, none⟩) L.length c1) (L'.set k ⟨x.op, x.i, a2, x.n, c2, x.l⟩)) := Lib.hid hst
      have HB3 : Hid (Below w.heap.size w (w2.setCell ⟨g, k * 3 + 2, none⟩ (.slice a2 x.n c2))) := Lib.hid (HB2.out.grown hgr hbs (fun g9 hg9 => by cases hg9; omega))
      have HK3 : Hid ((L'.set k ⟨x.op, x.i, a2, x.n, c2, x.l⟩).map Nd.key = L.map Nd.key) := Lib.hid (by
        rw [← HK.out, List.map_set]
        refine List.ext_getElem? fun j => ?_
        by_cases hj : k = j
        · subst hj
          rw [List.getElem?_set_self (by rw [List.length_map, key_len HK.out]; exact hlt), List.getElem?_map, HX.out]; rfl
        · rw [List.getElem?_set_ne hj])
      clear hst hgr h2 b2 HM HM2 HB HB2 HK HC HBa e0 e1 e2 x0 x1 x2
      go_wp2
      go_roundw
      case rel => exact ⟨k + 1, _, by omega, by go_num, HK3, HS, HB3⟩
      case measure => simp [intOf]; omega
    · obtain rfl : k = L.length := by omega
      go_wp2
      go_ret
      obtain ⟨a9, c9, e9, h9⟩ := HM.out.slice
      rw [key_len HK.out] at e9 h9
      cases e9
      exact ⟨_, _, L', rfl, h9, HK.out, HB.out⟩
end Go.Proofs.Ytdhfnlpolelcpaa
