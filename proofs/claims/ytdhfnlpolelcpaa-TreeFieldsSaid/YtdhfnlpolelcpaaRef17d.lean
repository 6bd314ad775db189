/-
  The document's answer of layer 17: Codes, Size, SameField.
-/
import Derived.Test.YtdhfnlpolelcpaaRef17c
import Derived.WalkKit
import Derived.OwnWalk
import Derived.Deep.RegionHeld3
namespace Go.Proofs.Ytdhfnlpolelcpaa
open Go.RowKit

/-- Just these expressions, side by side. -/
def LstC (K : List Sn) (w : World) (e : Ending) (w' : World) : Prop :=
  ∃ (a : Option Addr) (n c : Nat), e = .returned (.slice a n c) ∧ Sns w' a n c K ∧ Below w.heap.size w w'
theorem sn_at {P : Program} {t e : TypeId} (ht : P.underlying t = some (.slice e)) (h : (P.info? e).map (fun i => (i.zero, i.size, i.bytes)) = some (some (.slice none 0 0), 1, 24)) : snK.toCls.At P t e :=
  Cls.atOf snK.toCls ht h rfl (fun u hu => by
    simp [Value.cells] at hu
    exact ⟨_, _, _, hu⟩)
theorem sn_news (w : World) (x : Sn) (e : TypeId) : ∀ j u, ([x].flatMap snK.cells)[j]? = some u → (w.alloc (.cells #[.slice x.a x.n x.c] e)).cell? ((⟨w.heap.size, 0, none⟩ : Addr).add j) = some u := Cls.news_one (C := snK.toCls) w x e
theorem infoCodes17 : (Try.prog.info? 22).map (fun i => (i.zero, i.size, i.bytes)) = some (some (.slice none 0 0), 1, 24) := by kernel_rfl
set_option maxRecDepth 4096 in
set_option maxHeartbeats 8000000 in
theorem ref17_codes (a : Option Addr) (n c : Nat) (K : List Lt) (b : Option Addr) (m d : Nat) (O : List Sn) (w : World) (h : Lts w a n c K) (h2 : Sns w b m d O) (hn : n ≤ 1000000) (hm : m ≤ 1000000) :
    Calls Try.prog 25 #[fiV a n c b m d] w (LstC (tCodes K O) w) := by
  have hA := sn_at Try.underlying34 infoCodes17
  have HKl := Lib.hid h.len
  have HOl := Lib.hid h2.len
  have hbd := h.bound
  have hbd2 := h2.bound
  have HK := Lib.hid h
  have HO := Lib.hid h2
  clear h h2
  go_enter Try.func25, Try.ntmps25
  unfold fiV
  go_wp2
  go_loopw [3, 4] (fun v iv wr => ∃ k : Nat, k ≤ n ∧ iv = .int .i64 (k : Int) ∧ Hid (snK.Mine wr (w.heap.size + 1) 22 v ((K.take k).map Lt.sn)) ∧ Hid (Below w.heap.size w wr) ∧ Hid (wr.heap[w.heap.size]? = some (.cells #[.slice a n c, .slice b m d] 41 (0, 0)))) (fun _ iv _ => n - (intOf iv).toNat)
  case atStart => exact ⟨0, by omega, by go_num, Lib.hid (Kin.Mine.nil _ _ _), Lib.hid (below_alloc _ _), Lib.hid (blk_new _ _ _)⟩
  case round =>
    obtain ⟨k, hk, rfl, HX, HB, HR⟩ := hrel
    obtain ⟨f0, f1⟩ := cells2 HR.out
    have hbs : w.heap.size + 1 ≤ wr.heap.size := (Array.getElem?_eq_some_iff.1 HR.out).1
    have HTl : Hid (((K.take k).map Lt.sn).length = k) := Lib.hid (by rw [List.length_map, List.length_take, HKl.out]; omega)
    by_cases hlt : k < n
    · have hki : (k : Int) < (n : Int) := by omega
      obtain ⟨x, hx⟩ := at_some HKl.out hlt
      obtain ⟨b0, off, rfl, e0, e1, hw2⟩ := Lts.get (Kin.All.later HK.out HB.out) hx
      have HN := Lib.hid hw2
      have HT2 : Hid ((K.take (k + 1)).map Lt.sn = (K.take k).map Lt.sn ++ [x.sn]) := Lib.hid (by rw [take_snoc hx]; simp)
      clear hw2 hx
      go_wp2_with (at_builtin; refine Kin.wpList_append hA rfl _ _ rfl (w.heap.size + 1) _ ((K.take k).map Lt.sn) rfl (Kin.Mine.later HX.out (below_alloc wr _)) ⟨wr.heap.size, 0, none⟩ 1 1 [x.sn] rfl rfl (sn_news wr x.sn _) (fun y hy => by rw [List.mem_singleton.1 hy]; exact Kin.All.later HN.out (below_alloc wr _)) (by rw [HTl.out]; unfold maxLen; omega) (by rw [HTl.out]; show (k + 1) * 24 ≤ _; omega) (by simp; omega) ?_)
      intro v' w5 hrow hgrow hnew
      have HX5 := Lib.hid hrow
      have HB5 : Hid (Below w.heap.size w w5) := Lib.hid ((below_then HB.out (below_alloc wr _)).grown hgrow (by simp; omega) (fun g hg => by have := Kin.Mine.base HX.out g hg; omega))
      have HR5 := Lib.hid (blk_stays (blk_later HR.out (below_alloc wr _)) hgrow (fun g hg => by have := Kin.Mine.base HX.out g hg; omega))
      clear hrow hgrow hnew
      go_wp2
      go_roundw
      case rel => exact ⟨k + 1, by omega, by go_num, Lib.hid (by rw [HT2.out, List.map_take]; exact HX5.out), HB5, HR5⟩
      case measure => simp [intOf]; omega
    · obtain rfl : k = n := by omega
      have htk : K.take k = K := List.take_of_length_le (by rw [HKl.out]; exact Nat.le_refl _)
      rw [htk] at HX HTl
      have HO9 := Lib.hid (Kin.All.later HO.out HB.out)
      clear htk
      cases b with
      | none =>
        have hd0 : d = 0 := HO.out.1.2.2.2.1 rfl
        have hm0 : m = 0 := by omega
        subst hd0 hm0
        obtain rfl : O = [] := List.eq_nil_of_length_eq_zero HOl.out
        go_wp2_with (at_builtin; refine Kin.wpList_append_none hA rfl _ _ rfl (w.heap.size + 1) _ (K.map Lt.sn) rfl HX.out rfl ?_)
        go_wp2
        go_ret
        obtain ⟨a9, c9, rfl, h9⟩ := HX.out.slice
        exact ⟨a9, _, c9, rfl, by unfold tCodes; rw [List.append_nil]; exact h9, HB.out⟩
      | some ad =>
        by_cases hm0 : m = 0
        · subst hm0
          obtain rfl : O = [] := List.eq_nil_of_length_eq_zero HOl.out
          go_wp2_with (at_builtin; refine Kin.wpList_append hA rfl _ _ rfl (w.heap.size + 1) _ (K.map Lt.sn) rfl HX.out ad 0 d [] rfl rfl (fun j u hu => by simp at hu) (fun y hy => by cases hy) (by rw [HTl.out]; unfold maxLen; omega) (by rw [HTl.out]; show (k + 0) * 24 ≤ _; omega) hbs ?_)
          intro v' w5 hrow hgrow hnew
          have HX5 := Lib.hid hrow
          have HB5 : Hid (Below w.heap.size w w5) := Lib.hid (HB.out.grown hgrow (by omega) (fun g hg => by have := Kin.Mine.base HX.out g hg; omega))
          clear hrow hgrow hnew
          go_wp2
          go_ret
          obtain ⟨a9, c9, rfl, h9⟩ := HX5.out.slice
          exact ⟨a9, _, c9, rfl, (by unfold tCodes; rw [List.append_nil]; simpa using h9), HB5.out⟩
        · obtain ⟨b0, off, e9, _⟩ := HO9.out.1.at (by omega)
          obtain rfl := Option.some.inj e9
          go_wp2_with (at_builtin; refine Kin.wpList_append hA rfl _ _ rfl (w.heap.size + 1) _ (K.map Lt.sn) rfl HX.out ⟨b0, off, none⟩ m d O rfl HOl.out HO9.out.1.news HO9.out.2 (by rw [HTl.out]; unfold maxLen; omega) (by rw [HTl.out]; show (k + m) * 24 ≤ _; omega) hbs ?_)
          intro v' w5 hrow hgrow hnew
          have HX5 := Lib.hid hrow
          have HB5 : Hid (Below w.heap.size w w5) := Lib.hid (HB.out.grown hgrow (by omega) (fun g hg => by have := Kin.Mine.base HX.out g hg; omega))
          clear hrow hgrow hnew
          go_wp2
          go_ret
          obtain ⟨a9, c9, rfl, h9⟩ := HX5.out.slice
          exact ⟨a9, _, c9, rfl, h9, HB5.out⟩
/-- How many nodes some expressions have. -/
def tSize (K : List Sn) : Nat := (K.map fun x => x.n).sum
theorem tSize_le {K : List Sn} {N : Nat} (h : ∀ x ∈ K, x.n ≤ N) : tSize K ≤ K.length * N := by
  induction K with
  | nil => exact Nat.zero_le _
  | cons x r ih =>
    have h1 := h x (by simp)
    have h2 := ih fun y hy => h y (by simp [hy])
    unfold tSize at h2 ⊢
    rw [List.map_cons, List.sum_cons, List.length_cons, Nat.add_mul]
    omega
theorem tSize_snoc (K : List Sn) (x : Sn) : tSize (K ++ [x]) = tSize K + x.n := by unfold tSize; simp
set_option maxRecDepth 4096 in
set_option maxHeartbeats 8000000 in
theorem ref17_size (a : Option Addr) (n c : Nat) (K : List Lt) (b : Option Addr) (m d : Nat) (O : List Sn) (w : World) (h : Lts w a n c K) (h2 : Sns w b m d O) (hn : n ≤ 5000) (hm : m ≤ 5000) (hs : ∀ x ∈ tCodes K O, x.n ≤ 1000000) :
    Calls Try.prog 27 #[fiV a n c b m d] w (Gives (.int .i64 (tSize (tCodes K O) : Int)) w) := by
  have HB := Lib.hid (below_alloc w (.cells #[.slice a n c, .slice b m d] 41))
  have HC := Lib.hid (ref17_codes a n c K b m d O _ (Kin.All.later h HB.out) (Kin.All.later h2 HB.out) (by omega) (by omega))
  have HX := Lib.hid (blk_new w #[.slice a n c, .slice b m d] 41)
  have hlen : (tCodes K O).length ≤ 10000 := by have := h.len; have := h2.len; unfold tCodes; simp; omega
  generalize tCodes K O = Z at *
  have HSz := Lib.hid hs
  clear h h2 hs
  obtain ⟨f0, f1⟩ := cells2 HX.out
  go_enter Try.func27, Try.ntmps27
  unfold fiV at *
  go_wp2_with fail
  refine HC.out.mono ?_
  rintro e w1 ⟨a1, n1, c1, rfl, h1, b1⟩
  have HZ := Lib.hid h1
  have HZl := Lib.hid h1.len
  have hbd := h1.bound
  have hn1 : n1 ≤ 10000 := by rw [← h1.len]; exact hlen
  have HB1 := Lib.hid (below_then HB.out b1)
  clear h1 b1 hlen
  go_wp2
  go_loop [3, 5] (fun sv iv => ∃ k : Nat, k ≤ n1 ∧ iv = .int .i64 (k : Int) ∧ sv = .int .i64 (tSize (Z.take k) : Int)) (fun _ iv => n1 - (intOf iv).toNat)
  case atStart => exact ⟨0, by omega, by go_num, by simp [tSize]⟩
  case round =>
    obtain ⟨k, hk, rfl, rfl⟩ := hrel
    by_cases hlt : k < n1
    · have hki : (k : Int) < (n1 : Int) := by omega
      obtain ⟨x, hx⟩ := at_some HZl.out hlt
      obtain ⟨b0, off, rfl, e0, hw2⟩ := Sns.get HZ.out hx
      have ht : tSize (Z.take (k + 1)) = tSize (Z.take k) + x.n := by rw [take_snoc hx, tSize_snoc]
      have hle : tSize (Z.take k) ≤ k * 1000000 := by
        refine Nat.le_trans (tSize_le (N := 1000000) fun y hy => HSz.out y (List.mem_of_mem_take hy)) ?_
        rw [List.length_take]
        exact Nat.mul_le_mul_right _ (Nat.min_le_left _ _)
      have hxn := HSz.out x (List.mem_of_getElem? hx)
      clear hx hw2
      obtain ⟨s, hs⟩ : ∃ s, tSize (Z.take k) = s := ⟨_, rfl⟩
      rw [hs] at ht hle ⊢
      have k1 : IntKind.i64.wrap ((s : Int) + (x.n : Int)) = ((s + x.n : Nat) : Int) := by rw [IntKind.wrap_i64]; omega
      have HTt := Lib.hid ht
      clear hs ht
      go_wp2
      go_round
      case rel => exact ⟨k + 1, by omega, by go_num, by rw [HTt.out]; simp⟩
      case measure => simp [intOf]; omega
    · obtain rfl : k = n1 := by omega
      have htk : Z.take k = Z := List.take_of_length_le (by rw [HZl.out]; exact Nat.le_refl _)
      rw [htk]
      clear htk
      go_wp2
      go_ret
      exact ⟨rfl, HB1.out⟩
end Go.Proofs.Ytdhfnlpolelcpaa
