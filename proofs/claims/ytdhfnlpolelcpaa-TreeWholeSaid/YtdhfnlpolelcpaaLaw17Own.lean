/-
  The laws of layer 17: To, Of; works.
-/
import Derived.Test.YtdhfnlpolelcpaaTreeSaid
import Derived.WalkKit
import Derived.Deep.RegionLaw
namespace Go.Proofs.Ytdhfnlpolelcpaa
open Go.RowKit

/-- Just these nodes, in a slice as long. -/
def LstN (L : List Nd) (w : World) (e : Ending) (w' : World) : Prop :=
  ∃ (a : Option Addr) (n c : Nat), e = .returned (.slice a n c) ∧ Nds w' a n c L ∧ Below w.heap.size w w'
theorem nd_at {P : Program} {t e : TypeId} (ht : P.underlying t = some (.slice e)) (h : (P.info? e).map (fun i => (i.zero, i.size, i.bytes)) = some (some (.agg #[.int .i64 0, .int .i64 0, .slice none 0 0]), 3, 40)) : ndK.toCls.At P t e :=
  Cls.atOf ndK.toCls ht h rfl (fun u hu => by
    simp [Value.cells] at hu
    rcases hu with rfl | rfl
    · exact .inl ⟨_, rfl⟩
    · exact .inr ⟨_, _, _, rfl⟩)
theorem nd_news (w : World) (x : Nd) (e : TypeId) : ∀ j u, ([x].flatMap ndK.cells)[j]? = some u → (w.alloc (.cells #[.int .i64 x.op, .int .i64 x.i, .slice x.a x.n x.c] e)).cell? ((⟨w.heap.size, 0, none⟩ : Addr).add j) = some u := Cls.news_one (C := ndK.toCls) w x e
theorem infoOf17 : (Try.prog.info? 63).map (fun i => (i.zero, i.size, i.bytes)) = some (some (.agg #[.int .i64 0, .int .i64 0, .slice none 0 0]), 3, 40) := by kernel_rfl
set_option maxRecDepth 4096 in
set_option maxHeartbeats 8000000 in
theorem law17_of (a0 : Option Addr) (n0 c0 : Nat) (L : List Nd) (w : World) (h0 : Nds w a0 n0 c0 L) (hn : n0 ≤ 1000000) :
    Calls Try.prog 21 #[.slice a0 n0 c0] w (LstN L w) := by
  have hA := nd_at Try.underlying22 infoOf17
  have HK0 := Lib.hid h0
  have HLl0 := Lib.hid h0.len
  have hbd0 := h0.bound
  clear h0
  go_enter Try.func21, Try.ntmps21
  go_wp2
  go_loopw [3, 4] (fun v iv wr => ∃ k : Nat, k ≤ n0 ∧ iv = .int .i64 (k : Int) ∧ Hid (ndK.Mine wr w.heap.size 63 v (L.take k)) ∧ Hid (Below w.heap.size w wr)) (fun _ iv _ => n0 - (intOf iv).toNat)
  case atStart => exact ⟨0, by omega, by go_num, Lib.hid (Kin.Mine.nil _ _ _), Lib.hid (Below.refl _ _)⟩
  case round =>
    obtain ⟨k, hk, rfl, HX, HB⟩ := hrel
    by_cases hlt : k < n0
    · obtain ⟨x, hx⟩ := at_some HLl0.out hlt
      have HT0 : Hid (L.take (k + 1) = L.take k ++ [x]) := Lib.hid (take_snoc hx)
      have HTk : Hid ((L.take k).length = k) := Lib.hid (by rw [List.length_take, HLl0.out]; omega)
      obtain ⟨bb0, off0, rfl, e00, e10, e20, hw⟩ := Nds.get (Kin.All.later HK0.out HB.out) hx
      have HN := Lib.hid hw
      clear hw hx
      have hki : (k : Int) < (n0 : Int) := by omega
      have hwb := HB.out.size
      go_wp2
      go_region_law (first
        | (refine Kin.step_append hA rfl _ _ rfl w.heap.size _ (L.take k) rfl (Kin.Mine.later HX.out ((below_draws wr 1).alloc (Nat.le_refl _) _)) ⟨_, 0, none⟩ 1 1 [x] rfl rfl (nd_news _ x _) (fun y hy => by rw [List.mem_singleton.1 hy]; exact Wd.later HN.out ((below_draws wr 1).alloc (Nat.le_refl _) _)) (by rw [HTk.out]; unfold maxLen; omega) (by rw [HTk.out]; show (k + 1) * 40 ≤ _; omega) (by simp; omega) ?_; intro v' w5 hrow hgrow hnew))
      all_goals (
        have HX5 := Lib.hid hrow
        have HB5 : Hid (Below w.heap.size w w5) := Lib.hid (((HB.out.trans ((below_draws wr 1).mono HB.out.size)).alloc (by simp; omega) _).grown hgrow (by simp; omega) (fun g hg => Kin.Mine.base HX.out g hg))
        clear hrow hgrow hnew
        go_wp2
        go_roundw
        (case rel => exact ⟨k + 1, by omega, by go_num, Lib.hid (by rw [HT0.out]; exact HX5.out), HB5⟩)
        (case measure => simp [intOf]; omega))
    · obtain rfl : k = n0 := by omega
      have htk : L.take k = L := List.take_of_length_le (by rw [HLl0.out]; exact Nat.le_refl _)
      rw [htk] at HX
      obtain ⟨a9, c9, rfl, h9⟩ := HX.out.slice
      have H9 := Lib.hid h9
      clear h9 htk
      go_wp2
      go_ret
      exact ⟨a9, L.length, c9, rfl, H9.out, HB.out⟩
theorem infoTo17 : (Try.prog.info? 55).map (fun i => (i.zero, i.size, i.bytes)) = some (some (.agg #[.int .i64 0, .int .i64 0, .slice none 0 0]), 3, 40) := by kernel_rfl
set_option maxRecDepth 4096 in
set_option maxHeartbeats 8000000 in
theorem law17_to (a0 : Option Addr) (n0 c0 : Nat) (L : List Nd) (w : World) (h0 : Nds w a0 n0 c0 L) (hn : n0 ≤ 1000000) :
    Calls Try.prog 10 #[.slice a0 n0 c0] w (LstN L w) := by
  have hA := nd_at Try.underlying25 infoTo17
  have HK0 := Lib.hid h0
  have HLl0 := Lib.hid h0.len
  have hbd0 := h0.bound
  clear h0
  go_enter Try.func10, Try.ntmps10
  go_wp2
  go_loopw [3, 4] (fun v iv wr => ∃ k : Nat, k ≤ n0 ∧ iv = .int .i64 (k : Int) ∧ Hid (ndK.Mine wr w.heap.size 55 v (L.take k)) ∧ Hid (Below w.heap.size w wr)) (fun _ iv _ => n0 - (intOf iv).toNat)
  case atStart => exact ⟨0, by omega, by go_num, Lib.hid (Kin.Mine.nil _ _ _), Lib.hid (Below.refl _ _)⟩
  case round =>
    obtain ⟨k, hk, rfl, HX, HB⟩ := hrel
    by_cases hlt : k < n0
    · obtain ⟨x, hx⟩ := at_some HLl0.out hlt
      have HT0 : Hid (L.take (k + 1) = L.take k ++ [x]) := Lib.hid (take_snoc hx)
      have HTk : Hid ((L.take k).length = k) := Lib.hid (by rw [List.length_take, HLl0.out]; omega)
      obtain ⟨bb0, off0, rfl, e00, e10, e20, hw⟩ := Nds.get (Kin.All.later HK0.out HB.out) hx
      have HN := Lib.hid hw
      clear hw hx
      have hki : (k : Int) < (n0 : Int) := by omega
      have hwb := HB.out.size
      go_wp2
      go_region_law (first
        | (refine Kin.step_append hA rfl _ _ rfl w.heap.size _ (L.take k) rfl (Kin.Mine.later HX.out ((below_draws wr 1).alloc (Nat.le_refl _) _)) ⟨_, 0, none⟩ 1 1 [x] rfl rfl (nd_news _ x _) (fun y hy => by rw [List.mem_singleton.1 hy]; exact Wd.later HN.out ((below_draws wr 1).alloc (Nat.le_refl _) _)) (by rw [HTk.out]; unfold maxLen; omega) (by rw [HTk.out]; show (k + 1) * 40 ≤ _; omega) (by simp; omega) ?_; intro v' w5 hrow hgrow hnew))
      all_goals (
        have HX5 := Lib.hid hrow
        have HB5 : Hid (Below w.heap.size w w5) := Lib.hid (((HB.out.trans ((below_draws wr 1).mono HB.out.size)).alloc (by simp; omega) _).grown hgrow (by simp; omega) (fun g hg => Kin.Mine.base HX.out g hg))
        clear hrow hgrow hnew
        go_wp2
        go_roundw
        (case rel => exact ⟨k + 1, by omega, by go_num, Lib.hid (by rw [HT0.out]; exact HX5.out), HB5⟩)
        (case measure => simp [intOf]; omega))
    · obtain rfl : k = n0 := by omega
      have htk : L.take k = L := List.take_of_length_le (by rw [HLl0.out]; exact Nat.le_refl _)
      rw [htk] at HX
      obtain ⟨a9, c9, rfl, h9⟩ := HX.out.slice
      have H9 := Lib.hid h9
      clear h9 htk
      go_wp2
      go_ret
      exact ⟨a9, L.length, c9, rfl, H9.out, HB.out⟩
end Go.Proofs.Ytdhfnlpolelcpaa
