/-
  Package tree: Size, Codes.
-/
import Derived.Test.YtdhfnlpolelcpaaTree7
import Derived.Test.YtdhfnlpolelcpaaTree4
import Derived.WalkKit
import Derived.OwnWalk
namespace Go.Proofs.Ytdhfnlpolelcpaa
open Go.WideShapes Go.RowKit Go.Deep

theorem lt_sn_mem {K : List Lt} {O : List Sn} {x : Lt} (h : x ∈ K) : x.sn ∈ tCodes K O := List.mem_append.2 (.inl (List.mem_map.2 ⟨x, h, rfl⟩))
theorem tSize_bound {Z : List Sn} {k N : Nat} (h : ∀ x ∈ Z, x.n ≤ N) : tSize (Z.take k) ≤ k * N := by
  refine Nat.le_trans (tSize_le (N := N) fun y hy => h y (List.mem_of_mem_take hy)) ?_
  rw [List.length_take]
  exact Nat.mul_le_mul_right _ (Nat.min_le_left _ _)
set_option maxRecDepth 4096 in
set_option maxHeartbeats 8000000 in
theorem tree_size (a : Option Addr) (n c : Nat) (K : List Lt) (b : Option Addr) (m d : Nat) (O : List Sn) (w : World) (h : Lts w a n c K) (h2 : Sns w b m d O) (hn : n ≤ 5000) (hm : m ≤ 5000) (hs : ∀ x ∈ tCodes K O, x.n ≤ 1000000) :
    Calls Try.prog 26 #[fiV a n c b m d] w (Gives (.int .i64 (tSize (tCodes K O) : Int)) w) := by
  have HK := Lib.hid h
  have HO := Lib.hid h2
  have HKl := Lib.hid h.len
  have HOl := Lib.hid h2.len
  have hbd := h.bound
  have hbd2 := h2.bound
  have HSk : Hid (∀ x ∈ K.map Lt.sn, x.n ≤ 1000000) := Lib.hid (fun x hx => hs x (List.mem_append.2 (.inl hx)))
  have HSo : Hid (∀ x ∈ O, x.n ≤ 1000000) := Lib.hid (fun x hx => hs x (List.mem_append.2 (.inr hx)))
  have hR : tSize (tCodes K O) = tSize (K.map Lt.sn) + tSize O := by unfold tSize tCodes; rw [List.map_append, List.sum_append]
  rw [hR]
  have hkle : tSize (K.map Lt.sn) ≤ 5000 * 1000000 := Nat.le_trans (tSize_le HSk.out) (by rw [List.length_map, HKl.out]; omega)
  clear h h2 hs hR
  go_enter Try.func26, Try.ntmps26
  unfold fiV
  obtain ⟨f0, f1⟩ := cells2 (blk_new w #[.slice a n c, .slice b m d] 45)
  go_wp2
  go_loopw [3, 11] (fun sv iv wr => ∃ k : Nat, k ≤ n ∧ iv = .int .i64 (k : Int) ∧ sv = .int .i64 (tSize ((K.map Lt.sn).take k) : Int) ∧ Hid (Below w.heap.size w wr) ∧ Hid (wr.heap[w.heap.size]? = some (.cells #[.slice a n c, .slice b m d] 45 (0, 0)))) (fun _ iv _ => n - (intOf iv).toNat)
  case atStart => exact ⟨0, by omega, by go_num, by simp [tSize], Lib.hid (below_alloc _ _), Lib.hid (blk_new _ _ _)⟩
  case round =>
    clear f0 f1
    obtain ⟨k, hk, rfl, rfl, HB, HR⟩ := hrel
    by_cases hlt : k < n
    · have hki : (k : Int) < (n : Int) := by omega
      obtain ⟨x, hx⟩ := at_some HKl.out hlt
      obtain ⟨b0, off, rfl, e0, e1, -⟩ := Lts.get (Kin.All.later HK.out HB.out) hx
      have ba := below_alloc wr (.cells #[.string (bs x.t), .slice x.a x.n x.c] 71)
      have HB2 := Lib.hid (below_then HB.out ba)
      have HR2 := Lib.hid (blk_later HR.out ba)
      obtain ⟨x0, x1⟩ := cells2 (blk_new wr #[.string (bs x.t), .slice x.a x.n x.c] 71)
      have ht : tSize ((K.map Lt.sn).take (k + 1)) = tSize ((K.map Lt.sn).take k) + x.n := by
        rw [take_snoc (x := x.sn) (by rw [List.getElem?_map, hx]; rfl), tSize_snoc]; rfl
      have hle := tSize_bound (k := k) HSk.out
      have hxn : x.n ≤ 1000000 := HSk.out x.sn (List.mem_map.2 ⟨x, List.mem_of_getElem? hx, rfl⟩)
      have HTt := Lib.hid ht
      clear hx ht ba HB HR
      obtain ⟨s, hs⟩ : ∃ s, tSize ((K.map Lt.sn).take k) = s := ⟨_, rfl⟩
      rw [hs] at HTt hle ⊢
      have k1 : IntKind.i64.wrap ((s : Int) + (x.n : Int)) = ((s + x.n : Nat) : Int) := by rw [IntKind.wrap_i64]; omega
      clear hs
      go_wp2
      go_roundw
      case rel => exact ⟨k + 1, by omega, by go_num, by rw [HTt.out]; simp, HB2, HR2⟩
      case measure => simp [intOf]; omega
    · obtain rfl : k = n := by omega
      obtain ⟨f0, f1⟩ := cells2 HR.out
      have htk : (K.map Lt.sn).take k = K.map Lt.sn := List.take_of_length_le (by rw [List.length_map, HKl.out]; exact Nat.le_refl _)
      rw [htk]
      have HO2 := Lib.hid (Kin.All.later HO.out HB.out)
      generalize tSize (K.map Lt.sn) = s0 at *
      clear htk
      go_wp2
      go_loop [3, 24] (fun sv iv => ∃ j : Nat, j ≤ m ∧ iv = .int .i64 (j : Int) ∧ sv = .int .i64 ((s0 + tSize (O.take j) : Nat) : Int)) (fun _ iv => m - (intOf iv).toNat)
      case atStart => exact ⟨0, by omega, by go_num, by simp [tSize]⟩
      case round =>
        obtain ⟨j, hj, rfl, rfl⟩ := hrel
        by_cases hjt : j < m
        · have hji : (j : Int) < (m : Int) := by omega
          obtain ⟨x, hx⟩ := at_some HOl.out hjt
          obtain ⟨b0, off, rfl, e0, -⟩ := Sns.get HO2.out hx
          have ht : tSize (O.take (j + 1)) = tSize (O.take j) + x.n := by rw [take_snoc hx, tSize_snoc]
          have hle := tSize_bound (k := j) HSo.out
          have hxn : x.n ≤ 1000000 := HSo.out x (List.mem_of_getElem? hx)
          have HTt := Lib.hid ht
          clear hx ht
          obtain ⟨s, hs⟩ : ∃ s, tSize (O.take j) = s := ⟨_, rfl⟩
          rw [hs] at HTt hle ⊢
          have k1 : IntKind.i64.wrap (((s0 + s : Nat) : Int) + (x.n : Int)) = ((s0 + (s + x.n) : Nat) : Int) := by rw [IntKind.wrap_i64]; omega
          clear hs
          go_wp2
          go_round
          case rel => exact ⟨j + 1, by omega, by go_num, by rw [HTt.out]; first | rfl | (congr 1; omega) | simp⟩
          case measure => simp [intOf]; omega
        · obtain rfl : j = m := by omega
          have htk : O.take j = O := List.take_of_length_le (by rw [HOl.out]; exact Nat.le_refl _)
          rw [htk]
          clear htk
          go_wp2
          go_ret
          exact ⟨rfl, HB.out⟩
end Go.Proofs.Ytdhfnlpolelcpaa
