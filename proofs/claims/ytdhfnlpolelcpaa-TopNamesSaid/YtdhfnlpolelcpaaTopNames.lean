/-
  The walk of TopNames: the names' numbers, told from outside. A second text of layer 17.
-/
import Derived.Test.YtdhfnlpolelcpaaNatSaid
import Derived.Test.YtdhfnlpolelcpaaWhole
import Derived.WalkKit
import Derived.Deep.RegionLaw
namespace Go.Proofs.Ytdhfnlpolelcpaa
open Go.RowKit

/-- A literal's numbers lie in its block. -/
theorem ints_new (w : World) (l : List Int) (A : Array Value) (t : TypeId) (hA : A = (l.map fun x => Value.int .i64 x).toArray) : ∀ (k : Nat) (x : Int), l[k]? = some x → (w.alloc (.cells A t)).cell? ⟨w.heap.size, k, none⟩ = some (.int .i64 x) := fun k x hk => by
  rw [blk_cell (blk_new w A t) k, hA]
  simp [hk]
/-- Numbers in a row. -/
theorem ups_at (s : Int) (n : Nat) {k : Nat} (h : k < n) : ((List.range n).map fun (i : Nat) => s + (i : Int))[k]? = some (s + (k : Int)) := by
  rw [List.getElem?_map, List.getElem?_range h]; rfl
def names17 : List Int := [4000, 60, 40, 300, 10, 12, 6, 6, 8, 8, 200, 4096, 1024]
theorem names17_at {k : Nat} (h : k < 13) : ∃ x, names17[k]? = some x := ⟨names17[k]'(by simpa [names17] using h), List.getElem?_eq_getElem _⟩
set_option maxRecDepth 4096 in
set_option maxHeartbeats 8000000 in
theorem top_names (S : NatSaid) (w : World) : Calls Try.prog 7 #[] w (Gives (.bool true) w) := by
  have HS := Lib.hid S
  go_enter Try.func7, Try.ntmps7
  have h1 : ∀ k : Nat, k < 9 → (w.alloc (.cells #[.int .i64 0, .int .i64 1, .int .i64 2, .int .i64 3, .int .i64 4, .int .i64 5, .int .i64 6, .int .i64 7, .int .i64 8] 3)).cell? ⟨w.heap.size, k, none⟩ = some (.int .i64 (k : Int)) := fun k hk => ints_new w [0, 1, 2, 3, 4, 5, 6, 7, 8] _ _ rfl k _ (by have := ups_at 0 9 hk; rw [Int.zero_add] at this; exact this)
  have HB : Hid (Below w.heap.size w (w.alloc (.cells #[.int .i64 0, .int .i64 1, .int .i64 2, .int .i64 3, .int .i64 4, .int .i64 5, .int .i64 6, .int .i64 7, .int .i64 8] 3))) := Lib.hid (below_alloc w _)
  go_wp2
  generalize hW1 : (w.alloc (.cells #[.int .i64 0, .int .i64 1, .int .i64 2, .int .i64 3, .int .i64 4, .int .i64 5, .int .i64 6, .int .i64 7, .int .i64 8] 3)) = w1 at *
  clear hW1
  go_loop [13] (fun iv => ∃ k : Nat, k ≤ 9 ∧ iv = .int .i64 (k : Int)) (fun iv => 9 - (intOf iv).toNat)
  case atStart => exact ⟨0, by omega, by go_num⟩
  case round =>
    obtain ⟨k, hk, rfl⟩ := hrel
    by_cases hlt : k < 9
    · have hki : (k : Int) < 9 := by omega
      have e0 := h1 k hlt
      go_wp2
      go_round
      case rel => exact ⟨k + 1, by omega, by go_num⟩
      case measure => simp [intOf]; omega
    · obtain rfl : k = 9 := by omega
      clear h1
      go_wp2_with fail
      have h2 : ∀ (k : Nat) (x : Int), names17[k]? = some x → ((w1.alloc (.cells #[.int .i64 4000, .int .i64 60, .int .i64 40, .int .i64 300, .int .i64 10, .int .i64 12, .int .i64 6, .int .i64 6, .int .i64 8, .int .i64 8, .int .i64 200, .int .i64 4096, .int .i64 1024] 3)).alloc (.cells #[.int .i64 4000, .int .i64 60, .int .i64 40, .int .i64 300, .int .i64 10, .int .i64 12, .int .i64 6, .int .i64 6, .int .i64 8, .int .i64 8, .int .i64 200, .int .i64 4096, .int .i64 1024] 3)).cell? ⟨w1.heap.size, k, none⟩ = some (.int .i64 x) := fun k x hk => cell_later (below_alloc _ _) (ints_new w1 names17 _ _ rfl k x hk)
      have h3 : ∀ (k : Nat) (x : Int), names17[k]? = some x → ((w1.alloc (.cells #[.int .i64 4000, .int .i64 60, .int .i64 40, .int .i64 300, .int .i64 10, .int .i64 12, .int .i64 6, .int .i64 6, .int .i64 8, .int .i64 8, .int .i64 200, .int .i64 4096, .int .i64 1024] 3)).alloc (.cells #[.int .i64 4000, .int .i64 60, .int .i64 40, .int .i64 300, .int .i64 10, .int .i64 12, .int .i64 6, .int .i64 6, .int .i64 8, .int .i64 8, .int .i64 200, .int .i64 4096, .int .i64 1024] 3)).cell? ⟨w1.heap.size + 1, k, none⟩ = some (.int .i64 x) := fun k x hk => by rw [← blk_size w1 (.cells #[.int .i64 4000, .int .i64 60, .int .i64 40, .int .i64 300, .int .i64 10, .int .i64 12, .int .i64 6, .int .i64 6, .int .i64 8, .int .i64 8, .int .i64 200, .int .i64 4096, .int .i64 1024] 3)]; exact ints_new (w1.alloc (.cells #[.int .i64 4000, .int .i64 60, .int .i64 40, .int .i64 300, .int .i64 10, .int .i64 12, .int .i64 6, .int .i64 6, .int .i64 8, .int .i64 8, .int .i64 200, .int .i64 4096, .int .i64 1024] 3)) names17 _ _ rfl k x hk
      replace HB : Hid (Below w.heap.size w ((w1.alloc (.cells #[.int .i64 4000, .int .i64 60, .int .i64 40, .int .i64 300, .int .i64 10, .int .i64 12, .int .i64 6, .int .i64 6, .int .i64 8, .int .i64 8, .int .i64 200, .int .i64 4096, .int .i64 1024] 3)).alloc (.cells #[.int .i64 4000, .int .i64 60, .int .i64 40, .int .i64 300, .int .i64 10, .int .i64 12, .int .i64 6, .int .i64 6, .int .i64 8, .int .i64 8, .int .i64 200, .int .i64 4096, .int .i64 1024] 3))) := Lib.hid (below_then HB.out (below_then (below_alloc w1 _) (below_alloc _ _)))
      generalize hW2 : ((w1.alloc (.cells #[.int .i64 4000, .int .i64 60, .int .i64 40, .int .i64 300, .int .i64 10, .int .i64 12, .int .i64 6, .int .i64 6, .int .i64 8, .int .i64 8, .int .i64 200, .int .i64 4096, .int .i64 1024] 3)).alloc (.cells #[.int .i64 4000, .int .i64 60, .int .i64 40, .int .i64 300, .int .i64 10, .int .i64 12, .int .i64 6, .int .i64 6, .int .i64 8, .int .i64 8, .int .i64 200, .int .i64 4096, .int .i64 1024] 3)) = w2 at *
      clear hW2
      go_loopw [27] (fun iv wr => ∃ k : Nat, k ≤ 13 ∧ iv = .int .i64 (k : Int) ∧ Hid (Below w2.heap.size w2 wr)) (fun iv _ => 13 - (intOf iv).toNat)
      case atStart => exact ⟨0, by omega, by go_num, Lib.hid (Below.refl _ _)⟩
      case round =>
        obtain ⟨k, hk, rfl, HW⟩ := hrel
        by_cases hlt : k < 13
        · have hki : (k : Int) < 13 := by omega
          obtain ⟨x, hx⟩ := names17_at hlt
          have e0 := cell_later HW.out (h2 k x hx)
          have e1 := cell_later HW.out (h3 k x hx)
          go_wp2
          go_region
          go_wp2
          go_roundw
          case rel => exact ⟨k + 1, by omega, by go_num, Lib.hid (below_then HW.out (below_draws _ _))⟩
          case measure => simp [intOf]; omega
        · obtain rfl : k = 13 := by omega
          have HB2 := Lib.hid (below_then HB.out HW.out)
          clear h2 h3 HB HW hk hlt
          go_wp2_with fail
          have h4 : ∀ k : Nat, k < 3 → (wr.alloc (.cells #[.int .i64 1, .int .i64 2, .int .i64 3] 3)).cell? ⟨wr.heap.size, k, none⟩ = some (.int .i64 ((k : Int) + 1)) := fun k hk => ints_new wr [1, 2, 3] _ _ rfl k _ (by have := ups_at 1 3 hk; rw [Int.add_comm] at this; exact this)
          have HB4 := Lib.hid (below_then HB2.out (below_alloc wr (.cells #[.int .i64 1, .int .i64 2, .int .i64 3] 3)))
          generalize hW : (wr.alloc (.cells #[.int .i64 1, .int .i64 2, .int .i64 3] 3)) = w4 at *
          clear hW HB2
          go_loop [43] (fun iv => ∃ k : Nat, k ≤ 3 ∧ iv = .int .i64 (k : Int)) (fun iv => 3 - (intOf iv).toNat)
          case atStart => exact ⟨0, by omega, by go_num⟩
          case round =>
            obtain ⟨k, hk, rfl⟩ := hrel
            by_cases hlt : k < 3
            · have hki : (k : Int) < 3 := by omega
              have e0 := h4 k hlt
              go_wp2
              go_round
              case rel => exact ⟨k + 1, by omega, by go_num⟩
              case measure => simp [intOf]; omega
            · obtain rfl : k = 3 := by omega
              clear h4 hk hlt
              go_wp2_with fail
              have h5 : ∀ k : Nat, k < 11 → (w4.alloc (.cells #[.int .i64 1, .int .i64 2, .int .i64 3, .int .i64 4, .int .i64 5, .int .i64 6, .int .i64 7, .int .i64 8, .int .i64 9, .int .i64 10, .int .i64 11] 3)).cell? ⟨w4.heap.size, k, none⟩ = some (.int .i64 ((k : Int) + 1)) := fun k hk => ints_new w4 [1, 2, 3, 4, 5, 6, 7, 8, 9, 10, 11] _ _ rfl k _ (by have := ups_at 1 11 hk; rw [Int.add_comm] at this; exact this)
              have HB5 := Lib.hid (below_then HB4.out (below_alloc w4 (.cells #[.int .i64 1, .int .i64 2, .int .i64 3, .int .i64 4, .int .i64 5, .int .i64 6, .int .i64 7, .int .i64 8, .int .i64 9, .int .i64 10, .int .i64 11] 3)))
              generalize hW : (w4.alloc (.cells #[.int .i64 1, .int .i64 2, .int .i64 3, .int .i64 4, .int .i64 5, .int .i64 6, .int .i64 7, .int .i64 8, .int .i64 9, .int .i64 10, .int .i64 11] 3)) = w5 at *
              clear hW HB4
              go_loop [57] (fun iv => ∃ k : Nat, k ≤ 11 ∧ iv = .int .i64 (k : Int)) (fun iv => 11 - (intOf iv).toNat)
              case atStart => exact ⟨0, by omega, by go_num⟩
              case round =>
                obtain ⟨k, hk, rfl⟩ := hrel
                by_cases hlt : k < 11
                · have hki : (k : Int) < 11 := by omega
                  have e0 := h5 k hlt
                  go_wp2
                  go_round
                  case rel => exact ⟨k + 1, by omega, by go_num⟩
                  case measure => simp [intOf]; omega
                · obtain rfl : k = 11 := by omega
                  clear h5 hk hlt
                  go_wp2_with fail
                  refine (HS.out.of 2 _ (by omega)).mono ?_
                  rintro e w6 ⟨a1, n1, c1, rfl, k1, b1⟩
                  have HB6 := Lib.hid (below_then HB5.out b1)
                  go_wp2_with fail
                  refine (HS.out.of 1 _ (by omega)).mono ?_
                  rintro e w7 ⟨a2, n2, c2, rfl, k2, b2⟩
                  have HB7 := Lib.hid (below_then HB6.out b2)
                  have K1 := Lib.hid (k1.later b2)
                  have K2 := Lib.hid k2
                  have m1 := k1.len
                  have m2 := k2.len
                  have d1 : (dg 2).length = 1 := by decide +kernel
                  have d2 : (dg 1).length = 1 := by decide +kernel
                  clear k1 k2 b1 b2
                  go_wp2_with fail
                  refine (HS.out.cmp _ _ _ _ _ _ _ _ _ K1.out K2.out (by omega) (by omega)).mono ?_
                  rintro e w8 ⟨rfl, b3⟩
                  have hc : cmpI (val (dg 2)) (val (dg 1)) = 1 := by decide +kernel
                  rw [hc]
                  go_wp2
                  go_ret
                  exact ⟨rfl, below_then HB7.out b3⟩
end Go.Proofs.Ytdhfnlpolelcpaa
