/-
  The walks of the laws of layer 17: works.
-/
import Derived.Test.YtdhfnlpolelcpaaLaw17Own
import Derived.WalkKit
namespace Go.Proofs.Ytdhfnlpolelcpaa
open Go.RowKit

/-- A node of just an operation. -/
def ndOp (op : Int) : Nd := ⟨op, 0, none, 0, 0, []⟩
theorem nd_op_good (w : World) (op : Int) : ndK.good w (ndOp op) := Wd.ofNil w
theorem ops_good {w : World} {l : List Int} : ∀ x ∈ l.map ndOp, ndK.good w x := fun x hx => by
  obtain ⟨op, _, rfl⟩ := List.mem_map.1 hx
  exact nd_op_good w op
theorem ops_thin {M : Nat} {l : List Int} : thinN M (l.map ndOp) := fun x hx => by
  obtain ⟨op, _, rfl⟩ := List.mem_map.1 hx
  exact Nat.zero_le _
def exSum : Ex Nd := .two (.leaf (ndOp 1)) (.leaf (ndOp 2)) (ndOp 7)
theorem exSum_ok : exSum.ok Nd.op := ⟨by show tAr 1 = 0; decide, by show tAr 2 = 0; decide, by show tAr 7 = 2; decide⟩
theorem exSum_flat : exSum.flat = [ndOp 1, ndOp 2, ndOp 7] := rfl
theorem wrong_127 : tWrong ([ndOp 1, ndOp 2, ndOp 7].map Nd.op) = -1 := by decide
theorem wrong_7 : tWrong ([ndOp 7].map Nd.op) = 0 := by decide
theorem wrong_11 : tWrong ([ndOp 1, ndOp 1].map Nd.op) = 2 := by decide
theorem depth_127 : tDepth ([ndOp 1, ndOp 2, ndOp 7].map Nd.op) = 2 := by rw [← exSum_flat]; exact tDepth_flat _ exSum_ok
theorem nd_cells3 {w : World} {g : Nat} {x y : Int} {v : Value} {t : TypeId} (h : w.heap[g]? = some (.cells #[.int .i64 x, .int .i64 y, v] t (0, 0))) : w.cell? ⟨g, 0, none⟩ = some (.int .i64 x) ∧ w.cell? ⟨g, 1, none⟩ = some (.int .i64 y) ∧ w.cell? ⟨g, 2, none⟩ = some v := ⟨by rw [blk_cell h]; rfl, by rw [blk_cell h]; rfl, by rw [blk_cell h]; rfl⟩
set_option maxRecDepth 4096 in
set_option maxHeartbeats 8000000 in
theorem law17_works (S : TreeSaid) (w : World) : Calls Try.prog 9 #[] w (Gives (.bool true) w) := by
  have HX := Lib.hid (blk_new w #[.int .i64 1, .int .i64 0, .slice none 0 0] 55)
  have HB := Lib.hid (below_alloc w (.cells #[.int .i64 1, .int .i64 0, .slice none 0 0] 55))
  have HL : Hid (Nds ((w.alloc (.cells #[.int .i64 1, .int .i64 0, .slice none 0 0] 55)).alloc (.cells #[.int .i64 1, .int .i64 0, .slice none 0 0, .int .i64 2, .int .i64 0, .slice none 0 0, .int .i64 7, .int .i64 0, .slice none 0 0] 55)) (some ⟨w.heap.size + 1, 0, none⟩) 3 3 [ndOp 1, ndOp 2, ndOp 7]) :=
    Lib.hid (by rw [← blk_size w (.cells #[.int .i64 1, .int .i64 0, .slice none 0 0] 55)]; exact Kin.All.lit (K := ndK) (w.alloc (.cells #[.int .i64 1, .int .i64 0, .slice none 0 0] 55)) [ndOp 1, ndOp 2, ndOp 7] 55 rfl (by omega) (ops_good (l := [1, 2, 7])))
  obtain ⟨e0, e1, e2⟩ := nd_cells3 HX.out
  go_enter Try.func9, Try.ntmps9
  go_wp2_with fail
  have HB1 := Lib.hid (below_then HB.out (below_alloc (w.alloc (.cells #[.int .i64 1, .int .i64 0, .slice none 0 0] 55)) (.cells #[.int .i64 1, .int .i64 0, .slice none 0 0, .int .i64 2, .int .i64 0, .slice none 0 0, .int .i64 7, .int .i64 0, .slice none 0 0] 55)))
  have HX1 := Lib.hid (blk_later HX.out (below_alloc (w.alloc (.cells #[.int .i64 1, .int .i64 0, .slice none 0 0] 55)) (.cells #[.int .i64 1, .int .i64 0, .slice none 0 0, .int .i64 2, .int .i64 0, .slice none 0 0, .int .i64 7, .int .i64 0, .slice none 0 0] 55)))
  refine (S.parts _ 3 3 [ndOp 1, ndOp 2, ndOp 7] 0 _ HL.out (by omega) (ops_thin (l := [1, 2, 7])) (by omega) exSum exSum_ok exSum_flat).mono ?_
  rintro e w1 ⟨a1, n1, c1, K1, rfl, h1, hK, -, b1⟩
  obtain rfl : n1 = 2 := by rw [← h1.len, ← List.length_map Sn.sem, hK]; rfl
  have HB2 := Lib.hid (below_then HB1.out b1)
  have HX2 := Lib.hid (blk_later HX1.out b1)
  have HL2 := Lib.hid (Kin.All.later HL.out b1)
  clear h1 hK b1 HB1 HX1 HL e0 e1 e2 HX HB
  go_wp2_with fail
  refine (S.right _ 3 3 [ndOp 1, ndOp 2, ndOp 7] _ HL2.out (by omega)).mono ?_
  rintro e w2 ⟨rfl, b2⟩
  rw [wrong_127]
  have HB3 := Lib.hid (below_then HB2.out b2)
  have HX3 := Lib.hid (blk_later HX2.out b2)
  have HL3 := Lib.hid (Kin.All.later HL2.out b2)
  have HC3 := Lib.hid (Nds.cut HL3.out (i := 2) (j := 3) (by omega) (by omega))
  clear b2 HB2 HX2 HL2
  go_wp2_with fail
  refine (S.wrong _ 1 1 [ndOp 7] _ HC3.out (by omega)).mono ?_
  rintro e w3 ⟨rfl, b3⟩
  rw [wrong_7]
  have HB4 := Lib.hid (below_then HB3.out b3)
  have HX4 := Lib.hid (blk_later HX3.out b3)
  have HL4 := Lib.hid (Kin.All.later HL3.out b3)
  obtain ⟨e0, e1, e2⟩ := nd_cells3 HX4.out
  clear b3 HB3 HX3 HL3 HC3
  go_wp2_with fail
  have HM : Hid (Nds (w3.alloc (.cells #[.int .i64 1, .int .i64 0, .slice none 0 0, .int .i64 1, .int .i64 0, .slice none 0 0] 55)) (some ⟨w3.heap.size, 0, none⟩) 2 2 [ndOp 1, ndOp 1]) :=
    Lib.hid (Kin.All.lit (K := ndK) w3 [ndOp 1, ndOp 1] 55 rfl (by omega) (ops_good (l := [1, 1])))
  have HB5 := Lib.hid (below_then HB4.out (below_alloc w3 (.cells #[.int .i64 1, .int .i64 0, .slice none 0 0, .int .i64 1, .int .i64 0, .slice none 0 0] 55)))
  have HL5 := Lib.hid (Kin.All.later HL4.out (below_alloc w3 (.cells #[.int .i64 1, .int .i64 0, .slice none 0 0, .int .i64 1, .int .i64 0, .slice none 0 0] 55)))
  refine (S.wrong _ 2 2 [ndOp 1, ndOp 1] _ HM.out (by omega)).mono ?_
  rintro e w4 ⟨rfl, b4⟩
  rw [wrong_11]
  have HB6 := Lib.hid (below_then HB5.out b4)
  have HL6 := Lib.hid (Kin.All.later HL5.out b4)
  clear b4 HB4 HX4 HL4 HM HB5 HL5 e0 e1 e2
  go_wp2_with fail
  refine (S.depth _ 3 3 [ndOp 1, ndOp 2, ndOp 7] _ HL6.out (by omega)).mono ?_
  rintro e w5 ⟨rfl, b5⟩
  rw [depth_127]
  go_wp2
  go_ret
  exact ⟨rfl, below_then HB6.out b5⟩
end Go.Proofs.Ytdhfnlpolelcpaa
