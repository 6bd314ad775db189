/-
  The walks of the laws of layer 4: ProdTimes.
-/
import Derived.Test.YtpaenbikgehgcaaLaw04Walks2
import Derived.Deep.RegionWith
import Derived.Deep.CutRange
namespace Go.Proofs.Ytpaenbikgehgcaa
open Go.RowKit

/-- A cell that holds a word, as a list of one word. -/
theorem Wd.ofCell {w : World} {g x : Nat} (h : w.cell? ⟨g, 0, none⟩ = some (.int .u32 (x : Int))) (hx : x < 4294967296) : Wd w (some ⟨g, 0, none⟩) 1 1 [x] := by
  refine ⟨rfl, Nat.le_refl _, by omega, okw_cons.2 ⟨hx, okw_nil⟩, fun e => (by cases e), .inr ⟨g, 0, rfl, fun j hj => ?_⟩⟩
  obtain rfl : j = 0 := by omega
  exact h
theorem below_more {w w1 : World} (h : Below w.heap.size w w1) (o : Obj) : Below w.heap.size w (w1.alloc o) := below_then h (below_alloc _ _)
theorem below_drawn {w w1 : World} (h : Below w.heap.size w w1) : Below w.heap.size w w1.drew := h.drew
theorem cell_grown {w : World} {a : Addr} {v : Value} (o : Obj) (h : w.cell? a = some v) : (w.alloc o).drew.cell? a = some v := cell_later (below_alloc w o).drew h
theorem cell_more {w : World} {a : Addr} {v : Value} (o : Obj) (h : w.cell? a = some v) : (w.alloc o).cell? a = some v := cell_later (below_alloc w o) h
theorem box_first (w : World) (x y : Nat) (t : TypeId) : (w.alloc (.cells #[.int .u32 (x : Int), .int .u32 (y : Int)] t)).cell? ⟨w.heap.size, 0, none⟩ = some (.int .u32 (x : Int)) := by simp
theorem box_second (w : World) (x y : Nat) (t : TypeId) : (w.alloc (.cells #[.int .u32 (x : Int), .int .u32 (y : Int)] t)).cell? ⟨w.heap.size, 1, none⟩ = some (.int .u32 (y : Int)) := by simp
theorem cell_newest {w : World} {g x : Nat} {t : TypeId} (hg : g = w.heap.size) : (w.alloc (.cells #[.int .u32 (x : Int)] t)).drew.cell? ⟨g, 0, none⟩ = some (.int .u32 (x : Int)) := by
  subst hg
  show (w.alloc (.cells #[.int .u32 (x : Int)] t)).cell? ⟨w.heap.size, 0, none⟩ = _
  simp
set_option maxHeartbeats 4000000 in
theorem law04_times_in (a : Option Addr) (n cap : Nat) (la : List Nat) (b : Option Addr) (m cap' : Nat) (lb : List Nat) (x y : Nat) (w : World) (ha : Wd w a n cap la) (hb : Wd w b m cap' lb) (hx : x < 4294967296) (hy : y < 4294967296) (hn : n ≤ 100) (hm : m ≤ 100) :
    Calls Try.prog 3 #[.slice a n cap, .slice b m cap', .agg #[.int .u32 (x : Int), .int .u32 (y : Int)]] w (Gives (.bool true) w) := by
  have Ha := Lib.hid ha
  have Hb := Lib.hid hb
  have HL : Hid ((dg (val la * val [x])).length ≤ 101) := Lib.hid (by
    have h1 := dg_mul_length (val la) (val [x])
    have h2 := dg_length_val_le ha.ok
    have h3 := dg_length_val_le (l := [x]) (okw_cons.2 ⟨hx, okw_nil⟩)
    have h4 := ha.len
    simp only [List.length_cons, List.length_nil] at h3
    omega)
  have HX : Hid (val la * val [x] + val [y] = val la * x + y) := Lib.hid (by simp [val])
  clear ha hb
  go_enter Try.func3, Try.ntmps3
  go_wp2
  go_cut [7] from 17 to 25 (fun s wx => ∃ (a2 : Option Addr) (n2 c2 : Nat), s = .slice a2 n2 c2 ∧ Hid (Wd wx a2 n2 c2 (dg (val la * x + y))) ∧ wx.cell? ⟨w.heap.size, 0, none⟩ = some (.int .u32 (x : Int)) ∧ wx.cell? ⟨w.heap.size, 1, none⟩ = some (.int .u32 (y : Int)) ∧ Below w.heap.size w wx)
  case first =>
    go_region_with (first
      | (go_at_call 10; (refine (ref04_mul a n cap la _ 1 1 [x] _ ?q1 (Wd.ofCell ?q2 hx) ?q3 ?q4).mono ?_); (case q1 => (refine Ha.out.later ?_); (repeat (first | (exact Below.refl _ _) | (refine below_more ?_ _) | (refine below_drawn ?_)))); (case q2 => first | (simp; done) | ((refine cell_newest ?_); simp; done) | ((refine cell_grown _ ?_); simp; done)); (case q3 => omega); (case q4 => omega); rintro e w1 ⟨a1, n1, c1, rfl, h1, b1⟩; have hcc : w1.cell? ⟨w.heap.size, 0, none⟩ = some (.int .u32 (x : Int)) ∧ w1.cell? ⟨w.heap.size, 1, none⟩ = some (.int .u32 (y : Int)) ∧ Below w.heap.size w w1 := ?q5; rotate_left; (case q5 => refine ⟨cell_later b1 ?r1, cell_later b1 ?r2, below_then ?r3 b1⟩; (case r1 => repeat (first | (exact box_first _ _ _ _) | (refine cell_grown _ ?_) | (refine cell_more _ ?_))); (case r2 => repeat (first | (exact box_second _ _ _ _) | (refine cell_grown _ ?_) | (refine cell_more _ ?_))); (case r3 => repeat (first | (exact Below.refl _ _) | (refine below_more ?_ _) | (refine below_drawn ?_)))); obtain ⟨hcx, hcy, hBw⟩ := hcc)
      | (go_at_call 9; (refine (ref02_add a1 n1 c1 (dg (val la * val [x])) _ 1 1 [y] _ ?q1 (Wd.ofCell ?q2 hy) ?q3 ?q4).mono ?_); (case q1 => first | (exact h1) | (exact h1.later (below_alloc _ _))); (case q2 => first | (simp; done) | ((refine cell_later b1 ?_); first | (simp; done) | ((refine cell_newest ?_); simp; done) | ((refine cell_grown _ ?_); simp; done))); (case q3 => have h9 := h1.len; have h8 := HL.out; omega); (case q4 => omega); rintro e w2 ⟨a2, n2, c2, rfl, h2, b2⟩))
    all_goals (
      rw [val_dg, HX.out] at h2
      have HF : Hid (Wd w2 a2 n2 c2 (dg (val la * x + y))) := Lib.hid h2
      have hcc : w2.cell? ⟨w.heap.size, 0, none⟩ = some (.int .u32 (x : Int)) ∧ w2.cell? ⟨w.heap.size, 1, none⟩ = some (.int .u32 (y : Int)) ∧ Below w.heap.size w w2 := by
        first
        | exact ⟨cell_later b2 hcx, cell_later b2 hcy, below_then hBw b2⟩
        | exact ⟨cell_later b2 (cell_later (below_alloc _ _) hcx), cell_later b2 (cell_later (below_alloc _ _) hcy), below_then (below_more hBw _) b2⟩
      have Hcc := Lib.hid hcc
      clear h2 b2 hcc h1 b1 hcx hcy hBw
      go_wp2
      go_meet
      exact ⟨a2, n2, c2, rfl, HF, Hcc.out.1, Hcc.out.2.1, Hcc.out.2.2⟩)
  case rest =>
    obtain ⟨a2, n2, c2, rfl, H2, hcx, hcy, hB2⟩ := hcut
    have Hcx : Hid (∀ wz, Below wc.heap.size wc wz → wz.cell? ⟨w.heap.size, 0, none⟩ = some (.int .u32 (x : Int)) ∧ wz.cell? ⟨w.heap.size, 1, none⟩ = some (.int .u32 (y : Int))) := Lib.hid (fun wz hz => ⟨cell_later hz hcx, cell_later hz hcy⟩)
    clear hcx hcy
    go_wp2_with fail
    refine (prod_mul _ _ _ _ _ _ _ _ _ (Ha.out.later hB2) (Hb.out.later hB2) (by omega) (by omega)).mono ?_
    rintro e w3 ⟨a3, n3, c3, rfl, h3, b3⟩
    have H3 := Lib.hid h3
    have hB3 := below_then hB2 b3
    have hC3 := Lib.hid b3
    clear h3 b3
    go_wp2_with fail
    refine (ref04_mul _ _ _ _ _ _ _ _ _ (Ha.out.later hB3) (Hb.out.later hB3) (by omega) (by omega)).mono ?_
    rintro e w4 ⟨a4, n4, c4, rfl, h4, b4⟩
    have H3b := Lib.hid (H3.out.later b4)
    have H4 := Lib.hid h4
    have hB4 := below_then hB3 b4
    have hC4 := Lib.hid (below_then hC3.out b4)
    clear h4 b4 H3 hB3 hC3
    go_wp2_with fail
    refine (ref02_same_yes _ _ _ _ _ _ _ _ _ H3b.out H4.out rfl).mono ?_
    rintro e w5 ⟨rfl, b5⟩
    have hB5 := below_then hB4 b5
    have hC5 := Lib.hid (below_then hC4.out b5)
    clear b5 H3b H4 hB4 hC4
    go_wp2_with fail
    refine (prod_square _ _ _ _ _ (Ha.out.later hB5) (by omega)).mono ?_
    rintro e w6 ⟨a6, n6, c6, rfl, h6, b6⟩
    have H6 := Lib.hid h6
    have hB6 := below_then hB5 b6
    have hC6 := Lib.hid (below_then hC5.out b6)
    clear h6 b6 hB5 hC5
    go_wp2_with fail
    refine (ref04_mul _ _ _ _ _ _ _ _ _ (Ha.out.later hB6) (Ha.out.later hB6) (by omega) (by omega)).mono ?_
    rintro e w7 ⟨a7, n7, c7, rfl, h7, b7⟩
    have H6b := Lib.hid (H6.out.later b7)
    have H7 := Lib.hid h7
    have hB7 := below_then hB6 b7
    have hC7 := Lib.hid (below_then hC6.out b7)
    clear h7 b7 H6 hB6 hC6
    go_wp2_with fail
    refine (ref02_same_yes _ _ _ _ _ _ _ _ _ H6b.out H7.out rfl).mono ?_
    rintro e w8 ⟨rfl, b8⟩
    have hB8 := below_then hB7 b8
    have hC8 := Lib.hid (below_then hC7.out b8)
    obtain ⟨hcx, hcy⟩ := Hcx.out w8 hC8.out
    clear b8 H6b H7 hB7 hC7
    go_wp2_with fail
    refine (prod_word _ _ _ _ x y _ (Ha.out.later hB8) (by omega) hx hy).mono ?_
    rintro e w9 ⟨a9, n9, c9, rfl, h9, b9⟩
    have H9 := Lib.hid h9
    have hB9 := below_then hB8 b9
    have hC9 := Lib.hid (below_then hC8.out b9)
    clear h9 b9 hcx hcy hB8 hC8
    go_wp2_with fail
    refine (ref02_same_yes _ _ _ _ _ _ _ _ _ H9.out (H2.out.later hC9.out) rfl).mono ?_
    rintro e w10 ⟨rfl, b10⟩
    have hB10 := below_then hB9 b10
    clear b10 H9 hB9 hC9
    go_wp2_with fail
    refine (law04_works _).mono ?_
    rintro e wz ⟨rfl, bz⟩
    go_wp2
    go_ret
    exact ⟨rfl, below_then hB10 bz⟩
theorem law04_times_out (a : Option Addr) (n cap : Nat) (b : Option Addr) (m cap' : Nat) (x y : Nat) (w : World) (h1 : n ≤ 9223372036854775807) (h2 : m ≤ 9223372036854775807) (h : 100 < n ∨ 100 < m) :
    Calls Try.prog 3 #[.slice a n cap, .slice b m cap', .agg #[.int .u32 (x : Int), .int .u32 (y : Int)]] w (Gives (.bool true) w) := by
  by_cases hx : 100 < n
  · have hbi : (100 : Int) < (n : Int) := by omega
    clear h
    go_enter Try.func3, Try.ntmps3
    go_wp2_with fail
    refine (law04_works _).mono ?_
    rintro e wz ⟨rfl, bz⟩
    go_wp2
    go_ret
    exact ⟨rfl, below_then (below_alloc _ _) bz⟩
  · have hbi : (n : Int) ≤ 100 := by omega
    have hci : (100 : Int) < (m : Int) := by omega
    clear h
    go_enter Try.func3, Try.ntmps3
    go_wp2_with fail
    refine (law04_works _).mono ?_
    rintro e wz ⟨rfl, bz⟩
    go_wp2
    go_ret
    exact ⟨rfl, below_then (below_alloc _ _) bz⟩
theorem law04_times (a : Option Addr) (n cap : Nat) (la : List Nat) (b : Option Addr) (m cap' : Nat) (lb : List Nat) (x y : Nat) (w : World) (ha : Wd w a n cap la) (hb : Wd w b m cap' lb) (hx : x < 4294967296) (hy : y < 4294967296) :
    Calls Try.prog 3 #[.slice a n cap, .slice b m cap', .agg #[.int .u32 (x : Int), .int .u32 (y : Int)]] w (Gives (.bool true) w) := by
  have p1 := ha.bound
  have p2 := hb.bound
  by_cases h : 100 < n ∨ 100 < m
  · exact law04_times_out a n cap b m cap' x y w (by omega) (by omega) h
  · exact law04_times_in a n cap la b m cap' lb x y w ha hb hx hy (by omega) (by omega)
end Go.Proofs.Ytpaenbikgehgcaa
