/-
  Several texts of this claim as one, group 8.
-/
import Derived.Test.YtipcgehcineblaaG7
import Derived.Test.YtipcgehcineblaaG2
import Derived.Test.YtipcgehcineblaaG1
import Derived.Test.YtipcgehcineblaaG3
import Derived.Test.YtipcgehcineblaaG5
import Derived.Deep.RegionHeld3
import Derived.Deep.RegionWith
import Derived.Deep.CutRange
import Derived.Test.YtipcgehcineblaaG4
/-
  What package frac's functions owe (layer 9), as one hypothesis: the contracts that the laws' walks lean on. In rational numbers.
-/
namespace Go.Proofs.Ytipcgehcineblaa
open Go.RowKit

/-- In the world w the value v is a fraction of the value q, of at most N words each. -/
def Fr (w : World) (v : Value) (q : Rat) (N : Nat) : Prop :=
  ∃ (neg : Bool) (a : Option Addr) (n cap : Nat) (la : List Nat) (b : Option Addr) (m cap' : Nat) (lb : List Nat), v = frV neg a n cap b m cap' ∧ Wd w a n cap la ∧ Wd w b m cap' lb ∧ n ≤ N ∧ m ≤ N ∧ qval neg (val la) (val lb) = q
/-- The right one. -/
def Rt (w : World) (v : Value) (q : Rat) (N : Nat) : Prop :=
  ∃ (a : Option Addr) (n cap : Nat) (b : Option Addr) (m cap' : Nat), v = frV (zneg q.num) a n cap b m cap' ∧ Wd w a n cap (dg q.num.natAbs) ∧ Wd w b m cap' (dg q.den) ∧ n ≤ N ∧ m ≤ N
theorem Fr.of {w : World} {neg : Bool} {a : Option Addr} {n cap : Nat} {la : List Nat} {b : Option Addr} {m cap' : Nat} {lb : List Nat} {q : Rat} {N : Nat} (ha : Wd w a n cap la) (hb : Wd w b m cap' lb) (hn : n ≤ N) (hm : m ≤ N) (hq : qval neg (val la) (val lb) = q) : Fr w (frV neg a n cap b m cap') q N :=
  ⟨neg, a, n, cap, la, b, m, cap', lb, rfl, ha, hb, hn, hm, hq⟩
theorem Rt.of {w : World} {a : Option Addr} {n cap : Nat} {b : Option Addr} {m cap' : Nat} {q : Rat} {N : Nat} (ha : Wd w a n cap (dg q.num.natAbs)) (hb : Wd w b m cap' (dg q.den)) (hn : n ≤ N) (hm : m ≤ N) : Rt w (frV (zneg q.num) a n cap b m cap') q N :=
  ⟨a, n, cap, b, m, cap', rfl, ha, hb, hn, hm⟩
theorem Rt.fr {w : World} {v : Value} {q : Rat} {N : Nat} (h : Rt w v q N) : Fr w v q N := by
  obtain ⟨a, n, cap, b, m, cap', rfl, ha, hb, hn, hm⟩ := h
  exact Fr.of ha hb hn hm (qval_dg q)
theorem Fr.right {w : World} {a : Option Addr} {n cap : Nat} {b : Option Addr} {m cap' : Nat} {q : Rat} {N : Nat} (ha : Wd w a n cap (dg q.num.natAbs)) (hb : Wd w b m cap' (dg q.den)) (hn : n ≤ N) (hm : m ≤ N) : Fr w (frV (zneg q.num) a n cap b m cap') q N := (Rt.of ha hb hn hm).fr
/-- How many words its right one has, at most. -/
def qlen (q : Rat) : Nat := max (dg q.num.natAbs).length (dg q.den).length
theorem qlen_num (q : Rat) : (dg q.num.natAbs).length ≤ qlen q := Nat.le_max_left _ _
theorem qlen_den (q : Rat) : (dg q.den).length ≤ qlen q := Nat.le_max_right _ _
theorem qlen_le {q : Rat} {N : Nat} (h1 : (dg q.num.natAbs).length ≤ N) (h2 : (dg q.den).length ≤ N) : qlen q ≤ N := Nat.max_le.2 ⟨h1, h2⟩
theorem Fr.len {w : World} {v : Value} {q : Rat} {N : Nat} (h : Fr w v q N) : qlen q ≤ N + 1 := by
  obtain ⟨neg, a, n, cap, la, b, m, cap', lb, rfl, ha, hb, hn, hm, rfl⟩ := h
  by_cases hv : val lb = 0
  · rw [qval_none neg (.inl hv)]
    refine qlen_le ?_ ?_
    · show (dg (0 : Nat)).length ≤ _
      rw [dg_zero]; exact Nat.zero_le _
    · show (dg (1 : Nat)).length ≤ _
      have := dg_one_length; omega
  · obtain ⟨h1, h2⟩ := qval_parts neg (u := val la) hv
    refine qlen_le ?_ ?_
    · rw [h1, zval_abs]
      exact Nat.le_trans (dg_length_mono (Nat.div_le_self _ _)) (Nat.le_trans ha.trim_le (by omega))
    · rw [h2]
      exact Nat.le_trans (dg_length_mono (Nat.div_le_self _ _)) (Nat.le_trans hb.trim_le (by omega))
/-- A right fraction and one more result. -/
def LstQV (q : Rat) (v : Value) (w : World) (e : Ending) (w' : World) : Prop :=
  ∃ (a : Option Addr) (n cap : Nat) (b : Option Addr) (m cap' : Nat), e = .returned (.tuple #[frV (zneg q.num) a n cap b m cap', v]) ∧ Wd w' a n cap (dg q.num.natAbs) ∧ Wd w' b m cap' (dg q.den) ∧ Below w.heap.size w w'
structure FracSaid : Prop where
  new : ∀ (neg : Bool) (a : Option Addr) (n cap : Nat) (la : List Nat) (b : Option Addr) (m cap' : Nat) (lb : List Nat) (q : Rat) (w : World), Wd w a n cap la → Wd w b m cap' lb → n ≤ 2097152000 → m ≤ 2097152000 → qval neg (val la) (val lb) = q → Calls Try.prog 48 #[whV neg a n cap, .slice b m cap'] w (LstQV q (.bool (decide (val lb ≠ 0))) w)
  of : ∀ (z : Int) (w : World), isInt z → Calls Try.prog 21 #[.int .i64 z] w (LstQ (z : Rat) w)
  norm : ∀ (v : Value) (q : Rat) (w : World), Fr w v q 2097152000 → Calls Try.prog 27 #[v] w (LstQ q w)
  sign : ∀ (v : Value) (q : Rat) (w : World), Fr w v q 2097152000 → Calls Try.prog 32 #[v] w (Gives (.int .i64 (sgn q.num)) w)
  cmp : ∀ (v u : Value) (p q : Rat) (w : World), Fr w v p 2097152000 → Fr w u q 2097152000 → Calls Try.prog 26 #[v, u] w (Gives (.int .i64 (sgn (p - q).num)) w)
  same : ∀ (v u : Value) (p q : Rat) (w : World), Fr w v p 2097152000 → Fr w u q 2097152000 → Calls Try.prog 11 #[v, u] w (Gives (.bool (decide (p = q))) w)
  add : ∀ (v u : Value) (p q : Rat) (w : World), Fr w v p 2097152000 → Fr w u q 2097152000 → Calls Try.prog 15 #[v, u] w (LstQ (p + q) w)
  sub : ∀ (v u : Value) (p q : Rat) (w : World), Fr w v p 2097152000 → Fr w u q 2097152000 → Calls Try.prog 64 #[v, u] w (LstQ (p - q) w)
  mul : ∀ (v u : Value) (p q : Rat) (w : World), Fr w v p 2097152000 → Fr w u q 2097152000 → Calls Try.prog 13 #[v, u] w (LstQ (p * q) w)
  quo : ∀ (v u : Value) (p q : Rat) (w : World), Fr w v p 2097152000 → Fr w u q 2097152000 → Calls Try.prog 40 #[v, u] w (LstQV (p / q) (.bool (decide (q ≠ 0))) w)
end Go.Proofs.Ytipcgehcineblaa

/-
  Plain mathematics: common divisors by halving and taking away. Nothing of the program.
-/
namespace Go.Proofs.Ytipcgehcineblaa

end Go.Proofs.Ytipcgehcineblaa

/-
  The contracts of the document's answer for layer 6: Zeros, Less in a window, down, odd, double.
-/
namespace Go.Proofs.Ytipcgehcineblaa
open Go.RowKit

end Go.Proofs.Ytipcgehcineblaa

/-
  The contracts of the document's answer for layer 6: double, Gcd, One, Over, Lcm.
-/
namespace Go.Proofs.Ytipcgehcineblaa
open Go.RowKit

end Go.Proofs.Ytipcgehcineblaa

/-
  The contracts of the document's answer for layer 6: One, Over, Lcm.
-/
namespace Go.Proofs.Ytipcgehcineblaa
open Go.RowKit

end Go.Proofs.Ytipcgehcineblaa

/-
  The contracts of the document's answer for layer 9: Norm.
-/
namespace Go.Proofs.Ytipcgehcineblaa
open Go.RowKit

theorem blk_set3 {w : World} {g : Nat} {x y z : Value} {t : TypeId} (h : w.heap[g]? = some (.cells #[x, y, z] t (0, 0))) (u v q : Value) : (((w.setCell ⟨g, 0, none⟩ u).setCell ⟨g, 1, none⟩ v).setCell ⟨g, 2, none⟩ q).heap[g]? = some (.cells #[u, v, q] t (0, 0)) := by
  have h1 := blk_set (blk_set (blk_set h 0 u) 1 v) 2 q
  simpa using h1
theorem no_words3 {b : Bool} {a : Option Addr} {n cap : Nat} {c : Option Addr} {m cap' : Nat} : ∀ (j : Nat) (k : Int), (#[Value.bool b, .slice a n cap, .slice c m cap'] : Array Value)[j]? ≠ some (.int .u32 k) := by
  intro j k
  match j with
  | 0 => simp
  | 1 => simp
  | 2 => simp
  | j + 3 => simp
theorem Wd.stored3 {w : World} {a : Option Addr} {n cap : Nat} {l : List Nat} (h : Wd w a n cap l) {g : Nat} {b : Bool} {x : Option Addr} {y z : Nat} {x' : Option Addr} {y' z' : Nat} {t : TypeId} (hg : w.heap[g]? = some (.cells #[.bool b, .slice x y z, .slice x' y' z'] t (0, 0))) (c : Bool) (e : Option Addr) (i j : Nat) (v : Value) :
    Wd (((w.setCell ⟨g, 0, none⟩ (.bool c)).setCell ⟨g, 1, none⟩ (.slice e i j)).setCell ⟨g, 2, none⟩ v) a n cap l := by
  have h1 := h.stored hg no_words3 0 (.bool c)
  have g1 : (w.setCell ⟨g, 0, none⟩ (.bool c)).heap[g]? = some (.cells #[.bool c, .slice x y z, .slice x' y' z'] t (0, 0)) := by simpa using blk_set hg 0 (.bool c)
  have h2 := h1.stored g1 no_words3 1 (.slice e i j)
  have g2 : ((w.setCell ⟨g, 0, none⟩ (.bool c)).setCell ⟨g, 1, none⟩ (.slice e i j)).heap[g]? = some (.cells #[.bool c, .slice e i j, .slice x' y' z'] t (0, 0)) := by simpa using blk_set g1 1 (.slice e i j)
  exact h2.stored g2 no_words3 2 v
theorem below_set3 {w w1 : World} {g : Nat} (h : Below w.heap.size w w1) (hg : w.heap.size ≤ g) (u v q : Value) : Below w.heap.size w (((w1.setCell ⟨g, 0, none⟩ u).setCell ⟨g, 1, none⟩ v).setCell ⟨g, 2, none⟩ q) := ((h.setCell (p := ⟨g, 0, none⟩) hg u).setCell (p := ⟨g, 1, none⟩) hg v).setCell (p := ⟨g, 2, none⟩) hg q
end Go.Proofs.Ytipcgehcineblaa

/-
  The contracts of the document's answer for layer 9: Neg, Zero, Sign, Same.
-/
namespace Go.Proofs.Ytipcgehcineblaa
open Go.RowKit

end Go.Proofs.Ytipcgehcineblaa

/-
  The contracts of the document's answer for layer 9: Mul, Quo.
-/
namespace Go.Proofs.Ytipcgehcineblaa
open Go.RowKit

theorem blk_far3 {w : World} {A g : Nat} {o : Obj} (h : w.heap[A]? = some o) (hne : A ≠ g) (u v q : Value) : (((w.setCell ⟨g, 0, none⟩ u).setCell ⟨g, 1, none⟩ v).setCell ⟨g, 2, none⟩ q).heap[A]? = some o :=
  blk_apart (blk_apart (blk_apart h hne 0 u) hne 1 v) hne 2 q
theorem boxes3_at9 (w : World) (x y z : Array Value) (t s r : TypeId) :
    (((w.alloc (.cells x t)).alloc (.cells y s)).alloc (.cells z r)).heap[w.heap.size]? = some (.cells x t (0, 0)) ∧ (((w.alloc (.cells x t)).alloc (.cells y s)).alloc (.cells z r)).heap[w.heap.size + 1]? = some (.cells y s (0, 0)) ∧ (((w.alloc (.cells x t)).alloc (.cells y s)).alloc (.cells z r)).heap[w.heap.size + 1 + 1]? = some (.cells z r (0, 0)) := boxes3_at w x y z t s r
end Go.Proofs.Ytipcgehcineblaa

/-
  The contract of the document's answer for layer 8: Floor, where both signs are alike.
-/
namespace Go.Proofs.Ytipcgehcineblaa
open Go.RowKit

end Go.Proofs.Ytipcgehcineblaa

/-
  The contract of the document's answer for layer 8: Floor, where nothing is left.
-/
namespace Go.Proofs.Ytipcgehcineblaa
open Go.RowKit

end Go.Proofs.Ytipcgehcineblaa

/-
  The contract of the document's answer for layer 8: Floor, where something is left.
-/
namespace Go.Proofs.Ytipcgehcineblaa
open Go.RowKit

end Go.Proofs.Ytipcgehcineblaa

/-
  The contracts of the document's answer for layer 7: Read.
-/
namespace Go.Proofs.Ytipcgehcineblaa
open Go.RowKit

end Go.Proofs.Ytipcgehcineblaa

/-
  The contracts of the document's answer for layer 8: Read.
-/
namespace Go.Proofs.Ytipcgehcineblaa
open Go.RowKit

theorem results_row_tmp {P : Program} {fn : Func} {p u : Tmp} {ty : TypeId} (h : fn.results = #[.cell p ty, .tmp u]) (tmps : Array Value) (w : World) (g : Nat) (t : TypeId) (cs : Array Value) (fr : Nat × Nat) (d : TypeDesc)
    (hp : tmps.getD p undef = .pointer (some ⟨g, 0, none⟩)) (hg : w.heap[g]? = some (.cells cs t fr))
    (hu : P.underlying ty = some d) (hd : (match d with | .struct _ | .array _ _ => true | _ => false) = true) (hi : (P.info? ty).map (·.size) = some cs.size) :
    (results fn tmps).run P w = .ok (.tuple #[.agg cs, tmps.getD u undef]) w := by
  rw [results_cell_tmp h, hp]
  simp [asAddr, run_loadVar_row w g t ty cs fr d hg hu hd hi]
end Go.Proofs.Ytipcgehcineblaa

/-
  The contracts of the document's answer for layer 8, in whole numbers; and its quotient is the one that is rounded down.
-/
namespace Go.Proofs.Ytipcgehcineblaa
open Go.RowKit

end Go.Proofs.Ytipcgehcineblaa

/-
  The contract of the document's answer for layer 9: Add.
-/
namespace Go.Proofs.Ytipcgehcineblaa
open Go.RowKit

end Go.Proofs.Ytipcgehcineblaa

/-
  The contracts of the document's answer for layer 9: Sub, Sign, Cmp.
-/
namespace Go.Proofs.Ytipcgehcineblaa
open Go.RowKit

theorem qval_len (neg : Bool) (u v : Nat) : (dg (qval neg u v).num.natAbs).length ≤ (dg u).length ∧ (dg (qval neg u v).den).length ≤ (dg v).length + 1 := by
  by_cases hv : v = 0
  · rw [qval_none neg (.inl hv), show ((0 : Rat).num).natAbs = 0 from rfl, show (0 : Rat).den = 1 from rfl, dg_zero]
    have h1 : (dg 1).length ≤ 1 := dg_length_le (by decide)
    exact ⟨by simp, by omega⟩
  · obtain ⟨h1, h2⟩ := qval_parts neg (u := u) hv
    rw [h1, h2, zval_abs]
    exact ⟨dg_length_mono (Nat.div_le_self _ _), Nat.le_trans (dg_length_mono (Nat.div_le_self _ _)) (by omega)⟩
theorem den_nz (q : Rat) : val (dg q.den) ≠ 0 := by rw [val_dg]; exact q.den_nz
end Go.Proofs.Ytipcgehcineblaa

/-
  The contracts of the document's answer for layer 9: Cmp, Abs.
-/
namespace Go.Proofs.Ytipcgehcineblaa
open Go.RowKit

end Go.Proofs.Ytipcgehcineblaa

/-
  The contract of the document's answer for layer 9: Int.
-/
namespace Go.Proofs.Ytipcgehcineblaa
open Go.RowKit

end Go.Proofs.Ytipcgehcineblaa

/-
  The contracts of the document's answer for layer 9: Size, Long.
-/
namespace Go.Proofs.Ytipcgehcineblaa
open Go.RowKit

set_option maxRecDepth 4096 in
theorem ref09_long (neg : Bool) (a : Option Addr) (n cap : Nat) (b : Option Addr) (m cap' : Nat) (k : Int) (w : World) :
    Calls Try.prog 6 #[frV neg a n cap b m cap', .int .i64 k] w (Gives (.bool (decide (k < (n : Int)) || decide (k < (m : Int)))) w) := by
  unfold frV
  go_enter Try.func6, Try.ntmps6
  by_cases h : k < (n : Int)
  · rw [decide_eq_true h, Bool.true_or]
    go_wp2
    go_ret
    exact ⟨rfl, below_alloc _ _⟩
  · rw [decide_eq_false h, Bool.false_or]
    go_wp2
    go_ret
    exact ⟨rfl, below_alloc _ _⟩
end Go.Proofs.Ytipcgehcineblaa

/-
  The contracts of the document's answer for layer 9: Pow.
-/
namespace Go.Proofs.Ytipcgehcineblaa
open Go.RowKit

theorem isInt_nought : isInt 0 := by unfold isInt; omega
end Go.Proofs.Ytipcgehcineblaa

/-
  Package frac at this seat: turned, under, times, Of.
-/
namespace Go.Proofs.Ytipcgehcineblaa
open Go.RowKit

set_option maxRecDepth 4096 in
set_option maxHeartbeats 4000000 in
theorem frac_turned (neg : Bool) (a : Option Addr) (n cap : Nat) (b : Option Addr) (m cap' : Nat) (w : World) :
    Calls Try.prog 75 #[frV neg a n cap b m cap'] w (Gives (frV (!neg) a n cap b m cap') w) := by
  have HG : Hid (((w.alloc (.cells #[.bool (!neg), .slice a n cap, .slice b m cap'] 34)).alloc (.cells #[.bool (!neg), .slice a n cap, .slice b m cap'] 34)).heap[w.heap.size + 1]? = some (.cells #[.bool (!neg), .slice a n cap, .slice b m cap'] 34 (0, 0))) := Lib.hid (boxes_at w ((w.alloc (.cells #[.bool (!neg), .slice a n cap, .slice b m cap'] 34)).alloc (.cells #[.bool (!neg), .slice a n cap, .slice b m cap'] 34)) _ _ _ _ (Below.refl _ _)).2
  have HB := Lib.hid (below_then (below_alloc w (.cells #[.bool (!neg), .slice a n cap, .slice b m cap'] 34)) (below_alloc _ (.cells #[.bool (!neg), .slice a n cap, .slice b m cap'] 34)))
  go_enter Try.func75, Try.ntmps75
  unfold frV
  go_wp2
  refine bodyPost_ret (results_cell_row Try.results75 _ _ (w.heap.size + 1) 34 #[.bool (!neg), .slice a n cap, .slice b m cap'] (0, 0) _ rfl HG.out Try.underlying34 rfl (by kernel_rfl)) rfl ?_
  exact ⟨rfl, HB.out⟩
set_option maxRecDepth 4096 in
set_option maxHeartbeats 4000000 in
theorem frac_under (neg : Bool) (a : Option Addr) (n cap : Nat) (b : Option Addr) (m cap' : Nat) (w : World) :
    Calls Try.prog 63 #[frV neg a n cap b m cap'] w (Gives (frV neg b m cap' a n cap) w) := by
  have HG : Hid (((w.alloc (.cells #[.bool neg, .slice a n cap, .slice b m cap'] 34)).alloc (.cells #[.bool neg, .slice b m cap', .slice a n cap] 34)).heap[w.heap.size + 1]? = some (.cells #[.bool neg, .slice b m cap', .slice a n cap] 34 (0, 0))) := Lib.hid (boxes_at w ((w.alloc (.cells #[.bool neg, .slice a n cap, .slice b m cap'] 34)).alloc (.cells #[.bool neg, .slice b m cap', .slice a n cap] 34)) _ _ _ _ (Below.refl _ _)).2
  have HB := Lib.hid (below_then (below_alloc w (.cells #[.bool neg, .slice a n cap, .slice b m cap'] 34)) (below_alloc _ (.cells #[.bool neg, .slice b m cap', .slice a n cap] 34)))
  go_enter Try.func63, Try.ntmps63
  unfold frV
  go_wp2
  refine bodyPost_ret (results_cell_row Try.results63 _ _ (w.heap.size + 1) 34 #[.bool neg, .slice b m cap', .slice a n cap] (0, 0) _ rfl HG.out Try.underlying34 rfl (by kernel_rfl)) rfl ?_
  exact ⟨rfl, HB.out⟩
set_option maxRecDepth 4096 in
set_option maxHeartbeats 4000000 in
theorem frac_times (neg : Bool) (a : Option Addr) (n cap : Nat) (la : List Nat) (b : Option Addr) (m cap' : Nat) (lb : List Nat) (w : World) (ha : Wd w a n cap la) (hb : Wd w b m cap' lb) (hn : n ≤ 104857600000) (hm : m ≤ 104857600000) :
    Calls Try.prog 35 #[whV neg a n cap, .slice b m cap'] w (LstZ (zval neg (val la) * (val lb : Int)) w) := by
  have HB := Lib.hid (below_then (below_alloc w (.cells #[.bool neg, .slice a n cap] 32)) (below_alloc _ (.cells #[.bool false, .slice none 0 0] 32)))
  have HA := Lib.hid (ha.later HB.out)
  have HC := Lib.hid (hb.later HB.out)
  obtain ⟨hx1, hx2⟩ := boxes_at w ((w.alloc (.cells #[.bool neg, .slice a n cap] 32)).alloc (.cells #[.bool false, .slice none 0 0] 32)) #[.bool neg, .slice a n cap] #[.bool false, .slice none 0 0] 32 32 (Below.refl _ _)
  have HX := Lib.hid hx1
  have HR := Lib.hid hx2
  clear hx1 hx2 ha hb
  obtain ⟨z, hz⟩ : ∃ z, zval neg (val la) * (val lb : Int) = z := ⟨_, rfl⟩
  rw [hz]
  have HZ := Lib.hid hz
  clear hz
  go_enter Try.func35, Try.ntmps35
  unfold whV
  obtain ⟨vk0, vk1, vk2, vk3⟩ := fcells_2_2 HX.out HR.out
  go_wp2_with fail
  refine (whole_mul neg a n cap la false b m cap' lb _ HA.out HC.out hn hm).mono ?_
  rintro e wv1 ⟨a1, n1, c1, rfl, h1, b⟩
  clear vk0 vk1 vk2 vk3
  replace HB := Lib.hid (below_then HB.out b)
  replace HX := Lib.hid (blk_later HX.out b)
  replace HR := Lib.hid (blk_later HR.out b)
  clear HA
  clear HC
  clear b
  rw [zval_false, HZ.out] at h1 ⊢
  have R1 := Lib.hid h1
  clear h1
  unfold whV
  obtain ⟨r0, r1⟩ := fcells_2 HR.out
  have f0 := blk_free HR.out 0
  have f1 := blk_free HR.out 1
  have HG := Lib.hid (blk_set2 HR.out (.bool (zneg z)) (.slice a1 n1 c1))
  have HF := Lib.hid (R1.out.stored2 HR.out (zneg z) (.slice a1 n1 c1))
  have HL := Lib.hid (below_set2 HB.out (show w.heap.size ≤ w.heap.size + 1 by omega) (.bool (zneg z)) (.slice a1 n1 c1))
  go_wp2
  refine bodyPost_ret (results_cell_row Try.results35 _ _ (w.heap.size + 1) 32 #[.bool (zneg z), .slice a1 n1 c1] (0, 0) _ rfl HG.out Try.underlying32 rfl (by kernel_rfl)) rfl ?_
  exact ⟨a1, n1, c1, rfl, HF.out, HL.out⟩
set_option maxRecDepth 4096 in
set_option maxHeartbeats 4000000 in
theorem frac_of (x : Int) (w : World) (hx : isInt x) : Calls Try.prog 21 #[.int .i64 x] w (LstQ (x : Rat) w) := by
  have HX := Lib.hid hx
  have HB := Lib.hid (below_alloc w (.cells #[.bool false, .slice none 0 0, .slice none 0 0] 34))
  have HR := Lib.hid (blk_new w #[.bool false, .slice none 0 0, .slice none 0 0] 34)
  have HO : ∀ w' : World, Calls Try.prog 44 #[.int .u64 1] w' (Lst (dg 1) w') := fun w' => natSaid.of 1 w' (by omega)
  have HN : Hid (x = (x : Rat).num) := Lib.hid (Rat.num_intCast x).symm
  have HD : Hid (1 = (x : Rat).den) := Lib.hid (Rat.den_intCast x).symm
  clear hx
  generalize (x : Rat) = q at *
  go_enter Try.func21, Try.ntmps21
  obtain ⟨vk0, vk1, vk2⟩ := fcells_3 HR.out
  go_wp2_with fail
  refine (whole_of x _ HX.out).mono ?_
  rintro e wv1 ⟨a1, n1, c1, rfl, h1, b⟩
  clear vk0 vk1 vk2
  replace HB := Lib.hid (below_then HB.out b)
  replace HR := Lib.hid (blk_later HR.out b)
  clear b
  have R1 := Lib.hid h1
  clear h1
  unfold whV
  obtain ⟨vk0, vk1, vk2⟩ := fcells_3 HR.out
  go_wp2_with fail
  refine (HO _).mono ?_
  rintro e wv2 ⟨b1, m1, d1, rfl, g1, b⟩
  clear vk0 vk1 vk2
  replace HB := Lib.hid (below_then HB.out b)
  replace HR := Lib.hid (blk_later HR.out b)
  replace R1 := Lib.hid (R1.out.later b)
  clear b
  have T1 := Lib.hid g1
  clear g1
  generalize hz : zneg x = s at *
  have HS := Lib.hid hz
  clear hz
  have q0 := blk_cell HR.out 0
  have q1 := blk_cell HR.out 1
  have q2 := blk_cell HR.out 2
  simp only [List.getElem?_toArray, List.getElem?_cons_zero, List.getElem?_cons_succ] at q0 q1 q2
  have f0 := blk_free HR.out 0
  have f1 := blk_free HR.out 1
  have f2 := blk_free HR.out 2
  replace R1 := Lib.hid (R1.out.stored3 HR.out (s) a1 n1 c1 (.slice b1 m1 d1))
  replace T1 := Lib.hid (T1.out.stored3 HR.out (s) a1 n1 c1 (.slice b1 m1 d1))
  replace HB := Lib.hid (below_set3 HB.out (show w.heap.size ≤ w.heap.size by omega) (.bool s) (.slice a1 n1 c1) (.slice b1 m1 d1))
  replace HR := Lib.hid (blk_set3 HR.out (.bool s) (.slice a1 n1 c1) (.slice b1 m1 d1))
  go_wp2
  refine bodyPost_ret (results_cell_row Try.results21 _ _ (w.heap.size) 34 #[.bool s, .slice a1 n1 c1, .slice b1 m1 d1] (0, 0) _ rfl HR.out Try.underlying34 rfl (by kernel_rfl)) rfl ?_
  refine ⟨a1, n1, c1, b1, m1, d1, ?_, ?_, ?_, HB.out⟩
  · rw [← HN.out, HS.out]; rfl
  · rw [← HN.out]; exact R1.out
  · rw [← HD.out]; exact T1.out
end Go.Proofs.Ytipcgehcineblaa

/-
  Package frac at this seat: Sign, Size, product.
-/
namespace Go.Proofs.Ytipcgehcineblaa
open Go.RowKit

/-- A fraction as it was reckoned, not made right. -/
def LstR (z : Int) (v : Nat) (w : World) (e : Ending) (w' : World) : Prop :=
  ∃ (a : Option Addr) (n cap : Nat) (b : Option Addr) (m cap' : Nat), e = .returned (frV (zneg z) a n cap b m cap') ∧ Wd w' a n cap (dg z.natAbs) ∧ Wd w' b m cap' (dg v) ∧ Below w.heap.size w w'
set_option maxRecDepth 4096 in
set_option maxHeartbeats 4000000 in
theorem frac_sign (neg : Bool) (a : Option Addr) (n cap : Nat) (la : List Nat) (b : Option Addr) (m cap' : Nat) (lb : List Nat) (w : World) (ha : Wd w a n cap la) (hb : Wd w b m cap' lb) (hn : n ≤ 104857600000) (hm : m ≤ 104857600000) :
    Calls Try.prog 32 #[frV neg a n cap b m cap'] w (Gives (.int .i64 (sgn (qval neg (val la) (val lb)).num)) w) := by
  have HB := Lib.hid (below_alloc w (.cells #[.bool neg, .slice a n cap, .slice b m cap'] 34))
  have HA := Lib.hid (ha.later HB.out)
  have HC := Lib.hid (hb.later HB.out)
  have HX := Lib.hid (blk_new w #[.bool neg, .slice a n cap, .slice b m cap'] 34)
  clear ha hb
  have HZ0 : Hid (val lb = 0 → sgn (qval neg (val la) (val lb)).num = 0) := Lib.hid (fun h => by rw [qval_none neg (.inl h)]; rfl)
  have HZ1 : Hid (val lb ≠ 0 → sgn (qval neg (val la) (val lb)).num = sgn (zval neg (val la))) := Lib.hid (fun h => fc_qsign h)
  generalize (qval neg (val la) (val lb)).num = y at *
  go_enter Try.func32, Try.ntmps32
  unfold frV
  obtain ⟨vk0, vk1, vk2⟩ := fcells_3 HX.out
  go_wp2_with fail
  refine (natSaid.zero b m cap' lb _ HC.out (by omega)).mono ?_
  rintro e wv1 ⟨rfl, b⟩
  clear vk0 vk1 vk2
  replace HB := Lib.hid (below_then HB.out b)
  replace HX := Lib.hid (blk_later HX.out b)
  replace HA := Lib.hid (HA.out.later b)
  replace HC := Lib.hid (HC.out.later b)
  clear b
  by_cases h0 : val lb = 0
  · have HS := Lib.hid (HZ0.out h0)
    rw [decide_eq_true h0]
    clear h0 HZ0 HZ1
    go_wp2
    go_ret
    exact ⟨by rw [HS.out]; rfl, HB.out⟩
  · have HS := Lib.hid (HZ1.out h0)
    rw [decide_eq_false h0]
    clear h0 HZ0 HZ1
    obtain ⟨k0, k1, k2⟩ := fcells_3 HX.out
    go_wp2_with fail
    refine (whole_sign neg a n cap la _ HA.out hn).mono ?_
    rintro e w2 ⟨rfl, b⟩
    go_wp2
    go_ret
    exact ⟨by rw [HS.out]; rfl, below_then HB.out b⟩
set_option maxRecDepth 4096 in
set_option maxHeartbeats 4000000 in
theorem frac_product (na : Bool) (a : Option Addr) (n cap : Nat) (la : List Nat) (b : Option Addr) (m cap' : Nat) (lb : List Nat) (nb : Bool) (a' : Option Addr) (n' c' : Nat) (la' : List Nat) (b' : Option Addr) (m' d' : Nat) (lb' : List Nat) (w : World) (ha : Wd w a n cap la) (hb : Wd w b m cap' lb) (ha' : Wd w a' n' c' la') (hb' : Wd w b' m' d' lb') (hn : n ≤ 104857600000) (hm : m ≤ 104857600000) (hn' : n' ≤ 104857600000) (hm' : m' ≤ 104857600000) :
    Calls Try.prog 28 #[frV na a n cap b m cap', frV nb a' n' c' b' m' d'] w (LstR (zval na (val la) * zval nb (val la')) (val lb * val lb') w) := by
  have HB := Lib.hid (below_then (below_then (below_alloc w (.cells #[.bool na, .slice a n cap, .slice b m cap'] 34)) (below_alloc _ (.cells #[.bool nb, .slice a' n' c', .slice b' m' d'] 34))) (below_alloc _ (.cells #[.bool false, .slice none 0 0, .slice none 0 0] 34)))
  have HA := Lib.hid (ha.later HB.out)
  have HC := Lib.hid (hb.later HB.out)
  have HA' := Lib.hid (ha'.later HB.out)
  have HC' := Lib.hid (hb'.later HB.out)
  obtain ⟨hx1, hx2, hx3⟩ := boxes3_at9 w #[.bool na, .slice a n cap, .slice b m cap'] #[.bool nb, .slice a' n' c', .slice b' m' d'] #[.bool false, .slice none 0 0, .slice none 0 0] 34 34 34
  have HX := Lib.hid hx1
  have HY := Lib.hid hx2
  have HR := Lib.hid hx3
  have ta := ha.trim_le
  have tb := hb.trim_le
  have ta' := ha'.trim_le
  have tb' := hb'.trim_le
  clear ha hb ha' hb' hx1 hx2 hx3
  obtain ⟨z, hz⟩ : ∃ z, zval na (val la) * zval nb (val la') = z := ⟨_, rfl⟩
  rw [hz]
  have HZ := Lib.hid hz
  clear hz
  go_enter Try.func28, Try.ntmps28
  unfold frV
  go_wp2
  generalize (((w.alloc (.cells #[.bool na, .slice a n cap, .slice b m cap'] 34)).alloc (.cells #[.bool nb, .slice a' n' c', .slice b' m' d'] 34)).alloc (.cells #[.bool false, .slice none 0 0, .slice none 0 0] 34)) = W at *
  replace HB := Lib.hid (below_then HB.out ((Below.refl _ _).drew : Below W.heap.size W W.drew))
  replace HX : Hid (W.drew.heap[w.heap.size]? = _) := Lib.hid HX.out
  replace HY : Hid (W.drew.heap[w.heap.size + 1]? = _) := Lib.hid HY.out
  replace HR : Hid (W.drew.heap[w.heap.size + 1 + 1]? = some (.cells #[.bool false, .slice none 0 0, .slice none 0 0] 34 (0, 0))) := Lib.hid HR.out
  replace HA := Lib.hid (HA.out.later ((Below.refl _ _).drew : Below W.heap.size W W.drew))
  replace HC := Lib.hid (HC.out.later ((Below.refl _ _).drew : Below W.heap.size W W.drew))
  replace HA' := Lib.hid (HA'.out.later ((Below.refl _ _).drew : Below W.heap.size W W.drew))
  replace HC' := Lib.hid (HC'.out.later ((Below.refl _ _).drew : Below W.heap.size W W.drew))
  have pSn := fcells_3_3 HX.out HY.out
  go_region_held3 (fun w' => w'.cell? ⟨w.heap.size, 0, none⟩ = some (.bool na) ∧ w'.cell? ⟨w.heap.size, 1, none⟩ = some (.slice a n cap) ∧ w'.cell? ⟨w.heap.size, 2, none⟩ = some (.slice b m cap') ∧ w'.cell? ⟨w.heap.size + 1, 0, none⟩ = some (.bool nb) ∧ w'.cell? ⟨w.heap.size + 1, 1, none⟩ = some (.slice a' n' c') ∧ w'.cell? ⟨w.heap.size + 1, 2, none⟩ = some (.slice b' m' d')) (first | exact pSn | exact pSb _ _ _)
    (first
    | (go_at_call 49; (first
      | (refine (whole_mul na a n cap la nb a' n' c' la' _ HA.out HA'.out (by omega) (by omega)).mono ?_; rintro e wp1 ⟨a1, n1, c1, rfl, h1, b⟩; replace HB := Lib.hid (below_then HB.out b); replace HX := Lib.hid (blk_later HX.out b); replace HY := Lib.hid (blk_later HY.out b); replace HR := Lib.hid (blk_later HR.out b); replace HA := Lib.hid (HA.out.later b); replace HC := Lib.hid (HC.out.later b); replace HA' := Lib.hid (HA'.out.later b); replace HC' := Lib.hid (HC'.out.later b); rw [HZ.out] at h1 ⊢; have R1 := Lib.hid h1; clear h1; unfold whV; clear b; clear pSn; have pSn := fcells_3_3 HX.out HY.out; have pM1 := True.intro)))
    | (go_at_call 36; (first
      | (have pm1 := pM1; refine (prod_mul b m cap' lb b' m' d' lb' _ HC.out HC'.out (by omega) (by omega)).mono ?_; rintro e wp2 ⟨b1, m1, d1, rfl, g1, b⟩; replace HB := Lib.hid (below_then HB.out b); replace HX := Lib.hid (blk_later HX.out b); replace HY := Lib.hid (blk_later HY.out b); replace HR := Lib.hid (blk_later HR.out b); replace HA := Lib.hid (HA.out.later b); replace HC := Lib.hid (HC.out.later b); replace HA' := Lib.hid (HA'.out.later b); replace HC' := Lib.hid (HC'.out.later b); replace R1 := Lib.hid (R1.out.later b); have T1 := Lib.hid g1; clear g1; obtain ⟨r0, r1, r2⟩ := fcells_3 HR.out; have f0 := blk_free HR.out 0; have f1 := blk_free HR.out 1; have f2 := blk_free HR.out 2; have pSb := fun u v q => fcells_3_3 (blk_far3 (g := w.heap.size + 1 + 1) HX.out (by omega) u v q) (blk_far3 (g := w.heap.size + 1 + 1) HY.out (by omega) u v q); clear b; clear pSn; have pSn := fcells_3_3 HX.out HY.out; clear pM1 pm1; have pM2 := True.intro))))
  have HG := Lib.hid (blk_set3 HR.out (.bool (zneg z)) (.slice a1 n1 c1) (.slice b1 m1 d1))
  have HL := Lib.hid (below_set3 HB.out (show w.heap.size ≤ w.heap.size + 1 + 1 by omega) (.bool (zneg z)) (.slice a1 n1 c1) (.slice b1 m1 d1))
  have HW1 := Lib.hid (R1.out.stored3 HR.out (zneg z) a1 n1 c1 (.slice b1 m1 d1))
  have HW2 := Lib.hid (T1.out.stored3 HR.out (zneg z) a1 n1 c1 (.slice b1 m1 d1))
  go_wp2
  refine bodyPost_ret (results_cell_row Try.results28 _ _ (w.heap.size + 1 + 1) 34 #[.bool (zneg z), .slice a1 n1 c1, .slice b1 m1 d1] (0, 0) _ rfl HG.out Try.underlying34 rfl (by kernel_rfl)) rfl ?_
  exact ⟨a1, n1, c1, b1, m1, d1, rfl, HW1.out, HW2.out, HL.out⟩
end Go.Proofs.Ytipcgehcineblaa

/-
  Package frac at this seat: New, Norm, Neg, Abs.
-/
namespace Go.Proofs.Ytipcgehcineblaa
open Go.RowKit

set_option maxRecDepth 4096 in
set_option maxHeartbeats 4000000 in
theorem frac_new (neg : Bool) (a : Option Addr) (n cap : Nat) (la : List Nat) (b : Option Addr) (m cap' : Nat) (lb : List Nat) (w : World) (ha : Wd w a n cap la) (hb : Wd w b m cap' lb) (hn : n ≤ 41943040000) (hm : m ≤ 41943040000) :
    Calls Try.prog 48 #[whV neg a n cap, .slice b m cap'] w (LstQV (qval neg (val la) (val lb)) (.bool (decide (val lb ≠ 0))) w) := by
  have HB := Lib.hid (below_then (below_alloc w (.cells #[.bool neg, .slice a n cap] 32)) (below_alloc _ (.cells #[.bool false, .slice none 0 0, .slice none 0 0] 34)))
  have HA := Lib.hid (ha.later HB.out)
  have HC := Lib.hid (hb.later HB.out)
  obtain ⟨hx1, hx2⟩ := boxes_at w ((w.alloc (.cells #[.bool neg, .slice a n cap] 32)).alloc (.cells #[.bool false, .slice none 0 0, .slice none 0 0] 34)) #[.bool neg, .slice a n cap] #[.bool false, .slice none 0 0, .slice none 0 0] 32 34 (Below.refl _ _)
  have HX := Lib.hid hx1
  have HR := Lib.hid hx2
  have ta := ha.trim_le
  clear hx1 hx2 ha hb
  obtain ⟨q, hq⟩ : ∃ q, qval neg (val la) (val lb) = q := ⟨_, rfl⟩
  rw [hq]
  have HQ := Lib.hid hq
  clear hq
  go_enter Try.func48, Try.ntmps48
  unfold whV
  obtain ⟨vk0, vk1, vk2, vk3, vk4⟩ := fcells_2_3 HX.out HR.out
  go_wp2_with fail
  refine (natSaid.zero b m cap' lb _ HC.out (by omega)).mono ?_
  rintro e wv1 ⟨rfl, b⟩
  clear vk0 vk1 vk2 vk3 vk4
  replace HB := Lib.hid (below_then HB.out b)
  replace HX := Lib.hid (blk_later HX.out b)
  replace HR := Lib.hid (blk_later HR.out b)
  replace HA := Lib.hid (HA.out.later b)
  replace HC := Lib.hid (HC.out.later b)
  clear b
  by_cases h0 : val lb = 0
  · have HD : Hid (decide (val lb ≠ 0) = false) := Lib.hid (by rw [decide_eq_false]; exact fun h => h h0)
    have HQ0 : Hid (((0 : Int) : Rat) = q) := Lib.hid (by rw [← HQ.out, qval_none neg (.inl h0)]; rfl)
    rw [decide_eq_true h0]
    clear h0 HQ
    clear HA HC
    obtain ⟨uk0, uk1, uk2, uk3, uk4⟩ := fcells_2_3 HX.out HR.out
    go_wp2_with fail
    refine (frac_of 0 _ isInt_nought).mono ?_
    rintro e wu1 ⟨a1, n1, c1, b1, m1, d1, rfl, h1, g1, b⟩
    clear uk0 uk1 uk2 uk3 uk4
    replace HB := Lib.hid (below_then HB.out b)
    replace HX := Lib.hid (blk_later HX.out b)
    replace HR := Lib.hid (blk_later HR.out b)
    clear b
    rw [HQ0.out] at h1 g1 ⊢
    have R1 := Lib.hid h1
    have T1 := Lib.hid g1
    clear h1 g1
    unfold frV
    have q0 := blk_cell HR.out 0
    have q1 := blk_cell HR.out 1
    have q2 := blk_cell HR.out 2
    simp only [List.getElem?_toArray, List.getElem?_cons_zero, List.getElem?_cons_succ] at q0 q1 q2
    have f0 := blk_free HR.out 0
    have f1 := blk_free HR.out 1
    have f2 := blk_free HR.out 2
    replace HX := Lib.hid (blk_far3 HX.out (show w.heap.size ≠ w.heap.size + 1 by omega) (.bool (zneg q.num)) (.slice a1 n1 c1) (.slice b1 m1 d1))
    replace R1 := Lib.hid (R1.out.stored3 HR.out ((zneg q.num)) a1 n1 c1 (.slice b1 m1 d1))
    replace T1 := Lib.hid (T1.out.stored3 HR.out ((zneg q.num)) a1 n1 c1 (.slice b1 m1 d1))
    replace HB := Lib.hid (below_set3 HB.out (show w.heap.size ≤ w.heap.size + 1 by omega) (.bool (zneg q.num)) (.slice a1 n1 c1) (.slice b1 m1 d1))
    replace HR := Lib.hid (blk_set3 HR.out (.bool (zneg q.num)) (.slice a1 n1 c1) (.slice b1 m1 d1))
    go_wp2
    refine bodyPost_ret (results_row_tmp Try.results48 _ _ (w.heap.size + 1) 34 #[.bool (zneg q.num), .slice a1 n1 c1, .slice b1 m1 d1] (0, 0) _ rfl HR.out Try.underlying34 rfl (by kernel_rfl)) rfl ?_
    exact ⟨a1, n1, c1, b1, m1, d1, by rw [HD.out]; rfl, R1.out, T1.out, HB.out⟩
  · have HD : Hid (decide (val lb ≠ 0) = true) := Lib.hid (decide_eq_true h0)
    have HZ : Hid (zval neg (val (dg (val la / Nat.gcd (val la) (val lb)))) = q.num) := Lib.hid (by rw [val_dg, ← HQ.out]; exact (qval_parts neg h0).1.symm)
    have HE : Hid (val lb / Nat.gcd (val la) (val lb) = q.den) := Lib.hid (by rw [← HQ.out]; exact (qval_parts neg h0).2.symm)
    have ql : (dg (val la / Nat.gcd (val la) (val lb))).length ≤ n := Nat.le_trans (dg_length_mono (Nat.div_le_self _ _)) ta
    rw [decide_eq_false h0]
    clear h0 HQ
    obtain ⟨uk0, uk1, uk2, uk3, uk4⟩ := fcells_2_3 HX.out HR.out
    go_wp2_with fail
    refine (common_cancel a n cap la b m cap' lb _ HA.out HC.out hn hm).mono ?_
    rintro e wu1 ⟨a1, n1, c1, b2, m2, d2, rfl, h1, g2, b⟩
    clear uk0 uk1 uk2 uk3 uk4
    replace HB := Lib.hid (below_then HB.out b)
    replace HX := Lib.hid (blk_later HX.out b)
    replace HR := Lib.hid (blk_later HR.out b)
    clear HA
    clear HC
    clear b
    rw [HE.out] at g2
    have ln1 := h1.len
    have R1 := Lib.hid h1
    have T2 := Lib.hid g2
    clear h1 g2
    obtain ⟨uk0, uk1, uk2, uk3, uk4⟩ := fcells_2_3 HX.out HR.out
    go_wp2_with fail
    refine (whole_norm neg a1 n1 c1 _ _ R1.out (by omega)).mono ?_
    rintro e wu2 ⟨a2, n2, c2, rfl, h2, b⟩
    clear uk0 uk1 uk2 uk3 uk4
    replace HB := Lib.hid (below_then HB.out b)
    replace HX := Lib.hid (blk_later HX.out b)
    replace HR := Lib.hid (blk_later HR.out b)
    clear R1
    replace T2 := Lib.hid (T2.out.later b)
    clear b
    rw [HZ.out] at h2 ⊢
    have R2 := Lib.hid h2
    clear h2
    unfold whV
    have q0 := blk_cell HR.out 0
    have q1 := blk_cell HR.out 1
    have q2 := blk_cell HR.out 2
    simp only [List.getElem?_toArray, List.getElem?_cons_zero, List.getElem?_cons_succ] at q0 q1 q2
    have f0 := blk_free HR.out 0
    have f1 := blk_free HR.out 1
    have f2 := blk_free HR.out 2
    replace HX := Lib.hid (blk_far3 HX.out (show w.heap.size ≠ w.heap.size + 1 by omega) (.bool (zneg q.num)) (.slice a2 n2 c2) (.slice b2 m2 d2))
    replace T2 := Lib.hid (T2.out.stored3 HR.out ((zneg q.num)) a2 n2 c2 (.slice b2 m2 d2))
    replace R2 := Lib.hid (R2.out.stored3 HR.out ((zneg q.num)) a2 n2 c2 (.slice b2 m2 d2))
    replace HB := Lib.hid (below_set3 HB.out (show w.heap.size ≤ w.heap.size + 1 by omega) (.bool (zneg q.num)) (.slice a2 n2 c2) (.slice b2 m2 d2))
    replace HR := Lib.hid (blk_set3 HR.out (.bool (zneg q.num)) (.slice a2 n2 c2) (.slice b2 m2 d2))
    go_wp2
    refine bodyPost_ret (results_row_tmp Try.results48 _ _ (w.heap.size + 1) 34 #[.bool (zneg q.num), .slice a2 n2 c2, .slice b2 m2 d2] (0, 0) _ rfl HR.out Try.underlying34 rfl (by kernel_rfl)) rfl ?_
    exact ⟨a2, n2, c2, b2, m2, d2, by rw [HD.out]; rfl, R2.out, T2.out, HB.out⟩
set_option maxRecDepth 4096 in
set_option maxHeartbeats 4000000 in
theorem frac_norm (neg : Bool) (a : Option Addr) (n cap : Nat) (la : List Nat) (b : Option Addr) (m cap' : Nat) (lb : List Nat) (w : World) (ha : Wd w a n cap la) (hb : Wd w b m cap' lb) (hn : n ≤ 41943040000) (hm : m ≤ 41943040000) :
    Calls Try.prog 27 #[frV neg a n cap b m cap'] w (LstQ (qval neg (val la) (val lb)) w) := by
  have HB := Lib.hid (below_then (below_alloc w (.cells #[.bool neg, .slice a n cap, .slice b m cap'] 34)) (below_alloc _ (.cells #[.bool false, .slice none 0 0, .slice none 0 0] 34)))
  have HA := Lib.hid (ha.later HB.out)
  have HC := Lib.hid (hb.later HB.out)
  obtain ⟨hx1, hx2⟩ := boxes_at w ((w.alloc (.cells #[.bool neg, .slice a n cap, .slice b m cap'] 34)).alloc (.cells #[.bool false, .slice none 0 0, .slice none 0 0] 34)) #[.bool neg, .slice a n cap, .slice b m cap'] #[.bool false, .slice none 0 0, .slice none 0 0] 34 34 (Below.refl _ _)
  have HX := Lib.hid hx1
  have HR := Lib.hid hx2
  clear hx1 hx2 ha hb
  obtain ⟨q, hq⟩ : ∃ q, qval neg (val la) (val lb) = q := ⟨_, rfl⟩
  rw [hq]
  have HQ := Lib.hid hq
  clear hq
  go_enter Try.func27, Try.ntmps27
  unfold frV
  obtain ⟨vk0, vk1, vk2, vk3, vk4, vk5⟩ := fcells_3_3 HX.out HR.out
  go_wp2_with fail
  refine (frac_new neg a n cap la b m cap' lb _ HA.out HC.out hn hm).mono ?_
  rintro e wv1 ⟨a1, n1, c1, b1, m1, d1, rfl, h1, g1, b⟩
  clear vk0 vk1 vk2 vk3 vk4 vk5
  replace HB := Lib.hid (below_then HB.out b)
  replace HX := Lib.hid (blk_later HX.out b)
  replace HR := Lib.hid (blk_later HR.out b)
  clear HA
  clear HC
  clear b
  rw [HQ.out] at h1 g1 ⊢
  have R1 := Lib.hid h1
  have T1 := Lib.hid g1
  clear h1 g1
  generalize decide (val lb ≠ 0) = s at *
  unfold frV
  have HP : Hid ((World.alloc wv1 (.cells #[.bool (zneg q.num), .slice a1 n1 c1, .slice b1 m1 d1] 34)).heap[wv1.heap.size]? = some (.cells #[.bool (zneg q.num), .slice a1 n1 c1, .slice b1 m1 d1] 34 (0, 0))) := Lib.hid (blk_new wv1 _ _)
  replace HB := Lib.hid (below_then HB.out (below_alloc wv1 (.cells #[.bool (zneg q.num), .slice a1 n1 c1, .slice b1 m1 d1] 34)))
  replace HX := Lib.hid (blk_later HX.out (below_alloc wv1 (.cells #[.bool (zneg q.num), .slice a1 n1 c1, .slice b1 m1 d1] 34)))
  replace HR := Lib.hid (blk_later HR.out (below_alloc wv1 (.cells #[.bool (zneg q.num), .slice a1 n1 c1, .slice b1 m1 d1] 34)))
  replace R1 := Lib.hid (R1.out.later (below_alloc wv1 (.cells #[.bool (zneg q.num), .slice a1 n1 c1, .slice b1 m1 d1] 34)))
  replace T1 := Lib.hid (T1.out.later (below_alloc wv1 (.cells #[.bool (zneg q.num), .slice a1 n1 c1, .slice b1 m1 d1] 34)))
  obtain ⟨vk0, vk1, vk2, vk3, vk4, vk5, vk6, vk7, vk8⟩ := fcells_3_3_3 HX.out HR.out HP.out
  have q0 := blk_cell HR.out 0
  have q1 := blk_cell HR.out 1
  have q2 := blk_cell HR.out 2
  simp only [List.getElem?_toArray, List.getElem?_cons_zero, List.getElem?_cons_succ] at q0 q1 q2
  have f0 := blk_free HR.out 0
  have f1 := blk_free HR.out 1
  have f2 := blk_free HR.out 2
  replace R1 := Lib.hid (R1.out.stored3 HR.out ((zneg q.num)) a1 n1 c1 (.slice b1 m1 d1))
  replace T1 := Lib.hid (T1.out.stored3 HR.out ((zneg q.num)) a1 n1 c1 (.slice b1 m1 d1))
  replace HB := Lib.hid (below_set3 HB.out (show w.heap.size ≤ w.heap.size + 1 by omega) (.bool (zneg q.num)) (.slice a1 n1 c1) (.slice b1 m1 d1))
  replace HR := Lib.hid (blk_set3 HR.out (.bool (zneg q.num)) (.slice a1 n1 c1) (.slice b1 m1 d1))
  go_wp2
  refine bodyPost_ret (results_cell_row Try.results27 _ _ (w.heap.size + 1) 34 #[.bool (zneg q.num), .slice a1 n1 c1, .slice b1 m1 d1] (0, 0) _ rfl HR.out Try.underlying34 rfl (by kernel_rfl)) rfl ?_
  exact ⟨a1, n1, c1, b1, m1, d1, rfl, R1.out, T1.out, HB.out⟩
end Go.Proofs.Ytipcgehcineblaa

/-
  The document's answer for layer 9, in rational numbers: of right fractions.
-/
namespace Go.Proofs.Ytipcgehcineblaa
open Go.RowKit

end Go.Proofs.Ytipcgehcineblaa

/-
  How long right fractions become that are reckoned; what stands in the field's laws. Nothing of the program.
-/
namespace Go.Proofs.Ytipcgehcineblaa

theorem qlen_pos (q : Rat) : 1 ≤ qlen q := by
  have h1 := qlen_den q
  have h2 : (dg q.den).length ≠ 0 := fun e => q.den_nz (dg_nil_iff.1 e)
  omega
theorem dg_sum_length (x y : Nat) : (dg (x + y)).length ≤ max (dg x).length (dg y).length + 1 := by
  apply dg_length_le
  have h1 := val_lt (okw_dg x)
  have h2 := val_lt (okw_dg y)
  rw [val_dg] at h1 h2
  have h3 : 4294967296 ^ (dg x).length ≤ 4294967296 ^ max (dg x).length (dg y).length := Nat.pow_le_pow_right (by decide) (Nat.le_max_left _ _)
  have h4 : 4294967296 ^ (dg y).length ≤ 4294967296 ^ max (dg x).length (dg y).length := Nat.pow_le_pow_right (by decide) (Nat.le_max_right _ _)
  rw [Nat.pow_succ]
  omega
theorem qlen_parts (s : Int) (v : Nat) : qlen (mkRat s v) ≤ max (dg s.natAbs).length (dg v).length + 1 := by
  have h := qval_len (zneg s) s.natAbs v
  unfold qval at h
  rw [zval_of] at h
  exact qlen_le (by omega) (by omega)
theorem qlen_add (p q : Rat) : qlen (p + q) ≤ qlen p + qlen q + 2 := by
  have h1 := qlen_parts (p.num * q.den + q.num * p.den) (p.den * q.den)
  rw [show mkRat (p.num * q.den + q.num * p.den) (p.den * q.den) = p + q from (Rat.add_def' p q).symm] at h1
  have h2 : (dg (p.num * q.den + q.num * p.den).natAbs).length ≤ (dg (p.num.natAbs * q.den + q.num.natAbs * p.den)).length := by
    refine dg_length_mono (Nat.le_trans (Int.natAbs_add_le _ _) ?_)
    rw [Int.natAbs_mul, Int.natAbs_mul, Int.natAbs_natCast, Int.natAbs_natCast]
    exact Nat.le_refl _
  have h3 := dg_sum_length (p.num.natAbs * q.den) (q.num.natAbs * p.den)
  have h4 := dg_mul_length p.num.natAbs q.den
  have h5 := dg_mul_length q.num.natAbs p.den
  have h6 := dg_mul_length p.den q.den
  have h7 := qlen_num p
  have h8 := qlen_num q
  have h9 := qlen_den p
  have h10 := qlen_den q
  omega
theorem qlen_opp (q : Rat) : qlen (-q) = qlen q := by unfold qlen; rw [Rat.neg_num, Rat.neg_den, Int.natAbs_neg]
theorem qlen_sub (p q : Rat) : qlen (p - q) ≤ qlen p + qlen q + 2 := by
  rw [Rat.sub_eq_add_neg]
  have := qlen_add p (-q)
  rwa [qlen_opp] at this
theorem qlen_mul (p q : Rat) : qlen (p * q) ≤ qlen p + qlen q + 1 := by
  have h1 := qlen_parts (p.num * q.num) (p.den * q.den)
  rw [show mkRat (p.num * q.num) (p.den * q.den) = p * q from (Rat.mul_def' p q).symm] at h1
  have h2 : (dg (p.num * q.num).natAbs).length = (dg (p.num.natAbs * q.num.natAbs)).length := by rw [Int.natAbs_mul]
  have h4 := dg_mul_length p.num.natAbs q.num.natAbs
  have h6 := dg_mul_length p.den q.den
  have h7 := qlen_num p
  have h8 := qlen_num q
  have h9 := qlen_den p
  have h10 := qlen_den q
  omega
theorem qlen_nought : qlen 0 = 1 := by
  show max (dg (0 : Nat)).length (dg (1 : Nat)).length = 1
  rw [dg_zero, dg_word (by decide) (by decide)]; rfl
theorem qlen_inv (q : Rat) : qlen q⁻¹ ≤ qlen q := by
  by_cases h : q = 0
  · subst h; rw [Rat.inv_zero]; exact Nat.le_refl _
  · refine qlen_le ?_ ?_
    · rw [(qinv_parts h).1]; exact qlen_den q
    · rw [(qinv_parts h).2]; exact qlen_num q
theorem qlen_div (p q : Rat) : qlen (p / q) ≤ qlen p + qlen q + 1 := by
  rw [Rat.div_def]
  have h1 := qlen_mul p q⁻¹
  have h2 := qlen_inv q
  omega
theorem qlen_int {z : Int} (h : isInt z) : qlen (z : Rat) ≤ 2 := by
  unfold isInt at h
  refine qlen_le ?_ ?_
  · rw [Rat.num_intCast]
    refine dg_length_le ?_
    have : (4294967296 : Nat) ^ 2 = 18446744073709551616 := by decide
    rw [this]; omega
  · rw [Rat.den_intCast]
    have := dg_one_length; omega
end Go.Proofs.Ytipcgehcineblaa

/-
  Package frac at this seat: Mul, Quo, Ratio.
-/
namespace Go.Proofs.Ytipcgehcineblaa
open Go.RowKit

set_option maxRecDepth 4096 in
set_option maxHeartbeats 4000000 in
theorem frac_mul (na : Bool) (a : Option Addr) (n cap : Nat) (la : List Nat) (b : Option Addr) (m cap' : Nat) (lb : List Nat) (nb : Bool) (a' : Option Addr) (n' c' : Nat) (la' : List Nat) (b' : Option Addr) (m' d' : Nat) (lb' : List Nat) (w : World) (ha : Wd w a n cap la) (hb : Wd w b m cap' lb) (ha' : Wd w a' n' c' la') (hb' : Wd w b' m' d' lb') (hn : n ≤ 15728640000) (hm : m ≤ 15728640000) (hn' : n' ≤ 15728640000) (hm' : m' ≤ 15728640000) :
    Calls Try.prog 13 #[frV na a n cap b m cap', frV nb a' n' c' b' m' d'] w (LstQ (qval na (val la) (val lb) * qval nb (val la') (val lb')) w) := by
  have HB := Lib.hid (below_then (below_then (below_alloc w (.cells #[.bool na, .slice a n cap, .slice b m cap'] 34)) (below_alloc _ (.cells #[.bool nb, .slice a' n' c', .slice b' m' d'] 34))) (below_alloc _ (.cells #[.bool false, .slice none 0 0, .slice none 0 0] 34)))
  have HA := Lib.hid (ha.later HB.out)
  have HC := Lib.hid (hb.later HB.out)
  have HA' := Lib.hid (ha'.later HB.out)
  have HC' := Lib.hid (hb'.later HB.out)
  obtain ⟨hx1, hx2, hx3⟩ := boxes3_at9 w #[.bool na, .slice a n cap, .slice b m cap'] #[.bool nb, .slice a' n' c', .slice b' m' d'] #[.bool false, .slice none 0 0, .slice none 0 0] 34 34 34
  have HX := Lib.hid hx1
  have HY := Lib.hid hx2
  have HR := Lib.hid hx3
  have ta := ha.trim_le
  have tb := hb.trim_le
  have ta' := ha'.trim_le
  have tb' := hb'.trim_le
  clear ha hb ha' hb' hx1 hx2 hx3
  obtain ⟨q, hq⟩ : ∃ q, qval na (val la) (val lb) * qval nb (val la') (val lb') = q := ⟨_, rfl⟩
  rw [hq]
  have HQ := Lib.hid hq
  clear hq
  have zl1 := zlen_mul (zval na (val la)) (zval nb (val la'))
  have zl2 := dg_mul_length (val lb) (val lb')
  rw [zval_abs, zval_abs] at zl1
  have HZ : Hid (qval (zneg (zval na (val la) * zval nb (val la'))) (val (dg (zval na (val la) * zval nb (val la')).natAbs)) (val (dg (val lb * val lb'))) = q) := Lib.hid (by rw [val_dg, val_dg, fc_qval_of, fc_qval_mul, HQ.out])
  go_enter Try.func13, Try.ntmps13
  unfold frV
  obtain ⟨vk0, vk1, vk2, vk3, vk4, vk5, vk6, vk7, vk8⟩ := fcells_3_3_3 HX.out HY.out HR.out
  go_wp2_with fail
  refine (frac_product na a n cap la b m cap' lb nb a' n' c' la' b' m' d' lb' _ HA.out HC.out HA'.out HC'.out (by omega) (by omega) (by omega) (by omega)).mono ?_
  rintro e wv1 ⟨a1, n1, c1, b1, m1, d1, rfl, h1, g1, b⟩
  clear vk0 vk1 vk2 vk3 vk4 vk5 vk6 vk7 vk8
  replace HB := Lib.hid (below_then HB.out b)
  replace HX := Lib.hid (blk_later HX.out b)
  replace HY := Lib.hid (blk_later HY.out b)
  replace HR := Lib.hid (blk_later HR.out b)
  clear HA
  clear HC
  clear HA'
  clear HC'
  clear b
  have ln1 := h1.len
  have lm1 := g1.len
  have R1 := Lib.hid h1
  have T1 := Lib.hid g1
  clear h1 g1
  unfold frV
  obtain ⟨vk0, vk1, vk2, vk3, vk4, vk5, vk6, vk7, vk8⟩ := fcells_3_3_3 HX.out HY.out HR.out
  go_wp2_with fail
  refine (frac_norm _ a1 n1 c1 _ b1 m1 d1 _ _ R1.out T1.out (by omega) (by omega)).mono ?_
  rintro e wv2 ⟨a2, n2, c2, b2, m2, d2, rfl, h2, g2, b⟩
  clear vk0 vk1 vk2 vk3 vk4 vk5 vk6 vk7 vk8
  replace HB := Lib.hid (below_then HB.out b)
  replace HX := Lib.hid (blk_later HX.out b)
  replace HY := Lib.hid (blk_later HY.out b)
  replace HR := Lib.hid (blk_later HR.out b)
  clear R1
  clear T1
  clear b
  rw [HZ.out] at h2 g2 ⊢
  have R2 := Lib.hid h2
  have T2 := Lib.hid g2
  clear h2 g2
  unfold frV
  have q0 := blk_cell HR.out 0
  have q1 := blk_cell HR.out 1
  have q2 := blk_cell HR.out 2
  simp only [List.getElem?_toArray, List.getElem?_cons_zero, List.getElem?_cons_succ] at q0 q1 q2
  have f0 := blk_free HR.out 0
  have f1 := blk_free HR.out 1
  have f2 := blk_free HR.out 2
  replace HX := Lib.hid (blk_far3 HX.out (show w.heap.size ≠ w.heap.size + 1 + 1 by omega) (.bool (zneg q.num)) (.slice a2 n2 c2) (.slice b2 m2 d2))
  replace HY := Lib.hid (blk_far3 HY.out (show w.heap.size + 1 ≠ w.heap.size + 1 + 1 by omega) (.bool (zneg q.num)) (.slice a2 n2 c2) (.slice b2 m2 d2))
  replace R2 := Lib.hid (R2.out.stored3 HR.out ((zneg q.num)) a2 n2 c2 (.slice b2 m2 d2))
  replace T2 := Lib.hid (T2.out.stored3 HR.out ((zneg q.num)) a2 n2 c2 (.slice b2 m2 d2))
  replace HB := Lib.hid (below_set3 HB.out (show w.heap.size ≤ w.heap.size + 1 + 1 by omega) (.bool (zneg q.num)) (.slice a2 n2 c2) (.slice b2 m2 d2))
  replace HR := Lib.hid (blk_set3 HR.out (.bool (zneg q.num)) (.slice a2 n2 c2) (.slice b2 m2 d2))
  go_wp2
  refine bodyPost_ret (results_cell_row Try.results13 _ _ (w.heap.size + 1 + 1) 34 #[.bool (zneg q.num), .slice a2 n2 c2, .slice b2 m2 d2] (0, 0) _ rfl HR.out Try.underlying34 rfl (by kernel_rfl)) rfl ?_
  exact ⟨a2, n2, c2, b2, m2, d2, rfl, R2.out, T2.out, HB.out⟩
set_option maxRecDepth 4096 in
set_option maxHeartbeats 4000000 in
theorem frac_quo (na : Bool) (a : Option Addr) (n cap : Nat) (la : List Nat) (b : Option Addr) (m cap' : Nat) (lb : List Nat) (nb : Bool) (a' : Option Addr) (n' c' : Nat) (la' : List Nat) (b' : Option Addr) (m' d' : Nat) (lb' : List Nat) (w : World) (ha : Wd w a n cap la) (hb : Wd w b m cap' lb) (ha' : Wd w a' n' c' la') (hb' : Wd w b' m' d' lb') (hn : n ≤ 15728640000) (hm : m ≤ 15728640000) (hn' : n' ≤ 15728640000) (hm' : m' ≤ 15728640000) :
    Calls Try.prog 40 #[frV na a n cap b m cap', frV nb a' n' c' b' m' d'] w (LstQV (qval na (val la) (val lb) / qval nb (val la') (val lb')) (.bool (decide (qval nb (val la') (val lb') ≠ 0))) w) := by
  have HB := Lib.hid (below_then (below_then (below_alloc w (.cells #[.bool na, .slice a n cap, .slice b m cap'] 34)) (below_alloc _ (.cells #[.bool nb, .slice a' n' c', .slice b' m' d'] 34))) (below_alloc _ (.cells #[.bool false, .slice none 0 0, .slice none 0 0] 34)))
  have HA := Lib.hid (ha.later HB.out)
  have HC := Lib.hid (hb.later HB.out)
  have HA' := Lib.hid (ha'.later HB.out)
  have HC' := Lib.hid (hb'.later HB.out)
  obtain ⟨hx1, hx2, hx3⟩ := boxes3_at9 w #[.bool na, .slice a n cap, .slice b m cap'] #[.bool nb, .slice a' n' c', .slice b' m' d'] #[.bool false, .slice none 0 0, .slice none 0 0] 34 34 34
  have HX := Lib.hid hx1
  have HY := Lib.hid hx2
  have HR := Lib.hid hx3
  have ta := ha.trim_le
  have tb := hb.trim_le
  have ta' := ha'.trim_le
  have tb' := hb'.trim_le
  clear ha hb ha' hb' hx1 hx2 hx3
  have H0 : Hid (sgn (qval nb (val la') (val lb')).num = 0 → qval na (val la) (val lb) / qval nb (val la') (val lb') = 0 ∧ qval nb (val la') (val lb') = 0) := Lib.hid (fun h => by
    have h1 := fc_qsign_zero.1 h
    exact ⟨by rw [h1, Rat.div_def, Rat.inv_zero, Rat.mul_zero], h1⟩)
  have H1 : Hid (sgn (qval nb (val la') (val lb')).num ≠ 0 → qval nb (val la') (val lb') ≠ 0) := Lib.hid (fun h e => h (fc_qsign_zero.2 e))
  have HT : Hid (qval na (val la) (val lb) * qval nb (val lb') (val la') = qval na (val la) (val lb) / qval nb (val la') (val lb')) := Lib.hid (by rw [qval_turned nb (val la') (val lb'), Rat.div_def])
  generalize qval na (val la) (val lb) / qval nb (val la') (val lb') = q at *
  generalize hp : qval nb (val la') (val lb') = p at *
  have HP := Lib.hid hp
  clear hp
  go_enter Try.func40, Try.ntmps40
  unfold frV
  obtain ⟨vk0, vk1, vk2, vk3, vk4, vk5, vk6, vk7, vk8⟩ := fcells_3_3_3 HX.out HY.out HR.out
  go_wp2_with fail
  refine (frac_sign nb a' n' c' la' b' m' d' lb' _ HA'.out HC'.out (by omega) (by omega)).mono ?_
  rintro e wv1 ⟨rfl, b⟩
  clear vk0 vk1 vk2 vk3 vk4 vk5 vk6 vk7 vk8
  replace HB := Lib.hid (below_then HB.out b)
  replace HX := Lib.hid (blk_later HX.out b)
  replace HY := Lib.hid (blk_later HY.out b)
  replace HR := Lib.hid (blk_later HR.out b)
  replace HA := Lib.hid (HA.out.later b)
  replace HC := Lib.hid (HC.out.later b)
  replace HA' := Lib.hid (HA'.out.later b)
  replace HC' := Lib.hid (HC'.out.later b)
  clear b
  rw [HP.out]
  generalize sgn p.num = s at *
  by_cases h0 : s = 0
  · have hs : (s == 0) = true := by simp [h0]
    have HQ0 : Hid (((0 : Int) : Rat) = q) := Lib.hid (by rw [(H0.out h0).1]; rfl)
    have HD : Hid (decide (p ≠ 0) = false) := Lib.hid (decide_eq_false (fun h => h (H0.out h0).2))
    clear h0 H0 H1 HA HC HA' HC'
    obtain ⟨uk0, uk1, uk2, uk3, uk4, uk5, uk6, uk7, uk8⟩ := fcells_3_3_3 HX.out HY.out HR.out
    go_wp2_with fail
    refine (frac_of 0 _ isInt_nought).mono ?_
    rintro e wu1 ⟨a1, n1, c1, b1, m1, d1, rfl, h1, g1, b⟩
    clear uk0 uk1 uk2 uk3 uk4 uk5 uk6 uk7 uk8
    replace HB := Lib.hid (below_then HB.out b)
    replace HX := Lib.hid (blk_later HX.out b)
    replace HY := Lib.hid (blk_later HY.out b)
    replace HR := Lib.hid (blk_later HR.out b)
    clear b
    rw [HQ0.out] at h1 g1 ⊢
    have R1 := Lib.hid h1
    have T1 := Lib.hid g1
    clear h1 g1
    unfold frV
    have q0 := blk_cell HR.out 0
    have q1 := blk_cell HR.out 1
    have q2 := blk_cell HR.out 2
    simp only [List.getElem?_toArray, List.getElem?_cons_zero, List.getElem?_cons_succ] at q0 q1 q2
    have f0 := blk_free HR.out 0
    have f1 := blk_free HR.out 1
    have f2 := blk_free HR.out 2
    replace HX := Lib.hid (blk_far3 HX.out (show w.heap.size ≠ w.heap.size + 1 + 1 by omega) (.bool (zneg q.num)) (.slice a1 n1 c1) (.slice b1 m1 d1))
    replace HY := Lib.hid (blk_far3 HY.out (show w.heap.size + 1 ≠ w.heap.size + 1 + 1 by omega) (.bool (zneg q.num)) (.slice a1 n1 c1) (.slice b1 m1 d1))
    replace R1 := Lib.hid (R1.out.stored3 HR.out ((zneg q.num)) a1 n1 c1 (.slice b1 m1 d1))
    replace T1 := Lib.hid (T1.out.stored3 HR.out ((zneg q.num)) a1 n1 c1 (.slice b1 m1 d1))
    replace HB := Lib.hid (below_set3 HB.out (show w.heap.size ≤ w.heap.size + 1 + 1 by omega) (.bool (zneg q.num)) (.slice a1 n1 c1) (.slice b1 m1 d1))
    replace HR := Lib.hid (blk_set3 HR.out (.bool (zneg q.num)) (.slice a1 n1 c1) (.slice b1 m1 d1))
    go_wp2
    refine bodyPost_ret (results_row_tmp Try.results40 _ _ (w.heap.size + 1 + 1) 34 #[.bool (zneg q.num), .slice a1 n1 c1, .slice b1 m1 d1] (0, 0) _ rfl HR.out Try.underlying34 rfl (by kernel_rfl)) rfl ?_
    exact ⟨a1, n1, c1, b1, m1, d1, by rw [HD.out]; rfl, R1.out, T1.out, HB.out⟩
  · have hs : (s == 0) = false := by simp [h0]
    have HD : Hid (decide (p ≠ 0) = true) := Lib.hid (decide_eq_true (H1.out h0))
    clear h0 H0 H1
    obtain ⟨uk0, uk1, uk2, uk3, uk4, uk5, uk6, uk7, uk8⟩ := fcells_3_3_3 HX.out HY.out HR.out
    go_wp2
    clear uk0 uk1 uk2 uk3 uk4 uk5 uk6 uk7 uk8
    replace HB := Lib.hid (below_then HB.out ((Below.refl _ _).drew : Below wv1.heap.size wv1 wv1.drew))
    replace HX : Hid (wv1.drew.heap[w.heap.size]? = _) := Lib.hid HX.out
    replace HY : Hid (wv1.drew.heap[w.heap.size + 1]? = _) := Lib.hid HY.out
    replace HR : Hid (wv1.drew.heap[w.heap.size + 1 + 1]? = some (.cells #[.bool false, .slice none 0 0, .slice none 0 0] 34 (0, 0))) := Lib.hid HR.out
    replace HA := Lib.hid (HA.out.later ((Below.refl _ _).drew : Below wv1.heap.size wv1 wv1.drew))
    replace HC := Lib.hid (HC.out.later ((Below.refl _ _).drew : Below wv1.heap.size wv1 wv1.drew))
    replace HA' := Lib.hid (HA'.out.later ((Below.refl _ _).drew : Below wv1.heap.size wv1 wv1.drew))
    replace HC' := Lib.hid (HC'.out.later ((Below.refl _ _).drew : Below wv1.heap.size wv1 wv1.drew))
    have pSn := fcells_3_3 HX.out HY.out
    go_region_held3 (fun w' => w'.cell? ⟨w.heap.size, 0, none⟩ = some (.bool na) ∧ w'.cell? ⟨w.heap.size, 1, none⟩ = some (.slice a n cap) ∧ w'.cell? ⟨w.heap.size, 2, none⟩ = some (.slice b m cap') ∧ w'.cell? ⟨w.heap.size + 1, 0, none⟩ = some (.bool nb) ∧ w'.cell? ⟨w.heap.size + 1, 1, none⟩ = some (.slice a' n' c') ∧ w'.cell? ⟨w.heap.size + 1, 2, none⟩ = some (.slice b' m' d')) (first | exact pSn | exact pSb _ _ _)
      (first
      | (go_at_call 63; (first
        | (refine (frac_under nb a' n' c' b' m' d' _).mono ?_; rintro e wp1 ⟨rfl, b⟩; replace HB := Lib.hid (below_then HB.out b); replace HX := Lib.hid (blk_later HX.out b); replace HY := Lib.hid (blk_later HY.out b); replace HR := Lib.hid (blk_later HR.out b); replace HA := Lib.hid (HA.out.later b); replace HC := Lib.hid (HC.out.later b); replace HA' := Lib.hid (HA'.out.later b); replace HC' := Lib.hid (HC'.out.later b); unfold frV; clear b; clear pSn; have pSn := fcells_3_3 HX.out HY.out; have pM1 := True.intro)))
      | (go_at_call 13; (first
        | (have pm1 := pM1; refine (frac_mul na a n cap la b m cap' lb nb b' m' d' lb' a' n' c' la' _ HA.out HC.out HC'.out HA'.out hn hm hm' hn').mono ?_; rintro e wp2 ⟨a1, n1, c1, b1, m1, d1, rfl, h1, g1, b⟩; replace HB := Lib.hid (below_then HB.out b); replace HX := Lib.hid (blk_later HX.out b); replace HY := Lib.hid (blk_later HY.out b); replace HR := Lib.hid (blk_later HR.out b); replace HA := Lib.hid (HA.out.later b); replace HC := Lib.hid (HC.out.later b); replace HA' := Lib.hid (HA'.out.later b); replace HC' := Lib.hid (HC'.out.later b); rw [HT.out] at h1 g1 ⊢; have R1 := Lib.hid h1; have T1 := Lib.hid g1; clear h1 g1; obtain ⟨r0, r1, r2⟩ := fcells_3 HR.out; have f0 := blk_free HR.out 0; have f1 := blk_free HR.out 1; have f2 := blk_free HR.out 2; have pSb := fun u v q => fcells_3_3 (blk_far3 (g := w.heap.size + 1 + 1) HX.out (by omega) u v q) (blk_far3 (g := w.heap.size + 1 + 1) HY.out (by omega) u v q); unfold frV; clear b; clear pSn; have pSn := fcells_3_3 HX.out HY.out; clear pM1 pm1; have pM2 := True.intro))))
    have HG := Lib.hid (blk_set3 HR.out (.bool (zneg q.num)) (.slice a1 n1 c1) (.slice b1 m1 d1))
    have HL := Lib.hid (below_set3 HB.out (show w.heap.size ≤ w.heap.size + 1 + 1 by omega) (.bool (zneg q.num)) (.slice a1 n1 c1) (.slice b1 m1 d1))
    have HW1 := Lib.hid (R1.out.stored3 HR.out (zneg q.num) a1 n1 c1 (.slice b1 m1 d1))
    have HW2 := Lib.hid (T1.out.stored3 HR.out (zneg q.num) a1 n1 c1 (.slice b1 m1 d1))
    go_wp2
    refine bodyPost_ret (results_row_tmp Try.results40 _ _ (w.heap.size + 1 + 1) 34 #[.bool (zneg q.num), .slice a1 n1 c1, .slice b1 m1 d1] (0, 0) _ rfl HG.out Try.underlying34 rfl (by kernel_rfl)) rfl ?_
    exact ⟨a1, n1, c1, b1, m1, d1, by rw [HD.out]; rfl, HW1.out, HW2.out, HL.out⟩
end Go.Proofs.Ytipcgehcineblaa
