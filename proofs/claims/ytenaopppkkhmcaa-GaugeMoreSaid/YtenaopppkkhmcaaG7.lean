/-
  Several texts of this claim as one, group 7.
-/
import Derived.Test.YtenaopppkkhmcaaG6
import Derived.Test.YtenaopppkkhmcaaG2
import Derived.Test.YtenaopppkkhmcaaG1
import Derived.Test.YtenaopppkkhmcaaG3
import Derived.Test.YtenaopppkkhmcaaG5
import Derived.Deep.RegionHeld3
import Derived.Deep.RegionWith
import Derived.Deep.CutRange
/-
  What package frac's functions owe (layer 9), as one hypothesis: the contracts that the laws' walks lean on. In rational numbers.
-/
namespace Go.Proofs.Ytenaopppkkhmcaa
open Go.RowKit

/-- In the world w the value v is a fraction of the value q, of at most N words each. -/
def Fr (w : World) (v : Value) (q : Rat) (N : Nat) : Prop :=
  ∃ (neg : Bool) (a : Option Addr) (n cap : Nat) (la : List Nat) (b : Option Addr) (m cap' : Nat) (lb : List Nat), v = frV neg a n cap b m cap' ∧ Wd w a n cap la ∧ Wd w b m cap' lb ∧ n ≤ N ∧ m ≤ N ∧ qval neg (val la) (val lb) = q
/-- The right one. -/
def Rt (w : World) (v : Value) (q : Rat) (N : Nat) : Prop :=
  ∃ (a : Option Addr) (n cap : Nat) (b : Option Addr) (m cap' : Nat), v = frV (zneg q.num) a n cap b m cap' ∧ Wd w a n cap (dg q.num.natAbs) ∧ Wd w b m cap' (dg q.den) ∧ n ≤ N ∧ m ≤ N
theorem Fr.of {w : World} {neg : Bool} {a : Option Addr} {n cap : Nat} {la : List Nat} {b : Option Addr} {m cap' : Nat} {lb : List Nat} {q : Rat} {N : Nat} (ha : Wd w a n cap la) (hb : Wd w b m cap' lb) (hn : n ≤ N) (hm : m ≤ N) (hq : qval neg (val la) (val lb) = q) : Fr w (frV neg a n cap b m cap') q N :=
  ⟨neg, a, n, cap, la, b, m, cap', lb, rfl, ha, hb, hn, hm, hq⟩
theorem Rt.of {w : World} {a : Option Addr} {n cap : Nat} {b : Option Addr} {m cap' : Nat} {q : Rat} {N : Nat} (ha : Wd w a n cap (dg q.num.natAbs)) (hb : Wd w b m cap' (dg q.den)) (hn : n ≤ N) (hm : m ≤ N) : Rt w (frV (zneg q.num) a n cap b m cap') q N :=
  ⟨a, n, cap, b, m, cap', rfl, ha, hb, hn, hm⟩
theorem Rt.fr {w : World} {v : Value} {q : Rat} {N : Nat} (h : Rt w v q N) : Fr w v q N := by
  obtain ⟨a, n, cap, b, m, cap', rfl, ha, hb, hn, hm⟩ := h
  exact Fr.of ha hb hn hm (qval_dg q)
theorem Fr.right {w : World} {a : Option Addr} {n cap : Nat} {b : Option Addr} {m cap' : Nat} {q : Rat} {N : Nat} (ha : Wd w a n cap (dg q.num.natAbs)) (hb : Wd w b m cap' (dg q.den)) (hn : n ≤ N) (hm : m ≤ N) : Fr w (frV (zneg q.num) a n cap b m cap') q N := (Rt.of ha hb hn hm).fr
/-- How many words its right one has, at most. -/
def qlen (q : Rat) : Nat := max (dg q.num.natAbs).length (dg q.den).length
theorem qlen_num (q : Rat) : (dg q.num.natAbs).length ≤ qlen q := Nat.le_max_left _ _
theorem qlen_den (q : Rat) : (dg q.den).length ≤ qlen q := Nat.le_max_right _ _
theorem qlen_le {q : Rat} {N : Nat} (h1 : (dg q.num.natAbs).length ≤ N) (h2 : (dg q.den).length ≤ N) : qlen q ≤ N := Nat.max_le.2 ⟨h1, h2⟩
theorem Fr.len {w : World} {v : Value} {q : Rat} {N : Nat} (h : Fr w v q N) : qlen q ≤ N + 1 := by
  obtain ⟨neg, a, n, cap, la, b, m, cap', lb, rfl, ha, hb, hn, hm, rfl⟩ := h
  by_cases hv : val lb = 0
  · rw [qval_none neg (.inl hv)]
    refine qlen_le ?_ ?_
    · show (dg (0 : Nat)).length ≤ _
      rw [dg_zero]; exact Nat.zero_le _
    · show (dg (1 : Nat)).length ≤ _
      have := dg_one_length; omega
  · obtain ⟨h1, h2⟩ := qval_parts neg (u := val la) hv
    refine qlen_le ?_ ?_
    · rw [h1, zval_abs]
      exact Nat.le_trans (dg_length_mono (Nat.div_le_self _ _)) (Nat.le_trans ha.trim_le (by omega))
    · rw [h2]
      exact Nat.le_trans (dg_length_mono (Nat.div_le_self _ _)) (Nat.le_trans hb.trim_le (by omega))
/-- A right fraction and one more result. -/
def LstQV (q : Rat) (v : Value) (w : World) (e : Ending) (w' : World) : Prop :=
  ∃ (a : Option Addr) (n cap : Nat) (b : Option Addr) (m cap' : Nat), e = .returned (.tuple #[frV (zneg q.num) a n cap b m cap', v]) ∧ Wd w' a n cap (dg q.num.natAbs) ∧ Wd w' b m cap' (dg q.den) ∧ Below w.heap.size w w'
structure FracSaid : Prop where
  new : ∀ (neg : Bool) (a : Option Addr) (n cap : Nat) (la : List Nat) (b : Option Addr) (m cap' : Nat) (lb : List Nat) (q : Rat) (w : World), Wd w a n cap la → Wd w b m cap' lb → n ≤ 2097152000 → m ≤ 2097152000 → qval neg (val la) (val lb) = q → Calls Try.prog 38 #[whV neg a n cap, .slice b m cap'] w (LstQV q (.bool (decide (val lb ≠ 0))) w)
  of : ∀ (z : Int) (w : World), isInt z → Calls Try.prog 17 #[.int .i64 z] w (LstQ (z : Rat) w)
  ratio : ∀ (x y : Int) (w : World), isInt x → isInt y → Calls Try.prog 15 #[.int .i64 x, .int .i64 y] w (LstQV ((x : Rat) / (y : Rat)) (.bool (decide (y ≠ 0))) w)
  norm : ∀ (v : Value) (q : Rat) (w : World), Fr w v q 2097152000 → Calls Try.prog 35 #[v] w (LstQ q w)
  sign : ∀ (v : Value) (q : Rat) (w : World), Fr w v q 2097152000 → Calls Try.prog 27 #[v] w (Gives (.int .i64 (sgn q.num)) w)
  mul : ∀ (v u : Value) (p q : Rat) (w : World), Fr w v p 2097152000 → Fr w u q 2097152000 → Calls Try.prog 28 #[v, u] w (LstQ (p * q) w)
  quo : ∀ (v u : Value) (p q : Rat) (w : World), Fr w v p 2097152000 → Fr w u q 2097152000 → Calls Try.prog 22 #[v, u] w (LstQV (p / q) (.bool (decide (q ≠ 0))) w)
  size : ∀ (neg : Bool) (a : Option Addr) (n cap : Nat) (la : List Nat) (b : Option Addr) (m cap' : Nat) (lb : List Nat) (w : World), Wd w a n cap la → Wd w b m cap' lb → n ≤ 2097152000 → m ≤ 2097152000 → Calls Try.prog 23 #[frV neg a n cap b m cap'] w (Gives (.int .i64 ((blen (val la) + blen (val lb) : Nat) : Int)) w)
end Go.Proofs.Ytenaopppkkhmcaa

/-
  Plain mathematics: common divisors by halving and taking away. Nothing of the program.
-/
namespace Go.Proofs.Ytenaopppkkhmcaa

end Go.Proofs.Ytenaopppkkhmcaa

/-
  The contracts of the document's answer for layer 6: Zeros, Less in a window, down, odd, double.
-/
namespace Go.Proofs.Ytenaopppkkhmcaa
open Go.RowKit

end Go.Proofs.Ytenaopppkkhmcaa

/-
  The contracts of the document's answer for layer 6: double, Gcd, One, Over, Lcm.
-/
namespace Go.Proofs.Ytenaopppkkhmcaa
open Go.RowKit

end Go.Proofs.Ytenaopppkkhmcaa

/-
  The contracts of the document's answer for layer 6: One, Over, Lcm.
-/
namespace Go.Proofs.Ytenaopppkkhmcaa
open Go.RowKit

end Go.Proofs.Ytenaopppkkhmcaa

/-
  The contracts of the document's answer for layer 9: Norm.
-/
namespace Go.Proofs.Ytenaopppkkhmcaa
open Go.RowKit

theorem cells_3 {w : World} {A0 : Nat} {c0_0 c0_1 c0_2 : Value} {t0 : TypeId} (h0 : w.heap[A0]? = some (.cells #[c0_0, c0_1, c0_2] t0 (0, 0))) : w.cell? ⟨A0, 0, none⟩ = some c0_0 ∧ w.cell? ⟨A0, 1, none⟩ = some c0_1 ∧ w.cell? ⟨A0, 2, none⟩ = some c0_2 := ⟨blk_cell h0 0, blk_cell h0 1, blk_cell h0 2⟩
theorem blk_set3 {w : World} {g : Nat} {x y z : Value} {t : TypeId} (h : w.heap[g]? = some (.cells #[x, y, z] t (0, 0))) (u v q : Value) : (((w.setCell ⟨g, 0, none⟩ u).setCell ⟨g, 1, none⟩ v).setCell ⟨g, 2, none⟩ q).heap[g]? = some (.cells #[u, v, q] t (0, 0)) := by
  have h1 := blk_set (blk_set (blk_set h 0 u) 1 v) 2 q
  simpa using h1
theorem no_words3 {b : Bool} {a : Option Addr} {n cap : Nat} {c : Option Addr} {m cap' : Nat} : ∀ (j : Nat) (k : Int), (#[Value.bool b, .slice a n cap, .slice c m cap'] : Array Value)[j]? ≠ some (.int .u32 k) := by
  intro j k
  match j with
  | 0 => simp
  | 1 => simp
  | 2 => simp
  | j + 3 => simp
theorem Wd.stored3 {w : World} {a : Option Addr} {n cap : Nat} {l : List Nat} (h : Wd w a n cap l) {g : Nat} {b : Bool} {x : Option Addr} {y z : Nat} {x' : Option Addr} {y' z' : Nat} {t : TypeId} (hg : w.heap[g]? = some (.cells #[.bool b, .slice x y z, .slice x' y' z'] t (0, 0))) (c : Bool) (e : Option Addr) (i j : Nat) (v : Value) :
    Wd (((w.setCell ⟨g, 0, none⟩ (.bool c)).setCell ⟨g, 1, none⟩ (.slice e i j)).setCell ⟨g, 2, none⟩ v) a n cap l := by
  have h1 := h.stored hg no_words3 0 (.bool c)
  have g1 : (w.setCell ⟨g, 0, none⟩ (.bool c)).heap[g]? = some (.cells #[.bool c, .slice x y z, .slice x' y' z'] t (0, 0)) := by simpa using blk_set hg 0 (.bool c)
  have h2 := h1.stored g1 no_words3 1 (.slice e i j)
  have g2 : ((w.setCell ⟨g, 0, none⟩ (.bool c)).setCell ⟨g, 1, none⟩ (.slice e i j)).heap[g]? = some (.cells #[.bool c, .slice e i j, .slice x' y' z'] t (0, 0)) := by simpa using blk_set g1 1 (.slice e i j)
  exact h2.stored g2 no_words3 2 v
theorem below_set3 {w w1 : World} {g : Nat} (h : Below w.heap.size w w1) (hg : w.heap.size ≤ g) (u v q : Value) : Below w.heap.size w (((w1.setCell ⟨g, 0, none⟩ u).setCell ⟨g, 1, none⟩ v).setCell ⟨g, 2, none⟩ q) := ((h.setCell (p := ⟨g, 0, none⟩) hg u).setCell (p := ⟨g, 1, none⟩) hg v).setCell (p := ⟨g, 2, none⟩) hg q
end Go.Proofs.Ytenaopppkkhmcaa

/-
  The contracts of the document's answer for layer 9: Neg, Zero, Sign, Same.
-/
namespace Go.Proofs.Ytenaopppkkhmcaa
open Go.RowKit

end Go.Proofs.Ytenaopppkkhmcaa

/-
  The contracts of the document's answer for layer 9: Mul, Quo.
-/
namespace Go.Proofs.Ytenaopppkkhmcaa
open Go.RowKit

theorem blk_far3 {w : World} {A g : Nat} {o : Obj} (h : w.heap[A]? = some o) (hne : A ≠ g) (u v q : Value) : (((w.setCell ⟨g, 0, none⟩ u).setCell ⟨g, 1, none⟩ v).setCell ⟨g, 2, none⟩ q).heap[A]? = some o :=
  blk_apart (blk_apart (blk_apart h hne 0 u) hne 1 v) hne 2 q
theorem boxes3_at9 (w : World) (x y z : Array Value) (t s r : TypeId) :
    (((w.alloc (.cells x t)).alloc (.cells y s)).alloc (.cells z r)).heap[w.heap.size]? = some (.cells x t (0, 0)) ∧ (((w.alloc (.cells x t)).alloc (.cells y s)).alloc (.cells z r)).heap[w.heap.size + 1]? = some (.cells y s (0, 0)) ∧ (((w.alloc (.cells x t)).alloc (.cells y s)).alloc (.cells z r)).heap[w.heap.size + 1 + 1]? = some (.cells z r (0, 0)) := boxes3_at w x y z t s r
end Go.Proofs.Ytenaopppkkhmcaa

/-
  The contract of the document's answer for layer 8: Floor, where both signs are alike.
-/
namespace Go.Proofs.Ytenaopppkkhmcaa
open Go.RowKit

end Go.Proofs.Ytenaopppkkhmcaa

/-
  The contract of the document's answer for layer 8: Floor, where nothing is left.
-/
namespace Go.Proofs.Ytenaopppkkhmcaa
open Go.RowKit

end Go.Proofs.Ytenaopppkkhmcaa

/-
  The contract of the document's answer for layer 8: Floor, where something is left.
-/
namespace Go.Proofs.Ytenaopppkkhmcaa
open Go.RowKit

end Go.Proofs.Ytenaopppkkhmcaa

/-
  The contracts of the document's answer for layer 7: Read.
-/
namespace Go.Proofs.Ytenaopppkkhmcaa
open Go.RowKit

end Go.Proofs.Ytenaopppkkhmcaa

/-
  The contracts of the document's answer for layer 8: Read.
-/
namespace Go.Proofs.Ytenaopppkkhmcaa
open Go.RowKit

theorem results_row_tmp {P : Program} {fn : Func} {p u : Tmp} {ty : TypeId} (h : fn.results = #[.cell p ty, .tmp u]) (tmps : Array Value) (w : World) (g : Nat) (t : TypeId) (cs : Array Value) (fr : Nat × Nat) (d : TypeDesc)
    (hp : tmps.getD p undef = .pointer (some ⟨g, 0, none⟩)) (hg : w.heap[g]? = some (.cells cs t fr))
    (hu : P.underlying ty = some d) (hd : (match d with | .struct _ | .array _ _ => true | _ => false) = true) (hi : (P.info? ty).map (·.size) = some cs.size) :
    (results fn tmps).run P w = .ok (.tuple #[.agg cs, tmps.getD u undef]) w := by
  rw [results_cell_tmp h, hp]
  simp [asAddr, run_loadVar_row w g t ty cs fr d hg hu hd hi]
end Go.Proofs.Ytenaopppkkhmcaa

/-
  The contracts of the document's answer for layer 8, in whole numbers; and its quotient is the one that is rounded down.
-/
namespace Go.Proofs.Ytenaopppkkhmcaa
open Go.RowKit

end Go.Proofs.Ytenaopppkkhmcaa

/-
  The contract of the document's answer for layer 9: Add.
-/
namespace Go.Proofs.Ytenaopppkkhmcaa
open Go.RowKit

end Go.Proofs.Ytenaopppkkhmcaa

/-
  The contracts of the document's answer for layer 9: Sub, Sign, Cmp.
-/
namespace Go.Proofs.Ytenaopppkkhmcaa
open Go.RowKit

end Go.Proofs.Ytenaopppkkhmcaa

/-
  The contracts of the document's answer for layer 9: Cmp, Abs.
-/
namespace Go.Proofs.Ytenaopppkkhmcaa
open Go.RowKit

end Go.Proofs.Ytenaopppkkhmcaa

/-
  The contract of the document's answer for layer 9: Int.
-/
namespace Go.Proofs.Ytenaopppkkhmcaa
open Go.RowKit

end Go.Proofs.Ytenaopppkkhmcaa

/-
  The contracts of the document's answer for layer 9: Size, Long.
-/
namespace Go.Proofs.Ytenaopppkkhmcaa
open Go.RowKit

theorem blen_words {w : World} {a : Option Addr} {n cap : Nat} {l : List Nat} (h : Wd w a n cap l) : blen (val l) ≤ 32 * n := by
  have h1 := val_lt h.ok
  rw [h.len, pow32] at h1
  exact blen_le.2 h1
theorem ref03_len_at (a : Option Addr) (n cap : Nat) (l : List Nat) (x : Nat) (w : World) (h : Wd w a n cap l) (hn : n ≤ 17592183947264) (hx : blen (val l) = x) : Calls Try.prog 21 #[.slice a n cap] w (Gives (.int .i64 (x : Int)) w) :=
  (ref03_len a n cap l w h hn).mono fun _ _ ⟨he, hw⟩ => ⟨by rw [he, hx], by subst hw; exact Below.refl _ _⟩
set_option maxRecDepth 4096 in
set_option maxHeartbeats 2000000 in
theorem ref09_size (neg : Bool) (a : Option Addr) (n cap : Nat) (la : List Nat) (b : Option Addr) (m cap' : Nat) (lb : List Nat) (w : World) (ha : Wd w a n cap la) (hb : Wd w b m cap' lb) (hn : n ≤ 104857600000) (hm : m ≤ 104857600000) :
    Calls Try.prog 14 #[frV neg a n cap b m cap'] w (Gives (.int .i64 ((blen (val la) + blen (val lb) : Nat) : Int)) w) := by
  have HB := Lib.hid (below_alloc w (.cells #[.bool neg, .slice a n cap, .slice b m cap'] 40))
  have HA := Lib.hid (ha.later HB.out)
  have HC := Lib.hid (hb.later HB.out)
  have HX : Hid ((w.alloc (.cells #[.bool neg, .slice a n cap, .slice b m cap'] 40)).heap[w.heap.size]? = some (.cells #[.bool neg, .slice a n cap, .slice b m cap'] 40 (0, 0))) := Lib.hid (blk_new w _ _)
  have hla := blen_words ha
  have hlb := blen_words hb
  clear ha hb
  go_enter Try.func14, Try.ntmps14
  unfold frV
  go_wp2
  generalize (w.alloc (.cells #[.bool neg, .slice a n cap, .slice b m cap'] 40)) = W at *
  generalize hx : blen (val la) = x at *
  generalize hy : blen (val lb) = y at *
  have EX := Lib.hid hx
  have EY := Lib.hid hy
  clear hx hy
  replace HB := Lib.hid (below_then HB.out ((Below.refl _ _).drew : Below W.heap.size W W.drew))
  replace HX : Hid (W.drew.heap[w.heap.size]? = _) := Lib.hid HX.out
  replace HA := Lib.hid (HA.out.later ((Below.refl _ _).drew : Below W.heap.size W W.drew))
  replace HC := Lib.hid (HC.out.later ((Below.refl _ _).drew : Below W.heap.size W W.drew))
  have pSn := cells_3 HX.out
  go_region_held3 (fun w' => w'.cell? ⟨w.heap.size, 0, none⟩ = some (.bool neg) ∧ w'.cell? ⟨w.heap.size, 1, none⟩ = some (.slice a n cap) ∧ w'.cell? ⟨w.heap.size, 2, none⟩ = some (.slice b m cap')) (exact pSn)
    (first
    | (go_at_call 21; (first
      | (have pm1 := pM1; refine (ref03_len_at b m cap' lb y _ HC.out (by omega) EY.out).mono ?_; rintro e wp2 ⟨rfl, b⟩; replace HB := Lib.hid (below_then HB.out b); replace HX := Lib.hid (blk_later HX.out b); replace HA := Lib.hid (HA.out.later b); replace HC := Lib.hid (HC.out.later b); clear b; clear pSn; have pSn := cells_3 HX.out; clear pM1 pm1; have pM2 := True.intro)
      | (refine (ref03_len_at a n cap la x _ HA.out (by omega) EX.out).mono ?_; rintro e wp1 ⟨rfl, b⟩; replace HB := Lib.hid (below_then HB.out b); replace HX := Lib.hid (blk_later HX.out b); replace HA := Lib.hid (HA.out.later b); replace HC := Lib.hid (HC.out.later b); clear b; clear pSn; have pSn := cells_3 HX.out; have pM1 := True.intro))))
  go_wp2
  go_ret
  have HW : IntKind.i64.wrap ((x : Int) + (y : Int)) = ((x + y : Nat) : Int) := by rw [IntKind.wrap_i64]; omega
  exact ⟨by rw [← HW]; rfl, HB.out⟩
set_option maxRecDepth 4096 in
theorem ref09_long (neg : Bool) (a : Option Addr) (n cap : Nat) (b : Option Addr) (m cap' : Nat) (k : Int) (w : World) :
    Calls Try.prog 18 #[frV neg a n cap b m cap', .int .i64 k] w (Gives (.bool (decide (k < (n : Int)) || decide (k < (m : Int)))) w) := by
  unfold frV
  go_enter Try.func18, Try.ntmps18
  by_cases h : k < (n : Int)
  · rw [decide_eq_true h, Bool.true_or]
    go_wp2
    go_ret
    exact ⟨rfl, below_alloc _ _⟩
  · rw [decide_eq_false h, Bool.false_or]
    go_wp2
    go_ret
    exact ⟨rfl, below_alloc _ _⟩
end Go.Proofs.Ytenaopppkkhmcaa

/-
  The contracts of the document's answer for layer 9: Pow.
-/
namespace Go.Proofs.Ytenaopppkkhmcaa
open Go.RowKit

theorem isInt_nought : isInt 0 := by unfold isInt; omega
end Go.Proofs.Ytenaopppkkhmcaa

/-
  Package frac at this seat: turned, under, times, Of.
-/
namespace Go.Proofs.Ytenaopppkkhmcaa
open Go.RowKit

set_option maxRecDepth 4096 in
set_option maxHeartbeats 4000000 in
theorem frac_under (neg : Bool) (a : Option Addr) (n cap : Nat) (b : Option Addr) (m cap' : Nat) (w : World) :
    Calls Try.prog 29 #[frV neg a n cap b m cap'] w (Gives (frV neg b m cap' a n cap) w) := by
  have HG : Hid (((w.alloc (.cells #[.bool neg, .slice a n cap, .slice b m cap'] 48)).alloc (.cells #[.bool neg, .slice b m cap', .slice a n cap] 48)).heap[w.heap.size + 1]? = some (.cells #[.bool neg, .slice b m cap', .slice a n cap] 48 (0, 0))) := Lib.hid (boxes_at w ((w.alloc (.cells #[.bool neg, .slice a n cap, .slice b m cap'] 48)).alloc (.cells #[.bool neg, .slice b m cap', .slice a n cap] 48)) _ _ _ _ (Below.refl _ _)).2
  have HB := Lib.hid (below_then (below_alloc w (.cells #[.bool neg, .slice a n cap, .slice b m cap'] 48)) (below_alloc _ (.cells #[.bool neg, .slice b m cap', .slice a n cap] 48)))
  go_enter Try.func29, Try.ntmps29
  unfold frV
  go_wp2
  refine bodyPost_ret (results_cell_row Try.results29 _ _ (w.heap.size + 1) 48 #[.bool neg, .slice b m cap', .slice a n cap] (0, 0) _ rfl HG.out Try.underlying48 rfl (by kernel_rfl)) rfl ?_
  exact ⟨rfl, HB.out⟩
set_option maxRecDepth 4096 in
set_option maxHeartbeats 4000000 in
theorem frac_of (x : Int) (w : World) (hx : isInt x) : Calls Try.prog 17 #[.int .i64 x] w (LstQ (x : Rat) w) := by
  have HX := Lib.hid hx
  have HB := Lib.hid (below_alloc w (.cells #[.bool false, .slice none 0 0, .slice none 0 0] 48))
  have HR := Lib.hid (blk_new w #[.bool false, .slice none 0 0, .slice none 0 0] 48)
  have HO : ∀ w' : World, Calls Try.prog 25 #[.int .u64 1] w' (Lst (dg 1) w') := fun w' => natSaid.of 1 w' (by omega)
  have HN : Hid (x = (x : Rat).num) := Lib.hid (Rat.num_intCast x).symm
  have HD : Hid (1 = (x : Rat).den) := Lib.hid (Rat.den_intCast x).symm
  clear hx
  generalize (x : Rat) = q at *
  go_enter Try.func17, Try.ntmps17
  obtain ⟨vk0, vk1, vk2⟩ := fcells_3 HR.out
  go_wp2_with fail
  refine (whole_of x _ HX.out).mono ?_
  rintro e wv1 ⟨a1, n1, c1, rfl, h1, b⟩
  clear vk0 vk1 vk2
  replace HB := Lib.hid (below_then HB.out b)
  replace HR := Lib.hid (blk_later HR.out b)
  clear b
  have R1 := Lib.hid h1
  clear h1
  unfold whV
  obtain ⟨vk0, vk1, vk2⟩ := fcells_3 HR.out
  go_wp2_with fail
  refine (HO _).mono ?_
  rintro e wv2 ⟨b1, m1, d1, rfl, g1, b⟩
  clear vk0 vk1 vk2
  replace HB := Lib.hid (below_then HB.out b)
  replace HR := Lib.hid (blk_later HR.out b)
  replace R1 := Lib.hid (R1.out.later b)
  clear b
  have T1 := Lib.hid g1
  clear g1
  generalize hz : zneg x = s at *
  have HS := Lib.hid hz
  clear hz
  have q0 := blk_cell HR.out 0
  have q1 := blk_cell HR.out 1
  have q2 := blk_cell HR.out 2
  simp only [List.getElem?_toArray, List.getElem?_cons_zero, List.getElem?_cons_succ] at q0 q1 q2
  have f0 := blk_free HR.out 0
  have f1 := blk_free HR.out 1
  have f2 := blk_free HR.out 2
  replace R1 := Lib.hid (R1.out.stored3 HR.out (s) a1 n1 c1 (.slice b1 m1 d1))
  replace T1 := Lib.hid (T1.out.stored3 HR.out (s) a1 n1 c1 (.slice b1 m1 d1))
  replace HB := Lib.hid (below_set3 HB.out (show w.heap.size ≤ w.heap.size by omega) (.bool s) (.slice a1 n1 c1) (.slice b1 m1 d1))
  replace HR := Lib.hid (blk_set3 HR.out (.bool s) (.slice a1 n1 c1) (.slice b1 m1 d1))
  go_wp2
  refine bodyPost_ret (results_cell_row Try.results17 _ _ (w.heap.size) 48 #[.bool s, .slice a1 n1 c1, .slice b1 m1 d1] (0, 0) _ rfl HR.out Try.underlying48 rfl (by kernel_rfl)) rfl ?_
  refine ⟨a1, n1, c1, b1, m1, d1, ?_, ?_, ?_, HB.out⟩
  · rw [← HN.out, HS.out]; rfl
  · rw [← HN.out]; exact R1.out
  · rw [← HD.out]; exact T1.out
end Go.Proofs.Ytenaopppkkhmcaa

/-
  Package frac at this seat: Sign, Size, product.
-/
namespace Go.Proofs.Ytenaopppkkhmcaa
open Go.RowKit

/-- A fraction as it was reckoned, not made right. -/
def LstR (z : Int) (v : Nat) (w : World) (e : Ending) (w' : World) : Prop :=
  ∃ (a : Option Addr) (n cap : Nat) (b : Option Addr) (m cap' : Nat), e = .returned (frV (zneg z) a n cap b m cap') ∧ Wd w' a n cap (dg z.natAbs) ∧ Wd w' b m cap' (dg v) ∧ Below w.heap.size w w'
theorem twos_len_at (a : Option Addr) (n cap : Nat) (l : List Nat) (x : Nat) (w : World) (h : Wd w a n cap l) (hn : n ≤ 17592183947264) (hx : blen (val l) = x) : Calls Try.prog 30 #[.slice a n cap] w (Gives (.int .i64 (x : Int)) w) :=
  (twos_len a n cap l w h hn).mono fun _ _ ⟨he, hw⟩ => ⟨by rw [he, hx], by subst hw; exact Below.refl _ _⟩
set_option maxRecDepth 4096 in
set_option maxHeartbeats 4000000 in
theorem frac_sign (neg : Bool) (a : Option Addr) (n cap : Nat) (la : List Nat) (b : Option Addr) (m cap' : Nat) (lb : List Nat) (w : World) (ha : Wd w a n cap la) (hb : Wd w b m cap' lb) (hn : n ≤ 104857600000) (hm : m ≤ 104857600000) :
    Calls Try.prog 27 #[frV neg a n cap b m cap'] w (Gives (.int .i64 (sgn (qval neg (val la) (val lb)).num)) w) := by
  have HB := Lib.hid (below_alloc w (.cells #[.bool neg, .slice a n cap, .slice b m cap'] 48))
  have HA := Lib.hid (ha.later HB.out)
  have HC := Lib.hid (hb.later HB.out)
  have HX := Lib.hid (blk_new w #[.bool neg, .slice a n cap, .slice b m cap'] 48)
  clear ha hb
  have HZ0 : Hid (val lb = 0 → sgn (qval neg (val la) (val lb)).num = 0) := Lib.hid (fun h => by rw [qval_none neg (.inl h)]; rfl)
  have HZ1 : Hid (val lb ≠ 0 → sgn (qval neg (val la) (val lb)).num = sgn (zval neg (val la))) := Lib.hid (fun h => fc_qsign h)
  generalize (qval neg (val la) (val lb)).num = y at *
  go_enter Try.func27, Try.ntmps27
  unfold frV
  obtain ⟨vk0, vk1, vk2⟩ := fcells_3 HX.out
  go_wp2_with fail
  refine (natSaid.zero b m cap' lb _ HC.out (by omega)).mono ?_
  rintro e wv1 ⟨rfl, b⟩
  clear vk0 vk1 vk2
  replace HB := Lib.hid (below_then HB.out b)
  replace HX := Lib.hid (blk_later HX.out b)
  replace HA := Lib.hid (HA.out.later b)
  replace HC := Lib.hid (HC.out.later b)
  clear b
  by_cases h0 : val lb = 0
  · have HS := Lib.hid (HZ0.out h0)
    rw [decide_eq_true h0]
    clear h0 HZ0 HZ1
    go_wp2
    go_ret
    exact ⟨by rw [HS.out]; rfl, HB.out⟩
  · have HS := Lib.hid (HZ1.out h0)
    rw [decide_eq_false h0]
    clear h0 HZ0 HZ1
    obtain ⟨k0, k1, k2⟩ := fcells_3 HX.out
    go_wp2_with fail
    refine (whole_sign neg a n cap la _ HA.out hn).mono ?_
    rintro e w2 ⟨rfl, b⟩
    go_wp2
    go_ret
    exact ⟨by rw [HS.out]; rfl, below_then HB.out b⟩
set_option maxRecDepth 4096 in
set_option maxHeartbeats 4000000 in
theorem frac_size (neg : Bool) (a : Option Addr) (n cap : Nat) (la : List Nat) (b : Option Addr) (m cap' : Nat) (lb : List Nat) (w : World) (ha : Wd w a n cap la) (hb : Wd w b m cap' lb) (hn : n ≤ 104857600000) (hm : m ≤ 104857600000) :
    Calls Try.prog 23 #[frV neg a n cap b m cap'] w (Gives (.int .i64 ((blen (val la) + blen (val lb) : Nat) : Int)) w) := by
  have HB := Lib.hid (below_alloc w (.cells #[.bool neg, .slice a n cap, .slice b m cap'] 48))
  have HA := Lib.hid (ha.later HB.out)
  have HC := Lib.hid (hb.later HB.out)
  have HX := Lib.hid (blk_new w #[.bool neg, .slice a n cap, .slice b m cap'] 48)
  have hla := blen_words ha
  have hlb := blen_words hb
  clear ha hb
  go_enter Try.func23, Try.ntmps23
  unfold frV
  go_wp2
  generalize (w.alloc (.cells #[.bool neg, .slice a n cap, .slice b m cap'] 48)) = W at *
  generalize hx : blen (val la) = x at *
  generalize hy : blen (val lb) = y at *
  have EX := Lib.hid hx
  have EY := Lib.hid hy
  clear hx hy
  replace HB := Lib.hid (below_then HB.out ((Below.refl _ _).drew : Below W.heap.size W W.drew))
  replace HX : Hid (W.drew.heap[w.heap.size]? = _) := Lib.hid HX.out
  replace HA := Lib.hid (HA.out.later ((Below.refl _ _).drew : Below W.heap.size W W.drew))
  replace HC := Lib.hid (HC.out.later ((Below.refl _ _).drew : Below W.heap.size W W.drew))
  have pSn := fcells_3 HX.out
  go_region_held3 (fun w' => w'.cell? ⟨w.heap.size, 0, none⟩ = some (.bool neg) ∧ w'.cell? ⟨w.heap.size, 1, none⟩ = some (.slice a n cap) ∧ w'.cell? ⟨w.heap.size, 2, none⟩ = some (.slice b m cap')) (exact pSn)
    (first
    | (go_at_call 30; (first
      | (have pm1 := pM1; refine (twos_len_at b m cap' lb y _ HC.out (by omega) EY.out).mono ?_; rintro e wp2 ⟨rfl, b⟩; replace HB := Lib.hid (below_then HB.out b); replace HX := Lib.hid (blk_later HX.out b); replace HA := Lib.hid (HA.out.later b); replace HC := Lib.hid (HC.out.later b); clear b; clear pSn; have pSn := fcells_3 HX.out; clear pM1 pm1; have pM2 := True.intro)
      | (refine (twos_len_at a n cap la x _ HA.out (by omega) EX.out).mono ?_; rintro e wp1 ⟨rfl, b⟩; replace HB := Lib.hid (below_then HB.out b); replace HX := Lib.hid (blk_later HX.out b); replace HA := Lib.hid (HA.out.later b); replace HC := Lib.hid (HC.out.later b); clear b; clear pSn; have pSn := fcells_3 HX.out; have pM1 := True.intro))))
  go_wp2
  go_ret
  have HW : IntKind.i64.wrap ((x : Int) + (y : Int)) = ((x + y : Nat) : Int) := by rw [IntKind.wrap_i64]; omega
  exact ⟨by rw [← HW]; rfl, HB.out⟩
set_option maxRecDepth 4096 in
set_option maxHeartbeats 4000000 in
theorem frac_product (na : Bool) (a : Option Addr) (n cap : Nat) (la : List Nat) (b : Option Addr) (m cap' : Nat) (lb : List Nat) (nb : Bool) (a' : Option Addr) (n' c' : Nat) (la' : List Nat) (b' : Option Addr) (m' d' : Nat) (lb' : List Nat) (w : World) (ha : Wd w a n cap la) (hb : Wd w b m cap' lb) (ha' : Wd w a' n' c' la') (hb' : Wd w b' m' d' lb') (hn : n ≤ 104857600000) (hm : m ≤ 104857600000) (hn' : n' ≤ 104857600000) (hm' : m' ≤ 104857600000) :
    Calls Try.prog 36 #[frV na a n cap b m cap', frV nb a' n' c' b' m' d'] w (LstR (zval na (val la) * zval nb (val la')) (val lb * val lb') w) := by
  have HB := Lib.hid (below_then (below_then (below_alloc w (.cells #[.bool na, .slice a n cap, .slice b m cap'] 48)) (below_alloc _ (.cells #[.bool nb, .slice a' n' c', .slice b' m' d'] 48))) (below_alloc _ (.cells #[.bool false, .slice none 0 0, .slice none 0 0] 48)))
  have HA := Lib.hid (ha.later HB.out)
  have HC := Lib.hid (hb.later HB.out)
  have HA' := Lib.hid (ha'.later HB.out)
  have HC' := Lib.hid (hb'.later HB.out)
  obtain ⟨hx1, hx2, hx3⟩ := boxes3_at9 w #[.bool na, .slice a n cap, .slice b m cap'] #[.bool nb, .slice a' n' c', .slice b' m' d'] #[.bool false, .slice none 0 0, .slice none 0 0] 48 48 48
  have HX := Lib.hid hx1
  have HY := Lib.hid hx2
  have HR := Lib.hid hx3
  have ta := ha.trim_le
  have tb := hb.trim_le
  have ta' := ha'.trim_le
  have tb' := hb'.trim_le
  clear ha hb ha' hb' hx1 hx2 hx3
  obtain ⟨z, hz⟩ : ∃ z, zval na (val la) * zval nb (val la') = z := ⟨_, rfl⟩
  rw [hz]
  have HZ := Lib.hid hz
  clear hz
  go_enter Try.func36, Try.ntmps36
  unfold frV
  go_wp2
  generalize (((w.alloc (.cells #[.bool na, .slice a n cap, .slice b m cap'] 48)).alloc (.cells #[.bool nb, .slice a' n' c', .slice b' m' d'] 48)).alloc (.cells #[.bool false, .slice none 0 0, .slice none 0 0] 48)) = W at *
  replace HB := Lib.hid (below_then HB.out ((Below.refl _ _).drew : Below W.heap.size W W.drew))
  replace HX : Hid (W.drew.heap[w.heap.size]? = _) := Lib.hid HX.out
  replace HY : Hid (W.drew.heap[w.heap.size + 1]? = _) := Lib.hid HY.out
  replace HR : Hid (W.drew.heap[w.heap.size + 1 + 1]? = some (.cells #[.bool false, .slice none 0 0, .slice none 0 0] 48 (0, 0))) := Lib.hid HR.out
  replace HA := Lib.hid (HA.out.later ((Below.refl _ _).drew : Below W.heap.size W W.drew))
  replace HC := Lib.hid (HC.out.later ((Below.refl _ _).drew : Below W.heap.size W W.drew))
  replace HA' := Lib.hid (HA'.out.later ((Below.refl _ _).drew : Below W.heap.size W W.drew))
  replace HC' := Lib.hid (HC'.out.later ((Below.refl _ _).drew : Below W.heap.size W W.drew))
  have pSn := fcells_3_3 HX.out HY.out
  go_region_held3 (fun w' => w'.cell? ⟨w.heap.size, 0, none⟩ = some (.bool na) ∧ w'.cell? ⟨w.heap.size, 1, none⟩ = some (.slice a n cap) ∧ w'.cell? ⟨w.heap.size, 2, none⟩ = some (.slice b m cap') ∧ w'.cell? ⟨w.heap.size + 1, 0, none⟩ = some (.bool nb) ∧ w'.cell? ⟨w.heap.size + 1, 1, none⟩ = some (.slice a' n' c') ∧ w'.cell? ⟨w.heap.size + 1, 2, none⟩ = some (.slice b' m' d')) (first | exact pSn | exact pSb _ _ _)
    (first
    | (go_at_call 39; (first
      | (refine (whole_mul na a n cap la nb a' n' c' la' _ HA.out HA'.out (by omega) (by omega)).mono ?_; rintro e wp1 ⟨a1, n1, c1, rfl, h1, b⟩; replace HB := Lib.hid (below_then HB.out b); replace HX := Lib.hid (blk_later HX.out b); replace HY := Lib.hid (blk_later HY.out b); replace HR := Lib.hid (blk_later HR.out b); replace HA := Lib.hid (HA.out.later b); replace HC := Lib.hid (HC.out.later b); replace HA' := Lib.hid (HA'.out.later b); replace HC' := Lib.hid (HC'.out.later b); rw [HZ.out] at h1 ⊢; have R1 := Lib.hid h1; clear h1; unfold whV; clear b; clear pSn; have pSn := fcells_3_3 HX.out HY.out; have pM1 := True.intro)))
    | (go_at_call 40; (first
      | (have pm1 := pM1; refine (prod_mul b m cap' lb b' m' d' lb' _ HC.out HC'.out (by omega) (by omega)).mono ?_; rintro e wp2 ⟨b1, m1, d1, rfl, g1, b⟩; replace HB := Lib.hid (below_then HB.out b); replace HX := Lib.hid (blk_later HX.out b); replace HY := Lib.hid (blk_later HY.out b); replace HR := Lib.hid (blk_later HR.out b); replace HA := Lib.hid (HA.out.later b); replace HC := Lib.hid (HC.out.later b); replace HA' := Lib.hid (HA'.out.later b); replace HC' := Lib.hid (HC'.out.later b); replace R1 := Lib.hid (R1.out.later b); have T1 := Lib.hid g1; clear g1; obtain ⟨r0, r1, r2⟩ := fcells_3 HR.out; have f0 := blk_free HR.out 0; have f1 := blk_free HR.out 1; have f2 := blk_free HR.out 2; have pSb := fun u v q => fcells_3_3 (blk_far3 (g := w.heap.size + 1 + 1) HX.out (by omega) u v q) (blk_far3 (g := w.heap.size + 1 + 1) HY.out (by omega) u v q); clear b; clear pSn; have pSn := fcells_3_3 HX.out HY.out; clear pM1 pm1; have pM2 := True.intro))))
  have HG := Lib.hid (blk_set3 HR.out (.bool (zneg z)) (.slice a1 n1 c1) (.slice b1 m1 d1))
  have HL := Lib.hid (below_set3 HB.out (show w.heap.size ≤ w.heap.size + 1 + 1 by omega) (.bool (zneg z)) (.slice a1 n1 c1) (.slice b1 m1 d1))
  have HW1 := Lib.hid (R1.out.stored3 HR.out (zneg z) a1 n1 c1 (.slice b1 m1 d1))
  have HW2 := Lib.hid (T1.out.stored3 HR.out (zneg z) a1 n1 c1 (.slice b1 m1 d1))
  go_wp2
  refine bodyPost_ret (results_cell_row Try.results36 _ _ (w.heap.size + 1 + 1) 48 #[.bool (zneg z), .slice a1 n1 c1, .slice b1 m1 d1] (0, 0) _ rfl HG.out Try.underlying48 rfl (by kernel_rfl)) rfl ?_
  exact ⟨a1, n1, c1, b1, m1, d1, rfl, HW1.out, HW2.out, HL.out⟩
end Go.Proofs.Ytenaopppkkhmcaa

/-
  Package frac at this seat: New, Norm, Neg, Abs.
-/
namespace Go.Proofs.Ytenaopppkkhmcaa
open Go.RowKit

set_option maxRecDepth 4096 in
set_option maxHeartbeats 4000000 in
theorem frac_new (neg : Bool) (a : Option Addr) (n cap : Nat) (la : List Nat) (b : Option Addr) (m cap' : Nat) (lb : List Nat) (w : World) (ha : Wd w a n cap la) (hb : Wd w b m cap' lb) (hn : n ≤ 41943040000) (hm : m ≤ 41943040000) :
    Calls Try.prog 38 #[whV neg a n cap, .slice b m cap'] w (LstQV (qval neg (val la) (val lb)) (.bool (decide (val lb ≠ 0))) w) := by
  have HB := Lib.hid (below_then (below_alloc w (.cells #[.bool neg, .slice a n cap] 46)) (below_alloc _ (.cells #[.bool false, .slice none 0 0, .slice none 0 0] 48)))
  have HA := Lib.hid (ha.later HB.out)
  have HC := Lib.hid (hb.later HB.out)
  obtain ⟨hx1, hx2⟩ := boxes_at w ((w.alloc (.cells #[.bool neg, .slice a n cap] 46)).alloc (.cells #[.bool false, .slice none 0 0, .slice none 0 0] 48)) #[.bool neg, .slice a n cap] #[.bool false, .slice none 0 0, .slice none 0 0] 46 48 (Below.refl _ _)
  have HX := Lib.hid hx1
  have HR := Lib.hid hx2
  have ta := ha.trim_le
  clear hx1 hx2 ha hb
  obtain ⟨q, hq⟩ : ∃ q, qval neg (val la) (val lb) = q := ⟨_, rfl⟩
  rw [hq]
  have HQ := Lib.hid hq
  clear hq
  go_enter Try.func38, Try.ntmps38
  unfold whV
  obtain ⟨vk0, vk1, vk2, vk3, vk4⟩ := fcells_2_3 HX.out HR.out
  go_wp2_with fail
  refine (natSaid.zero b m cap' lb _ HC.out (by omega)).mono ?_
  rintro e wv1 ⟨rfl, b⟩
  clear vk0 vk1 vk2 vk3 vk4
  replace HB := Lib.hid (below_then HB.out b)
  replace HX := Lib.hid (blk_later HX.out b)
  replace HR := Lib.hid (blk_later HR.out b)
  replace HA := Lib.hid (HA.out.later b)
  replace HC := Lib.hid (HC.out.later b)
  clear b
  by_cases h0 : val lb = 0
  · have HD : Hid (decide (val lb ≠ 0) = false) := Lib.hid (by rw [decide_eq_false]; exact fun h => h h0)
    have HQ0 : Hid (((0 : Int) : Rat) = q) := Lib.hid (by rw [← HQ.out, qval_none neg (.inl h0)]; rfl)
    rw [decide_eq_true h0]
    clear h0 HQ
    clear HA HC
    obtain ⟨uk0, uk1, uk2, uk3, uk4⟩ := fcells_2_3 HX.out HR.out
    go_wp2_with fail
    refine (frac_of 0 _ isInt_nought).mono ?_
    rintro e wu1 ⟨a1, n1, c1, b1, m1, d1, rfl, h1, g1, b⟩
    clear uk0 uk1 uk2 uk3 uk4
    replace HB := Lib.hid (below_then HB.out b)
    replace HX := Lib.hid (blk_later HX.out b)
    replace HR := Lib.hid (blk_later HR.out b)
    clear b
    rw [HQ0.out] at h1 g1 ⊢
    have R1 := Lib.hid h1
    have T1 := Lib.hid g1
    clear h1 g1
    unfold frV
    have q0 := blk_cell HR.out 0
    have q1 := blk_cell HR.out 1
    have q2 := blk_cell HR.out 2
    simp only [List.getElem?_toArray, List.getElem?_cons_zero, List.getElem?_cons_succ] at q0 q1 q2
    have f0 := blk_free HR.out 0
    have f1 := blk_free HR.out 1
    have f2 := blk_free HR.out 2
    replace HX := Lib.hid (blk_far3 HX.out (show w.heap.size ≠ w.heap.size + 1 by omega) (.bool (zneg q.num)) (.slice a1 n1 c1) (.slice b1 m1 d1))
    replace R1 := Lib.hid (R1.out.stored3 HR.out ((zneg q.num)) a1 n1 c1 (.slice b1 m1 d1))
    replace T1 := Lib.hid (T1.out.stored3 HR.out ((zneg q.num)) a1 n1 c1 (.slice b1 m1 d1))
    replace HB := Lib.hid (below_set3 HB.out (show w.heap.size ≤ w.heap.size + 1 by omega) (.bool (zneg q.num)) (.slice a1 n1 c1) (.slice b1 m1 d1))
    replace HR := Lib.hid (blk_set3 HR.out (.bool (zneg q.num)) (.slice a1 n1 c1) (.slice b1 m1 d1))
    go_wp2
    refine bodyPost_ret (results_row_tmp Try.results38 _ _ (w.heap.size + 1) 48 #[.bool (zneg q.num), .slice a1 n1 c1, .slice b1 m1 d1] (0, 0) _ rfl HR.out Try.underlying48 rfl (by kernel_rfl)) rfl ?_
    exact ⟨a1, n1, c1, b1, m1, d1, by rw [HD.out]; rfl, R1.out, T1.out, HB.out⟩
  · have HD : Hid (decide (val lb ≠ 0) = true) := Lib.hid (decide_eq_true h0)
    have HZ : Hid (zval neg (val (dg (val la / Nat.gcd (val la) (val lb)))) = q.num) := Lib.hid (by rw [val_dg, ← HQ.out]; exact (qval_parts neg h0).1.symm)
    have HE : Hid (val lb / Nat.gcd (val la) (val lb) = q.den) := Lib.hid (by rw [← HQ.out]; exact (qval_parts neg h0).2.symm)
    have ql : (dg (val la / Nat.gcd (val la) (val lb))).length ≤ n := Nat.le_trans (dg_length_mono (Nat.div_le_self _ _)) ta
    rw [decide_eq_false h0]
    clear h0 HQ
    obtain ⟨uk0, uk1, uk2, uk3, uk4⟩ := fcells_2_3 HX.out HR.out
    go_wp2_with fail
    refine (common_cancel a n cap la b m cap' lb _ HA.out HC.out hn hm).mono ?_
    rintro e wu1 ⟨a1, n1, c1, b2, m2, d2, rfl, h1, g2, b⟩
    clear uk0 uk1 uk2 uk3 uk4
    replace HB := Lib.hid (below_then HB.out b)
    replace HX := Lib.hid (blk_later HX.out b)
    replace HR := Lib.hid (blk_later HR.out b)
    clear HA
    clear HC
    clear b
    rw [HE.out] at g2
    have ln1 := h1.len
    have R1 := Lib.hid h1
    have T2 := Lib.hid g2
    clear h1 g2
    obtain ⟨uk0, uk1, uk2, uk3, uk4⟩ := fcells_2_3 HX.out HR.out
    go_wp2_with fail
    refine (whole_norm neg a1 n1 c1 _ _ R1.out (by omega)).mono ?_
    rintro e wu2 ⟨a2, n2, c2, rfl, h2, b⟩
    clear uk0 uk1 uk2 uk3 uk4
    replace HB := Lib.hid (below_then HB.out b)
    replace HX := Lib.hid (blk_later HX.out b)
    replace HR := Lib.hid (blk_later HR.out b)
    clear R1
    replace T2 := Lib.hid (T2.out.later b)
    clear b
    rw [HZ.out] at h2 ⊢
    have R2 := Lib.hid h2
    clear h2
    unfold whV
    have q0 := blk_cell HR.out 0
    have q1 := blk_cell HR.out 1
    have q2 := blk_cell HR.out 2
    simp only [List.getElem?_toArray, List.getElem?_cons_zero, List.getElem?_cons_succ] at q0 q1 q2
    have f0 := blk_free HR.out 0
    have f1 := blk_free HR.out 1
    have f2 := blk_free HR.out 2
    replace HX := Lib.hid (blk_far3 HX.out (show w.heap.size ≠ w.heap.size + 1 by omega) (.bool (zneg q.num)) (.slice a2 n2 c2) (.slice b2 m2 d2))
    replace T2 := Lib.hid (T2.out.stored3 HR.out ((zneg q.num)) a2 n2 c2 (.slice b2 m2 d2))
    replace R2 := Lib.hid (R2.out.stored3 HR.out ((zneg q.num)) a2 n2 c2 (.slice b2 m2 d2))
    replace HB := Lib.hid (below_set3 HB.out (show w.heap.size ≤ w.heap.size + 1 by omega) (.bool (zneg q.num)) (.slice a2 n2 c2) (.slice b2 m2 d2))
    replace HR := Lib.hid (blk_set3 HR.out (.bool (zneg q.num)) (.slice a2 n2 c2) (.slice b2 m2 d2))
    go_wp2
    refine bodyPost_ret (results_row_tmp Try.results38 _ _ (w.heap.size + 1) 48 #[.bool (zneg q.num), .slice a2 n2 c2, .slice b2 m2 d2] (0, 0) _ rfl HR.out Try.underlying48 rfl (by kernel_rfl)) rfl ?_
    exact ⟨a2, n2, c2, b2, m2, d2, by rw [HD.out]; rfl, R2.out, T2.out, HB.out⟩
set_option maxRecDepth 4096 in
set_option maxHeartbeats 4000000 in
theorem frac_norm (neg : Bool) (a : Option Addr) (n cap : Nat) (la : List Nat) (b : Option Addr) (m cap' : Nat) (lb : List Nat) (w : World) (ha : Wd w a n cap la) (hb : Wd w b m cap' lb) (hn : n ≤ 41943040000) (hm : m ≤ 41943040000) :
    Calls Try.prog 35 #[frV neg a n cap b m cap'] w (LstQ (qval neg (val la) (val lb)) w) := by
  have HB := Lib.hid (below_then (below_alloc w (.cells #[.bool neg, .slice a n cap, .slice b m cap'] 48)) (below_alloc _ (.cells #[.bool false, .slice none 0 0, .slice none 0 0] 48)))
  have HA := Lib.hid (ha.later HB.out)
  have HC := Lib.hid (hb.later HB.out)
  obtain ⟨hx1, hx2⟩ := boxes_at w ((w.alloc (.cells #[.bool neg, .slice a n cap, .slice b m cap'] 48)).alloc (.cells #[.bool false, .slice none 0 0, .slice none 0 0] 48)) #[.bool neg, .slice a n cap, .slice b m cap'] #[.bool false, .slice none 0 0, .slice none 0 0] 48 48 (Below.refl _ _)
  have HX := Lib.hid hx1
  have HR := Lib.hid hx2
  clear hx1 hx2 ha hb
  obtain ⟨q, hq⟩ : ∃ q, qval neg (val la) (val lb) = q := ⟨_, rfl⟩
  rw [hq]
  have HQ := Lib.hid hq
  clear hq
  go_enter Try.func35, Try.ntmps35
  unfold frV
  obtain ⟨vk0, vk1, vk2, vk3, vk4, vk5⟩ := fcells_3_3 HX.out HR.out
  go_wp2_with fail
  refine (frac_new neg a n cap la b m cap' lb _ HA.out HC.out hn hm).mono ?_
  rintro e wv1 ⟨a1, n1, c1, b1, m1, d1, rfl, h1, g1, b⟩
  clear vk0 vk1 vk2 vk3 vk4 vk5
  replace HB := Lib.hid (below_then HB.out b)
  replace HX := Lib.hid (blk_later HX.out b)
  replace HR := Lib.hid (blk_later HR.out b)
  clear HA
  clear HC
  clear b
  rw [HQ.out] at h1 g1 ⊢
  have R1 := Lib.hid h1
  have T1 := Lib.hid g1
  clear h1 g1
  generalize decide (val lb ≠ 0) = s at *
  unfold frV
  have HP : Hid ((World.alloc wv1 (.cells #[.bool (zneg q.num), .slice a1 n1 c1, .slice b1 m1 d1] 48)).heap[wv1.heap.size]? = some (.cells #[.bool (zneg q.num), .slice a1 n1 c1, .slice b1 m1 d1] 48 (0, 0))) := Lib.hid (blk_new wv1 _ _)
  replace HB := Lib.hid (below_then HB.out (below_alloc wv1 (.cells #[.bool (zneg q.num), .slice a1 n1 c1, .slice b1 m1 d1] 48)))
  replace HX := Lib.hid (blk_later HX.out (below_alloc wv1 (.cells #[.bool (zneg q.num), .slice a1 n1 c1, .slice b1 m1 d1] 48)))
  replace HR := Lib.hid (blk_later HR.out (below_alloc wv1 (.cells #[.bool (zneg q.num), .slice a1 n1 c1, .slice b1 m1 d1] 48)))
  replace R1 := Lib.hid (R1.out.later (below_alloc wv1 (.cells #[.bool (zneg q.num), .slice a1 n1 c1, .slice b1 m1 d1] 48)))
  replace T1 := Lib.hid (T1.out.later (below_alloc wv1 (.cells #[.bool (zneg q.num), .slice a1 n1 c1, .slice b1 m1 d1] 48)))
  obtain ⟨vk0, vk1, vk2, vk3, vk4, vk5, vk6, vk7, vk8⟩ := fcells_3_3_3 HX.out HR.out HP.out
  have q0 := blk_cell HR.out 0
  have q1 := blk_cell HR.out 1
  have q2 := blk_cell HR.out 2
  simp only [List.getElem?_toArray, List.getElem?_cons_zero, List.getElem?_cons_succ] at q0 q1 q2
  have f0 := blk_free HR.out 0
  have f1 := blk_free HR.out 1
  have f2 := blk_free HR.out 2
  replace R1 := Lib.hid (R1.out.stored3 HR.out ((zneg q.num)) a1 n1 c1 (.slice b1 m1 d1))
  replace T1 := Lib.hid (T1.out.stored3 HR.out ((zneg q.num)) a1 n1 c1 (.slice b1 m1 d1))
  replace HB := Lib.hid (below_set3 HB.out (show w.heap.size ≤ w.heap.size + 1 by omega) (.bool (zneg q.num)) (.slice a1 n1 c1) (.slice b1 m1 d1))
  replace HR := Lib.hid (blk_set3 HR.out (.bool (zneg q.num)) (.slice a1 n1 c1) (.slice b1 m1 d1))
  go_wp2
  refine bodyPost_ret (results_cell_row Try.results35 _ _ (w.heap.size + 1) 48 #[.bool (zneg q.num), .slice a1 n1 c1, .slice b1 m1 d1] (0, 0) _ rfl HR.out Try.underlying48 rfl (by kernel_rfl)) rfl ?_
  exact ⟨a1, n1, c1, b1, m1, d1, rfl, R1.out, T1.out, HB.out⟩
end Go.Proofs.Ytenaopppkkhmcaa

/-
  The document's answer for layer 9, in rational numbers: of right fractions.
-/
namespace Go.Proofs.Ytenaopppkkhmcaa
open Go.RowKit

end Go.Proofs.Ytenaopppkkhmcaa

/-
  How long right fractions become that are reckoned; what stands in the field's laws. Nothing of the program.
-/
namespace Go.Proofs.Ytenaopppkkhmcaa

theorem qlen_int {z : Int} (h : isInt z) : qlen (z : Rat) ≤ 2 := by
  unfold isInt at h
  refine qlen_le ?_ ?_
  · rw [Rat.num_intCast]
    refine dg_length_le ?_
    have : (4294967296 : Nat) ^ 2 = 18446744073709551616 := by decide
    rw [this]; omega
  · rw [Rat.den_intCast]
    have := dg_one_length; omega
end Go.Proofs.Ytenaopppkkhmcaa
