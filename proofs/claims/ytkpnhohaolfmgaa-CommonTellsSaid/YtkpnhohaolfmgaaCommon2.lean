/-
  The contracts of package common (layer 6) at this seat: a rest from its counts, and Euclid's way from two heads.
-/
import Derived.Test.YtkpnhohaolfmgaaCommon
import Derived.Test.YtkpnhohaolfmgaaProd2
import Derived.Test.YtkpnhohaolfmgaaWhole
import Derived.Test.YtkpnhohaolfmgaaOwn
import Derived.BigRegion
import Derived.Deep.RegionHeld3
namespace Go.Proofs.Ytkpnhohaolfmgaa
open Go.RowKit

theorem two_cells {w : World} {A : Nat} {x y : Value} {t : TypeId} (h1 : w.heap[A]? = some (.cells #[x, y] t (0, 0))) : w.cell? ⟨A, 0, none⟩ = some x ∧ w.cell? ⟨A, 1, none⟩ = some y := ⟨blk_cell h1 0, blk_cell h1 1⟩
theorem gapOf_vals (A B x z : Nat) : val (dg (A * x + 0)) - val (dg (B * z + 0)) + (val (dg (B * z + 0)) - val (dg (A * x + 0))) = gapOf A B x z := by
  rw [val_dg, val_dg, Nat.add_zero, Nat.add_zero, Nat.mul_comm A, Nat.mul_comm B]; rfl
theorem dg_word_length {x : Nat} (h : x < 4294967296) : (dg x).length ≤ 1 := dg_length_le (by simpa using h)
theorem results_cell_cell {P : Program} {fn : Func} {p q : Tmp} {ty : TypeId} (h : fn.results = #[.cell p ty, .cell q ty]) (tmps : Array Value) (w : World) (g g' : Nat) (t : TypeId) (cs ds : Array Value) (fr : Nat × Nat) (d : TypeDesc)
    (hp : tmps.getD p undef = .pointer (some ⟨g, 0, none⟩)) (hq : tmps.getD q undef = .pointer (some ⟨g', 0, none⟩)) (hg : w.heap[g]? = some (.cells cs t fr)) (hg' : w.heap[g']? = some (.cells ds t fr))
    (hu : P.underlying ty = some d) (hd : (match d with | .struct _ | .array _ _ => true | _ => false) = true) (hi : (P.info? ty).map (·.size) = some cs.size) (hi' : (P.info? ty).map (·.size) = some ds.size) :
    (results fn tmps).run P w = .ok (.tuple #[.agg cs, .agg ds]) w := by
  have hp' : tmps[p]?.getD undef = .pointer (some ⟨g, 0, none⟩) := by simpa using hp
  have hq' : tmps[q]?.getD undef = .pointer (some ⟨g', 0, none⟩) := by simpa using hq
  simp [results, h, hp', hq', asAddr, run_loadVar_row w g t ty cs fr d hg hu hd hi, run_loadVar_row w g' t ty ds fr d hg' hu hd hi', Sem.run_bind, Result.andThen]
/-- Counts, as a value. -/
def cntV (x z : Nat) : Value := .agg #[.int .u64 (x : Int), .int .u64 (z : Int)]
set_option maxHeartbeats 4000000 in
theorem common_of (x z : Nat) (a : Option Addr) (n cap : Nat) (la : List Nat) (b : Option Addr) (m cap' : Nat) (lb : List Nat) (w : World) (ha : Wd w a n cap la) (hb : Wd w b m cap' lb) (hn : n ≤ 100000) (hm : m ≤ 100000) (hx : x < 4294967296) (hz : z < 4294967296) :
    Calls Try.prog 44 #[cntV x z, .slice a n cap, .slice b m cap'] w (Lst (dg (gapOf (val la) (val lb) x z)) w) := by
  have hB0 : Below w.heap.size w (w.alloc (.cells #[.int .u64 (x : Int), .int .u64 (z : Int)] 56)) := below_alloc _ _
  have Ha := Lib.hid (ha.later hB0)
  have Hb := Lib.hid (hb.later hB0)
  have HB := Lib.hid hB0
  have hN := blk_new w #[.int .u64 (x : Int), .int .u64 (z : Int)] 56
  have Hl1 : Hid ((dg (val la * x + 0)).length ≤ 100001) := Lib.hid (by
    have h1 := dg_mul_length (val la) x
    have h2 := ha.trim_le
    have h3 := dg_word_length hx
    rw [Nat.add_zero]; omega)
  have Hl2 : Hid ((dg (val lb * z + 0)).length ≤ 100001) := Lib.hid (by
    have h1 := dg_mul_length (val lb) z
    have h2 := hb.trim_le
    have h3 := dg_word_length hz
    rw [Nat.add_zero]; omega)
  have HX := Lib.hid hx
  have HZ := Lib.hid hz
  have HWx : Hid (IntKind.u32.wrap (x : Int) = (x : Int)) := Lib.hid (by rw [wrapu32]; omega)
  have HWz : Hid (IntKind.u32.wrap (z : Int) = (z : Int)) := Lib.hid (by rw [wrapu32]; omega)
  clear ha hb hB0
  go_enter Try.func44, Try.ntmps44
  unfold cntV
  go_wp2
  generalize w.alloc (.cells #[.int .u64 (x : Int), .int .u64 (z : Int)] 56) = W at *
  have hNd : W.drew.heap[w.heap.size]? = some (.cells #[.int .u64 (x : Int), .int .u64 (z : Int)] 56 (0, 0)) := hN
  have Hd : Below W.heap.size W W.drew := (Below.refl _ _).drew
  have HN := Lib.hid hNd
  have Sd := two_cells hNd
  clear hN hNd
  go_region_held3 (fun w' => w'.cell? ⟨w.heap.size, 0, none⟩ = some (.int .u64 (x : Int)) ∧ w'.cell? ⟨w.heap.size, 1, none⟩ = some (.int .u64 (z : Int))) (first | exact Sd | exact S1 | exact S2 | exact S3)
    (first
    | (go_at_call 52; (first
      | (have S0 := S1; rw [HWz.out]; (refine (prod_word b m cap' lb z 0 _ ((Hb.out.later Hd).later b1) ?q3 HZ.out ?q4).mono ?_); (case q3 => omega); (case q4 => omega); rintro e w2 ⟨a2, n2, c2, rfl, h2, b2⟩; have S2 := two_cells (blk_later (blk_later HN.out b1) b2))
      | (rw [HWx.out]; (refine (prod_word a n cap la x 0 _ (Ha.out.later Hd) ?q1 HX.out ?q2).mono ?_); (case q1 => omega); (case q2 => omega); rintro e w1 ⟨a1, n1, c1, rfl, h1, b1⟩; have S1 := two_cells (blk_later HN.out b1))))
    | (go_at_call 51; (refine (natSaid.gap a1 n1 c1 _ a2 n2 c2 _ _ (h1.later b2) h2 ?q5 ?q6).mono ?_); (case q5 => have := h1.len; have := Hl1.out; omega); (case q6 => have := h2.len; have := Hl2.out; omega); rintro e w3 ⟨a3, n3, c3, rfl, h3, b3⟩; have S3 := two_cells (blk_later (blk_later (blk_later HN.out b1) b2) b3)))
  go_wp2
  go_ret
  rw [gapOf_vals] at h3
  exact ⟨a3, n3, c3, rfl, h3, below_then HB.out (below_then Hd (below_then b1 (below_then b2 b3)))⟩
end Go.Proofs.Ytkpnhohaolfmgaa
