/-
  Several texts of this claim as one, group 8.
-/
import Derived.Test.YtipcgehcineblaaGreatG7
import Derived.Test.YtipcgehcineblaaGreatG2
import Derived.Test.YtipcgehcineblaaGreatG6
import Derived.Test.YtipcgehcineblaaGreatG3
import Derived.Test.YtipcgehcineblaaGreatG4
import Derived.BigRegion
import Derived.Deep.RegionHeld3
import Derived.Test.YtipcgehcineblaaGreatG1
import Derived.ProofKit
import Derived.OpenShut
import Derived.Deep.Matrix
import Derived.Lib.SmallJoins
import Derived.ChangeArms
/-
  The contracts of package common (layer 6) at this seat: a word of a list, the noughts ahead of a word, the head of a list.
-/
namespace Go.Proofs.YtipcgehcineblaaGreat
open Go.RowKit

theorem or_u64_nat (x y : Nat) (hx : x < 18446744073709551616) (hy : y < 18446744073709551616) : bits .or .u64 (x : Int) (y : Int) = ((x ||| y : Nat) : Int) := by
  have h1 : (BitVec.ofInt 64 (x : Int)).toNat = x := by rw [BitVec.ofInt_natCast, BitVec.toNat_ofNat]; exact Nat.mod_eq_of_lt (by omega)
  have h2 : (BitVec.ofInt 64 (y : Int)).toNat = y := by rw [BitVec.ofInt_natCast, BitVec.toNat_ofNat]; exact Nat.mod_eq_of_lt (by omega)
  have h3 : x ||| y < 2 ^ 64 := Nat.or_lt_two_pow (by omega) (by omega)
  show IntKind.u64.wrap ((BitVec.ofInt 64 (x : Int) ||| BitVec.ofInt 64 (y : Int)).toNat : Int) = _
  rw [BitVec.toNat_or, h1, h2, IntKind.wrap_u64]
  omega
theorem or_high {h s y : Nat} (hh : h * 2 ^ s < 18446744073709551616) (hy : y < 2 ^ s) (hs : s ≤ 64) : bits .or .u64 ((h * 2 ^ s : Nat) : Int) (y : Int) = ((h * 2 ^ s + y : Nat) : Int) := by
  have hy2 : y < 18446744073709551616 := Nat.lt_of_lt_of_le hy (show 2 ^ s ≤ 2 ^ 64 from Nat.pow_le_pow_right (by decide) hs)
  rw [or_u64_nat _ _ hh hy2]
  have := Nat.two_pow_add_eq_or_of_lt hy h
  rw [Nat.mul_comm h, this]

theorem common_word (a : Option Addr) (n cap k x : Nat) (l : List Nat) (w : World) (h : Wd w a n cap l) (hk : k ≤ 9223372036854775807) (hx : Hid (x = atw l k)) :
    Calls Tryz.prog 135 #[.slice a n cap, .int .i64 (k : Int)] w fun e w' => e = .returned (.int .u64 (x : Int)) ∧ w = w' := by
  obtain ⟨hb1, hb2⟩ := h.bound
  by_cases hlt : k < n
  · obtain ⟨b, off, rfl, hc⟩ := h.at (by omega)
    have hck := hc k hlt
    have hw := atw_lt h.ok k
    rw [← hx.out] at hck hw
    clear hc h
    go_enter Tryz.func135, Tryz.ntmps135
    go_wp2
    go_ret
    exact ⟨rfl, rfl⟩
  · have ha : x = 0 := by rw [hx.out]; exact atw_ge (by have := h.len; omega)
    subst ha
    clear h
    go_enter Tryz.func135, Tryz.ntmps135
    go_wp2
    go_ret
    exact ⟨rfl, rfl⟩
theorem bits_lz32 (x : Nat) (w : World) (h1 : x < 4294967296) :
    Calls Tryz.prog 126 #[.int .u32 (x : Int)] w fun e w' => e = .returned (.int .i64 ((32 - blen x : Nat) : Int)) ∧ w = w' := by
  have hb : blen x ≤ 32 := blen_le.2 (by omega)
  have Hb := Lib.hid (bitLen_blen (x := x) (by omega))
  obtain ⟨y, hy⟩ : ∃ y, y = blen x := ⟨_, rfl⟩
  rw [← hy] at hb Hb ⊢
  obtain ⟨z, hz⟩ : ∃ z : Nat, 32 - (y : Int) = (z : Int) := ⟨32 - y, by omega⟩
  have Hz : Hid (z = 32 - y) := Lib.hid (by omega)
  clear hy
  go_enter Tryz.func126, Tryz.ntmps126
  go_wp2_with fail
  refine (bits_len32 (x : Int) _ (by omega) (by omega)).mono ?_
  rintro e w' ⟨rfl, rfl⟩
  rw [Int.toNat_natCast, Hb.out]
  go_wp2
  go_ret
  exact ⟨ret_i64 (by rw [← Hz.out]), rfl⟩
set_option maxRecDepth 4096 in
set_option maxHeartbeats 2000000 in
theorem common_head (a : Option Addr) (n cap k s : Nat) (l : List Nat) (w : World) (h : Wd w a n cap l) (hk : k ≤ 1048576000000) (hs : s ≤ 31) (hv : Hid (val l < 2 ^ (32 * (k + 3) - s))) :
    Calls Tryz.prog 128 #[.slice a n cap, .int .i64 ((k + 3 : Nat) : Int), .int .i64 (s : Int)] w fun e w' => e = .returned (.int .u64 ((val l / 2 ^ (32 * k + (32 - s)) : Nat) : Int)) ∧ ∃ q, w' = w.drewN q := by
  obtain ⟨t1, t2, t3⟩ := head_word h.ok hs hv.out
  have hx0 := atw_lt h.ok k
  have hx1 := atw_lt h.ok (k + 1)
  have hx2 := atw_lt h.ok (k + 2)
  have Hw := Lib.hid h
  obtain ⟨p1, e1⟩ : ∃ p1 : Nat, ((k + 3 : Nat) : Int) - 1 = (p1 : Int) := ⟨k + 2, by omega⟩
  obtain ⟨p2, e2⟩ : ∃ p2 : Nat, ((k + 3 : Nat) : Int) - 2 = (p2 : Int) := ⟨k + 1, by omega⟩
  obtain ⟨p3, e3⟩ : ∃ p3 : Nat, ((k + 3 : Nat) : Int) - 3 = (p3 : Int) := ⟨k, by omega⟩
  obtain rfl : p3 = k := by omega
  have f1 : p1 = p3 + 2 := by omega
  have f2 : p2 = p3 + 1 := by omega
  have hp1 : p1 ≤ 9223372036854775807 := by omega
  have hp2 : p2 ≤ 9223372036854775807 := by omega
  have hp3 : p3 ≤ 9223372036854775807 := by omega
  rw [← f1, ← f2] at t1 t3
  rw [← f1] at hx2
  rw [← f2] at hx1
  obtain ⟨n3, hn3⟩ : ∃ n3 : Nat, n3 = p3 + 3 := ⟨_, rfl⟩
  rw [← hn3] at e1 e2 e3 ⊢
  have hn3b : n3 ≤ 1048576000003 := by omega
  clear f1 f2 h hv hn3 hk
  obtain ⟨x0, y0⟩ : ∃ x, x = atw l p3 := ⟨_, rfl⟩
  obtain ⟨x1, y1⟩ : ∃ x, x = atw l p2 := ⟨_, rfl⟩
  obtain ⟨x2, y2⟩ : ∃ x, x = atw l p1 := ⟨_, rfl⟩
  rw [← y0] at hx0 t2 t3
  rw [← y1] at hx1 t1 t3
  rw [← y2] at hx2 t1 t3
  have Y0 := Lib.hid y0
  have Y1 := Lib.hid y1
  have Y2 := Lib.hid y2
  clear y0 y1 y2
  have o1 : bits .or .u64 ((x2 : Int) * 4294967296) (x1 : Int) = (x2 : Int) * 4294967296 + (x1 : Int) := or_words (by omega) (by omega) (by omega) (by omega)
  obtain ⟨hi, hhi⟩ : ∃ hi : Nat, (x2 : Int) * 4294967296 + (x1 : Int) = (hi : Int) := ⟨x2 * 4294967296 + x1, by omega⟩
  rw [hhi] at o1
  have f3 : x2 * 4294967296 + x1 = hi := by omega
  rw [f3] at t1 t3
  have hhb : hi < 18446744073709551616 := by omega
  obtain ⟨r, hr⟩ : ∃ r : Nat, (32 : Int) - (s : Int) = (r : Int) := ⟨32 - s, by omega⟩
  have hre : 32 - s = r := by omega
  rw [hre] at t2 t3 ⊢
  have hrb : r ≤ 32 := by omega
  obtain ⟨z, hz⟩ : ∃ z : Nat, (x0 : Int) / 2 ^ r = (z : Int) := ⟨x0 / 2 ^ r, div_pow_int x0 r⟩
  have hze : x0 / 2 ^ r = z := by have := div_pow_int x0 r; omega
  rw [hze] at t2 t3
  have hzb : z < 4294967296 := by rw [← hze]; exact div_pow_lt hx0 r
  have t4 : hi * 2 ^ s < 18446744073709551616 := by
    have h1 : hi * 2 ^ s < 2 ^ (64 - s) * 2 ^ s := Nat.mul_lt_mul_of_pos_right t1 (Nat.two_pow_pos s)
    rw [← Nat.pow_add, show 64 - s + s = 64 by omega] at h1
    exact h1
  have o2 := or_high t4 t2 (by omega)
  rw [t3] at o2
  have t5 : (hi : Int) * 2 ^ s = ((hi * 2 ^ s : Nat) : Int) := mul_pow_int hi s
  obtain ⟨g, hg⟩ : ∃ g, g = hi * 2 ^ s := ⟨_, rfl⟩
  rw [← hg] at t4 t5 o2
  have t6 : (hi : Int) * 2 ^ s % 18446744073709551616 = (g : Int) := by rw [t5]; omega
  obtain ⟨v, hv⟩ : ∃ v, v = val l / 2 ^ (32 * p3 + r) := ⟨_, rfl⟩
  rw [← hv] at o2 ⊢
  clear hv hg t3 hze hre f3 t1 t2
  go_enter Tryz.func128, Tryz.ntmps128
  go_wp2_with fail
  refine (common_word _ _ _ p1 x2 _ _ Hw.out hp1 Y2).mono ?_
  rintro e w' ⟨rfl, rfl⟩
  go_wp2_with fail
  refine (common_word _ _ _ p2 x1 _ _ Hw.out hp2 Y1).mono ?_
  rintro e w' ⟨rfl, rfl⟩
  go_wp2
  go_quiet ((go_at_call 135; exact quiet_here (common_word _ _ _ p3 x0 _ _ (Hw.out.later (below_draws _ _)) hp3 Y0) ⟨_, rfl⟩))
  go_wp2
  go_ret
  exact ⟨rfl, _, rfl⟩
end Go.Proofs.YtipcgehcineblaaGreat

/-
  The contracts of package common (layer 6) at this seat: a rest from its counts, and Euclid's way from two heads.
-/
namespace Go.Proofs.YtipcgehcineblaaGreat
open Go.RowKit

theorem two_cells6 {w : World} {A : Nat} {x y : Value} {t : TypeId} (h1 : w.heap[A]? = some (.cells #[x, y] t (0, 0))) : w.cell? ⟨A, 0, none⟩ = some x ∧ w.cell? ⟨A, 1, none⟩ = some y := ⟨blk_cell h1 0, blk_cell h1 1⟩
theorem gapOf_vals (A B x z : Nat) : val (dg (A * x + 0)) - val (dg (B * z + 0)) + (val (dg (B * z + 0)) - val (dg (A * x + 0))) = gapOf A B x z := by
  rw [val_dg, val_dg, Nat.add_zero, Nat.add_zero, Nat.mul_comm A, Nat.mul_comm B]; rfl
theorem dg_word_length {x : Nat} (h : x < 4294967296) : (dg x).length ≤ 1 := dg_length_le (by simpa using h)
theorem results_cell_cell {P : Program} {fn : Func} {p q : Tmp} {ty : TypeId} (h : fn.results = #[.cell p ty, .cell q ty]) (tmps : Array Value) (w : World) (g g' : Nat) (t : TypeId) (cs ds : Array Value) (fr : Nat × Nat) (d : TypeDesc)
    (hp : tmps.getD p undef = .pointer (some ⟨g, 0, none⟩)) (hq : tmps.getD q undef = .pointer (some ⟨g', 0, none⟩)) (hg : w.heap[g]? = some (.cells cs t fr)) (hg' : w.heap[g']? = some (.cells ds t fr))
    (hu : P.underlying ty = some d) (hd : (match d with | .struct _ | .array _ _ => true | _ => false) = true) (hi : (P.info? ty).map (·.size) = some cs.size) (hi' : (P.info? ty).map (·.size) = some ds.size) :
    (results fn tmps).run P w = .ok (.tuple #[.agg cs, .agg ds]) w := by
  have hp' : tmps[p]?.getD undef = .pointer (some ⟨g, 0, none⟩) := by simpa using hp
  have hq' : tmps[q]?.getD undef = .pointer (some ⟨g', 0, none⟩) := by simpa using hq
  simp [results, h, hp', hq', asAddr, run_loadVar_row w g t ty cs fr d hg hu hd hi, run_loadVar_row w g' t ty ds fr d hg' hu hd hi', Sem.run_bind, Result.andThen]
/-- Counts, as a value. -/
def cntV (x z : Nat) : Value := .agg #[.int .u64 (x : Int), .int .u64 (z : Int)]
set_option maxRecDepth 4096 in
set_option maxHeartbeats 4000000 in
theorem common_of (x z : Nat) (a : Option Addr) (n cap : Nat) (la : List Nat) (b : Option Addr) (m cap' : Nat) (lb : List Nat) (w : World) (ha : Wd w a n cap la) (hb : Wd w b m cap' lb) (hn : n ≤ 104857600000) (hm : m ≤ 104857600000) (hx : x < 4294967296) (hz : z < 4294967296) :
    Calls Tryz.prog 129 #[cntV x z, .slice a n cap, .slice b m cap'] w (Lst (dg (gapOf (val la) (val lb) x z)) w) := by
  have hB0 : Below w.heap.size w (w.alloc (.cells #[.int .u64 (x : Int), .int .u64 (z : Int)] 130)) := below_alloc _ _
  have Ha := Lib.hid (ha.later hB0)
  have Hb := Lib.hid (hb.later hB0)
  have HB := Lib.hid hB0
  have hN := blk_new w #[.int .u64 (x : Int), .int .u64 (z : Int)] 130
  have Hl1 : Hid ((dg (val la * x + 0)).length ≤ 104857600001) := Lib.hid (by
    have h1 := dg_mul_length (val la) x
    have h2 := ha.trim_le
    have h3 := dg_word_length hx
    rw [Nat.add_zero]; omega)
  have Hl2 : Hid ((dg (val lb * z + 0)).length ≤ 104857600001) := Lib.hid (by
    have h1 := dg_mul_length (val lb) z
    have h2 := hb.trim_le
    have h3 := dg_word_length hz
    rw [Nat.add_zero]; omega)
  have HX := Lib.hid hx
  have HZ := Lib.hid hz
  have HWx : Hid (IntKind.u32.wrap (x : Int) = (x : Int)) := Lib.hid (by rw [wrapu32]; omega)
  have HWz : Hid (IntKind.u32.wrap (z : Int) = (z : Int)) := Lib.hid (by rw [wrapu32]; omega)
  clear ha hb hB0
  go_enter Tryz.func129, Tryz.ntmps129
  unfold cntV
  go_wp2
  generalize w.alloc (.cells #[.int .u64 (x : Int), .int .u64 (z : Int)] 130) = W at *
  have hNd : W.drew.heap[w.heap.size]? = some (.cells #[.int .u64 (x : Int), .int .u64 (z : Int)] 130 (0, 0)) := hN
  have Hd : Below W.heap.size W W.drew := (Below.refl _ _).drew
  have HN := Lib.hid hNd
  have Sd := two_cells6 hNd
  clear hN hNd
  go_region_held3 (fun w' => w'.cell? ⟨w.heap.size, 0, none⟩ = some (.int .u64 (x : Int)) ∧ w'.cell? ⟨w.heap.size, 1, none⟩ = some (.int .u64 (z : Int))) (first | exact Sd | exact S1 | exact S2 | exact S3)
    (first
    | (go_at_call 136; (first
      | (have S0 := S1; rw [HWz.out]; (refine (prod_word b m cap' lb z 0 _ ((Hb.out.later Hd).later b1) ?q3 HZ.out ?q4).mono ?_); (case q3 => omega); (case q4 => omega); rintro e w2 ⟨a2, n2, c2, rfl, h2, b2⟩; have S2 := two_cells6 (blk_later (blk_later HN.out b1) b2))
      | (rw [HWx.out]; (refine (prod_word a n cap la x 0 _ (Ha.out.later Hd) ?q1 HX.out ?q2).mono ?_); (case q1 => omega); (case q2 => omega); rintro e w1 ⟨a1, n1, c1, rfl, h1, b1⟩; have S1 := two_cells6 (blk_later HN.out b1))))
    | (go_at_call 106; (refine (natSaid.gap a1 n1 c1 _ a2 n2 c2 _ _ (h1.later b2) h2 ?q5 ?q6).mono ?_); (case q5 => have := h1.len; have := Hl1.out; omega); (case q6 => have := h2.len; have := Hl2.out; omega); rintro e w3 ⟨a3, n3, c3, rfl, h3, b3⟩; have S3 := two_cells6 (blk_later (blk_later (blk_later HN.out b1) b2) b3)))
  go_wp2
  go_ret
  rw [gapOf_vals] at h3
  exact ⟨a3, n3, c3, rfl, h3, below_then HB.out (below_then Hd (below_then b1 (below_then b2 b3)))⟩
end Go.Proofs.YtipcgehcineblaaGreat

/-
  The contracts of package common (layer 6) at this seat: Euclid's way from two heads.
-/
namespace Go.Proofs.YtipcgehcineblaaGreat
open Go.RowKit

/-- Three boxes of counts, side by side. -/
def Boxes (w : World) (g xa xb ya yb na nb : Nat) : Prop :=
  w.heap[g]? = some (.cells #[.int .u64 (xa : Int), .int .u64 (xb : Int)] 130 (0, 0)) ∧ w.heap[g + 1]? = some (.cells #[.int .u64 (ya : Int), .int .u64 (yb : Int)] 130 (0, 0)) ∧ w.heap[g + 1 + 1]? = some (.cells #[.int .u64 (na : Int), .int .u64 (nb : Int)] 130 (0, 0))
theorem three_boxes (w : World) (xa xb ya yb na nb : Nat) : Boxes (((w.alloc (.cells #[.int .u64 (xa : Int), .int .u64 (xb : Int)] 130)).alloc (.cells #[.int .u64 (ya : Int), .int .u64 (yb : Int)] 130)).alloc (.cells #[.int .u64 (na : Int), .int .u64 (nb : Int)] 130)) w.heap.size xa xb ya yb na nb := by
  obtain ⟨h1, h2⟩ := boxes_at w (((w.alloc (.cells #[.int .u64 (xa : Int), .int .u64 (xb : Int)] 130)).alloc (.cells #[.int .u64 (ya : Int), .int .u64 (yb : Int)] 130)).alloc (.cells #[.int .u64 (na : Int), .int .u64 (nb : Int)] 130)) _ _ _ _ (below_alloc _ _)
  refine ⟨h1, h2, ?_⟩
  have h3 := blk_new ((w.alloc (.cells #[.int .u64 (xa : Int), .int .u64 (xb : Int)] 130)).alloc (.cells #[.int .u64 (ya : Int), .int .u64 (yb : Int)] 130)) #[.int .u64 (na : Int), .int .u64 (nb : Int)] 130
  rw [blk_size, blk_size] at h3
  exact h3
theorem blk_other {w : World} {A g : Nat} {o : Obj} (h : w.heap[A]? = some o) (hne : A ≠ g) (u v : Value) : ((w.setCell ⟨g, 0, none⟩ u).setCell ⟨g, 1, none⟩ v).heap[A]? = some o :=
  (Below.heap_setCell (w.setCell ⟨g, 0, none⟩ u) ⟨g, 1, none⟩ v A hne).trans ((Below.heap_setCell w ⟨g, 0, none⟩ u A hne).trans h)
theorem boxes_set4 {w : World} {g xa xb ya yb na nb : Nat} (h : Boxes w g xa xb ya yb na nb) (x y z u : Nat) :
    Boxes ((((w.setCell ⟨g, 0, none⟩ (.int .u64 (x : Int))).setCell ⟨g, 1, none⟩ (.int .u64 (y : Int))).setCell ⟨g + 1, 0, none⟩ (.int .u64 (z : Int))).setCell ⟨g + 1, 1, none⟩ (.int .u64 (u : Int))) g x y z u na nb := by
  have h1 := blk_set2 h.1 (.int .u64 (x : Int)) (.int .u64 (y : Int))
  have h2 := blk_other h.2.1 (show g + 1 ≠ g by omega) (.int .u64 (x : Int)) (.int .u64 (y : Int))
  have h3 := blk_other h.2.2 (show g + 1 + 1 ≠ g by omega) (.int .u64 (x : Int)) (.int .u64 (y : Int))
  exact ⟨blk_other h1 (show g ≠ g + 1 by omega) _ _, blk_set2 h2 _ _, blk_other h3 (show g + 1 + 1 ≠ g + 1 by omega) _ _⟩
theorem boxes_set6 {w : World} {g xa xb ya yb na nb : Nat} (h : Boxes w g xa xb ya yb na nb) (x y z u v t : Nat) :
    Boxes ((((((w.setCell ⟨g, 0, none⟩ (.int .u64 (x : Int))).setCell ⟨g, 1, none⟩ (.int .u64 (y : Int))).setCell ⟨g + 1, 0, none⟩ (.int .u64 (z : Int))).setCell ⟨g + 1, 1, none⟩ (.int .u64 (u : Int))).setCell ⟨g + 1 + 1, 0, none⟩ (.int .u64 (v : Int))).setCell ⟨g + 1 + 1, 1, none⟩ (.int .u64 (t : Int))) g x y z u v t := by
  have h1 := boxes_set4 h x y z u
  exact ⟨blk_other h1.1 (show g ≠ g + 1 + 1 by omega) _ _, blk_other h1.2.1 (show g + 1 ≠ g + 1 + 1 by omega) _ _, blk_set2 h1.2.2 _ _⟩
theorem boxes_drew {w : World} {g xa xb ya yb na nb : Nat} (h : Boxes w g xa xb ya yb na nb) : Boxes w.drew g xa xb ya yb na nb := h
def SurelyPost (A B : Nat) (w : World) (e : Ending) (w' : World) : Prop :=
  ∃ xa xb ya yb : Nat, e = .returned (.tuple #[cntV xa xb, cntV ya yb]) ∧ xa < 4294967296 ∧ xb < 4294967296 ∧ ya < 4294967296 ∧ yb < 4294967296 ∧ Hid (xb = 0 ∨ Good A B xa xb ya yb) ∧ Below w.heap.size w w'
set_option maxRecDepth 4096 in
set_option maxHeartbeats 4000000 in
theorem common_surely (A B M p q : Nat) (w : World) (hM : Hid (0 < M)) (hBA : Hid (B ≤ A)) (hp : Hid (p = A / M)) (hq : Hid (q = B / M)) (hα : p < 18446744073709551616) :
    Calls Tryz.prog 127 #[.int .u64 (p : Int), .int .u64 (q : Int)] w (SurelyPost A B w) := by
  have HA : Hid (A / M < 18446744073709551616) := Lib.hid (by rw [← hp.out]; exact hα)
  have hqp : q ≤ p := by rw [hp.out, hq.out]; exact Nat.div_le_div_right hBA.out
  have HS : Hid (Heads A B M p q 0 0 1 0 0 1) := Lib.hid (by rw [hp.out, hq.out]; exact heads_start hBA.out)
  go_enter Tryz.func127, Tryz.ntmps127
  go_wp2
  go_loopw [0, 1, 7] (fun av bv qv wr => ∃ a b xa xb ya yb na nb : Nat, av = .int .u64 (a : Int) ∧ bv = .int .u64 (b : Int) ∧ a < 18446744073709551616 ∧ b ≤ a ∧ Hid (Heads A B M a b xa xb ya yb na nb) ∧ Hid (Boxes wr w.heap.size xa xb ya yb na nb) ∧ Hid (Below w.heap.size w wr)) (fun _ bv _ _ => (intOf bv).toNat)
  case atStart => exact ⟨p, q, 0, 0, 1, 0, 0, 1, rfl, rfl, hα, hqp, HS, Lib.hid (three_boxes w _ _ _ _ _ _), Lib.hid (below_then (below_then (below_alloc _ _) (below_alloc _ _)) (below_alloc _ _))⟩
  case round =>
    obtain ⟨a, b, xa, xb, ya, yb, na, nb, rfl, rfl, ha64, hba, HH, HX, HBw⟩ := hrel
    have hn64 := HH.out.wn
    have hy32 := HH.out.wy
    have hx32 := HH.out.wx
    have hpos := HH.out.way.pos
    obtain ⟨hn1, hn2⟩ := hn64
    obtain ⟨hy1, hy2⟩ := hy32
    obtain ⟨hx1, hx2⟩ := hx32
    obtain ⟨c1, c2⟩ := two_cells6 HX.out.1
    obtain ⟨c3, c4⟩ := two_cells6 HX.out.2.1
    obtain ⟨c5, c6⟩ := two_cells6 HX.out.2.2
    by_cases hb : nb ≤ b
    · have hs := heads_small HH.out HA.out hb
      obtain ⟨hs1, hs2⟩ := hs
      obtain ⟨e, he⟩ : ∃ e : Nat, (yb : Int) + (nb : Int) = (e : Int) := ⟨yb + nb, by omega⟩
      obtain ⟨d, hd⟩ : ∃ d : Nat, (a : Int) - (b : Int) = (d : Int) := ⟨a - b, by omega⟩
      have he64 : e < 18446744073709551616 := by omega
      have hd64 : d < 18446744073709551616 := by omega
      by_cases hab : e ≤ d
      · have hb0 : (0 : Int) < (b : Int) := by omega
        have Hstep := Lib.hid (heads_step hM.out HH.out HA.out hb (by omega))
        obtain ⟨r1, r2, r3, r4⟩ := heads_room HH.out HA.out hb
        have hr : a % b < b := Nat.mod_lt _ (by omega)
        obtain ⟨q, hq⟩ : ∃ q : Nat, (a : Int) / (b : Int) = (q : Int) := ⟨a / b, by rw [Int.natCast_ediv]⟩
        obtain ⟨r, hrr⟩ : ∃ r : Nat, (a : Int) % (b : Int) = (r : Int) := ⟨a % b, by rw [Int.natCast_emod]⟩
        have hqe : a / b = q := by have := Int.natCast_ediv a b; omega
        have hre : a % b = r := by have := Int.natCast_emod a b; omega
        rw [hqe] at r1 r2 r3 r4 Hstep
        rw [hre] at hr Hstep
        have hq64 : q ≤ a := by rw [← hqe]; exact Nat.div_le_self _ _
        obtain ⟨m1, hm1⟩ : ∃ m1 : Nat, (q : Int) * (na : Int) = (m1 : Int) := ⟨q * na, by rw [Int.natCast_mul]⟩
        obtain ⟨m2, hm2⟩ : ∃ m2 : Nat, (q : Int) * (nb : Int) = (m2 : Int) := ⟨q * nb, by rw [Int.natCast_mul]⟩
        have hm1e : q * na = m1 := by have := Int.natCast_mul q na; omega
        have hm2e : q * nb = m2 := by have := Int.natCast_mul q nb; omega
        rw [hm1e] at r1 r3 Hstep
        rw [hm2e] at r2 r4 Hstep
        clear hqe hre hm1e hm2e
        go_wp2
        go_quiet (fail)
        have HXd : Hid (Boxes (wr.drewN nq) w.heap.size xa xb ya yb na nb) := Lib.hid HX.out
        have HBd : Hid (Below w.heap.size w (wr.drewN nq)) := Lib.hid (below_drewN HBw.out nq)
        rw [hrr]
        clear HX HBw c1 c2 c3 c4 c5 c6 hrr
        generalize wr.drewN nq = wq at *
        have HXq : Boxes wq w.heap.size xa xb ya yb na nb := HXd.out
        obtain ⟨c1, c2⟩ := two_cells6 HXq.1
        obtain ⟨c3, c4⟩ := two_cells6 HXq.2.1
        obtain ⟨c5, c6⟩ := two_cells6 HXq.2.2
        have f1 := blk_free HXq.1 0
        have f2 := blk_free HXq.1 1
        have f3 := blk_free HXq.2.1 0
        have f4 := blk_free HXq.2.1 1
        have f5 := blk_free HXq.2.2 0
        have f6 := blk_free HXq.2.2 1
        clear HXq
        obtain ⟨ka, hka⟩ : ∃ ka : Nat, (ya : Int) + (m1 : Int) = (ka : Int) := ⟨ya + m1, by omega⟩
        obtain ⟨kb, hkb⟩ : ∃ kb : Nat, (yb : Int) + (m2 : Int) = (kb : Int) := ⟨yb + m2, by omega⟩
        have hkae : ya + m1 = ka := by omega
        have hkbe : yb + m2 = kb := by omega
        rw [hkae] at r3 Hstep
        rw [hkbe] at r4 Hstep
        have hb64 : b < 18446744073709551616 := by omega
        clear hkae hkbe hb hba hab hs1 hs2 he hd he64 hd64
        go_wp2
        go_region
        have HXn := Lib.hid (boxes_set6 HXd.out ya yb na nb ka kb)
        have HBn := Lib.hid (below_set2 (below_set2 (below_set2 HBd.out (Nat.le_refl _) (.int .u64 (ya : Int)) (.int .u64 (yb : Int))) (show w.heap.size ≤ w.heap.size + 1 by omega) (.int .u64 (na : Int)) (.int .u64 (nb : Int))) (show w.heap.size ≤ w.heap.size + 1 + 1 by omega) (.int .u64 (ka : Int)) (.int .u64 (kb : Int)))
        clear c1 c2 c3 c4 c5 c6 f1 f2 f3 f4 f5 f6
        go_wp2
        go_roundw
        case rel => exact ⟨b, r, ya, yb, na, nb, ka, kb, rfl, rfl, hb64, by omega, Hstep, Lib.hid (boxes_drew HXn.out), Lib.hid HBn.out.drew⟩
        case measure => simp [intOf]; omega
      · clear c1 c2 c3 c4 c5 c6
        have HXq : Boxes wr w.heap.size xa xb ya yb na nb := HX.out
        have f1 := blk_free HXq.1 0
        have f2 := blk_free HXq.1 1
        have f3 := blk_free HXq.2.1 0
        have f4 := blk_free HXq.2.1 1
        obtain ⟨c1, c2⟩ := two_cells6 HXq.1
        obtain ⟨c3, c4⟩ := two_cells6 HXq.2.1
        obtain ⟨c5, c6⟩ := two_cells6 HXq.2.2
        have HE := Lib.hid (boxes_set4 HXq xa xb ya yb)
        have HBe := Lib.hid (below_set2 (below_set2 HBw.out (Nat.le_refl _) (.int .u64 (xa : Int)) (.int .u64 (xb : Int))) (show w.heap.size ≤ w.heap.size + 1 by omega) (.int .u64 (ya : Int)) (.int .u64 (yb : Int)))
        have HG : Hid (xb = 0 ∨ Good A B xa xb ya yb) := Lib.hid (HH.out.here.imp (fun h => h.1) id)
        clear HXq HX HBw
        go_wp2
        go_region
        go_wp2
        refine bodyPost_ret (results_cell_cell Tryz.results127 _ _ w.heap.size (w.heap.size + 1) 130 #[.int .u64 (xa : Int), .int .u64 (xb : Int)] #[.int .u64 (ya : Int), .int .u64 (yb : Int)] (0, 0) _ rfl rfl (boxes_drew HE.out).1 (boxes_drew HE.out).2.1 Tryz.underlying130 rfl (by kernel_rfl) (by kernel_rfl)) rfl ?_
        exact ⟨xa, xb, ya, yb, rfl, hx1, hx2, hy1, hy2, HG, HBe.out.drew⟩
    · clear c1 c2 c3 c4 c5 c6
      have HXq : Boxes wr w.heap.size xa xb ya yb na nb := HX.out
      have f1 := blk_free HXq.1 0
      have f2 := blk_free HXq.1 1
      have f3 := blk_free HXq.2.1 0
      have f4 := blk_free HXq.2.1 1
      obtain ⟨c1, c2⟩ := two_cells6 HXq.1
      obtain ⟨c3, c4⟩ := two_cells6 HXq.2.1
      obtain ⟨c5, c6⟩ := two_cells6 HXq.2.2
      have HE := Lib.hid (boxes_set4 HXq xa xb ya yb)
      have HBe := Lib.hid (below_set2 (below_set2 HBw.out (Nat.le_refl _) (.int .u64 (xa : Int)) (.int .u64 (xb : Int))) (show w.heap.size ≤ w.heap.size + 1 by omega) (.int .u64 (ya : Int)) (.int .u64 (yb : Int)))
      have HG : Hid (xb = 0 ∨ Good A B xa xb ya yb) := Lib.hid (HH.out.here.imp (fun h => h.1) id)
      clear HXq HX HBw
      go_wp2
      go_region
      go_wp2
      refine bodyPost_ret (results_cell_cell Tryz.results127 _ _ w.heap.size (w.heap.size + 1) 130 #[.int .u64 (xa : Int), .int .u64 (xb : Int)] #[.int .u64 (ya : Int), .int .u64 (yb : Int)] (0, 0) _ rfl rfl (boxes_drew HE.out).1 (boxes_drew HE.out).2.1 Tryz.underlying130 rfl (by kernel_rfl) (by kernel_rfl)) rfl ?_
      exact ⟨xa, xb, ya, yb, rfl, hx1, hx2, hy1, hy2, HG, HBe.out.drew⟩
end Go.Proofs.YtipcgehcineblaaGreat

/-
  The contracts of package common (layer 6) at this seat: many steps of Euclid's way at once.
-/
namespace Go.Proofs.YtipcgehcineblaaGreat
open Go.RowKit

/-- Two numbers that follow on Euclid's way. -/
def LehmerPost (X Y : Nat) (w : World) (e : Ending) (w' : World) : Prop :=
  ∃ (a : Option Addr) (n cap : Nat) (b : Option Addr) (m cap' : Nat) (X' Y' : Nat), e = .returned (.tuple #[.slice a n cap, .slice b m cap']) ∧ Wd w' a n cap (dg X') ∧ Wd w' b m cap' (dg Y') ∧ Hid (X' ≤ Y ∧ Y' < Y ∧ Y' ≤ X' ∧ Nat.gcd X' Y' = Nat.gcd X Y) ∧ Below w.heap.size w w'
theorem lehmer_of {X Y xa xb ya yb : Nat} (hxb : xb ≠ 0) (h : Good X Y xa xb ya yb) : gapOf X Y xa xb ≤ Y ∧ gapOf X Y ya yb < Y ∧ gapOf X Y ya yb ≤ gapOf X Y xa xb ∧ Nat.gcd (gapOf X Y xa xb) (gapOf X Y ya yb) = Nat.gcd X Y := by
  have h1 := h.first
  have h2 := h.lt
  rcases h1 with h1 | h1
  · exact absurd h1 hxb
  · exact ⟨h1, by omega, by omega, h.gcd⟩
theorem box_pair (w : World) (x y z u : Value) (t : TypeId) :
    ((w.alloc (.cells #[x, y] t)).alloc (.cells #[z, u] t)).heap[w.heap.size]? = some (.cells #[x, y] t (0, 0)) ∧ ((w.alloc (.cells #[x, y] t)).alloc (.cells #[z, u] t)).heap[w.heap.size + 1]? = some (.cells #[z, u] t (0, 0)) := by
  refine ⟨blk_later (blk_new w #[x, y] t) (below_alloc _ _), ?_⟩
  have h2 := blk_new (w.alloc (.cells #[x, y] t)) #[z, u] t
  rw [blk_size] at h2
  exact h2
theorem four_at {w : World} {A B : Nat} {x y z u : Value} {t : TypeId} (h1 : w.heap[A]? = some (.cells #[x, y] t (0, 0))) (h2 : w.heap[B]? = some (.cells #[z, u] t (0, 0))) :
    w.cell? ⟨A, 0, none⟩ = some x ∧ w.cell? ⟨A, 1, none⟩ = some y ∧ w.cell? ⟨B, 0, none⟩ = some z ∧ w.cell? ⟨B, 1, none⟩ = some u := ⟨blk_cell h1 0, blk_cell h1 1, blk_cell h2 0, blk_cell h2 1⟩
theorem common_head_at (a : Option Addr) (n cap k s n3 p : Nat) (l : List Nat) (w : World) (h : Wd w a n cap l) (hn : Hid (n3 = k + 3)) (hp : Hid (p = val l / 2 ^ (32 * k + (32 - s)))) (hk : k ≤ 1048576000000) (hs : s ≤ 31) (hv : Hid (val l < 2 ^ (32 * (k + 3) - s))) :
    Calls Tryz.prog 128 #[.slice a n cap, .int .i64 (n3 : Int), .int .i64 (s : Int)] w fun e w' => e = .returned (.int .u64 (p : Int)) ∧ ∃ q, w' = w.drewN q := by
  rw [hn.out, hp.out]
  exact common_head a n cap k s l w h hk hs hv
set_option maxRecDepth 4096 in
set_option maxHeartbeats 4000000 in
theorem common_lessen (a : Option Addr) (k cap : Nat) (b : Option Addr) (m cap' : Nat) (X Y : Nat) (w : World) (ha : Wd w a (k + 3) cap (dg X)) (hb : Wd w b m cap' (dg Y)) (hk : k ≤ 94371840000) (hm : m ≤ 94371840000) (hYX : Hid (Y ≤ X)) (hY : Hid (Y ≠ 0)) :
    Calls Tryz.prog 118 #[.slice a (k + 3) cap, .slice b m cap'] w (LehmerPost X Y w) := by
  obtain ⟨hb1, hb2⟩ := ha.bound
  obtain ⟨n3, hn3⟩ : ∃ n3 : Nat, n3 = k + 3 := ⟨_, rfl⟩
  have Hn3 := Lib.hid hn3
  obtain ⟨p1, e1⟩ : ∃ p1 : Nat, (n3 : Int) - 1 = (p1 : Int) := ⟨k + 2, by omega⟩
  have hp1 : p1 = n3 - 1 := by omega
  have hp1n : p1 < n3 := by omega
  have h0 : atw (dg X) (n3 - 1) ≠ 0 := by
    have h1 := atw_dg (l := dg X) (okw_dg X)
    rw [val_dg, ha.len, ← hn3] at h1
    rcases h1 with h1 | h1
    · omega
    · exact h1
  have hroom := head_room (l := dg X) (n := n3) (okw_dg X) (by rw [ha.len, hn3]) (by omega) h0
  rw [← hp1] at h0 hroom
  have hxw := atw_lt (okw_dg X) p1
  rw [← hn3] at ha hb1 ⊢
  obtain ⟨ba, oa, rfl, hca⟩ := ha.at (by omega)
  have hck := hca p1 hp1n
  obtain ⟨x, hx⟩ : ∃ x, x = atw (dg X) p1 := ⟨_, rfl⟩
  rw [← hx] at h0 hroom hxw hck
  have hbl : blen x ≤ 32 := blen_le.2 (by omega)
  have hbl1 : 0 < blen x := blen_pos h0
  obtain ⟨s, hs⟩ : ∃ s, s = 32 - blen x := ⟨_, rfl⟩
  have Hs := Lib.hid hs
  have hs31 : s ≤ 31 := by omega
  rw [← hs, hn3, val_dg] at hroom
  have HrA : Hid (val (dg X) < 2 ^ (32 * (k + 3) - s)) := Lib.hid (by rw [val_dg]; exact hroom)
  have HrB : Hid (val (dg Y) < 2 ^ (32 * (k + 3) - s)) := Lib.hid (by rw [val_dg]; exact Nat.lt_of_le_of_lt hYX.out hroom)
  have Hp : Hid (X / 2 ^ (32 * k + (32 - s)) < 18446744073709551616) := Lib.hid (by
    rw [Nat.div_lt_iff_lt_mul (Nat.two_pow_pos _), show (18446744073709551616 : Nat) = 2 ^ 64 by decide, ← Nat.pow_add, show 64 + (32 * k + (32 - s)) = 32 * (k + 3) - s by omega]
    exact hroom)
  have Ha := Lib.hid ha
  have Hb := Lib.hid hb
  have HvX : Hid (val (dg X) = X) := Lib.hid (val_dg X)
  have HvY : Hid (val (dg Y) = Y) := Lib.hid (val_dg Y)
  have hn3b : n3 ≤ 94371840003 := by omega
  obtain ⟨M, hM⟩ : ∃ M, M = 2 ^ (32 * k + (32 - s)) := ⟨_, rfl⟩
  obtain ⟨p, hp⟩ : ∃ p, p = X / M := ⟨_, rfl⟩
  obtain ⟨q, hq⟩ : ∃ q, q = Y / M := ⟨_, rfl⟩
  have HPM := Lib.hid hp
  have HQM := Lib.hid hq
  have HP : Hid (p = val (dg X) / 2 ^ (32 * k + (32 - s))) := Lib.hid (by rw [val_dg, ← hM]; exact hp)
  have HQ : Hid (q = val (dg Y) / 2 ^ (32 * k + (32 - s))) := Lib.hid (by rw [val_dg, ← hM]; exact hq)
  have HM := Lib.hid hM
  have HM0 : Hid (0 < M) := Lib.hid (by rw [hM]; exact Nat.two_pow_pos _)
  have hp64 : p < 18446744073709551616 := by rw [hp, hM]; exact Hp.out
  clear Hp hp hq
  clear hca ha hb hroom hbl hbl1 hs hp1 hx h0 hM hn3
  go_enter Tryz.func118, Tryz.ntmps118
  go_wp2_with fail
  refine (bits_lz32 x _ hxw).mono ?_
  rintro e w' ⟨rfl, rfl⟩
  rw [← Hs.out]
  go_wp2_with fail
  refine (common_head_at _ _ _ k s n3 p (dg X) _ Ha.out Hn3 HP (by omega) hs31 HrA).mono ?_
  rintro e w1 ⟨rfl, q1, rfl⟩
  go_wp2_with fail
  refine (common_head_at _ _ _ k s n3 q (dg Y) _ (Hb.out.later (below_draws _ _)) Hn3 HQ (by omega) hs31 HrB).mono ?_
  rintro e w1 ⟨rfl, q2, rfl⟩
  go_wp2_with fail
  refine (common_surely X Y M p q _ HM0 hYX HPM HQM hp64).mono ?_
  rintro e w2 ⟨xa, xb, ya, yb, rfl, hxa, hxb, hya, hyb, HG, hB2⟩
  have hB2' : Below w.heap.size w w2 := below_then (below_draws w (q1 + q2)) hB2
  have hBW := below_then hB2' (below_then (below_alloc w2 (.cells #[.int .u64 (xa : Int), .int .u64 (xb : Int)] 130)) (below_alloc _ (.cells #[.int .u64 (ya : Int), .int .u64 (yb : Int)] 130)))
  have HA2 := Lib.hid (Ha.out.later hBW)
  have HC2 := Lib.hid (Hb.out.later hBW)
  have HB2 := Lib.hid hBW
  obtain ⟨hN1, hN2⟩ := box_pair w2 (.int .u64 (xa : Int)) (.int .u64 (xb : Int)) (.int .u64 (ya : Int)) (.int .u64 (yb : Int)) 130
  clear hB2 hB2' hBW Ha Hb HrA HrB HP HQ HPM HQM HM HM0 hck e1 hp1n hxw Hs
  unfold cntV
  by_cases h0 : xb = 0
  · have hx0 : ((xb : Int) == 0) = true := by rw [h0]; rfl
    clear hN1 hN2 h0 HG
    go_wp2_with fail
    refine (quot_div _ _ _ _ _ _ _ _ _ HA2.out HC2.out (by omega) (by omega) (by rw [HvY.out]; exact hY)).mono ?_
    rintro e w3 ⟨a3, n4, c3, b3, m3, d3, rfl, h3, k3, hB3⟩
    rw [HvX.out, HvY.out] at k3
    have K3 := Lib.hid k3
    have C3 := Lib.hid (HC2.out.later hB3)
    clear h3 k3
    go_wp2
    go_ret2
    exact ⟨b, m, cap', b3, m3, d3, Y, X % Y, rfl, C3.out, K3.out, Lib.hid ⟨Nat.le_refl _, (gcd_rest hY.out).2, Nat.le_of_lt (gcd_rest hY.out).2, (gcd_rest hY.out).1⟩, below_then HB2.out hB3⟩
  · have hx0 : ((xb : Int) == 0) = false := by simp [h0]
    have HL := Lib.hid (lehmer_of h0 (HG.out.resolve_left h0))
    clear h0 HG
    go_wp2
    generalize (w2.alloc (.cells #[.int .u64 (xa : Int), .int .u64 (xb : Int)] 130)).alloc (.cells #[.int .u64 (ya : Int), .int .u64 (yb : Int)] 130) = W at *
    generalize w2.heap.size = g at *
    have hNd1 : W.drew.heap[g]? = some (.cells #[.int .u64 (xa : Int), .int .u64 (xb : Int)] 130 (0, 0)) := hN1
    have hNd2 : W.drew.heap[g + 1]? = some (.cells #[.int .u64 (ya : Int), .int .u64 (yb : Int)] 130 (0, 0)) := hN2
    have Hd : Below W.heap.size W W.drew := (Below.refl _ _).drew
    have HN1 := Lib.hid hNd1
    have HN2 := Lib.hid hNd2
    have Sd := four_at hNd1 hNd2
    have hnb : n3 ≤ 104857600000 := by omega
    have hmb : m ≤ 104857600000 := by omega
    clear hN1 hN2 hNd1 hNd2 hx0
    go_region_held3 (fun w' => w'.cell? ⟨g, 0, none⟩ = some (.int .u64 (xa : Int)) ∧ w'.cell? ⟨g, 1, none⟩ = some (.int .u64 (xb : Int)) ∧ w'.cell? ⟨g + 1, 0, none⟩ = some (.int .u64 (ya : Int)) ∧ w'.cell? ⟨g + 1, 1, none⟩ = some (.int .u64 (yb : Int))) (first | exact Sd | exact S1 | exact S2)
      (first
      | (go_at_call 129; (first
        | (have S0 := S1; (refine (common_of ya yb _ n3 cap (dg X) b m cap' (dg Y) _ ((HA2.out.later Hd).later b1) ((HC2.out.later Hd).later b1) hnb hmb hya hyb).mono ?_); rintro e w4 ⟨a2, n2, c2, rfl, h2, b2⟩; have S2 := four_at (blk_later (blk_later HN1.out b1) b2) (blk_later (blk_later HN2.out b1) b2))
        | ((refine (common_of xa xb _ n3 cap (dg X) b m cap' (dg Y) _ (HA2.out.later Hd) (HC2.out.later Hd) hnb hmb hxa hxb).mono ?_); rintro e w3 ⟨a1, n1, c1, rfl, h1, b1⟩; have S1 := four_at (blk_later HN1.out b1) (blk_later HN2.out b1)))))
    rw [HvX.out, HvY.out] at h1 h2
    have H1 := Lib.hid (h1.later b2)
    have H2 := Lib.hid h2
    clear h1 h2
    go_wp2
    go_ret2
    exact ⟨_, _, _, _, _, _, _, _, rfl, H1.out, H2.out, HL, below_then HB2.out (below_then Hd (below_then b1 b2))⟩
end Go.Proofs.YtipcgehcineblaaGreat

/-
  The contracts of package common (layer 6) at this seat: the common divisor of two numbers.
-/
namespace Go.Proofs.YtipcgehcineblaaGreat
open Go.RowKit

theorem Wd.held_any {w : World} {a : Option Addr} {n cap : Nat} {l : List Nat} (h : Wd w a n cap l) : heldVal w (.slice a n cap) = val l := by
  cases a with
  | none => obtain ⟨_, _, rfl⟩ := h.ofNone; rfl
  | some ad =>
    by_cases hn : n = 0
    · subst hn
      obtain rfl := List.eq_nil_of_length_eq_zero h.len
      rfl
    · obtain ⟨b, off, e, _⟩ := h.at (by omega)
      simp only [Option.some.injEq] at e
      subst e
      exact h.held
theorem small_two {v m : Nat} (h : (dg v).length = m) (hm : m ≤ 2) : v < 18446744073709551616 := by
  have h1 := dg_length_pow.1 (show (dg v).length ≤ 2 by omega)
  simpa using h1
theorem smallV_of {v : Nat} (h : v < 18446744073709551616) : smallV v = v ∧ smallB v = true := by
  unfold smallV smallB two64
  rw [if_pos h, decide_eq_true h]
  exact ⟨rfl, rfl⟩
/-- Between two rounds: two numbers, the greater one first, whose common divisor is the one asked for. -/
def LehmerRel (G bound : Nat) (w0 : World) (x y : Value) (wr : World) : Prop :=
  ∃ (a : Option Addr) (n cap : Nat) (b : Option Addr) (m cap' : Nat) (X Y : Nat), x = .slice a n cap ∧ y = .slice b m cap' ∧ Hid (Wd wr a n cap (dg X)) ∧ Hid (Wd wr b m cap' (dg Y)) ∧ n ≤ bound ∧ m ≤ bound ∧ Hid (Y ≤ X ∧ Nat.gcd X Y = G) ∧ Hid (Below w0.heap.size w0 wr)
set_option maxRecDepth 4096 in
set_option maxHeartbeats 8000000 in
theorem common_gcd (a : Option Addr) (n cap : Nat) (la : List Nat) (b : Option Addr) (m cap' : Nat) (lb : List Nat) (w : World) (ha : Wd w a n cap la) (hb : Wd w b m cap' lb) (hn : n ≤ 83886080000) (hm : m ≤ 83886080000) :
    Calls Tryz.prog 103 #[.slice a n cap, .slice b m cap'] w (Lst (dg (Nat.gcd (val la) (val lb))) w) := by
  have hla : (dg (val la)).length ≤ n := ha.trim_le
  have hlb : (dg (val lb)).length ≤ m := hb.trim_le
  have Hb := Lib.hid hb
  go_enter Tryz.func103, Tryz.ntmps103
  go_wp2_with fail
  refine (natSaid.norm _ _ _ _ _ ha (by omega)).mono ?_
  rintro e w1 ⟨ax, nx, cx, rfl, hx, hB1⟩
  have Hx := Lib.hid hx
  have hnx : nx ≤ 83886080000 := by have h1 := hx.len; omega
  have Hb1 := Lib.hid (Hb.out.later hB1)
  clear ha hb hx Hb
  go_wp2_with fail
  refine (natSaid.norm _ _ _ _ _ Hb1.out (by omega)).mono ?_
  rintro e w2 ⟨ay, ny, cy, rfl, hy, hB2⟩
  have Hy := Lib.hid hy
  have hny : ny ≤ 83886080000 := by have h1 := hy.len; omega
  have Hx2 := Lib.hid (Hx.out.later hB2)
  have hB12 := below_then hB1 hB2
  clear hy hla hlb Hb1 Hx hB1 hB2
  generalize val la = X0 at *
  generalize val lb = Y0 at *
  have HvX : Hid (val (dg X0) = X0) := Lib.hid (val_dg X0)
  have HvY : Hid (val (dg Y0) = Y0) := Lib.hid (val_dg Y0)
  go_wp2_with fail
  refine (natSaid.cmp _ _ _ _ _ _ _ _ _ Hx2.out Hy.out (by omega) (by omega)).mono ?_
  rintro e w3 ⟨rfl, hB3⟩
  rw [HvX.out, HvY.out]
  have Hx3 := Lib.hid (Hx2.out.later hB3)
  have Hy3 := Lib.hid (Hy.out.later hB3)
  have HB3 := Lib.hid (below_then hB12 hB3)
  clear Hx2 Hy hB12 hB3 HvX HvY
  obtain ⟨G, hG⟩ : ∃ G, G = Nat.gcd X0 Y0 := ⟨_, rfl⟩
  have HGe : Hid (Nat.gcd X0 Y0 = G) := Lib.hid hG.symm
  have HS : Hid ((X0 < Y0 → X0 ≤ Y0 ∧ Nat.gcd Y0 X0 = G) ∧ (¬ X0 < Y0 → Y0 ≤ X0 ∧ Nat.gcd X0 Y0 = G)) := Lib.hid ⟨fun h => ⟨by omega, by rw [hG, Nat.gcd_comm]⟩, fun h => ⟨by omega, hG.symm⟩⟩
  clear hG
  by_cases hlt : X0 < Y0
  · have hc : cmpI X0 Y0 < 0 := by rw [cmpI_lt hlt]; omega
    have HSs := Lib.hid (HS.out.1 hlt)
    clear hlt HS
    generalize cmpI X0 Y0 = c at *
    go_wp2
    go_loopw [0, 1] (fun xv yv wr => LehmerRel G 83886080000 w xv yv wr) (fun _ yv wr => heldVal wr yv)
    case atStart => exact ⟨ay, ny, cy, ax, nx, cx, Y0, X0, rfl, rfl, Hy3, Hx3, hny, hnx, HSs, HB3⟩
    case round =>
      clear Hx3 Hy3 hnx hny HSs HB3 hc
      obtain ⟨a, n, cap, b, m, cap', X, Y, rfl, rfl, HX, HY, hn, hm, HXY, HB⟩ := hrel
      have HvX : Hid (val (dg X) = X) := Lib.hid (val_dg X)
      have HvY : Hid (val (dg Y) = Y) := Lib.hid (val_dg Y)
      by_cases hm2 : 2 < m
      · have HmY := Lib.hid HY.out.held_any
        rw [HvY.out] at HmY
        have hmn : m ≤ n := by rw [← HX.out.len, ← HY.out.len]; exact dg_length_mono HXY.out.1
        obtain ⟨k, rfl⟩ : ∃ k, n = k + 3 := ⟨n - 3, by omega⟩
        have HY0 : Hid (Y ≠ 0) := Lib.hid (fun h => by have := HY.out.len; rw [h, dg_zero] at this; simp at this; omega)
        have HYX : Hid (Y ≤ X) := Lib.hid HXY.out.1
        have hm2i : (2 : Int) < (m : Int) := by omega
        go_wp2_with fail
        refine (common_lessen a k cap b m cap' X Y _ HX.out HY.out (by omega) (by omega) HYX HY0).mono ?_
        rintro e w4 ⟨a4, n4, c4, b4, m4, d4, X4, Y4, rfl, h4, k4, HL, hB4⟩
        have H4 := Lib.hid h4
        have K4 := Lib.hid k4
        have hn4 : n4 ≤ 83886080000 := by have h1 := h4.len; have h2 := dg_length_mono HL.out.1; have h3 := HY.out.len; omega
        have hm4 : m4 ≤ 83886080000 := by have h1 := k4.len; have h2 := dg_length_mono (Nat.le_of_lt HL.out.2.1); have h3 := HY.out.len; omega
        have HB4 := Lib.hid (below_then HB.out hB4)
        have HmK := Lib.hid k4.held_any
        rw [val_dg] at HmK
        clear h4 k4 hB4
        go_wp2
        go_roundw
        case rel => exact ⟨a4, n4, c4, b4, m4, d4, X4, Y4, rfl, rfl, H4, K4, hn4, hm4, Lib.hid ⟨HL.out.2.2.1, HL.out.2.2.2.trans HXY.out.2⟩, HB4⟩
        case measure => rw [HmK.out, HmY.out]; exact HL.out.2.1
      · have hm2i : ¬ (2 : Int) < (m : Int) := by omega
        by_cases hm0 : m = 0
        · subst hm0
          have HGX : Hid (X = G) := Lib.hid (by rw [← HXY.out.2, dg_nil_iff.1 HY.out.len, Nat.gcd_zero_right])
          go_wp2
          go_ret
          exact ⟨a, n, cap, rfl, by rw [HGe.out, ← HGX.out]; exact HX.out, HB.out⟩
        · have hmb : ((m : Int) == 0) = false := by simp; omega
          have HY0 : Hid (Y ≠ 0) := Lib.hid (fun h => by have := HY.out.len; rw [h, dg_zero] at this; simp at this; omega)
          have hYs : Y < 18446744073709551616 := small_two HY.out.len (by omega)
          have hRs : X % Y < 18446744073709551616 := Nat.lt_trans (Nat.mod_lt _ (Nat.pos_of_ne_zero HY0.out)) hYs
          have HGY : Hid (Nat.gcd Y (X % Y) = G) := Lib.hid ((gcd_rest HY0.out).1.trans HXY.out.2)
          go_wp2_with fail
          refine (quot_div _ _ _ _ _ _ _ _ _ HX.out HY.out (by omega) (by omega) (by rw [HvY.out]; exact HY0)).mono ?_
          rintro e w4 ⟨a4, n4, c4, b4, m4, d4, rfl, h4, k4, hB4⟩
          rw [HvX.out, HvY.out] at k4
          have K4 := Lib.hid k4
          have hm4 : m4 ≤ 83886080000 := by have h1 := k4.len; have h2 := dg_length_mono (Nat.le_of_lt (Nat.mod_lt X (Nat.pos_of_ne_zero HY0.out))); have h3 := HY.out.len; omega
          have HY4 := Lib.hid (HY.out.later hB4)
          have hB14 := below_then HB.out hB4
          obtain ⟨R, hR⟩ : ∃ R, R = X % Y := ⟨_, rfl⟩
          rw [← hR] at hRs HGY K4
          have HvR : Hid (val (dg R) = R) := Lib.hid (val_dg R)
          have HsY := Lib.hid (smallV_of hYs)
          have HsR := Lib.hid (smallV_of hRs)
          clear h4 k4 hB4 hR HX HY HB HXY HY0
          go_wp2_with fail
          refine (natSaid.small _ _ _ _ _ HY4.out (by omega)).mono ?_
          rintro e w5 ⟨rfl, hB5⟩
          rw [HvY.out, HsY.out.1, HsY.out.2]
          have K5 := Lib.hid (K4.out.later hB5)
          have hB15 := below_then hB14 hB5
          clear K4 HY4 hB14 hB5 HvX HvY HsY
          go_wp2_with fail
          refine (natSaid.small _ _ _ _ _ K5.out (by omega)).mono ?_
          rintro e w6 ⟨rfl, hB6⟩
          rw [HvR.out, HsR.out.1, HsR.out.2]
          have HB16 := Lib.hid (below_then hB15 hB6)
          clear K5 hB15 hB6 HvR HsR
          go_wp2
          go_loopw [8, 10] (fun xv yv wr => ∃ x y : Nat, xv = .int .u64 (x : Int) ∧ yv = .int .u64 (y : Int) ∧ x < 18446744073709551616 ∧ y < 18446744073709551616 ∧ Hid (Nat.gcd x y = G) ∧ Hid (Below w.heap.size w wr)) (fun _ yv _ => (intOf yv).toNat)
          case atStart => exact ⟨Y, R, rfl, rfl, hYs, hRs, HGY, HB16⟩
          case round =>
            clear HGY HB16 hYs hRs
            obtain ⟨x, y, rfl, rfl, hxs, hys, HG, HBr⟩ := hrel
            by_cases hy0 : 0 < y
            · have hyi : (0 : Int) < (y : Int) := by omega
              obtain ⟨z, hz⟩ : ∃ z : Nat, (x : Int) % (y : Int) = (z : Int) := ⟨x % y, by rw [Int.natCast_emod]⟩
              have hze : x % y = z := by have := Int.natCast_emod x y; omega
              have Hz := Lib.hid (gcd_rest (X := x) (Y := y) (by omega))
              rw [hze] at Hz
              have hzs : z < y := Hz.out.2
              clear hze
              go_wp2
              go_quiet (fail)
              rw [hz]
              have HBd := Lib.hid (below_drewN HBr.out nq)
              go_wp2
              go_roundw
              case rel => exact ⟨y, z, rfl, rfl, hys, by omega, Lib.hid (Hz.out.1.trans HG.out), HBd⟩
              case measure => simp [intOf]; omega
            · obtain rfl : y = 0 := by omega
              have HGx : Hid (x = G) := Lib.hid (by rw [← HG.out, Nat.gcd_zero_right])
              go_wp2_with fail
              refine (natSaid.of x _ (by omega)).mono ?_
              rintro e w7 ⟨a7, n7, c7, rfl, h7, hB7⟩
              rw [HGx.out] at h7
              have H7 := Lib.hid h7
              clear h7
              go_wp2
              go_ret
              exact ⟨a7, n7, c7, rfl, by rw [HGe.out]; exact H7.out, below_then HBr.out hB7⟩
  · have hc : ¬ cmpI X0 Y0 < 0 := by unfold cmpI; split <;> (try split) <;> omega
    have HSs := Lib.hid (HS.out.2 hlt)
    clear hlt HS
    generalize cmpI X0 Y0 = c at *
    go_wp2
    go_loopw [0, 1] (fun xv yv wr => LehmerRel G 83886080000 w xv yv wr) (fun _ yv wr => heldVal wr yv)
    case atStart => exact ⟨ax, nx, cx, ay, ny, cy, X0, Y0, rfl, rfl, Hx3, Hy3, hnx, hny, HSs, HB3⟩
    case round =>
      clear Hx3 Hy3 hnx hny HSs HB3 hc
      obtain ⟨a, n, cap, b, m, cap', X, Y, rfl, rfl, HX, HY, hn, hm, HXY, HB⟩ := hrel
      have HvX : Hid (val (dg X) = X) := Lib.hid (val_dg X)
      have HvY : Hid (val (dg Y) = Y) := Lib.hid (val_dg Y)
      by_cases hm2 : 2 < m
      · have HmY := Lib.hid HY.out.held_any
        rw [HvY.out] at HmY
        have hmn : m ≤ n := by rw [← HX.out.len, ← HY.out.len]; exact dg_length_mono HXY.out.1
        obtain ⟨k, rfl⟩ : ∃ k, n = k + 3 := ⟨n - 3, by omega⟩
        have HY0 : Hid (Y ≠ 0) := Lib.hid (fun h => by have := HY.out.len; rw [h, dg_zero] at this; simp at this; omega)
        have HYX : Hid (Y ≤ X) := Lib.hid HXY.out.1
        have hm2i : (2 : Int) < (m : Int) := by omega
        go_wp2_with fail
        refine (common_lessen a k cap b m cap' X Y _ HX.out HY.out (by omega) (by omega) HYX HY0).mono ?_
        rintro e w4 ⟨a4, n4, c4, b4, m4, d4, X4, Y4, rfl, h4, k4, HL, hB4⟩
        have H4 := Lib.hid h4
        have K4 := Lib.hid k4
        have hn4 : n4 ≤ 83886080000 := by have h1 := h4.len; have h2 := dg_length_mono HL.out.1; have h3 := HY.out.len; omega
        have hm4 : m4 ≤ 83886080000 := by have h1 := k4.len; have h2 := dg_length_mono (Nat.le_of_lt HL.out.2.1); have h3 := HY.out.len; omega
        have HB4 := Lib.hid (below_then HB.out hB4)
        have HmK := Lib.hid k4.held_any
        rw [val_dg] at HmK
        clear h4 k4 hB4
        go_wp2
        go_roundw
        case rel => exact ⟨a4, n4, c4, b4, m4, d4, X4, Y4, rfl, rfl, H4, K4, hn4, hm4, Lib.hid ⟨HL.out.2.2.1, HL.out.2.2.2.trans HXY.out.2⟩, HB4⟩
        case measure => rw [HmK.out, HmY.out]; exact HL.out.2.1
      · have hm2i : ¬ (2 : Int) < (m : Int) := by omega
        by_cases hm0 : m = 0
        · subst hm0
          have HGX : Hid (X = G) := Lib.hid (by rw [← HXY.out.2, dg_nil_iff.1 HY.out.len, Nat.gcd_zero_right])
          go_wp2
          go_ret
          exact ⟨a, n, cap, rfl, by rw [HGe.out, ← HGX.out]; exact HX.out, HB.out⟩
        · have hmb : ((m : Int) == 0) = false := by simp; omega
          have HY0 : Hid (Y ≠ 0) := Lib.hid (fun h => by have := HY.out.len; rw [h, dg_zero] at this; simp at this; omega)
          have hYs : Y < 18446744073709551616 := small_two HY.out.len (by omega)
          have hRs : X % Y < 18446744073709551616 := Nat.lt_trans (Nat.mod_lt _ (Nat.pos_of_ne_zero HY0.out)) hYs
          have HGY : Hid (Nat.gcd Y (X % Y) = G) := Lib.hid ((gcd_rest HY0.out).1.trans HXY.out.2)
          go_wp2_with fail
          refine (quot_div _ _ _ _ _ _ _ _ _ HX.out HY.out (by omega) (by omega) (by rw [HvY.out]; exact HY0)).mono ?_
          rintro e w4 ⟨a4, n4, c4, b4, m4, d4, rfl, h4, k4, hB4⟩
          rw [HvX.out, HvY.out] at k4
          have K4 := Lib.hid k4
          have hm4 : m4 ≤ 83886080000 := by have h1 := k4.len; have h2 := dg_length_mono (Nat.le_of_lt (Nat.mod_lt X (Nat.pos_of_ne_zero HY0.out))); have h3 := HY.out.len; omega
          have HY4 := Lib.hid (HY.out.later hB4)
          have hB14 := below_then HB.out hB4
          obtain ⟨R, hR⟩ : ∃ R, R = X % Y := ⟨_, rfl⟩
          rw [← hR] at hRs HGY K4
          have HvR : Hid (val (dg R) = R) := Lib.hid (val_dg R)
          have HsY := Lib.hid (smallV_of hYs)
          have HsR := Lib.hid (smallV_of hRs)
          clear h4 k4 hB4 hR HX HY HB HXY HY0
          go_wp2_with fail
          refine (natSaid.small _ _ _ _ _ HY4.out (by omega)).mono ?_
          rintro e w5 ⟨rfl, hB5⟩
          rw [HvY.out, HsY.out.1, HsY.out.2]
          have K5 := Lib.hid (K4.out.later hB5)
          have hB15 := below_then hB14 hB5
          clear K4 HY4 hB14 hB5 HvX HvY HsY
          go_wp2_with fail
          refine (natSaid.small _ _ _ _ _ K5.out (by omega)).mono ?_
          rintro e w6 ⟨rfl, hB6⟩
          rw [HvR.out, HsR.out.1, HsR.out.2]
          have HB16 := Lib.hid (below_then hB15 hB6)
          clear K5 hB15 hB6 HvR HsR
          go_wp2
          go_loopw [8, 10] (fun xv yv wr => ∃ x y : Nat, xv = .int .u64 (x : Int) ∧ yv = .int .u64 (y : Int) ∧ x < 18446744073709551616 ∧ y < 18446744073709551616 ∧ Hid (Nat.gcd x y = G) ∧ Hid (Below w.heap.size w wr)) (fun _ yv _ => (intOf yv).toNat)
          case atStart => exact ⟨Y, R, rfl, rfl, hYs, hRs, HGY, HB16⟩
          case round =>
            clear HGY HB16 hYs hRs
            obtain ⟨x, y, rfl, rfl, hxs, hys, HG, HBr⟩ := hrel
            by_cases hy0 : 0 < y
            · have hyi : (0 : Int) < (y : Int) := by omega
              obtain ⟨z, hz⟩ : ∃ z : Nat, (x : Int) % (y : Int) = (z : Int) := ⟨x % y, by rw [Int.natCast_emod]⟩
              have hze : x % y = z := by have := Int.natCast_emod x y; omega
              have Hz := Lib.hid (gcd_rest (X := x) (Y := y) (by omega))
              rw [hze] at Hz
              have hzs : z < y := Hz.out.2
              clear hze
              go_wp2
              go_quiet (fail)
              rw [hz]
              have HBd := Lib.hid (below_drewN HBr.out nq)
              go_wp2
              go_roundw
              case rel => exact ⟨y, z, rfl, rfl, hys, by omega, Lib.hid (Hz.out.1.trans HG.out), HBd⟩
              case measure => simp [intOf]; omega
            · obtain rfl : y = 0 := by omega
              have HGx : Hid (x = G) := Lib.hid (by rw [← HG.out, Nat.gcd_zero_right])
              go_wp2_with fail
              refine (natSaid.of x _ (by omega)).mono ?_
              rintro e w7 ⟨a7, n7, c7, rfl, h7, hB7⟩
              rw [HGx.out] at h7
              have H7 := Lib.hid h7
              clear h7
              go_wp2
              go_ret
              exact ⟨a7, n7, c7, rfl, by rw [HGe.out]; exact H7.out, below_then HBr.out hB7⟩
end Go.Proofs.YtipcgehcineblaaGreat

/-
  The contracts of package common (layer 6) at this seat: All, Lcm, Prime, Cancel; and all of them as one.
-/
namespace Go.Proofs.YtipcgehcineblaaGreat
open Go.RowKit

theorem dg_gcd_length (x y : Nat) : (dg (Nat.gcd x y)).length ≤ (dg x).length + (dg y).length := by
  by_cases h : x = 0
  · rw [h, Nat.gcd_zero_left]; omega
  · have := dg_length_mono (Nat.le_of_dvd (Nat.pos_of_ne_zero h) (Nat.gcd_dvd_left x y)); omega
theorem common_exact_left {A B : Nat} : A % Nat.gcd A B = 0 := Nat.mod_eq_zero_of_dvd (Nat.gcd_dvd_left A B)
theorem common_exact_right {A B : Nat} : B % Nat.gcd A B = 0 := Nat.mod_eq_zero_of_dvd (Nat.gcd_dvd_right A B)
theorem exactL_dvd {v x : Nat} (h : v % x = 0) : exactL v x = dg (v / x) := if_pos h
set_option maxRecDepth 4096 in
set_option maxHeartbeats 1000000 in
theorem common_cancel (a : Option Addr) (n cap : Nat) (la : List Nat) (b : Option Addr) (m cap' : Nat) (lb : List Nat) (w : World) (ha : Wd w a n cap la) (hb : Wd w b m cap' lb) (hn : n ≤ 41943040000) (hm : m ≤ 41943040000) :
    Calls Tryz.prog 79 #[.slice a n cap, .slice b m cap'] w (Pair2 (dg (val la / Nat.gcd (val la) (val lb))) (dg (val lb / Nat.gcd (val la) (val lb))) w) := by
  have hgl := dg_gcd_length (val la) (val lb)
  have hla : (dg (val la)).length ≤ n := ha.trim_le
  have hlb : (dg (val lb)).length ≤ m := hb.trim_le
  have Ha := Lib.hid ha
  have Hb := Lib.hid hb
  clear ha hb
  go_enter Tryz.func79, Tryz.ntmps79
  go_wp2_with fail
  refine (common_gcd _ _ _ _ _ _ _ _ _ Ha.out Hb.out (by omega) (by omega)).mono ?_
  rintro e w1 ⟨a1, n1, c1, rfl, h1, hB1⟩
  have H1 := Lib.hid h1
  have hn1 : n1 ≤ 83886080000 := by have := h1.len; omega
  have Ha1 := Lib.hid (Ha.out.later hB1)
  have Hb1 := Lib.hid (Hb.out.later hB1)
  clear h1 Ha Hb
  by_cases h0 : Nat.gcd (val la) (val lb) = 0
  · have HL : Hid (dg (val la / Nat.gcd (val la) (val lb)) = [] ∧ dg (val lb / Nat.gcd (val la) (val lb)) = []) := Lib.hid (by rw [h0, Nat.div_zero, Nat.div_zero, dg_zero]; exact ⟨rfl, rfl⟩)
    go_wp2_with fail
    refine (quot_exact_none _ _ _ _ _ _ _ _ H1.out (by omega) (Lib.hid (by rw [val_dg]; exact h0))).mono ?_
    rintro e w2 ⟨a2, n2, c2, rfl, h2, hB2⟩
    have H2 := Lib.hid h2
    have H12 := Lib.hid (H1.out.later hB2)
    clear h2
    go_wp2_with fail
    refine (quot_exact_none _ _ _ _ _ _ _ _ H12.out (by omega) (Lib.hid (by rw [val_dg]; exact h0))).mono ?_
    rintro e w3 ⟨a3, n3, c3, rfl, h3, hB3⟩
    have H3 := Lib.hid h3
    have H23 := Lib.hid (H2.out.later hB3)
    clear h3
    go_wp2
    go_ret2
    exact ⟨a2, n2, c2, a3, n3, c3, rfl, by rw [HL.out.1]; exact H23.out, by rw [HL.out.2]; exact H3.out, below_then hB1 (below_then hB2 hB3)⟩
  · have HL : Hid (exactL (val la) (val (dg (Nat.gcd (val la) (val lb)))) = dg (val la / Nat.gcd (val la) (val lb))) := Lib.hid (by rw [val_dg]; exact exactL_dvd common_exact_left)
    have HR : Hid (exactL (val lb) (val (dg (Nat.gcd (val la) (val lb)))) = dg (val lb / Nat.gcd (val la) (val lb))) := Lib.hid (by rw [val_dg]; exact exactL_dvd common_exact_right)
    go_wp2_with fail
    refine (quot_exact _ _ _ _ _ _ _ _ _ Ha1.out H1.out (by omega) (by omega) (Lib.hid (by rw [val_dg]; exact h0))).mono ?_
    rintro e w2 ⟨a2, n2, c2, rfl, h2, hB2⟩
    rw [HL.out] at h2
    have H2 := Lib.hid h2
    have H12 := Lib.hid (H1.out.later hB2)
    have Hb2 := Lib.hid (Hb1.out.later hB2)
    clear h2
    go_wp2_with fail
    refine (quot_exact _ _ _ _ _ _ _ _ _ Hb2.out H12.out (by omega) (by omega) (Lib.hid (by rw [val_dg]; exact h0))).mono ?_
    rintro e w3 ⟨a3, n3, c3, rfl, h3, hB3⟩
    rw [HR.out] at h3
    have H3 := Lib.hid h3
    have H23 := Lib.hid (H2.out.later hB3)
    clear h3
    go_wp2
    go_ret2
    exact ⟨a2, n2, c2, a3, n3, c3, rfl, H23.out, H3.out, below_then hB1 (below_then hB2 hB3)⟩
end Go.Proofs.YtipcgehcineblaaGreat

/-
  An argument of type []uint32, [][]uint32, opened: the words that it holds. Of no program.
-/
namespace Go.Proofs.YtipcgehcineblaaGreat
open Go.ChangeShapes Go.WideShapes Go.ChangeAt Go.RowKit
section
variable {H : Type} {enc : TypeId × Value → H} {P : Program} {W : World} {base : Nat}

theorem words_of_ints {zs : List Int} (h : ∀ n ∈ zs, (Lit.int .u32 n).wf = true) : ∃ l : List Nat, zs = l.map (fun x => ((x : Nat) : Int)) ∧ okw l := by
  refine ⟨zs.map Int.toNat, ?_, ?_⟩
  · rw [List.map_map]
    have : ∀ z ∈ zs, ((fun x => ((x : Nat) : Int)) ∘ Int.toNat) z = z := fun z hz => by
      have := bounds_u32 (h z hz)
      show ((z.toNat : Nat) : Int) = z
      omega
    conv => lhs; rw [← List.map_id zs]
    exact List.map_congr_left (fun z hz => (this z hz).symm)
  · intro x hx
    obtain ⟨z, hz, rfl⟩ := List.mem_map.1 hx
    have := bounds_u32 (h z hz)
    omega
theorem getD_words (l : List Nat) (j : Nat) : (l.map fun x => ((x : Nat) : Int)).getD j 0 = ((atw l j : Nat) : Int) := by
  unfold atw
  rw [List.getD_eq_getElem?_getD, List.getD_eq_getElem?_getD, List.getElem?_map]
  cases l[j]? <;> rfl

/-- Cells that hold integers of kind u32, as words. -/
theorem Wd.ofInts {a : Option Addr} {len cap : Nat} {zs : List Int} (hl : len ≤ cap) (hm : cap ≤ maxLen) (hn : a = none → cap = 0) (hz : len ≤ zs.length) (hw : ∀ n ∈ zs, (Lit.int .u32 n).wf = true)
    (hc : ∀ a', a = some a' → ∀ i, i < len → W.cell? (a'.add i) = some (.int .u32 (zs.getD i 0))) : ∃ l, Wd W a len cap l := by
  obtain ⟨l, rfl, ho⟩ := words_of_ints hw
  have hll : (l.take len).length = len := by rw [List.length_take]; simp at hz; omega
  refine ⟨l.take len, hll, hl, by unfold maxLen at hm; omega, okw_take ho len, hn, ?_⟩
  by_cases h0 : len = 0
  · exact .inl h0
  · cases a with
    | none => have := hn rfl; omega
    | some a' =>
      obtain ⟨b, off, spot⟩ := a'
      have hspot : spot = none := by simpa [Addr.add] using World.cell?_spot (hc _ rfl 0 (by omega))
      subst hspot
      refine .inr ⟨b, off, rfl, fun j hj => ?_⟩
      rw [← add_plain, hc _ rfl j hj, getD_words, atw_take hj]

end
end Go.Proofs.YtipcgehcineblaaGreat

/-
  An argument of a struct type opened: a whole number, a fraction. Of no program.
-/
namespace Go.Proofs.YtipcgehcineblaaGreat
open Go.ChangeShapes Go.WideShapes Go.ChangeAt Go.RowKit Go.Deep
section
variable {H : Type} {enc : TypeId × Value → H} {P : Program} {W : World} {base : Nat}

theorem words_cell {t e : TypeId} {n0 : Nat} {v : Value} {y : DataW H × List MemPlace} (ht : P.underlying t = some (.slice e)) (he : P.underlying e = some (.int .u32)) (hce : P.cellsOf e = 1)
    (hf : DataW.trod enc P W 0 (fun _ => true) true n0 t [v] = some y) : ∃ (a : Option Addr) (n cap : Nat) (l : List Nat), v = .slice a n cap ∧ Wd W a n cap l := by
  rcases open_ints ht he hce hf with ⟨hcs, _⟩ | ⟨a, len', cap', zs, hcs, _, hl, hm, hz, _, hc, hw⟩
  · simp at hcs
    exact ⟨_, _, _, [], hcs, Wd.ofNil W⟩
  · simp at hcs
    simp only [if_true] at hz
    obtain ⟨l, hl'⟩ := Wd.ofInts (W := W) (a := some a) hl hm (fun e => by cases e) (by omega) hw (fun a' e i hi => by cases e; exact hc i (by omega))
    exact ⟨_, _, _, l, hcs, hl'⟩
/-- A fraction, as a value. -/
def frV (neg : Bool) (a : Option Addr) (n cap : Nat) (b : Option Addr) (m cap' : Nat) : Value := .agg #[.bool neg, .slice a n cap, .slice b m cap']
theorem open_frac {t : TypeId} {f0 f1 f2 : Field} {e : TypeId} {v : Value} {d : DataW H} {p : List MemPlace} (hs : P.underlying t = some (.struct #[f0, f1, f2])) (hone : oneCellFields P #[f0, f1, f2] = true) (hC : P.cellsOf t = 3)
    (hb : P.underlying f0.type = some .bool) (ht : P.underlying f1.type = some (.slice e)) (ht2 : P.underlying f2.type = some (.slice e)) (he : P.underlying e = some (.int .u32)) (hce : P.cellsOf e = 1)
    (hv : Value.okWide P W .any base t v) (h : DataW.Trod enc P W 0 (fun _ => true) true t v d p) :
    ∃ (neg : Bool) (a : Option Addr) (n cap : Nat) (l : List Nat) (b : Option Addr) (m cap' : Nat) (k : List Nat), v = frV neg a n cap b m cap' ∧ Wd W a n cap l ∧ Wd W b m cap' k := by
  obtain ⟨v0, v1, v2, y0, y1, y2, m, rfl, _, _, h0, h1, h2⟩ := Joins.open_agg3 hs hone hC hv h
  obtain ⟨b, e0, _⟩ := DataW.trod_bool hb h0
  simp at e0
  subst e0
  obtain ⟨a, n, cap, l, rfl, hw⟩ := words_cell ht he hce h1
  obtain ⟨a2, n2, cap2, l2, rfl, hw2⟩ := words_cell ht2 he hce h2
  exact ⟨b, a, n, cap, l, a2, n2, cap2, l2, rfl, hw, hw2⟩
end
end Go.Proofs.YtipcgehcineblaaGreat

/-
  Fractions: their value as a rational number; the right one of a value. Nothing of the program.
-/
namespace Go.Proofs.YtipcgehcineblaaGreat
open Go.RowKit

/-- The value of a fraction. -/
def qval (neg : Bool) (u v : Nat) : Rat := mkRat (zval neg u) v
/-- A right fraction comes back. -/
def LstQ (q : Rat) (w : World) (e : Ending) (w' : World) : Prop :=
  ∃ (a : Option Addr) (n cap : Nat) (b : Option Addr) (m cap' : Nat), e = .returned (frV (zneg q.num) a n cap b m cap') ∧ Wd w' a n cap (dg q.num.natAbs) ∧ Wd w' b m cap' (dg q.den) ∧ Below w.heap.size w w'
theorem zval_nought (neg : Bool) : zval neg 0 = 0 := by unfold zval; cases neg <;> rfl
theorem qval_none (neg : Bool) {u v : Nat} (h : v = 0 ∨ u = 0) : qval neg u v = 0 := by
  unfold qval
  rcases h with rfl | rfl
  · exact Rat.mkRat_zero _
  · rw [zval_nought]; exact Rat.zero_mkRat _
theorem zval_div (neg : Bool) {u g : Nat} (h : g ∣ u) : zval neg u / (g : Int) = zval neg (u / g) := by
  unfold zval
  cases neg
  · simp
  · simp only [reduceIte]
    rw [Int.neg_ediv_of_dvd (Int.natCast_dvd_natCast.2 h), Int.natCast_ediv]
theorem qval_parts (neg : Bool) {u v : Nat} (hv : v ≠ 0) : (qval neg u v).num = zval neg (u / Nat.gcd u v) ∧ (qval neg u v).den = v / Nat.gcd u v := by
  unfold qval
  rw [Rat.mkRat_def, dif_neg hv]
  refine ⟨?_, ?_⟩
  · rw [Rat.num_normalize, zval_abs, zval_div neg (Nat.gcd_dvd_left u v)]
  · rw [Rat.den_normalize, zval_abs]
theorem qval_sign (neg : Bool) {u v : Nat} (hv : v ≠ 0) (hu : u ≠ 0) : zneg (qval neg u v).num = neg := by
  have hg : u / Nat.gcd u v ≠ 0 := Nat.ne_of_gt (Nat.div_pos (Nat.le_of_dvd (Nat.pos_of_ne_zero hu) (Nat.gcd_dvd_left u v)) (Nat.gcd_pos_of_pos_left _ (Nat.pos_of_ne_zero hu)))
  rw [(qval_parts neg hv).1, zval_neg, decide_eq_true hg, Bool.and_true]
/-- What stands as a right fraction stands for its value. -/
theorem qval_dg (q : Rat) : qval (zneg q.num) (val (dg q.num.natAbs)) (val (dg q.den)) = q := by
  unfold qval
  rw [val_dg, val_dg, zval_of, Rat.mkRat_self]
end Go.Proofs.YtipcgehcineblaaGreat

/-
  Fractions: powers, sizes, quotients; lengths of what is reckoned. Nothing of the program.
-/
namespace Go.Proofs.YtipcgehcineblaaGreat

theorem dg_one_length : (dg 1).length ≤ 1 := dg_length_le (by decide)
theorem num_nz {q : Rat} (h : q ≠ 0) : q.num ≠ 0 := fun e => h (Rat.num_eq_zero.1 e)
theorem qinv_parts {q : Rat} (h : q ≠ 0) : (q⁻¹).num.natAbs = q.den ∧ (q⁻¹).den = q.num.natAbs := by
  have h0 := num_nz h
  rw [Rat.num_inv, Rat.den_inv, if_neg h0, Int.natAbs_mul, Int.natAbs_natCast]
  refine ⟨?_, rfl⟩
  rcases Int.lt_trichotomy q.num 0 with g | g | g
  · rw [Int.sign_eq_neg_one_of_neg g]; simp
  · exact absurd g h0
  · rw [Int.sign_eq_one_of_pos g]; simp
/-- The lower number over the upper one: the quotient of 1. -/
theorem qval_turned (neg : Bool) (u v : Nat) : qval neg v u = (qval neg u v)⁻¹ := by
  unfold qval
  by_cases hv : v = 0
  · subst hv; rw [zval_nought, Rat.zero_mkRat, Rat.mkRat_zero, Rat.inv_zero]
  · by_cases hu : u = 0
    · subst hu; rw [zval_nought, Rat.zero_mkRat, Rat.mkRat_zero, Rat.inv_zero]
    · rw [← Rat.divInt_ofNat, ← Rat.divInt_ofNat, Rat.inv_divInt]
      unfold zval
      cases neg
      · rfl
      · simp only [reduceIte]
        rw [Rat.divInt_neg']
theorem qinv_dg (q : Rat) : qval (zneg q.num) (val (dg q.den)) (val (dg q.num.natAbs)) = q⁻¹ := by rw [qval_turned, qval_dg]
/-- Whether there is a power; which. -/
def powOk (q : Rat) (e : Int) : Prop := -8 ≤ e ∧ e ≤ 8 ∧ (0 ≤ e ∨ q ≠ 0)
instance powOk.dec (q : Rat) (e : Int) : Decidable (powOk q e) := by unfold powOk; infer_instance
end Go.Proofs.YtipcgehcineblaaGreat
