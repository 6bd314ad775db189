/-
  Several texts of this claim as one, group 3.
-/
import Derived.Test.YtenaopppkkhmcaaG2
import Derived.Test.YtenaopppkkhmcaaG1
import Derived.Lib.AppendIntMem
import Derived.Lib.LaidTab
import Derived.Lib.ItoaNum
import Derived.OwnWalk
import Derived.Laws.OwnMore
import Derived.Laws.MakeOwn
import Derived.BigRegion
import Derived.BigQuiet
import Derived.Deep.QuietTactic
import Derived.Deep.DeepMust
import Derived.Deep.RegionHeld3
/-
  A window of a row of the call's own: what stands in it may be written, the row stays the call's own. Of no program.
-/
namespace Go.Proofs.Ytenaopppkkhmcaa
open Go.RowKit

/-- From place off of an own row on, n words: l. -/
def Win (w : World) (base g off n : Nat) (l : List Nat) : Prop := ∃ (N cap : Nat) (P : List Nat), Own w base g N cap P ∧ off + n ≤ N ∧ l = (P.drop off).take n
theorem Win.len {w : World} {base g off n : Nat} {l : List Nat} (h : Win w base g off n l) : l.length = n := by
  obtain ⟨N, cap, P, hO, hn, rfl⟩ := h
  have := hO.len
  rw [List.length_take, List.length_drop]
  omega
theorem Win.ok {w : World} {base g off n : Nat} {l : List Nat} (h : Win w base g off n l) : okw l := by
  obtain ⟨N, cap, P, hO, hn, rfl⟩ := h
  exact okw_take (okw_drop hO.2 off) n
theorem Win.base {w : World} {base g off n : Nat} {l : List Nat} (h : Win w base g off n l) : base ≤ g ∧ g < w.heap.size := by
  obtain ⟨N, cap, P, hO, _⟩ := h
  exact hO.base
theorem Win.cell {w : World} {base g off n : Nat} {l : List Nat} (h : Win w base g off n l) {k : Nat} (hk : k < n) : w.cell? ⟨g, off + k, none⟩ = some (.int .u32 ((atw l k : Nat) : Int)) := by
  obtain ⟨N, cap, P, hO, hn, rfl⟩ := h
  rw [hO.cell (by omega), atw_take hk, atw_drop]
theorem Win.wd {w : World} {base g off n : Nat} {l : List Nat} (h : Win w base g off n l) {c : Nat} (hc : n ≤ c) (hc2 : c ≤ 9223372036854775807) : Wd w (some ⟨g, off, none⟩) n c l :=
  ⟨h.len, hc, hc2, h.ok, fun e => (by cases e), .inr ⟨g, off, rfl, fun _ hj => h.cell hj⟩⟩
theorem Win.set {w : World} {base g off n : Nat} {l : List Nat} (h : Win w base g off n l) {k r : Nat} (hr : r < 4294967296) : Win (w.setCell ⟨g, off + k, none⟩ (.int .u32 ((r : Nat) : Int))) base g off n (l.set k r) := by
  obtain ⟨N, cap, P, hO, hn, rfl⟩ := h
  refine ⟨N, cap, P.set (off + k) r, hO.set _ _ hr, hn, ?_⟩
  rw [List.drop_set, if_neg (by omega), List.take_set, Nat.add_sub_cancel_left]
theorem Win.take {w : World} {base g off n : Nat} {l : List Nat} (h : Win w base g off n l) {m : Nat} (hm : m ≤ n) : Win w base g off m (l.take m) := by
  obtain ⟨N, cap, P, hO, hn, rfl⟩ := h
  exact ⟨N, cap, P, hO, by omega, by rw [List.take_take, Nat.min_eq_left hm]⟩
theorem Win.drop {w : World} {base g off q m : Nat} {l : List Nat} (h : Win w base g off (q + m) l) : Win w base g (off + q) m (l.drop q) := by
  obtain ⟨N, cap, P, hO, hn, rfl⟩ := h
  exact ⟨N, cap, P, hO, by omega, by rw [List.drop_take, List.drop_drop, Nat.add_sub_cancel_left]⟩
theorem Win.later {w w' : World} {base g off n : Nat} {l : List Nat} (h : Win w base g off n l) (hb : Below w.heap.size w w') : Win w' base g off n l := by
  obtain ⟨N, cap, P, hO, hn, hl⟩ := h
  exact ⟨N, cap, P, hO.later hb, hn, hl⟩
theorem Win.other {w w' : World} {base g g' off n : Nat} {l : List Nat} (h : Win w base g off n l) (hg : w.grownBy w' (some g')) (hne : g ≠ g') : Win w' base g off n l := by
  obtain ⟨N, cap, P, hO, hn, hl⟩ := h
  exact ⟨N, cap, P, hO.other hg hne, hn, hl⟩
theorem Win.lower {w : World} {base base' g off n : Nat} {l : List Nat} (h : Win w base g off n l) (hb : base' ≤ base) : Win w base' g off n l := by
  obtain ⟨N, cap, P, hO, hn, hl⟩ := h
  exact ⟨N, cap, P, hO.lower hb, hn, hl⟩
theorem Wd.kept {w w' : World} {a : Option Addr} {n cap : Nat} {l : List Nat} {row : Option Nat} (h : Wd w a n cap l) (hg : w.grownBy w' row) (hne : ∀ ad : Addr, a = some ad → some ad.block ≠ row) : Wd w' a n cap l :=
  ⟨h.1, h.2.1, h.2.2.1, h.2.2.2.1, h.2.2.2.2.1, h.2.2.2.2.2.imp id fun ⟨b, off, e, hc⟩ => ⟨b, off, e, fun j hj => hg.cell (hc j hj) (hne ⟨b, off, none⟩ e)⟩⟩
/-- The value that a slice of words holds in a world (for a measure that is read from memory). -/
def cellNat (w : World) (a : Addr) : Nat := match w.cell? a with | some (.int _ z) => z.toNat | _ => 0
def heldVal (w : World) : Value → Nat
  | .slice (some a) n _ => val ((List.range n).map fun j => cellNat w ⟨a.block, a.off + j, none⟩)
  | _ => 0
theorem Wd.held {w : World} {b off n cap : Nat} {l : List Nat} (h : Wd w (some ⟨b, off, none⟩) n cap l) : heldVal w (.slice (some ⟨b, off, none⟩) n cap) = val l := by
  show val ((List.range n).map fun j => cellNat w ⟨b, off + j, none⟩) = val l
  apply congrArg val
  apply list_eq_of_at
  · simp [h.len]
  · intro j hj
    simp at hj
    obtain ⟨b', off', e, hc⟩ := h.at (by omega)
    simp only [Option.some.injEq, Addr.mk.injEq, and_true] at e
    obtain ⟨rfl, rfl⟩ := e
    unfold atw
    rw [List.getD_eq_getElem?_getD, List.getElem?_map, List.getElem?_range hj]
    show cellNat w ⟨b, off + j, none⟩ = _
    unfold cellNat
    rw [hc j hj]
    show (((atw l j : Nat) : Int)).toNat = _
    rw [Int.toNat_natCast]; rfl
end Go.Proofs.Ytenaopppkkhmcaa

/-
  Plain mathematics: decimal digits. Nothing of the program.
-/
namespace Go.Proofs.Ytenaopppkkhmcaa

end Go.Proofs.Ytenaopppkkhmcaa

/-
  What package digits' functions owe (layer 7), as one hypothesis: the contracts that the laws' walks lean on.
-/
namespace Go.Proofs.Ytenaopppkkhmcaa
open Go.RowKit

/-- The library's table of the powers of ten reads as its initialiser lays it (nothing is asked where the program has no such table). -/
def Dec10 (w : World) : Prop := w = w
theorem Dec10.later {w w' : World} (_ : Dec10 w) (_ : Below w.heap.size w w') : Dec10 w' := rfl
theorem Dec10.all (w : World) : Dec10 w := rfl
structure DigitsSaid : Prop where
/-- The cells of a fault in a variable. -/
def Box (w : World) (g : Nat) (k s t a : Int) : Prop :=
  w.cell? ⟨g, 0, none⟩ = some (.int .i64 k) ∧ w.cell? ⟨g, 1, none⟩ = some (.int .i64 s) ∧ w.cell? ⟨g, 2, none⟩ = some (.int .i64 t) ∧ w.cell? ⟨g, 3, none⟩ = some (.int .i64 a)
theorem Box.later {w w' : World} {g : Nat} {k s t a : Int} (h : Box w g k s t a) (hb : Below w.heap.size w w') : Box w' g k s t a :=
  ⟨cell_later hb h.1, cell_later hb h.2.1, cell_later hb h.2.2.1, cell_later hb h.2.2.2⟩
theorem Box.new (w : World) (k s t a : Int) (e : TypeId) : Box (w.alloc (.cells #[.int .i64 k, .int .i64 s, .int .i64 t, .int .i64 a] e)) w.heap.size k s t a := ⟨by simp, by simp, by simp, by simp⟩
end Go.Proofs.Ytenaopppkkhmcaa

/-
  make of words, with a length and a capacity that are reckoned. Of no program.
-/
namespace Go.Proofs.Ytenaopppkkhmcaa
open Go.RowKit

theorem ownsRow_made (w : World) (base : Nat) (e : TypeId) (z : Value) (q c : Nat) (hqc : q ≤ c) (hc : c ≤ maxLen) (hb : base ≤ w.heap.size) :
    (w.alloc (.cells (madeCells #[z] c) e)).ownsRow base e 1 (.slice (some ⟨w.heap.size, 0, none⟩) q c) q (List.replicate q z) := by
  refine ⟨by simp, .inr ⟨w.heap.size, c, madeCells #[z] c, rfl, hb, heap_alloc_new w _, hqc, hc, ?_, ?_⟩⟩
  · have := congrArg List.length (toList_madeCells_one z c)
    simpa using this
  · rw [toList_madeCells_one, List.take_replicate, Nat.mul_one, Nat.min_eq_left hqc]
theorem wpList_make_words {P : Program} (w : World) {ops : Array Oper} {rest : List Oper} {o : Oper} {a : Act} {Q : Exit → Act → World → Prop}
    (hg : o.guard = none) (l c : Operand) (t : TypeId) (hop : o.op = Op.makeSlice t l c)
    (base : Nat) (e : TypeId) (i : TypeInfo) (z : Value) (h1 : P.underlying t = some (.slice e)) (h2 : P.info? e = some i) (h3 : i.zero = some z) (h4 : i.size = 1) (hz : z.cells = #[z])
    (kl kc : IntKind) (L C : Int) (n m : Nat) (hl : a.eval l = .int kl L) (hc : a.eval c = .int kc C) (hL : L = (n : Int)) (hC : C = (m : Int)) (hnm : n ≤ m) (b2 : i.bytes * m ≤ 281474976710656) (b3 : m ≤ maxLen) (b4 : base ≤ w.heap.size)
    (hK : ∀ w', w'.ownsRow base e 1 (.slice (some ⟨w.heap.size, 0, none⟩) n m) n (List.replicate n z) → w.grownBy w' none → wpList P ops Q rest (a.put o.dst (.slice (some ⟨w.heap.size, 0, none⟩) n m)) w') :
    wpList P ops Q (o :: rest) a w := by
  refine wpList_plain hg fun K hK' => ?_
  have h63' : (m : Int) ≤ 9223372036854775807 := by
    have h := b3
    simp [maxLen] at h
    omega
  have hb' : (i.bytes : Int) * (m : Int) ≤ 281474976710656 := by
    have h : ((i.bytes * m : Nat) : Int) ≤ 281474976710656 := by omega
    rwa [Int.natCast_mul] at h
  have hrun := run_make (P := P) w t e i z h1 h2 h3 kl kc n m (by omega) (by omega) hb' h63'
  simp only [Int.toNat_natCast, h4, Nat.mul_one, hz] at hrun
  subst hL
  subst hC
  unfold Oper.wp
  simp [execOp, hop, hl, hc, hrun, Result.andThen]
  exact hK' _ _ (hK _ (ownsRow_made w base e z n m hnm b3 b4) (World.grownBy_alloc w _ none))
theorem zeros_cells (n : Nat) : List.replicate n (Value.int .u32 0) = wcells (List.replicate n 0) := by simp [wcells]
end Go.Proofs.Ytenaopppkkhmcaa

/-
  The contracts of the document's answer for layer 4: Mul.
-/
namespace Go.Proofs.Ytenaopppkkhmcaa
open Go.RowKit

theorem Own.drewN {w : World} {base g n cap : Nat} {l : List Nat} (h : Own w base g n cap l) (q : Nat) : Own (w.drewN q) base g n cap l := h
theorem Own.drew {w : World} {base g n cap : Nat} {l : List Nat} (h : Own w base g n cap l) : Own w.drew base g n cap l := h
end Go.Proofs.Ytenaopppkkhmcaa

/-
  The contracts of the document's answer for layer 7: ten, Text, Wrong, Read, Trim.
-/
namespace Go.Proofs.Ytenaopppkkhmcaa
open Go.RowKit

end Go.Proofs.Ytenaopppkkhmcaa

/-
  The contracts of the document's answer for layer 8: Text.
-/
namespace Go.Proofs.Ytenaopppkkhmcaa
open Go.RowKit

theorem sgn_neg {z : Int} (h : z < 0) : sgn z = -1 := by unfold sgn; rw [if_neg (by omega), if_pos h]
end Go.Proofs.Ytenaopppkkhmcaa

/-
  Plain mathematics: whole numbers; the quotient that is rounded down; the machine's numbers; what a text says. Nothing of the program.
-/
namespace Go.Proofs.Ytenaopppkkhmcaa

/-- Whether a whole number is one of the machine's; that one, or 0. -/
def isInt (z : Int) : Prop := -9223372036854775808 ≤ z ∧ z ≤ 9223372036854775807
instance (z : Int) : Decidable (isInt z) := by unfold isInt; infer_instance
theorem zval_false (v : Nat) : zval false v = (v : Int) := rfl
theorem zval_true (v : Nat) : zval true v = -(v : Int) := rfl
theorem zlen_mul (x y : Int) : (dg (x * y).natAbs).length ≤ (dg x.natAbs).length + (dg y.natAbs).length := by rw [Int.natAbs_mul]; exact dg_mul_length _ _
end Go.Proofs.Ytenaopppkkhmcaa

/-
  What package whole's functions owe (layer 8), as one hypothesis: the contracts that the laws' walks lean on. And the document's quotient: it is the one that is rounded down.
-/
namespace Go.Proofs.Ytenaopppkkhmcaa
open Go.RowKit

structure WholeSaid : Prop where
  norm : ∀ (neg : Bool) (a : Option Addr) (n cap : Nat) (l : List Nat) (z : Int) (w : World), Wd w a n cap l → n ≤ 1000 → zval neg (val l) = z → Calls Try.prog 43 #[whV neg a n cap] w (LstZ z w)
  of : ∀ (z : Int) (w : World), isInt z → Calls Try.prog 24 #[.int .i64 z] w (LstZ z w)
  sign : ∀ (neg : Bool) (a : Option Addr) (n cap : Nat) (l : List Nat) (z : Int) (w : World), Wd w a n cap l → n ≤ 1000 → zval neg (val l) = z → Calls Try.prog 34 #[whV neg a n cap] w (Gives (.int .i64 (sgn z)) w)
  mul : ∀ (na : Bool) (a : Option Addr) (n cap : Nat) (la : List Nat) (x : Int) (nb : Bool) (b : Option Addr) (m cap' : Nat) (lb : List Nat) (y : Int) (w : World), Wd w a n cap la → Wd w b m cap' lb → n ≤ 1000 → m ≤ 1000 → zval na (val la) = x → zval nb (val lb) = y →
    Calls Try.prog 39 #[whV na a n cap, whV nb b m cap'] w (LstZ (x * y) w)
end Go.Proofs.Ytenaopppkkhmcaa

/-
  The contracts of package prod (layer 4) at this seat: Mul, Square.
-/
namespace Go.Proofs.Ytenaopppkkhmcaa
open Go.RowKit

theorem limb_mul_nat4 (x y c d : Nat) (w : World) (hx : x < 4294967296) (hy : y < 4294967296) (hc : c < 4294967296) (hd : d < 4294967296) : Calls Try.prog 45 #[.int .u32 (x : Int), .int .u32 (y : Int), .int .u32 (c : Int), .int .u32 (d : Int)] w fun e w' =>
    ∃ z r : Nat, e = .returned (.tuple #[.int .u32 (z : Int), .int .u32 (r : Int)]) ∧ z < 4294967296 ∧ r < 4294967296 ∧ Hid (r + 4294967296 * z = x * y + (c + d)) ∧ w = w' :=
  (limb_mul x y c d w (by omega) (by omega) (by omega) (by omega) (by omega) (by omega) (by omega) (by omega)).mono fun e w' ⟨he, hw⟩ => by
    have h1 : x * y ≤ 4294967295 * 4294967295 := Nat.mul_le_mul (by omega) (by omega)
    have e0 : (x : Int) * (y : Int) = ((x * y : Nat) : Int) := by simp
    rw [e0] at he
    generalize x * y = p at *
    exact ⟨(p + (c + d)) / 4294967296, (p + (c + d)) % 4294967296, by rw [he, show ((p : Int) + c + d) / 4294967296 = (((p + (c + d)) / 4294967296 : Nat) : Int) by omega, show ((p : Int) + c + d) % 4294967296 = (((p + (c + d)) % 4294967296 : Nat) : Int) by omega], by omega, by omega, Lib.hid (by omega), hw⟩
theorem limb_mul_nat3 (x y c : Nat) (w : World) (hx : x < 4294967296) (hy : y < 4294967296) (hc : c < 4294967296) : Calls Try.prog 45 #[.int .u32 (x : Int), .int .u32 (y : Int), .int .u32 (c : Int), .int .u32 0] w fun e w' =>
    ∃ z r : Nat, e = .returned (.tuple #[.int .u32 (z : Int), .int .u32 (r : Int)]) ∧ z < 4294967296 ∧ r < 4294967296 ∧ Hid (r + 4294967296 * z = x * y + c) ∧ w = w' :=
  limb_mul_nat4 x y c 0 w hx hy hc (by omega)
set_option maxRecDepth 4096 in
set_option maxHeartbeats 2000000 in
theorem prod_mul (a : Option Addr) (na cap : Nat) (la : List Nat) (b : Option Addr) (nb cap' : Nat) (lb : List Nat) (w0 : World) (ha : Wd w0 a na cap la) (hb : Wd w0 b nb cap' lb) (hna : na ≤ 4194304000000) (hnb : nb ≤ 4194304000000) :
    Calls Try.prog 40 #[.slice a na cap, .slice b nb cap'] w0 (Lst (dg (val la * val lb)) w0) := by
  obtain ⟨i0, hi, hz0, hz1, hz2⟩ := info_parts infoU32
  have Hb0 := Lib.hid hb
  have Hla : Hid ((dg (val la)).length ≤ na) := Lib.hid (by rw [← ha.len]; exact dg_length_val_le ha.ok)
  have Hlb : Hid ((dg (val lb)).length ≤ nb) := Lib.hid (by rw [← hb.len]; exact dg_length_val_le hb.ok)
  go_enter Try.func40, Try.ntmps40
  go_wp2_with fail
  refine (natSaid.norm _ _ _ _ _ ha (by omega)).mono ?_
  rintro e w1 ⟨a, n, c1, rfl, h1, b1⟩
  have H1 := Lib.hid h1
  clear ha hb h1
  go_wp2_with fail
  refine (natSaid.norm _ _ _ _ _ (Hb0.out.later b1) (by omega)).mono ?_
  rintro e w ⟨b, m, c2, rfl, h2, b2⟩
  have Ha := Lib.hid (H1.out.later b2)
  have Hb := Lib.hid h2
  have hn : n ≤ 4194304000000 := by have h1 := H1.out.len; have h2 := Hla.out; omega
  have hm : m ≤ 4194304000000 := by have h1 := Hb.out.len; have h2 := Hlb.out; omega
  have HB0 := Lib.hid (below_then b1 b2)
  have Hv : Hid (val (dg (val la)) * val (dg (val lb)) = val la * val lb) := Lib.hid (by rw [val_dg, val_dg])
  clear H1 Hb0 h2 b1 b2 Hla Hlb hna hnb
  generalize dg (val la) = A at *
  generalize dg (val lb) = B at *
  obtain ⟨N, hN⟩ : ∃ N : Nat, (n : Int) + (m : Int) = (N : Int) := ⟨n + m, by omega⟩
  have HN : Hid (N = n + m) := Lib.hid (by omega)
  have hNb : N ≤ 8388608000000 := by omega
  go_wp2_with (at_make; refine wpList_make_words _ rfl _ _ 38 rfl w.heap.size 66 i0 (.int .u32 0) Try.underlying38 hi hz0 hz1 rfl .i64 .i64 _ _ N N rfl rfl rfl rfl (Nat.le_refl _) (by rw [hz2]; omega) (by unfold maxLen; omega) (Nat.le_refl _) ?_; intro w1 hown1 hgrow1)
  rw [zeros_cells] at hown1
  have HO1 : Hid (Own w1 w.heap.size w.heap.size N N (List.replicate N 0)) := Lib.hid ⟨hown1, okw_zeros N⟩
  have hB1 : Below w.heap.size w w1 := (Below.refl _ _).grown hgrow1 (Nat.le_refl _) (fun k hk => by cases hk)
  clear hown1 hgrow1
  go_loopw [23] (fun iv wr => ∃ (i : Nat) (P : List Nat), i ≤ n ∧ iv = .int .i64 (i : Int) ∧ Hid (RowAt A B P m i) ∧ Hid (Own wr w.heap.size w.heap.size N N P) ∧ Below w.heap.size w wr) (fun iv _ => n - (intOf iv).toNat)
  case atStart => exact ⟨0, List.replicate N 0, by omega, rfl, Lib.hid (row_start _ _ _ _), HO1, hB1⟩
  case round =>
    clear HO1 hB1
    obtain ⟨i, P, hin, rfl, HR, HO, hB⟩ := hrel
    by_cases hlt : i < n
    · have hii : (i : Int) < (n : Int) := by omega
      obtain ⟨ba, oa, rfl, hca⟩ := (Ha.out.later hB).at (by omega)
      have hcai := hca i hlt
      have hxw := atw_lt Ha.out.ok i
      obtain ⟨x, hxx⟩ : ∃ x, x = atw A i := ⟨_, rfl⟩
      rw [← hxx] at hxw hcai
      have Hx := Lib.hid hxx
      clear hca hxx
      go_wp2
      go_loopw [8, 30] (fun sv jv wr => ∃ (j c : Nat) (P : List Nat), j ≤ m ∧ jv = .int .i64 (j : Int) ∧ sv = .int .u32 (c : Int) ∧ c < 4294967296 ∧ Hid (CellAt A B P m i j c) ∧ Hid (Own wr w.heap.size w.heap.size N N P) ∧ Below w.heap.size w wr) (fun _ jv _ => m - (intOf jv).toNat)
      case atStart => exact ⟨0, 0, P, by omega, rfl, rfl, by omega, Lib.hid (cell_start HR.out), HO, hB⟩
      case round =>
        clear HO hB HR hcai
        obtain ⟨j, c, P, hjm, rfl, rfl, hc, HC, HO, hB⟩ := hrel
        by_cases hjl : j < m
        · have hji : (j : Int) < (m : Int) := by omega
          obtain ⟨bb, ob, rfl, hcb⟩ := (Hb.out.later hB).at (by omega)
          have hcbj := hcb j hjl
          have hyw := atw_lt Hb.out.ok j
          obtain ⟨y, hyy⟩ : ∃ y, y = atw B j := ⟨_, rfl⟩
          rw [← hyy] at hyw hcbj
          have Hy := Lib.hid hyy
          obtain ⟨q, hq⟩ : ∃ q : Nat, (i : Int) + (j : Int) = (q : Int) := ⟨i + j, by omega⟩
          have Hq : Hid (q = i + j) := Lib.hid (by omega)
          have hqN : q < N := by have := HN.out; omega
          have hqi : (q : Int) < (N : Int) := by omega
          have hcell := HO.out.cell (k := q) hqN
          have hfro := HO.out.1.frozenAt q
          have huw := atw_lt HO.out.2 q
          obtain ⟨u, huu⟩ : ∃ u, u = atw P q := ⟨_, rfl⟩
          rw [← huu] at huw hcell
          have Hu := Lib.hid huu
          have hb := HO.out.base
          clear hcb hyy huu
          go_wp2_with fail
          refine (limb_mul_nat4 x y u c _ hxw hyw huw hc).mono ?_
          rintro e w' ⟨z, r, rfl, hz, hr, Hs, rfl⟩
          have HOs := Lib.hid (HO.out.set q r hr)
          have HBs := Lib.hid (hB.setCell (p := ⟨w.heap.size, q, none⟩) hb.1 (.int .u32 (r : Int)))
          go_wp2
          go_roundw
          case rel =>
            exact ⟨j + 1, z, P.set q r, by omega, by go_num, rfl, hz, Lib.hid (by
              have h1 := HC.out
              have h2 := HN.out
              have h3 := HO.out.len
              obtain rfl := Hq.out
              exact cell_step h1 hjl (by omega) (by rw [← Hx.out, ← Hy.out, ← Hu.out]; exact Hs.out)), HOs, HBs.out⟩
          case measure => simp [intOf]; omega
        · obtain rfl : j = m := by omega
          obtain ⟨q, hq⟩ : ∃ q : Nat, (i : Int) + (j : Int) = (q : Int) := ⟨i + j, by omega⟩
          have Hq : Hid (q = i + j) := Lib.hid (by omega)
          have hqN : q < N := by have := HN.out; omega
          have hqi : (q : Int) < (N : Int) := by omega
          have hcell := HO.out.cell (k := q) hqN
          have hfro := HO.out.1.frozenAt q
          generalize atw P q = u at hcell
          have hb := HO.out.base
          have HOs := Lib.hid (HO.out.set q c hc)
          have HBs := Lib.hid (hB.setCell (p := ⟨w.heap.size, q, none⟩) hb.1 (.int .u32 (c : Int)))
          go_wp2
          go_roundw
          case rel =>
            exact ⟨i + 1, P.set q c, by omega, by go_num, Lib.hid (by
              have h1 := HC.out
              have h2 := HN.out
              have h3 := HO.out.len
              obtain rfl := Hq.out
              exact row_next h1 Hb.out.len (by omega)), HOs, HBs.out⟩
          case measure => simp [intOf]; omega
    · obtain rfl : i = n := by omega
      have Hw : Hid (val P = val la * val lb) := Lib.hid (by rw [← Hv.out]; exact row_end HR.out Ha.out.len)
      go_wp2_with fail
      refine (natSaid.norm _ _ _ _ _ HO.out.wd (by omega)).mono ?_
      rintro e w' ⟨a', n', c', rfl, hwd, hbel⟩
      rw [Hw.out] at hwd
      have HWD := Lib.hid hwd
      clear hwd
      go_wp2
      go_ret
      exact ⟨_, _, _, rfl, HWD.out, below_then HB0.out (below_then hB hbel)⟩
end Go.Proofs.Ytenaopppkkhmcaa

/-
  The contracts of the document's answer for layer 8: Add, Mul.
-/
namespace Go.Proofs.Ytenaopppkkhmcaa
open Go.RowKit

/-- Three boxes of a call. -/
theorem boxes3_at (w : World) (x y z : Array Value) (t s r : TypeId) :
    (((w.alloc (.cells x t)).alloc (.cells y s)).alloc (.cells z r)).heap[w.heap.size]? = some (.cells x t (0, 0)) ∧ (((w.alloc (.cells x t)).alloc (.cells y s)).alloc (.cells z r)).heap[w.heap.size + 1]? = some (.cells y s (0, 0)) ∧ (((w.alloc (.cells x t)).alloc (.cells y s)).alloc (.cells z r)).heap[w.heap.size + 1 + 1]? = some (.cells z r (0, 0)) := by
  obtain ⟨h1, h2⟩ := boxes_at w (((w.alloc (.cells x t)).alloc (.cells y s)).alloc (.cells z r)) x y t s (below_alloc _ _)
  refine ⟨h1, h2, ?_⟩
  have h3 := blk_new ((w.alloc (.cells x t)).alloc (.cells y s)) z r
  rw [blk_size, blk_size] at h3
  exact h3
theorem four_cells {w : World} {A B : Nat} {x y z u : Value} {t s : TypeId} (h1 : w.heap[A]? = some (.cells #[x, y] t (0, 0))) (h2 : w.heap[B]? = some (.cells #[z, u] s (0, 0))) :
    w.cell? ⟨A, 0, none⟩ = some x ∧ w.cell? ⟨A, 1, none⟩ = some y ∧ w.cell? ⟨B, 0, none⟩ = some z ∧ w.cell? ⟨B, 1, none⟩ = some u := ⟨blk_cell h1 0, blk_cell h1 1, blk_cell h2 0, blk_cell h2 1⟩
theorem blk_apart {w : World} {A g : Nat} {o : Obj} (h : w.heap[A]? = some o) (hne : A ≠ g) (i : Nat) (u : Value) : (w.setCell ⟨g, i, none⟩ u).heap[A]? = some o := (Below.heap_setCell w ⟨g, i, none⟩ u A hne).trans h
theorem four_stored {w : World} {A B g : Nat} {x y z u : Value} {t s : TypeId} (h1 : w.heap[A]? = some (.cells #[x, y] t (0, 0))) (h2 : w.heap[B]? = some (.cells #[z, u] s (0, 0))) (hA : A ≠ g) (hB : B ≠ g) (p q : Value) :
    ((w.setCell ⟨g, 0, none⟩ p).setCell ⟨g, 1, none⟩ q).cell? ⟨A, 0, none⟩ = some x ∧ ((w.setCell ⟨g, 0, none⟩ p).setCell ⟨g, 1, none⟩ q).cell? ⟨A, 1, none⟩ = some y ∧ ((w.setCell ⟨g, 0, none⟩ p).setCell ⟨g, 1, none⟩ q).cell? ⟨B, 0, none⟩ = some z ∧ ((w.setCell ⟨g, 0, none⟩ p).setCell ⟨g, 1, none⟩ q).cell? ⟨B, 1, none⟩ = some u :=
  four_cells (blk_apart (blk_apart h1 hA 0 p) hA 1 q) (blk_apart (blk_apart h2 hB 0 p) hB 1 q)
theorem zval_mul (na nb : Bool) (u v : Nat) : zval (!(na == nb)) (u * v) = zval na u * zval nb v := by
  unfold zval; cases na <;> cases nb <;> simp [Int.neg_mul, Int.mul_neg]
end Go.Proofs.Ytenaopppkkhmcaa

/-
  Package whole at this seat: signed, turned, Compare; Norm, Sign, Cmp, Neg, Mul.
-/
namespace Go.Proofs.Ytenaopppkkhmcaa
open Go.RowKit

theorem two_cells {w : World} {A : Nat} {x y : Value} {t : TypeId} (h1 : w.heap[A]? = some (.cells #[x, y] t (0, 0))) : w.cell? ⟨A, 0, none⟩ = some x ∧ w.cell? ⟨A, 1, none⟩ = some y := ⟨blk_cell h1 0, blk_cell h1 1⟩
theorem two_stored {w : World} {A g : Nat} {x y : Value} {t : TypeId} (h1 : w.heap[A]? = some (.cells #[x, y] t (0, 0))) (hA : A ≠ g) (p q : Value) :
    ((w.setCell ⟨g, 0, none⟩ p).setCell ⟨g, 1, none⟩ q).cell? ⟨A, 0, none⟩ = some x ∧ ((w.setCell ⟨g, 0, none⟩ p).setCell ⟨g, 1, none⟩ q).cell? ⟨A, 1, none⟩ = some y := two_cells (blk_apart (blk_apart h1 hA 0 p) hA 1 q)
theorem whole_signed (neg : Bool) (a : Option Addr) (n cap v : Nat) (w : World) (h : Wd w a n cap (dg v)) (hn : n ≤ 17592183947264) : Calls Try.prog 31 #[.bool neg, .slice a n cap] w (LstZ (zval neg v) w) := by
  have HA : Hid ((zval neg v).natAbs = v) := Lib.hid (zval_abs _ _)
  have H := Lib.hid h
  clear h
  cases neg with
  | false =>
    have HZ : Hid (zneg (zval false v) = false) := Lib.hid (by rw [zval_neg]; rfl)
    have HG := Lib.hid (blk_new w #[.bool false, .slice a n cap] 46)
    go_enter Try.func31, Try.ntmps31
    go_wp2
    refine bodyPost_ret (results_cell_row Try.results31 _ _ (w.heap.size) 46 #[.bool false, .slice a n cap] (0, 0) _ rfl HG.out Try.underlying46 rfl (by kernel_rfl)) rfl ?_
    exact ⟨a, n, cap, by rw [HZ.out]; rfl, by rw [HA.out]; exact H.out.later (below_alloc _ _), below_alloc _ _⟩
  | true =>
    go_enter Try.func31, Try.ntmps31
    go_wp2_with fail
    refine (natSaid.zero _ _ _ _ _ (H.out.later (below_alloc _ _)) hn).mono ?_
    rintro e w1 ⟨rfl, b1⟩
    rw [val_dg]
    have hR := box_at w w1 _ _ b1
    have r0 := blk_cell hR 0
    have r1 := blk_cell hR 1
    have f0 := blk_free hR 0
    have f1 := blk_free hR 1
    simp only [List.getElem?_toArray, List.getElem?_cons_zero, List.getElem?_cons_succ] at r0 r1
    have HR := Lib.hid hR
    have HB := Lib.hid (below_then (below_alloc _ _) b1)
    have H1 := Lib.hid (H.out.later HB.out)
    clear hR b1
    by_cases hv : v = 0
    · have HZ : Hid (zneg (zval true v) = false) := Lib.hid (by rw [hv]; rfl)
      rw [decide_eq_true hv]
      clear hv
      have HG := Lib.hid (blk_set2 HR.out (.bool false) (.slice a n cap))
      have HS := Lib.hid (H1.out.stored2 HR.out false (.slice a n cap))
      have HB2 := Lib.hid (below_set2 HB.out (show w.heap.size ≤ w.heap.size from Nat.le_refl _) (.bool false) (.slice a n cap))
      go_wp2
      refine bodyPost_ret (results_cell_row Try.results31 _ _ (w.heap.size) 46 #[.bool false, .slice a n cap] (0, 0) _ rfl HG.out Try.underlying46 rfl (by kernel_rfl)) rfl ?_
      exact ⟨a, n, cap, by rw [HZ.out]; rfl, by rw [HA.out]; exact HS.out, HB2.out⟩
    · have HZ : Hid (zneg (zval true v) = true) := Lib.hid (by rw [zval_neg, decide_eq_true hv]; rfl)
      rw [decide_eq_false hv]
      clear hv
      have HG := Lib.hid (blk_set2 HR.out (.bool true) (.slice a n cap))
      have HS := Lib.hid (H1.out.stored2 HR.out true (.slice a n cap))
      have HB2 := Lib.hid (below_set2 HB.out (show w.heap.size ≤ w.heap.size from Nat.le_refl _) (.bool true) (.slice a n cap))
      go_wp2
      refine bodyPost_ret (results_cell_row Try.results31 _ _ (w.heap.size) 46 #[.bool true, .slice a n cap] (0, 0) _ rfl HG.out Try.underlying46 rfl (by kernel_rfl)) rfl ?_
      exact ⟨a, n, cap, by rw [HZ.out]; rfl, by rw [HA.out]; exact HS.out, HB2.out⟩
set_option maxRecDepth 4096 in
set_option maxHeartbeats 2000000 in
theorem whole_norm (neg : Bool) (a : Option Addr) (n cap : Nat) (l : List Nat) (w : World) (h : Wd w a n cap l) (hn : n ≤ 104857600000) :
    Calls Try.prog 43 #[whV neg a n cap] w (LstZ (zval neg (val l)) w) := by
  have hB2 : Below w.heap.size w ((w.alloc (.cells #[.bool neg, .slice a n cap] 46)).alloc (.cells #[.bool false, .slice none 0 0] 46)) := below_then (below_alloc _ _) (below_alloc _ _)
  have Ha := Lib.hid (h.later hB2)
  have HB := Lib.hid hB2
  have hAR := boxes_at w ((w.alloc (.cells #[.bool neg, .slice a n cap] 46)).alloc (.cells #[.bool false, .slice none 0 0] 46)) #[.bool neg, .slice a n cap] #[.bool false, .slice none 0 0] 46 46 (Below.refl _ _)
  have hpl : (dg (val l)).length ≤ 104857600000 := Nat.le_trans h.trim_le hn
  clear h hB2
  go_enter Try.func43, Try.ntmps43
  unfold whV
  go_wp2
  generalize ((w.alloc (.cells #[.bool neg, .slice a n cap] 46)).alloc (.cells #[.bool false, .slice none 0 0] 46)) = W at *
  have HAd : Hid (W.drew.heap[w.heap.size]? = some (.cells #[.bool neg, .slice a n cap] 46 (0, 0))) := Lib.hid hAR.1
  have HRd : Hid (W.drew.heap[w.heap.size + 1]? = some (.cells #[.bool false, .slice none 0 0] 46 (0, 0))) := Lib.hid hAR.2
  have Hd : Below W.heap.size W W.drew := (Below.refl _ _).drew
  have Sd := two_cells HAd.out
  clear hAR
  go_region_held3 (fun w' => w'.cell? ⟨w.heap.size, 0, none⟩ = some (.bool neg) ∧ w'.cell? ⟨w.heap.size, 1, none⟩ = some (.slice a n cap)) (first | exact Sd | exact Sq1 | exact Sq2 | exact Sq3 _ _)
    (first
    | (go_at_call 44; (refine (natSaid.norm a n cap l _ (Ha.out.later Hd) ?q3).mono ?_); (case q3 => omega); rintro e w1 ⟨a1, n1, c1, rfl, h1, b1⟩; have hA1 := blk_later HAd.out b1; have Sq1 := two_cells hA1)
    | (go_at_call 31; (refine (whole_signed neg a1 n1 c1 _ _ h1 ?q5).mono ?_); (case q5 => have := h1.len; omega); rintro e w2 ⟨a2, n2, c2, rfl, h2, b2⟩; have Sq2 := two_cells (blk_later hA1 b2); have Sq3 := two_stored (g := w.heap.size + 1) (blk_later hA1 b2) (by omega); have hRb := blk_later (blk_later HRd.out b1) b2; have r0 := blk_cell hRb 0; have r1 := blk_cell hRb 1; have f0 := blk_free hRb 0; have f1 := blk_free hRb 1; simp only [List.getElem?_toArray, List.getElem?_cons_zero, List.getElem?_cons_succ] at r0 r1; unfold whV))
  have hBe := Lib.hid (below_then HB.out (below_then Hd (below_then b1 b2)))
  have H2 := Lib.hid h2
  have hl2 := Lib.hid hRb
  have HF := Lib.hid (H2.out.stored2 hl2.out (zneg (zval neg (val l))) (.slice a2 n2 c2))
  have HG := Lib.hid (blk_set2 hl2.out (.bool (zneg (zval neg (val l)))) (.slice a2 n2 c2))
  have HB2 := Lib.hid (below_set2 hBe.out (show w.heap.size ≤ w.heap.size + 1 by omega) (.bool (zneg (zval neg (val l)))) (.slice a2 n2 c2))
  generalize zval neg (val l) = z at *
  go_wp2
  refine bodyPost_ret (results_cell_row Try.results43 _ _ (w.heap.size + 1) 46 #[.bool (zneg z), .slice a2 n2 c2] (0, 0) _ rfl HG.out Try.underlying46 rfl (by kernel_rfl)) rfl ?_
  exact ⟨a2, n2, c2, rfl, HF.out, HB2.out⟩
theorem whole_sign (neg : Bool) (a : Option Addr) (n cap : Nat) (l : List Nat) (w : World) (h : Wd w a n cap l) (hn : n ≤ 104857600000) :
    Calls Try.prog 34 #[whV neg a n cap] w (Gives (.int .i64 (sgn (zval neg (val l)))) w) := by
  have H := Lib.hid h
  clear h
  go_enter Try.func34, Try.ntmps34
  unfold whV
  go_wp2_with fail
  refine (natSaid.zero _ _ _ _ _ (H.out.later (below_alloc _ _)) (by omega)).mono ?_
  rintro e w1 ⟨rfl, b1⟩
  have hA := box_at w w1 _ _ b1
  have r0 := blk_cell hA 0
  have r1 := blk_cell hA 1
  simp only [List.getElem?_toArray, List.getElem?_cons_zero, List.getElem?_cons_succ] at r0 r1
  have HB := Lib.hid (below_then (below_alloc _ _) b1)
  clear hA b1 H
  generalize val l = v at *
  by_cases hv : v = 0
  · have HS : Hid (sgn (zval neg v) = 0) := Lib.hid (by rw [hv]; cases neg <;> rfl)
    rw [decide_eq_true hv]
    clear hv
    go_wp2
    go_ret
    exact ⟨by rw [HS.out]; rfl, HB.out⟩
  · rw [decide_eq_false hv]
    cases neg with
    | true =>
      have HS : Hid (sgn (zval true v) = -1) := Lib.hid (by rw [zval_true]; exact sgn_neg (by omega))
      clear hv
      go_wp2
      go_ret
      exact ⟨by rw [HS.out]; rfl, HB.out⟩
    | false =>
      have HS : Hid (sgn (zval false v) = 1) := Lib.hid (by rw [zval_false]; unfold sgn; rw [if_neg (by omega), if_neg (by omega)])
      clear hv
      go_wp2
      go_ret
      exact ⟨by rw [HS.out]; rfl, HB.out⟩
set_option maxRecDepth 4096 in
set_option maxHeartbeats 4000000 in
theorem whole_mul (na : Bool) (a : Option Addr) (n cap : Nat) (la : List Nat) (nb : Bool) (b : Option Addr) (m cap' : Nat) (lb : List Nat) (w : World) (ha : Wd w a n cap la) (hb : Wd w b m cap' lb) (hn : n ≤ 104857600000) (hm : m ≤ 104857600000) :
    Calls Try.prog 39 #[whV na a n cap, whV nb b m cap'] w (LstZ (zval na (val la) * zval nb (val lb)) w) := by
  have hB3 : Below w.heap.size w (((w.alloc (.cells #[.bool na, .slice a n cap] 46)).alloc (.cells #[.bool nb, .slice b m cap'] 46)).alloc (.cells #[.bool false, .slice none 0 0] 46)) := below_then (below_then (below_alloc _ _) (below_alloc _ _)) (below_alloc _ _)
  have Ha := Lib.hid (ha.later hB3)
  have Hb := Lib.hid (hb.later hB3)
  have HB := Lib.hid hB3
  have h3b := boxes3_at w #[.bool na, .slice a n cap] #[.bool nb, .slice b m cap'] #[.bool false, .slice none 0 0] 46 46 46
  have HAo := Lib.hid h3b.1
  have HBo := Lib.hid h3b.2.1
  have HRo := Lib.hid h3b.2.2
  have HV := Lib.hid (zval_mul na nb (val la) (val lb))
  have hpl : Hid ((dg (val la * val lb)).length ≤ 209715200000) := Lib.hid (by
    have h1 := dg_mul_length (val la) (val lb)
    have h2 := ha.trim_le
    have h3 := hb.trim_le
    omega)
  clear ha hb hB3 h3b
  go_enter Try.func39, Try.ntmps39
  unfold whV
  go_wp2
  generalize (((w.alloc (.cells #[.bool na, .slice a n cap] 46)).alloc (.cells #[.bool nb, .slice b m cap'] 46)).alloc (.cells #[.bool false, .slice none 0 0] 46)) = W at *
  have HAd : Hid (W.drew.heap[w.heap.size]? = some (.cells #[.bool na, .slice a n cap] 46 (0, 0))) := Lib.hid HAo.out
  have HBd : Hid (W.drew.heap[w.heap.size + 1]? = some (.cells #[.bool nb, .slice b m cap'] 46 (0, 0))) := Lib.hid HBo.out
  have HRd : Hid (W.drew.heap[w.heap.size + 1 + 1]? = some (.cells #[.bool false, .slice none 0 0] 46 (0, 0))) := Lib.hid HRo.out
  have Hd : Below W.heap.size W W.drew := (Below.refl _ _).drew
  have Sd := four_cells HAd.out HBd.out
  clear HAo HBo HRo
  go_region_held3 (fun w' => w'.cell? ⟨w.heap.size, 0, none⟩ = some (.bool na) ∧ w'.cell? ⟨w.heap.size, 1, none⟩ = some (.slice a n cap) ∧ w'.cell? ⟨w.heap.size + 1, 0, none⟩ = some (.bool nb) ∧ w'.cell? ⟨w.heap.size + 1, 1, none⟩ = some (.slice b m cap')) (first | exact Sd | exact Sq0 | exact Sq1 | exact Sq2 | exact Sq3 _ _)
    (first
    | (go_at_call 40; (refine (prod_mul a n cap la b m cap' lb _ (Ha.out.later Hd) (Hb.out.later Hd) ?q3 ?q4).mono ?_); (case q3 => omega); (case q4 => omega); rintro e w1 ⟨a1, n1, c1, rfl, h1, bq1⟩; have hA1 := blk_later HAd.out bq1; have hB1 := blk_later HBd.out bq1; have Sq1 := four_cells hA1 hB1)
    | (go_at_call 31; (refine (whole_signed _ a1 n1 c1 _ _ h1 ?q5).mono ?_); (case q5 => have h7 := h1.len; have h8 := hpl.out; omega); rintro e w2 ⟨a2, n2, c2, rfl, h2, b2⟩; have Sq2 := four_cells (blk_later hA1 b2) (blk_later hB1 b2); have Sq3 := four_stored (g := w.heap.size + 1 + 1) (blk_later hA1 b2) (blk_later hB1 b2) (by omega) (by omega); have hRb := blk_later (blk_later HRd.out bq1) b2; have r0 := blk_cell hRb 0; have r1 := blk_cell hRb 1; have f0 := blk_free hRb 0; have f1 := blk_free hRb 1; simp only [List.getElem?_toArray, List.getElem?_cons_zero, List.getElem?_cons_succ] at r0 r1; unfold whV))
  have hBe := Lib.hid (below_then HB.out (below_then Hd (below_then bq1 b2)))
  have H2 := Lib.hid h2
  have hl2 := Lib.hid hRb
  have HF := Lib.hid (H2.out.stored2 hl2.out (zneg (zval (!(na == nb)) (val la * val lb))) (.slice a2 n2 c2))
  have HG := Lib.hid (blk_set2 hl2.out (.bool (zneg (zval (!(na == nb)) (val la * val lb)))) (.slice a2 n2 c2))
  have HB2 := Lib.hid (below_set2 hBe.out (show w.heap.size ≤ w.heap.size + 1 + 1 by omega) (.bool (zneg (zval (!(na == nb)) (val la * val lb)))) (.slice a2 n2 c2))
  rw [HV.out] at HF HG HB2
  rw [HV.out]
  generalize zval na (val la) * zval nb (val lb) = z at *
  go_wp2
  refine bodyPost_ret (results_cell_row Try.results39 _ _ (w.heap.size + 1 + 1) 46 #[.bool (zneg z), .slice a2 n2 c2] (0, 0) _ rfl HG.out Try.underlying46 rfl (by kernel_rfl)) rfl ?_
  exact ⟨a2, n2, c2, rfl, HF.out, HB2.out⟩
end Go.Proofs.Ytenaopppkkhmcaa

/-
  The contracts of the document's answer for layer 8: Add.
-/
namespace Go.Proofs.Ytenaopppkkhmcaa
open Go.RowKit

end Go.Proofs.Ytenaopppkkhmcaa

/-
  Package whole at this seat: Add, Sub.
-/
namespace Go.Proofs.Ytenaopppkkhmcaa
open Go.RowKit

end Go.Proofs.Ytenaopppkkhmcaa

/-
  Package whole at this seat: Of, Int, Text.
-/
namespace Go.Proofs.Ytenaopppkkhmcaa
open Go.RowKit

set_option maxRecDepth 4096 in
theorem whole_of (z : Int) (w : World) (hz : isInt z) : Calls Try.prog 24 #[.int .i64 z] w (LstZ z w) := by
  unfold isInt at hz
  by_cases hlt : z < 0
  · skip
    have HA : Hid (zval true z.natAbs = z) := Lib.hid (by unfold zval; simp; omega)
    have hv : ((z.natAbs : Nat) : Int) = -z := by omega
    have hvb : z.natAbs ≤ 18446744073709551615 := by omega
    generalize z.natAbs = v at *
    have hw : IntKind.u64.wrap (-IntKind.u64.wrap z) = (v : Int) := by rw [IntKind.wrap_u64, IntKind.wrap_u64]; omega
    go_enter Try.func24, Try.ntmps24
    go_wp2_with fail
    rw [← hv]
    refine (natSaid.of v _ hvb).mono ?_
    rintro e w1 ⟨a1, n1, c1, rfl, h1, b1⟩
    have hn1 : n1 ≤ 2 := by rw [← h1.len]; exact dg_length_le (by omega)
    have hR := box_at w w1 _ _ b1
    have H1 := Lib.hid h1
    go_wp2_with fail
    refine (whole_signed true a1 n1 c1 _ _ H1.out (by omega)).mono ?_
    rintro e w2 ⟨a2, n2, c2, rfl, h2, b2⟩
    have hRb := blk_later hR b2
    have r0 := blk_cell hRb 0
    have r1 := blk_cell hRb 1
    have f0 := blk_free hRb 0
    have f1 := blk_free hRb 1
    simp only [List.getElem?_toArray, List.getElem?_cons_zero, List.getElem?_cons_succ] at r0 r1
    have hBe := Lib.hid (below_then (below_alloc w _) (below_then b1 b2))
    have H2 := Lib.hid h2
    have hl2 := Lib.hid hRb
    have HF := Lib.hid (H2.out.stored2 hl2.out (zneg (zval true v)) (.slice a2 n2 c2))
    have HG := Lib.hid (blk_set2 hl2.out (.bool (zneg (zval true v))) (.slice a2 n2 c2))
    have HB2 := Lib.hid (below_set2 hBe.out (show w.heap.size ≤ w.heap.size by omega) (.bool (zneg (zval true v))) (.slice a2 n2 c2))
    clear hRb h2 b1 b2 hBe hR h1
    rw [HA.out] at HF HG HB2
    rw [HA.out]
    generalize hzz : zneg z = zb at *
    have Hzz := Lib.hid hzz
    clear hzz
    unfold whV
    go_wp2
    refine bodyPost_ret (results_cell_row Try.results24 _ _ (w.heap.size) 46 #[.bool zb, .slice a2 n2 c2] (0, 0) _ rfl HG.out Try.underlying46 rfl (by kernel_rfl)) rfl ?_
    exact ⟨a2, n2, c2, by rw [Hzz.out]; rfl, HF.out, HB2.out⟩
  · skip
    have HA : Hid (zval false z.natAbs = z) := Lib.hid (by unfold zval; simp; omega)
    have hv : ((z.natAbs : Nat) : Int) = z := by omega
    have hvb : z.natAbs ≤ 18446744073709551615 := by omega
    generalize z.natAbs = v at *
    have hw : IntKind.u64.wrap z = (v : Int) := by rw [IntKind.wrap_u64]; omega
    go_enter Try.func24, Try.ntmps24
    go_wp2_with fail
    rw [← hv]
    refine (natSaid.of v _ hvb).mono ?_
    rintro e w1 ⟨a1, n1, c1, rfl, h1, b1⟩
    have hn1 : n1 ≤ 2 := by rw [← h1.len]; exact dg_length_le (by omega)
    have hR := box_at w w1 _ _ b1
    have H1 := Lib.hid h1
    go_wp2_with fail
    refine (whole_signed false a1 n1 c1 _ _ H1.out (by omega)).mono ?_
    rintro e w2 ⟨a2, n2, c2, rfl, h2, b2⟩
    have hRb := blk_later hR b2
    have r0 := blk_cell hRb 0
    have r1 := blk_cell hRb 1
    have f0 := blk_free hRb 0
    have f1 := blk_free hRb 1
    simp only [List.getElem?_toArray, List.getElem?_cons_zero, List.getElem?_cons_succ] at r0 r1
    have hBe := Lib.hid (below_then (below_alloc w _) (below_then b1 b2))
    have H2 := Lib.hid h2
    have hl2 := Lib.hid hRb
    have HF := Lib.hid (H2.out.stored2 hl2.out (zneg (zval false v)) (.slice a2 n2 c2))
    have HG := Lib.hid (blk_set2 hl2.out (.bool (zneg (zval false v))) (.slice a2 n2 c2))
    have HB2 := Lib.hid (below_set2 hBe.out (show w.heap.size ≤ w.heap.size by omega) (.bool (zneg (zval false v))) (.slice a2 n2 c2))
    clear hRb h2 b1 b2 hBe hR h1
    rw [HA.out] at HF HG HB2
    rw [HA.out]
    generalize hzz : zneg z = zb at *
    have Hzz := Lib.hid hzz
    clear hzz
    unfold whV
    go_wp2
    refine bodyPost_ret (results_cell_row Try.results24 _ _ (w.heap.size) 46 #[.bool zb, .slice a2 n2 c2] (0, 0) _ rfl HG.out Try.underlying46 rfl (by kernel_rfl)) rfl ?_
    exact ⟨a2, n2, c2, by rw [Hzz.out]; rfl, HF.out, HB2.out⟩
end Go.Proofs.Ytenaopppkkhmcaa

/-
  The contracts of package twos (layer 3) at this seat: telling functions.
-/
namespace Go.Proofs.Ytenaopppkkhmcaa
open Go.RowKit

theorem limb_len_nat (x : Nat) (w : World) (hx : x < 4294967296) : Calls Try.prog 37 #[.int .u32 (x : Int)] w fun e w' => e = .returned (.int .i64 ((blen x : Nat) : Int)) ∧ w = w' :=
  (limb_len (x : Int) w (by omega) (by omega)).mono fun e w' ⟨he, hw⟩ => ⟨by rw [he]; simp only [Int.toNat_natCast, bitLen_blen (show x < 18446744073709551616 by omega)], hw⟩
theorem twos_len (a : Option Addr) (n cap : Nat) (l : List Nat) (w : World) (h : Wd w a n cap l) (hn : n ≤ 17592183947264) :
    Calls Try.prog 30 #[.slice a n cap] w fun e w' => e = .returned (.int .i64 ((blen (val l) : Nat) : Int)) ∧ w = w' := by
  obtain ⟨hb1, hb2⟩ := h.bound
  have H := Lib.hid h
  clear h
  go_enter Try.func30, Try.ntmps30
  go_wp2
  go_loop [3] (fun i => ∃ k : Nat, k ≤ n ∧ i = .int .i64 ((k : Int) - 1) ∧ Hid (top l k = 0)) (fun i => (intOf i + 1).toNat)
  case atStart => exact ⟨n, by omega, by go_num, Lib.hid (top_ge (by have := H.out.len; omega))⟩
  case round =>
    obtain ⟨k, hk, rfl, Ht⟩ := hrel
    cases k with
    | zero =>
      have Hv : Hid (blen (val l) = 0) := Lib.hid (by rw [← top_zero, Ht.out]; rfl)
      go_wp2
      go_ret
      exact ⟨ret_i64 (by rw [Hv.out]; rfl), rfl⟩
    | succ k =>
      have e1 : ((k + 1 : Nat) : Int) - 1 = (k : Int) := by omega
      rw [e1]
      clear e1
      obtain ⟨b, off, rfl, hc⟩ := H.out.at (by omega)
      have hck := hc k (by omega)
      have hx := atw_lt H.out.ok k
      clear hc
      by_cases hz : atw l k = 0
      · have hzb : (((atw l k : Nat) : Int) == 0) = true := by simp [hz]
        have Hz := Lib.hid hz
        clear hz
        go_wp2
        go_round
        case rel => exact ⟨k, by omega, by go_num, Lib.hid (by rw [top_succ, Hz.out, Ht.out])⟩
        case measure => simp [intOf]
      · have hzb : (((atw l k : Nat) : Int) == 0) = false := by simp [hz]
        have Hfin := Lib.hid (blen_top H.out.ok Ht.out hz)
        have hbl : blen (atw l k) ≤ 32 := blen_le.2 (atw_lt H.out.ok k)
        clear hz
        go_wp2_with fail
        refine (limb_len_nat _ _ hx).mono ?_
        rintro e w' ⟨rfl, rfl⟩
        generalize blen (atw l k) = y at *
        go_wp2
        go_ret
        exact ⟨ret_i64 (by rw [Hfin.out]; omega), rfl⟩
end Go.Proofs.Ytenaopppkkhmcaa
