/-
  Several texts of this claim as one, group 4.
-/
import Derived.Test.YtpjkhbfglgmnmaaGreatDoorG3
import Derived.Test.YtpjkhbfglgmnmaaGreatDoorG2
import Derived.Test.YtpjkhbfglgmnmaaGreatDoorG1
import Derived.Lib.AppendIntMem
import Derived.Lib.LaidTab
import Derived.Lib.ItoaNum
import Derived.OwnWalk
import Derived.Laws.OwnMore
import Derived.Laws.MakeOwn
import Derived.BigRegion
import Derived.BigQuiet
import Derived.Deep.QuietTactic
import Derived.Deep.DeepMust
import Derived.Deep.RegionHeld3
/-
  The contracts of the document's answer for layer 8: Norm, Same, Sign, Neg.
-/
namespace Go.Proofs.YtpjkhbfglgmnmaaGreatDoor
open Go.RowKit

theorem ref08_norm (neg : Bool) (a : Option Addr) (n cap : Nat) (l : List Nat) (w : World) (h : Wd w a n cap l) (hn : n ≤ 16777214) :
    Calls Tryz.prog 100 #[whV neg a n cap] w (LstZ (zval neg (val l)) w) := by
  have H := Lib.hid h
  clear h
  unfold whV
  go_enter Tryz.func100, Tryz.ntmps100
  go_wp2_with fail
  refine (ref02_norm _ _ _ _ _ (H.out.later (below_then (below_alloc _ _) (below_alloc _ _))) (by omega)).mono ?_
  rintro e w1 ⟨a1, n1, c1, rfl, h1, b1⟩
  have hA : w1.heap[w.heap.size]? = some (.cells #[.bool neg, .slice a n cap] 103 (0, 0)) := blk_later (blk_later (blk_new w _ _) (below_alloc _ _)) b1
  have hR : w1.heap[w.heap.size + 1]? = some (.cells #[.bool false, .slice none 0 0] 103 (0, 0)) := by
    have h2 := blk_new (w.alloc (.cells #[.bool neg, .slice a n cap] 103)) #[.bool false, .slice none 0 0] 103
    rw [blk_size] at h2
    exact blk_later h2 b1
  have hA0 := blk_cell hA 0
  have hR0 := blk_cell hR 0
  have hR1 := blk_cell hR 1
  have hF0 := blk_free hR 0
  have hF1 := blk_free hR 1
  have HR := Lib.hid hR
  have H1 := Lib.hid h1
  have hB := Lib.hid (below_then (below_alloc _ _) (below_then (below_alloc _ _) b1))
  clear hA hR h1 b1
  simp only [List.getElem?_toArray, List.getElem?_cons_zero, List.getElem?_cons_succ] at hA0 hR0 hR1
  have HS2 : Hid (∀ b : Bool, Wd ((w1.setCell ⟨w.heap.size + 1, 0, none⟩ (.bool b)).setCell ⟨w.heap.size + 1, 1, none⟩ (.slice a1 n1 c1)) a1 n1 c1 (dg (val l))) := Lib.hid (fun b => H1.out.stored2 HR.out b _)
  have HG2 : Hid (∀ b : Bool, ((w1.setCell ⟨w.heap.size + 1, 0, none⟩ (.bool b)).setCell ⟨w.heap.size + 1, 1, none⟩ (.slice a1 n1 c1)).heap[w.heap.size + 1]? = some (.cells #[.bool b, .slice a1 n1 c1] 103 (0, 0))) := Lib.hid (fun b => blk_set2 HR.out _ _)
  have HB2 : Hid (∀ b : Bool, Below w.heap.size w ((w1.setCell ⟨w.heap.size + 1, 0, none⟩ (.bool b)).setCell ⟨w.heap.size + 1, 1, none⟩ (.slice a1 n1 c1))) := Lib.hid (fun b => below_set2 hB.out (by omega) _ _)
  have Hn1 : Hid ((dg (val l)).length = n1) := Lib.hid H1.out.len
  have HA : Hid ((zval neg (val l)).natAbs = val l) := Lib.hid (zval_abs _ _)
  cases neg with
  | false =>
    have HZ : Hid (zneg (zval false (val l)) = false) := Lib.hid (by rw [zval_neg]; rfl)
    go_wp2
    refine bodyPost_ret (results_cell_row Tryz.results100 _ _ (w.heap.size + 1) 103 #[.bool false, .slice a1 n1 c1] (0, 0) _ rfl (HG2.out false) Tryz.underlying103 rfl (by kernel_rfl)) rfl ?_
    exact ⟨a1, n1, c1, by rw [HZ.out]; rfl, by rw [HA.out]; exact HS2.out false, HB2.out false⟩
  | true =>
    by_cases hz : n1 = 0
    · have HZ : Hid (zneg (zval true (val l)) = false) := Lib.hid (by rw [zval_neg, dg_nil_iff.1 (Hn1.out.trans hz)]; rfl)
      subst hz
      go_wp2
      refine bodyPost_ret (results_cell_row Tryz.results100 _ _ (w.heap.size + 1) 103 #[.bool false, .slice a1 0 c1] (0, 0) _ rfl (HG2.out false) Tryz.underlying103 rfl (by kernel_rfl)) rfl ?_
      exact ⟨a1, 0, c1, by rw [HZ.out]; rfl, by rw [HA.out]; exact HS2.out false, HB2.out false⟩
    · have hv : val l ≠ 0 := fun h => hz (Hn1.out.symm.trans (dg_nil_iff.2 h))
      have HZ : Hid (zneg (zval true (val l)) = true) := Lib.hid (by rw [zval_neg, decide_eq_true hv]; rfl)
      have hni : (0 : Int) < (n1 : Int) := by omega
      have hnn : 0 < n1 := by omega
      clear hv hz
      go_wp2
      refine bodyPost_ret (results_cell_row Tryz.results100 _ _ (w.heap.size + 1) 103 #[.bool true, .slice a1 n1 c1] (0, 0) _ rfl (HG2.out true) Tryz.underlying103 rfl (by kernel_rfl)) rfl ?_
      exact ⟨a1, n1, c1, by rw [HZ.out]; rfl, by rw [HA.out]; exact HS2.out true, HB2.out true⟩
end Go.Proofs.YtpjkhbfglgmnmaaGreatDoor

/-
  Rows of words of the call's own, several side by side: what is written into one leaves the others. Of no program.
-/
namespace Go.Proofs.YtpjkhbfglgmnmaaGreatDoor
open Go.RowKit

theorem grown_refl (w : World) (row : Option Nat) : w.grownBy w row := ⟨rfl, rfl, rfl, Nat.le_refl _, fun _ _ _ => rfl⟩
theorem grown_then {a b c : World} {row : Option Nat} (h : a.grownBy b row) (k : b.grownBy c row) : a.grownBy c row :=
  ⟨k.os.trans h.os, k.tape.trans h.tape, k.output.trans h.output, Nat.le_trans h.size k.size, fun i hi hr => (k.block i (Nat.lt_of_lt_of_le hi h.size) hr).trans (h.block i hi hr)⟩
theorem grown_cell (w : World) (g k : Nat) (u : Value) : w.grownBy (w.setCell ⟨g, k, none⟩ u) (some g) :=
  ⟨rfl, rfl, rfl, by simp [World.setCell], fun i _ hr => Below.heap_setCell _ _ _ _ (fun e => hr (by rw [e]))⟩
theorem grown_drewN {a w : World} {row : Option Nat} (h : a.grownBy w row) (n : Nat) : a.grownBy (w.drewN n) row := grown_then h ⟨rfl, rfl, rfl, Nat.le_refl _, fun _ _ _ => rfl⟩
/-- What was there below a world is there below a later one: whatever holds of memory since a world w holds of what has grown besides one own row. -/
theorem grown_below {w0 w w' : World} {g : Nat} (hB : Below w0.heap.size w0 w) (hg : w.grownBy w' (some g)) (hb : w0.heap.size ≤ g) : Below w0.heap.size w0 w' :=
  hB.grown hg hB.size (fun k hk => by cases hk; exact hb)
theorem Own.later {w w' : World} {base g n cap : Nat} {l : List Nat} (h : Own w base g n cap l) (hb : Below w.heap.size w w') : Own w' base g n cap l := by
  refine ⟨⟨h.1.1, ?_⟩, h.2⟩
  rcases h.1.2 with h0 | ⟨g', cap', cur, h1, h2, h3, h4⟩
  · exact .inl h0
  · exact .inr ⟨g', cap', cur, h1, h2, (hb.block g' (Array.getElem?_eq_some_iff.1 h3).1).trans h3, h4⟩
theorem Own.other {w w' : World} {base g g' n cap : Nat} {l : List Nat} (h : Own w base g n cap l) (hg : w.grownBy w' (some g')) (hne : g ≠ g') : Own w' base g n cap l :=
  ⟨h.1.kept hg (.inr (by simp [Value.ownBlock]; exact hne)), h.2⟩
theorem Own.stay {w w' : World} {base g n cap : Nat} {l : List Nat} (h : Own w base g n cap l) (hg : w.grownBy w' none) : Own w' base g n cap l :=
  ⟨h.1.kept hg (.inr (by simp [Value.ownBlock])), h.2⟩
theorem Own.lower {w : World} {base base' g n cap : Nat} {l : List Nat} (h : Own w base g n cap l) (hb : base' ≤ base) : Own w base' g n cap l :=
  ⟨⟨h.1.1, h.1.2.imp id fun ⟨g, cap, cur, h1, h2, h3⟩ => ⟨g, cap, cur, h1, Nat.le_trans hb h2, h3⟩⟩, h.2⟩
theorem ownsRow_lower {w : World} {base base' : Nat} {e : TypeId} {size : Nat} {v : Value} {n : Nat} {xs : List Value} (h : w.ownsRow base e size v n xs) (hb : base' ≤ base) : w.ownsRow base' e size v n xs :=
  ⟨h.1, h.2.imp id fun ⟨g, cap, cur, h1, h2, h3⟩ => ⟨g, cap, cur, h1, Nat.le_trans hb h2, h3⟩⟩
theorem Own.bound {w : World} {base g n cap : Nat} {l : List Nat} (h : Own w base g n cap l) : n ≤ cap ∧ cap ≤ 9223372036854775807 := h.wd.bound
end Go.Proofs.YtpjkhbfglgmnmaaGreatDoor

/-
  A window of a row of the call's own: what stands in it may be written, the row stays the call's own. Of no program.
-/
namespace Go.Proofs.YtpjkhbfglgmnmaaGreatDoor
open Go.RowKit

/-- From place off of an own row on, n words: l. -/
def Win (w : World) (base g off n : Nat) (l : List Nat) : Prop := ∃ (N cap : Nat) (P : List Nat), Own w base g N cap P ∧ off + n ≤ N ∧ l = (P.drop off).take n
theorem Own.win {w : World} {base g n cap : Nat} {l : List Nat} (h : Own w base g n cap l) : Win w base g 0 n l :=
  ⟨n, cap, l, h, by omega, by rw [List.drop_zero, List.take_of_length_le (by rw [h.len]; exact Nat.le_refl _)]⟩
theorem Win.len {w : World} {base g off n : Nat} {l : List Nat} (h : Win w base g off n l) : l.length = n := by
  obtain ⟨N, cap, P, hO, hn, rfl⟩ := h
  have := hO.len
  rw [List.length_take, List.length_drop]
  omega
theorem Win.ok {w : World} {base g off n : Nat} {l : List Nat} (h : Win w base g off n l) : okw l := by
  obtain ⟨N, cap, P, hO, hn, rfl⟩ := h
  exact okw_take (okw_drop hO.2 off) n
theorem Win.base {w : World} {base g off n : Nat} {l : List Nat} (h : Win w base g off n l) : base ≤ g ∧ g < w.heap.size := by
  obtain ⟨N, cap, P, hO, _⟩ := h
  exact hO.base
theorem Win.cell {w : World} {base g off n : Nat} {l : List Nat} (h : Win w base g off n l) {k : Nat} (hk : k < n) : w.cell? ⟨g, off + k, none⟩ = some (.int .u32 ((atw l k : Nat) : Int)) := by
  obtain ⟨N, cap, P, hO, hn, rfl⟩ := h
  rw [hO.cell (by omega), atw_take hk, atw_drop]
theorem Win.frozen {w : World} {base g off n : Nat} {l : List Nat} (h : Win w base g off n l) (k : Nat) : w.frozen? ⟨g, off + k, none⟩ = false := by
  obtain ⟨N, cap, P, hO, _⟩ := h
  exact hO.1.frozenAt _
theorem Win.wd {w : World} {base g off n : Nat} {l : List Nat} (h : Win w base g off n l) {c : Nat} (hc : n ≤ c) (hc2 : c ≤ 9223372036854775807) : Wd w (some ⟨g, off, none⟩) n c l :=
  ⟨h.len, hc, hc2, h.ok, fun e => (by cases e), .inr ⟨g, off, rfl, fun _ hj => h.cell hj⟩⟩
theorem Win.set {w : World} {base g off n : Nat} {l : List Nat} (h : Win w base g off n l) {k r : Nat} (hr : r < 4294967296) : Win (w.setCell ⟨g, off + k, none⟩ (.int .u32 ((r : Nat) : Int))) base g off n (l.set k r) := by
  obtain ⟨N, cap, P, hO, hn, rfl⟩ := h
  refine ⟨N, cap, P.set (off + k) r, hO.set _ _ hr, hn, ?_⟩
  rw [List.drop_set, if_neg (by omega), List.take_set, Nat.add_sub_cancel_left]
theorem Win.take {w : World} {base g off n : Nat} {l : List Nat} (h : Win w base g off n l) {m : Nat} (hm : m ≤ n) : Win w base g off m (l.take m) := by
  obtain ⟨N, cap, P, hO, hn, rfl⟩ := h
  exact ⟨N, cap, P, hO, by omega, by rw [List.take_take, Nat.min_eq_left hm]⟩
theorem Win.drop {w : World} {base g off q m : Nat} {l : List Nat} (h : Win w base g off (q + m) l) : Win w base g (off + q) m (l.drop q) := by
  obtain ⟨N, cap, P, hO, hn, rfl⟩ := h
  exact ⟨N, cap, P, hO, by omega, by rw [List.drop_take, List.drop_drop, Nat.add_sub_cancel_left]⟩
theorem Win.later {w w' : World} {base g off n : Nat} {l : List Nat} (h : Win w base g off n l) (hb : Below w.heap.size w w') : Win w' base g off n l := by
  obtain ⟨N, cap, P, hO, hn, hl⟩ := h
  exact ⟨N, cap, P, hO.later hb, hn, hl⟩
theorem Win.other {w w' : World} {base g g' off n : Nat} {l : List Nat} (h : Win w base g off n l) (hg : w.grownBy w' (some g')) (hne : g ≠ g') : Win w' base g off n l := by
  obtain ⟨N, cap, P, hO, hn, hl⟩ := h
  exact ⟨N, cap, P, hO.other hg hne, hn, hl⟩
theorem Win.lower {w : World} {base base' g off n : Nat} {l : List Nat} (h : Win w base g off n l) (hb : base' ≤ base) : Win w base' g off n l := by
  obtain ⟨N, cap, P, hO, hn, hl⟩ := h
  exact ⟨N, cap, P, hO.lower hb, hn, hl⟩
theorem Wd.kept {w w' : World} {a : Option Addr} {n cap : Nat} {l : List Nat} {row : Option Nat} (h : Wd w a n cap l) (hg : w.grownBy w' row) (hne : ∀ ad : Addr, a = some ad → some ad.block ≠ row) : Wd w' a n cap l :=
  ⟨h.1, h.2.1, h.2.2.1, h.2.2.2.1, h.2.2.2.2.1, h.2.2.2.2.2.imp id fun ⟨b, off, e, hc⟩ => ⟨b, off, e, fun j hj => hg.cell (hc j hj) (hne ⟨b, off, none⟩ e)⟩⟩
/-- A row of the call's own that isn't empty has a block. -/
theorem own_block {w : World} {base : Nat} {a : Option Addr} {n cap : Nat} {l : List Nat} (h : w.ownsRow base 98 1 (.slice a n cap) n (wcells l)) (ho : okw l) (hn : 0 < n) : ∃ g, a = some ⟨g, 0, none⟩ ∧ Own w base g n cap l := by
  rcases h.2 with ⟨_, h0⟩ | ⟨g, cap', cur, e, _⟩
  · omega
  · simp only [Value.slice.injEq] at e
    obtain ⟨rfl, _, rfl⟩ := e
    exact ⟨g, rfl, h, ho⟩
theorem ownsRow_later {w w' : World} {base : Nat} {e : TypeId} {size : Nat} {v : Value} {n : Nat} {xs : List Value} (h : w.ownsRow base e size v n xs) (hb : Below w.heap.size w w') : w'.ownsRow base e size v n xs := by
  refine ⟨h.1, ?_⟩
  rcases h.2 with h0 | ⟨g', cap', cur, h1, h2, h3, h4⟩
  · exact .inl h0
  · exact .inr ⟨g', cap', cur, h1, h2, (hb.block g' (Array.getElem?_eq_some_iff.1 h3).1).trans h3, h4⟩
/-- The value that a slice of words holds in a world (for a measure that is read from memory). -/
def cellNat (w : World) (a : Addr) : Nat := match w.cell? a with | some (.int _ z) => z.toNat | _ => 0
def heldVal (w : World) : Value → Nat
  | .slice (some a) n _ => val ((List.range n).map fun j => cellNat w ⟨a.block, a.off + j, none⟩)
  | _ => 0
theorem Wd.held {w : World} {b off n cap : Nat} {l : List Nat} (h : Wd w (some ⟨b, off, none⟩) n cap l) : heldVal w (.slice (some ⟨b, off, none⟩) n cap) = val l := by
  show val ((List.range n).map fun j => cellNat w ⟨b, off + j, none⟩) = val l
  apply congrArg val
  apply list_eq_of_at
  · simp [h.len]
  · intro j hj
    simp at hj
    obtain ⟨b', off', e, hc⟩ := h.at (by omega)
    simp only [Option.some.injEq, Addr.mk.injEq, and_true] at e
    obtain ⟨rfl, rfl⟩ := e
    unfold atw
    rw [List.getD_eq_getElem?_getD, List.getElem?_map, List.getElem?_range hj]
    show cellNat w ⟨b, off + j, none⟩ = _
    unfold cellNat
    rw [hc j hj]
    show (((atw l j : Nat) : Int)).toNat = _
    rw [Int.toNat_natCast]; rfl
end Go.Proofs.YtpjkhbfglgmnmaaGreatDoor

/-
  Plain mathematics: decimal digits. Nothing of the program.
-/
namespace Go.Proofs.YtpjkhbfglgmnmaaGreatDoor

/-- The decimal digits of a number, the highest first; as bytes. -/
def decs (n : Nat) : List Nat := if n < 10 then [n] else decs (n / 10) ++ [n % 10]
termination_by n
decreasing_by omega
def dig (d : Nat) : UInt8 := UInt8.ofNat (48 + d)
def txt (n : Nat) : List UInt8 := (decs n).map dig
theorem decs_small {n : Nat} (h : n < 10) : decs n = [n] := by rw [decs]; simp [h]
theorem decs_big {n : Nat} (h : 10 ≤ n) : decs n = decs (n / 10) ++ [n % 10] := by rw [decs]; simp [show ¬ n < 10 by omega]
theorem txt_small {n : Nat} (h : n < 10) : txt n = [dig n] := by rw [txt, decs_small h]; rfl
theorem txt_big {n : Nat} (h : 10 ≤ n) : txt n = txt (n / 10) ++ [dig (n % 10)] := by rw [txt, decs_big h]; simp [txt]
theorem decs_length_le {n k : Nat} (h : n < 2 ^ k) : (decs n).length ≤ k + 1 := by
  induction k generalizing n with
  | zero => rw [decs_small (by simp at h; omega)]; simp
  | succ k ih =>
    by_cases h1 : n < 10
    · rw [decs_small h1]; simp
    · rw [decs_big (by omega), List.length_append]
      have := ih (n := n / 10) (by rw [Nat.pow_succ] at h; omega)
      simp only [List.length_cons, List.length_nil]
      omega
theorem decs_ne (n : Nat) : decs n ≠ [] := by
  by_cases h : n < 10
  · rw [decs_small h]; simp
  · rw [decs_big (by omega)]; simp
theorem txt_length (n : Nat) : (txt n).length = (decs n).length := by simp [txt]
theorem txt_length_le {n k : Nat} (h : n < 2 ^ k) : (txt n).length ≤ k + 1 := by rw [txt_length]; exact decs_length_le h
theorem txt_ne (n : Nat) : txt n ≠ [] := by unfold txt; simp [decs_ne]

/-- The first place at which bytes are no digits, or that is too far; below 0: there is none. -/
def wrongFrom : List UInt8 → Nat → Int
  | [], _ => -1
  | x :: r, i => if x.toNat < 48 ∨ 57 < x.toNat ∨ 60 ≤ i then (i : Int) else wrongFrom r (i + 1)
def wrongI (l : List UInt8) : Int := if l = [] then 0 else wrongFrom l 0
/-- The number that digits are. -/
def readV (l : List UInt8) : Nat := l.foldl (fun n x => n * 10 + (x.toNat - 48)) 0
end Go.Proofs.YtpjkhbfglgmnmaaGreatDoor

/-
  What package digits' functions owe (layer 7), as one hypothesis: the contracts that the laws' walks lean on.
-/
namespace Go.Proofs.YtpjkhbfglgmnmaaGreatDoor
open Go.RowKit

/-- A text, as a value. -/
def bs (l : List UInt8) : ByteArray := ⟨l.toArray⟩
theorem bs_size (l : List UInt8) : (bs l).size = l.length := by show l.toArray.size = _; simp
theorem bs_append (a b : List UInt8) : bs a ++ bs b = bs (a ++ b) := by unfold bs; rw [ByteArray.mk_append_mk]
theorem bs_list (l : List UInt8) : (bs l).toList = l := by rw [ByteArray.toList_eq]; rfl
theorem bs_rest (x : UInt8) (r : List UInt8) : (bs (x :: r)).extract 1 (r.length + 1) = bs r := by unfold bs; rw [ByteArray.extract_mk]; simp
/-- The library's table of the powers of ten reads as its initialiser lays it (nothing is asked where the program has no such table). -/
def Dec10 (w : World) : Prop := ∀ name, Tryz.prog.globalNamed name = some 1 → Lib.TabIs Tryz.prog w name .u64 Lib.pow10Tab
theorem Dec10.later {w w' : World} (h : Dec10 w) (hb : Below w.heap.size w w') : Dec10 w' := fun name hn => Lib.tabBelow_of_tabIs (h name hn) w' hb
structure DigitsSaid : Prop where
  text : ∀ (a : Option Addr) (n cap : Nat) (l : List Nat) (w : World), Wd w a n cap l → n ≤ 1000 → Hid (Dec10 w) → Calls Tryz.prog 85 #[.slice a n cap] w (Gives (.string (bs (txt (val l)))) w)
/-- The cells of a fault in a variable. -/
def Box (w : World) (g : Nat) (k s t a : Int) : Prop :=
  w.cell? ⟨g, 0, none⟩ = some (.int .i64 k) ∧ w.cell? ⟨g, 1, none⟩ = some (.int .i64 s) ∧ w.cell? ⟨g, 2, none⟩ = some (.int .i64 t) ∧ w.cell? ⟨g, 3, none⟩ = some (.int .i64 a)
theorem Box.later {w w' : World} {g : Nat} {k s t a : Int} (h : Box w g k s t a) (hb : Below w.heap.size w w') : Box w' g k s t a :=
  ⟨cell_later hb h.1, cell_later hb h.2.1, cell_later hb h.2.2.1, cell_later hb h.2.2.2⟩
theorem Box.new (w : World) (k s t a : Int) (e : TypeId) : Box (w.alloc (.cells #[.int .i64 k, .int .i64 s, .int .i64 t, .int .i64 a] e)) w.heap.size k s t a := ⟨by simp, by simp, by simp, by simp⟩
end Go.Proofs.YtpjkhbfglgmnmaaGreatDoor

/-
  make of words, with a length and a capacity that are reckoned. Of no program.
-/
namespace Go.Proofs.YtpjkhbfglgmnmaaGreatDoor
open Go.RowKit

theorem ownsRow_made (w : World) (base : Nat) (e : TypeId) (z : Value) (q c : Nat) (hqc : q ≤ c) (hc : c ≤ maxLen) (hb : base ≤ w.heap.size) :
    (w.alloc (.cells (madeCells #[z] c) e)).ownsRow base e 1 (.slice (some ⟨w.heap.size, 0, none⟩) q c) q (List.replicate q z) := by
  refine ⟨by simp, .inr ⟨w.heap.size, c, madeCells #[z] c, rfl, hb, heap_alloc_new w _, hqc, hc, ?_, ?_⟩⟩
  · have := congrArg List.length (toList_madeCells_one z c)
    simpa using this
  · rw [toList_madeCells_one, List.take_replicate, Nat.mul_one, Nat.min_eq_left hqc]
theorem wpList_make_words {P : Program} (w : World) {ops : Array Oper} {rest : List Oper} {o : Oper} {a : Act} {Q : Exit → Act → World → Prop}
    (hg : o.guard = none) (l c : Operand) (t : TypeId) (hop : o.op = Op.makeSlice t l c)
    (base : Nat) (e : TypeId) (i : TypeInfo) (z : Value) (h1 : P.underlying t = some (.slice e)) (h2 : P.info? e = some i) (h3 : i.zero = some z) (h4 : i.size = 1) (hz : z.cells = #[z])
    (kl kc : IntKind) (L C : Int) (n m : Nat) (hl : a.eval l = .int kl L) (hc : a.eval c = .int kc C) (hL : L = (n : Int)) (hC : C = (m : Int)) (hnm : n ≤ m) (b2 : i.bytes * m ≤ 281474976710656) (b3 : m ≤ maxLen) (b4 : base ≤ w.heap.size)
    (hK : ∀ w', w'.ownsRow base e 1 (.slice (some ⟨w.heap.size, 0, none⟩) n m) n (List.replicate n z) → w.grownBy w' none → wpList P ops Q rest (a.put o.dst (.slice (some ⟨w.heap.size, 0, none⟩) n m)) w') :
    wpList P ops Q (o :: rest) a w := by
  refine wpList_plain hg fun K hK' => ?_
  have h63' : (m : Int) ≤ 9223372036854775807 := by
    have h := b3
    simp [maxLen] at h
    omega
  have hb' : (i.bytes : Int) * (m : Int) ≤ 281474976710656 := by
    have h : ((i.bytes * m : Nat) : Int) ≤ 281474976710656 := by omega
    rwa [Int.natCast_mul] at h
  have hrun := run_make (P := P) w t e i z h1 h2 h3 kl kc n m (by omega) (by omega) hb' h63'
  simp only [Int.toNat_natCast, h4, Nat.mul_one, hz] at hrun
  subst hL
  subst hC
  unfold Oper.wp
  simp [execOp, hop, hl, hc, hrun, Result.andThen]
  exact hK' _ _ (hK _ (ownsRow_made w base e z n m hnm b3 b4) (World.grownBy_alloc w _ none))
theorem zeros_cells (n : Nat) : List.replicate n (Value.int .u32 0) = wcells (List.replicate n 0) := by simp [wcells]
end Go.Proofs.YtpjkhbfglgmnmaaGreatDoor

/-
  The contracts of the document's answer for layer 4: Mul.
-/
namespace Go.Proofs.YtpjkhbfglgmnmaaGreatDoor
open Go.RowKit

theorem Own.drewN {w : World} {base g n cap : Nat} {l : List Nat} (h : Own w base g n cap l) (q : Nat) : Own (w.drewN q) base g n cap l := h
theorem Own.drew {w : World} {base g n cap : Nat} {l : List Nat} (h : Own w base g n cap l) : Own w.drew base g n cap l := h
set_option maxRecDepth 4096 in
set_option maxHeartbeats 2000000 in
theorem ref04_mul (a : Option Addr) (n cap : Nat) (la : List Nat) (b : Option Addr) (m cap' : Nat) (lb : List Nat) (w : World) (ha : Wd w a n cap la) (hb : Wd w b m cap' lb) (hn : n ≤ 4000000) (hm : m ≤ 4000000) :
    Calls Tryz.prog 73 #[.slice a n cap, .slice b m cap'] w (Lst (dg (val la * val lb)) w) := by
  obtain ⟨i0, hi, hz0, hz1, hz2⟩ := info_parts infoU32
  have Ha := Lib.hid ha
  have Hb := Lib.hid hb
  clear ha hb
  obtain ⟨N, hN⟩ : ∃ N : Nat, (n : Int) + (m : Int) = (N : Int) := ⟨n + m, by omega⟩
  have HN : Hid (N = n + m) := Lib.hid (by omega)
  have hNb : N ≤ 8000000 := by omega
  go_enter Tryz.func73, Tryz.ntmps73
  go_wp2_with (at_make; refine wpList_make_words _ rfl _ _ 54 rfl w.heap.size 98 i0 (.int .u32 0) Tryz.underlying54 hi hz0 hz1 rfl .i64 .i64 _ _ N N rfl rfl rfl rfl (Nat.le_refl _) (by rw [hz2]; omega) (by unfold maxLen; omega) (Nat.le_refl _) ?_; intro w1 hown1 hgrow1)
  rw [zeros_cells] at hown1
  have HO1 : Hid (Own w1 w.heap.size w.heap.size N N (List.replicate N 0)) := Lib.hid ⟨hown1, okw_zeros N⟩
  have hB1 : Below w.heap.size w w1 := (Below.refl _ _).grown hgrow1 (Nat.le_refl _) (fun k hk => by cases hk)
  clear hown1 hgrow1
  go_loopw [6] (fun iv wr => ∃ (i : Nat) (P : List Nat), i ≤ n ∧ iv = .int .i64 (i : Int) ∧ Hid (RowAt la lb P m i) ∧ Hid (Own wr w.heap.size w.heap.size N N P) ∧ Below w.heap.size w wr) (fun iv _ => n - (intOf iv).toNat)
  case atStart => exact ⟨0, List.replicate N 0, by omega, rfl, Lib.hid (row_start _ _ _ _), HO1, hB1⟩
  case round =>
    clear HO1 hB1
    obtain ⟨i, P, hin, rfl, HR, HO, hB⟩ := hrel
    by_cases hlt : i < n
    · have hii : (i : Int) < (n : Int) := by omega
      obtain ⟨ba, oa, rfl, hca⟩ := (Ha.out.later hB).at (by omega)
      have Hblk : Hid (ba < w.heap.size ∧ ∀ wz, Below w.heap.size w wz → wz.cell? ⟨ba, oa + i, none⟩ = some (.int .u32 ((atw la i : Nat) : Int))) := by
        obtain ⟨ba2, oa2, e2, hca2⟩ := Ha.out.at (by omega)
        simp only [Option.some.injEq, Addr.mk.injEq, and_true] at e2
        obtain ⟨rfl, rfl⟩ := e2
        exact Lib.hid ⟨World.block_lt_of_cell? w _ (hca2 i hlt), fun wz hz => cell_later hz (hca2 i hlt)⟩
      have hxw := atw_lt Ha.out.ok i
      obtain ⟨x, hxx⟩ : ∃ x, x = atw la i := ⟨_, rfl⟩
      rw [← hxx] at hxw Hblk
      have Hx := Lib.hid hxx
      clear hca hxx
      go_wp2
      go_loopw [7, 8] (fun sv jv wr => ∃ (j c : Nat) (P : List Nat), j ≤ m ∧ jv = .int .i64 (j : Int) ∧ sv = .int .u64 (c : Int) ∧ c < 4294967296 ∧ Hid (CellAt la lb P m i j c) ∧ Hid (Own wr w.heap.size w.heap.size N N P) ∧ Below w.heap.size w wr) (fun _ jv _ => m - (intOf jv).toNat)
      case atStart => exact ⟨0, 0, P, by omega, rfl, rfl, by omega, Lib.hid (cell_start HR.out), HO, hB⟩
      case round =>
        clear HO hB HR
        obtain ⟨j, c, P, hjm, rfl, rfl, hc, HC, HO, hB⟩ := hrel
        by_cases hjl : j < m
        · have hji : (j : Int) < (m : Int) := by omega
          obtain ⟨bb, ob, rfl, hcb⟩ := (Hb.out.later hB).at (by omega)
          have hcbj := hcb j hjl
          have hcai := Hblk.out.2 wr hB
          have hyw := atw_lt Hb.out.ok j
          obtain ⟨y, hyy⟩ : ∃ y, y = atw lb j := ⟨_, rfl⟩
          rw [← hyy] at hyw hcbj
          have Hy := Lib.hid hyy
          obtain ⟨q, hq⟩ : ∃ q : Nat, (i : Int) + (j : Int) = (q : Int) := ⟨i + j, by omega⟩
          have Hq : Hid (q = i + j) := Lib.hid (by omega)
          have hqN : q < N := by have := HN.out; omega
          have hqi : (q : Int) < (N : Int) := by omega
          have hcell := HO.out.cell (k := q) hqN
          have hfro := HO.out.1.frozenAt q
          have huw := atw_lt HO.out.2 q
          obtain ⟨u, huu⟩ : ∃ u, u = atw P q := ⟨_, rfl⟩
          rw [← huu] at huw hcell
          have Hu := Lib.hid huu
          have hroom := mul_room hxw hyw huw hc
          obtain ⟨p, hp⟩ : ∃ p : Nat, (x : Int) * (y : Int) = (p : Int) := ⟨x * y, by simp⟩
          have Hp : Hid (p = x * y) := Lib.hid (by rw [← Int.natCast_mul] at hp; omega)
          rw [← Hp.out] at hroom
          obtain ⟨hroom1, hroom2⟩ := hroom
          have hb := HO.out.base
          clear hcb hyy huu
          go_wp2
          go_quiet (fail)
          go_wp2
          go_roundw
          case rel =>
            have HOs := (HO.out.drewN nq).set q ((c + (p + u)) % 4294967296) (Nat.mod_lt _ (by decide))
            have hBs := (below_drewN hB nq).setCell (p := ⟨w.heap.size, q, none⟩) hb.1 (.int .u32 (((c + (p + u)) % 4294967296 : Nat) : Int))
            have e1 : (((c + (p + u)) % 4294967296 : Nat) : Int) = ((c : Int) + ((p : Int) + (u : Int))) % 4294967296 := by omega
            rw [e1] at HOs hBs
            exact ⟨j + 1, (c + (p + u)) / 4294967296, P.set q ((c + (p + u)) % 4294967296), by omega, by go_num, by go_num, by omega, Lib.hid (by
              have h1 := HC.out
              have h2 := HN.out
              have h3 := HO.out.len
              obtain rfl := Hq.out
              exact cell_step h1 hjl (by omega) (by rw [← Hx.out, ← Hy.out, ← Hu.out, ← Hp.out]; omega)), Lib.hid HOs, hBs⟩
          case measure => simp [intOf]; omega
        · obtain rfl : j = m := by omega
          obtain ⟨q, hq⟩ : ∃ q : Nat, (i : Int) + (j : Int) = (q : Int) := ⟨i + j, by omega⟩
          have Hq : Hid (q = i + j) := Lib.hid (by omega)
          have hqN : q < N := by have := HN.out; omega
          have hqi : (q : Int) < (N : Int) := by omega
          have hcell := HO.out.cell (k := q) hqN
          have hfro := HO.out.1.frozenAt q
          generalize atw P q = u at hcell
          have hb := HO.out.base
          have HOs := HO.out.set q c hc
          have hBs := hB.setCell (p := ⟨w.heap.size, q, none⟩) hb.1 (.int .u32 (c : Int))
          have HOs' := Lib.hid HOs
          have hBs' := Lib.hid hBs
          clear HOs hBs
          go_wp2
          go_roundw
          case rel =>
            exact ⟨i + 1, P.set q c, by omega, by go_num, Lib.hid (by
              have h1 := HC.out
              have h2 := HN.out
              have h3 := HO.out.len
              obtain rfl := Hq.out
              exact row_next h1 Hb.out.len (by omega)), HOs', hBs'.out⟩
          case measure => simp [intOf]; omega
    · obtain rfl : i = n := by omega
      have Hv := Lib.hid (row_end HR.out Ha.out.len)
      go_wp2_with fail
      refine (ref02_norm _ _ _ _ _ HO.out.wd (by omega)).mono ?_
      rintro e w' ⟨a', n', c', rfl, hwd, hbel⟩
      rw [Hv.out] at hwd
      have HWD := Lib.hid hwd
      clear hwd
      go_wp2
      go_ret
      exact ⟨_, _, _, rfl, HWD.out, below_then hB hbel⟩
end Go.Proofs.YtpjkhbfglgmnmaaGreatDoor

/-
  The contracts of the document's answer for layer 7: ten, Text, Wrong, Read, Trim.
-/
namespace Go.Proofs.YtpjkhbfglgmnmaaGreatDoor
open Go.RowKit

end Go.Proofs.YtpjkhbfglgmnmaaGreatDoor

/-
  The contracts of the document's answer for layer 8: Text.
-/
namespace Go.Proofs.YtpjkhbfglgmnmaaGreatDoor
open Go.RowKit

/-- A whole number as a text. -/
def ztxt (z : Int) : List UInt8 := if z < 0 then 45 :: txt z.natAbs else txt z.natAbs
theorem sgn_neg {z : Int} (h : z < 0) : sgn z = -1 := by unfold sgn; rw [if_neg (by omega), if_pos h]
theorem sgn_not {z : Int} (h : ¬ z < 0) : ¬ sgn z < 0 := by unfold sgn; split <;> (try split) <;> omega
end Go.Proofs.YtpjkhbfglgmnmaaGreatDoor

/-
  Plain mathematics: whole numbers; the quotient that is rounded down; the machine's numbers; what a text says. Nothing of the program.
-/
namespace Go.Proofs.YtpjkhbfglgmnmaaGreatDoor

/-- Whether a whole number is one of the machine's; that one, or 0. -/
def isInt (z : Int) : Prop := -9223372036854775808 ≤ z ∧ z ≤ 9223372036854775807
instance (z : Int) : Decidable (isInt z) := by unfold isInt; infer_instance
/-- The place at which a text is no whole number (below 0: it is one), and the one that it is. -/
def zwrong : List UInt8 → Int
  | [] => 0
  | x :: r => if x.toNat = 45 then (if wrongI r < 0 then -1 else 1 + wrongI r) else wrongI (x :: r)
def zread : List UInt8 → Int
  | [] => 0
  | x :: r => if x.toNat = 45 then zval true (readV r) else zval false (readV (x :: r))
theorem zval_false (v : Nat) : zval false v = (v : Int) := rfl
theorem zval_true (v : Nat) : zval true v = -(v : Int) := rfl
theorem zlen_add (x y : Int) : (dg (x + y).natAbs).length ≤ (dg x.natAbs).length + (dg y.natAbs).length + 1 := Nat.le_trans (dg_length_mono (Int.natAbs_add_le x y)) (dg_add_length _ _)
theorem zlen_mul (x y : Int) : (dg (x * y).natAbs).length ≤ (dg x.natAbs).length + (dg y.natAbs).length := by rw [Int.natAbs_mul]; exact dg_mul_length _ _
end Go.Proofs.YtpjkhbfglgmnmaaGreatDoor

/-
  What package whole's functions owe (layer 8), as one hypothesis: the contracts that the laws' walks lean on. And the document's quotient: it is the one that is rounded down.
-/
namespace Go.Proofs.YtpjkhbfglgmnmaaGreatDoor
open Go.RowKit

theorem zval_dg (z : Int) : zval (zneg z) (val (dg z.natAbs)) = z := by rw [val_dg, zval_of]
structure WholeSaid : Prop where
  norm : ∀ (neg : Bool) (a : Option Addr) (n cap : Nat) (l : List Nat) (z : Int) (w : World), Wd w a n cap l → n ≤ 1000 → zval neg (val l) = z → Calls Tryz.prog 91 #[whV neg a n cap] w (LstZ z w)
  of : ∀ (z : Int) (w : World), isInt z → Calls Tryz.prog 56 #[.int .i64 z] w (LstZ z w)
  sign : ∀ (neg : Bool) (a : Option Addr) (n cap : Nat) (l : List Nat) (z : Int) (w : World), Wd w a n cap l → n ≤ 1000 → zval neg (val l) = z → Calls Tryz.prog 105 #[whV neg a n cap] w (Gives (.int .i64 (sgn z)) w)
  cmp : ∀ (na : Bool) (a : Option Addr) (n cap : Nat) (la : List Nat) (x : Int) (nb : Bool) (b : Option Addr) (m cap' : Nat) (lb : List Nat) (y : Int) (w : World), Wd w a n cap la → Wd w b m cap' lb → n ≤ 1000 → m ≤ 1000 → zval na (val la) = x → zval nb (val lb) = y →
    Calls Tryz.prog 79 #[whV na a n cap, whV nb b m cap'] w (Gives (.int .i64 (sgn (x - y))) w)
  add : ∀ (na : Bool) (a : Option Addr) (n cap : Nat) (la : List Nat) (x : Int) (nb : Bool) (b : Option Addr) (m cap' : Nat) (lb : List Nat) (y : Int) (w : World), Wd w a n cap la → Wd w b m cap' lb → n ≤ 1000 → m ≤ 1000 → zval na (val la) = x → zval nb (val lb) = y →
    Calls Tryz.prog 104 #[whV na a n cap, whV nb b m cap'] w (LstZ (x + y) w)
  mul : ∀ (na : Bool) (a : Option Addr) (n cap : Nat) (la : List Nat) (x : Int) (nb : Bool) (b : Option Addr) (m cap' : Nat) (lb : List Nat) (y : Int) (w : World), Wd w a n cap la → Wd w b m cap' lb → n ≤ 1000 → m ≤ 1000 → zval na (val la) = x → zval nb (val lb) = y →
    Calls Tryz.prog 102 #[whV na a n cap, whV nb b m cap'] w (LstZ (x * y) w)
  text : ∀ (neg : Bool) (a : Option Addr) (n cap : Nat) (l : List Nat) (z : Int) (w : World), Wd w a n cap l → n ≤ 1000 → zval neg (val l) = z → Hid (Dec10 w) → Calls Tryz.prog 83 #[whV neg a n cap] w (Gives (.string (bs (ztxt z))) w)
end Go.Proofs.YtpjkhbfglgmnmaaGreatDoor

/-
  The contracts of package prod (layer 4) at this seat: Mul, Square.
-/
namespace Go.Proofs.YtpjkhbfglgmnmaaGreatDoor
open Go.RowKit

theorem limb_mul_nat4 (x y c d : Nat) (w : World) (hx : x < 4294967296) (hy : y < 4294967296) (hc : c < 4294967296) (hd : d < 4294967296) : Calls Tryz.prog 121 #[.int .u32 (x : Int), .int .u32 (y : Int), .int .u32 (c : Int), .int .u32 (d : Int)] w fun e w' =>
    ∃ z r : Nat, e = .returned (.tuple #[.int .u32 (z : Int), .int .u32 (r : Int)]) ∧ z < 4294967296 ∧ r < 4294967296 ∧ Hid (r + 4294967296 * z = x * y + (c + d)) ∧ w = w' :=
  (limb_mul x y c d w (by omega) (by omega) (by omega) (by omega) (by omega) (by omega) (by omega) (by omega)).mono fun e w' ⟨he, hw⟩ => by
    have h1 : x * y ≤ 4294967295 * 4294967295 := Nat.mul_le_mul (by omega) (by omega)
    have e0 : (x : Int) * (y : Int) = ((x * y : Nat) : Int) := by simp
    rw [e0] at he
    generalize x * y = p at *
    exact ⟨(p + (c + d)) / 4294967296, (p + (c + d)) % 4294967296, by rw [he, show ((p : Int) + c + d) / 4294967296 = (((p + (c + d)) / 4294967296 : Nat) : Int) by omega, show ((p : Int) + c + d) % 4294967296 = (((p + (c + d)) % 4294967296 : Nat) : Int) by omega], by omega, by omega, Lib.hid (by omega), hw⟩
theorem limb_mul_nat3 (x y c : Nat) (w : World) (hx : x < 4294967296) (hy : y < 4294967296) (hc : c < 4294967296) : Calls Tryz.prog 121 #[.int .u32 (x : Int), .int .u32 (y : Int), .int .u32 (c : Int), .int .u32 0] w fun e w' =>
    ∃ z r : Nat, e = .returned (.tuple #[.int .u32 (z : Int), .int .u32 (r : Int)]) ∧ z < 4294967296 ∧ r < 4294967296 ∧ Hid (r + 4294967296 * z = x * y + c) ∧ w = w' :=
  limb_mul_nat4 x y c 0 w hx hy hc (by omega)
set_option maxRecDepth 4096 in
set_option maxHeartbeats 2000000 in
theorem prod_mul (a : Option Addr) (na cap : Nat) (la : List Nat) (b : Option Addr) (nb cap' : Nat) (lb : List Nat) (w0 : World) (ha : Wd w0 a na cap la) (hb : Wd w0 b nb cap' lb) (hna : na ≤ 4000000) (hnb : nb ≤ 4000000) :
    Calls Tryz.prog 103 #[.slice a na cap, .slice b nb cap'] w0 (Lst (dg (val la * val lb)) w0) := by
  obtain ⟨i0, hi, hz0, hz1, hz2⟩ := info_parts infoU32
  have Hb0 := Lib.hid hb
  have Hla : Hid ((dg (val la)).length ≤ na) := Lib.hid (by rw [← ha.len]; exact dg_length_val_le ha.ok)
  have Hlb : Hid ((dg (val lb)).length ≤ nb) := Lib.hid (by rw [← hb.len]; exact dg_length_val_le hb.ok)
  go_enter Tryz.func103, Tryz.ntmps103
  go_wp2_with fail
  refine (natSaid.norm _ _ _ _ _ ha (by omega)).mono ?_
  rintro e w1 ⟨a, n, c1, rfl, h1, b1⟩
  have H1 := Lib.hid h1
  clear ha hb h1
  go_wp2_with fail
  refine (natSaid.norm _ _ _ _ _ (Hb0.out.later b1) (by omega)).mono ?_
  rintro e w ⟨b, m, c2, rfl, h2, b2⟩
  have Ha := Lib.hid (H1.out.later b2)
  have Hb := Lib.hid h2
  have hn : n ≤ 4000000 := by have h1 := H1.out.len; have h2 := Hla.out; omega
  have hm : m ≤ 4000000 := by have h1 := Hb.out.len; have h2 := Hlb.out; omega
  have HB0 := Lib.hid (below_then b1 b2)
  have Hv : Hid (val (dg (val la)) * val (dg (val lb)) = val la * val lb) := Lib.hid (by rw [val_dg, val_dg])
  clear H1 Hb0 h2 b1 b2 Hla Hlb hna hnb
  generalize dg (val la) = A at *
  generalize dg (val lb) = B at *
  obtain ⟨N, hN⟩ : ∃ N : Nat, (n : Int) + (m : Int) = (N : Int) := ⟨n + m, by omega⟩
  have HN : Hid (N = n + m) := Lib.hid (by omega)
  have hNb : N ≤ 8000000 := by omega
  go_wp2_with (at_make; refine wpList_make_words _ rfl _ _ 54 rfl w.heap.size 98 i0 (.int .u32 0) Tryz.underlying54 hi hz0 hz1 rfl .i64 .i64 _ _ N N rfl rfl rfl rfl (Nat.le_refl _) (by rw [hz2]; omega) (by unfold maxLen; omega) (Nat.le_refl _) ?_; intro w1 hown1 hgrow1)
  rw [zeros_cells] at hown1
  have HO1 : Hid (Own w1 w.heap.size w.heap.size N N (List.replicate N 0)) := Lib.hid ⟨hown1, okw_zeros N⟩
  have hB1 : Below w.heap.size w w1 := (Below.refl _ _).grown hgrow1 (Nat.le_refl _) (fun k hk => by cases hk)
  clear hown1 hgrow1
  go_loopw [23] (fun iv wr => ∃ (i : Nat) (P : List Nat), i ≤ n ∧ iv = .int .i64 (i : Int) ∧ Hid (RowAt A B P m i) ∧ Hid (Own wr w.heap.size w.heap.size N N P) ∧ Below w.heap.size w wr) (fun iv _ => n - (intOf iv).toNat)
  case atStart => exact ⟨0, List.replicate N 0, by omega, rfl, Lib.hid (row_start _ _ _ _), HO1, hB1⟩
  case round =>
    clear HO1 hB1
    obtain ⟨i, P, hin, rfl, HR, HO, hB⟩ := hrel
    by_cases hlt : i < n
    · have hii : (i : Int) < (n : Int) := by omega
      obtain ⟨ba, oa, rfl, hca⟩ := (Ha.out.later hB).at (by omega)
      have hcai := hca i hlt
      have hxw := atw_lt Ha.out.ok i
      obtain ⟨x, hxx⟩ : ∃ x, x = atw A i := ⟨_, rfl⟩
      rw [← hxx] at hxw hcai
      have Hx := Lib.hid hxx
      clear hca hxx
      go_wp2
      go_loopw [8, 30] (fun sv jv wr => ∃ (j c : Nat) (P : List Nat), j ≤ m ∧ jv = .int .i64 (j : Int) ∧ sv = .int .u32 (c : Int) ∧ c < 4294967296 ∧ Hid (CellAt A B P m i j c) ∧ Hid (Own wr w.heap.size w.heap.size N N P) ∧ Below w.heap.size w wr) (fun _ jv _ => m - (intOf jv).toNat)
      case atStart => exact ⟨0, 0, P, by omega, rfl, rfl, by omega, Lib.hid (cell_start HR.out), HO, hB⟩
      case round =>
        clear HO hB HR hcai
        obtain ⟨j, c, P, hjm, rfl, rfl, hc, HC, HO, hB⟩ := hrel
        by_cases hjl : j < m
        · have hji : (j : Int) < (m : Int) := by omega
          obtain ⟨bb, ob, rfl, hcb⟩ := (Hb.out.later hB).at (by omega)
          have hcbj := hcb j hjl
          have hyw := atw_lt Hb.out.ok j
          obtain ⟨y, hyy⟩ : ∃ y, y = atw B j := ⟨_, rfl⟩
          rw [← hyy] at hyw hcbj
          have Hy := Lib.hid hyy
          obtain ⟨q, hq⟩ : ∃ q : Nat, (i : Int) + (j : Int) = (q : Int) := ⟨i + j, by omega⟩
          have Hq : Hid (q = i + j) := Lib.hid (by omega)
          have hqN : q < N := by have := HN.out; omega
          have hqi : (q : Int) < (N : Int) := by omega
          have hcell := HO.out.cell (k := q) hqN
          have hfro := HO.out.1.frozenAt q
          have huw := atw_lt HO.out.2 q
          obtain ⟨u, huu⟩ : ∃ u, u = atw P q := ⟨_, rfl⟩
          rw [← huu] at huw hcell
          have Hu := Lib.hid huu
          have hb := HO.out.base
          clear hcb hyy huu
          go_wp2_with fail
          refine (limb_mul_nat4 x y u c _ hxw hyw huw hc).mono ?_
          rintro e w' ⟨z, r, rfl, hz, hr, Hs, rfl⟩
          have HOs := Lib.hid (HO.out.set q r hr)
          have HBs := Lib.hid (hB.setCell (p := ⟨w.heap.size, q, none⟩) hb.1 (.int .u32 (r : Int)))
          go_wp2
          go_roundw
          case rel =>
            exact ⟨j + 1, z, P.set q r, by omega, by go_num, rfl, hz, Lib.hid (by
              have h1 := HC.out
              have h2 := HN.out
              have h3 := HO.out.len
              obtain rfl := Hq.out
              exact cell_step h1 hjl (by omega) (by rw [← Hx.out, ← Hy.out, ← Hu.out]; exact Hs.out)), HOs, HBs.out⟩
          case measure => simp [intOf]; omega
        · obtain rfl : j = m := by omega
          obtain ⟨q, hq⟩ : ∃ q : Nat, (i : Int) + (j : Int) = (q : Int) := ⟨i + j, by omega⟩
          have Hq : Hid (q = i + j) := Lib.hid (by omega)
          have hqN : q < N := by have := HN.out; omega
          have hqi : (q : Int) < (N : Int) := by omega
          have hcell := HO.out.cell (k := q) hqN
          have hfro := HO.out.1.frozenAt q
          generalize atw P q = u at hcell
          have hb := HO.out.base
          have HOs := Lib.hid (HO.out.set q c hc)
          have HBs := Lib.hid (hB.setCell (p := ⟨w.heap.size, q, none⟩) hb.1 (.int .u32 (c : Int)))
          go_wp2
          go_roundw
          case rel =>
            exact ⟨i + 1, P.set q c, by omega, by go_num, Lib.hid (by
              have h1 := HC.out
              have h2 := HN.out
              have h3 := HO.out.len
              obtain rfl := Hq.out
              exact row_next h1 Hb.out.len (by omega)), HOs, HBs.out⟩
          case measure => simp [intOf]; omega
    · obtain rfl : i = n := by omega
      have Hw : Hid (val P = val la * val lb) := Lib.hid (by rw [← Hv.out]; exact row_end HR.out Ha.out.len)
      go_wp2_with fail
      refine (natSaid.norm _ _ _ _ _ HO.out.wd (by omega)).mono ?_
      rintro e w' ⟨a', n', c', rfl, hwd, hbel⟩
      rw [Hw.out] at hwd
      have HWD := Lib.hid hwd
      clear hwd
      go_wp2
      go_ret
      exact ⟨_, _, _, rfl, HWD.out, below_then HB0.out (below_then hB hbel)⟩
end Go.Proofs.YtpjkhbfglgmnmaaGreatDoor

/-
  The contracts of the document's answer for layer 8: Add, Mul.
-/
namespace Go.Proofs.YtpjkhbfglgmnmaaGreatDoor
open Go.RowKit

/-- Three boxes of a call. -/
theorem boxes3_at (w : World) (x y z : Array Value) (t s r : TypeId) :
    (((w.alloc (.cells x t)).alloc (.cells y s)).alloc (.cells z r)).heap[w.heap.size]? = some (.cells x t (0, 0)) ∧ (((w.alloc (.cells x t)).alloc (.cells y s)).alloc (.cells z r)).heap[w.heap.size + 1]? = some (.cells y s (0, 0)) ∧ (((w.alloc (.cells x t)).alloc (.cells y s)).alloc (.cells z r)).heap[w.heap.size + 1 + 1]? = some (.cells z r (0, 0)) := by
  obtain ⟨h1, h2⟩ := boxes_at w (((w.alloc (.cells x t)).alloc (.cells y s)).alloc (.cells z r)) x y t s (below_alloc _ _)
  refine ⟨h1, h2, ?_⟩
  have h3 := blk_new ((w.alloc (.cells x t)).alloc (.cells y s)) z r
  rw [blk_size, blk_size] at h3
  exact h3
theorem four_cells {w : World} {A B : Nat} {x y z u : Value} {t s : TypeId} (h1 : w.heap[A]? = some (.cells #[x, y] t (0, 0))) (h2 : w.heap[B]? = some (.cells #[z, u] s (0, 0))) :
    w.cell? ⟨A, 0, none⟩ = some x ∧ w.cell? ⟨A, 1, none⟩ = some y ∧ w.cell? ⟨B, 0, none⟩ = some z ∧ w.cell? ⟨B, 1, none⟩ = some u := ⟨blk_cell h1 0, blk_cell h1 1, blk_cell h2 0, blk_cell h2 1⟩
theorem blk_apart {w : World} {A g : Nat} {o : Obj} (h : w.heap[A]? = some o) (hne : A ≠ g) (i : Nat) (u : Value) : (w.setCell ⟨g, i, none⟩ u).heap[A]? = some o := (Below.heap_setCell w ⟨g, i, none⟩ u A hne).trans h
theorem four_stored {w : World} {A B g : Nat} {x y z u : Value} {t s : TypeId} (h1 : w.heap[A]? = some (.cells #[x, y] t (0, 0))) (h2 : w.heap[B]? = some (.cells #[z, u] s (0, 0))) (hA : A ≠ g) (hB : B ≠ g) (p q : Value) :
    ((w.setCell ⟨g, 0, none⟩ p).setCell ⟨g, 1, none⟩ q).cell? ⟨A, 0, none⟩ = some x ∧ ((w.setCell ⟨g, 0, none⟩ p).setCell ⟨g, 1, none⟩ q).cell? ⟨A, 1, none⟩ = some y ∧ ((w.setCell ⟨g, 0, none⟩ p).setCell ⟨g, 1, none⟩ q).cell? ⟨B, 0, none⟩ = some z ∧ ((w.setCell ⟨g, 0, none⟩ p).setCell ⟨g, 1, none⟩ q).cell? ⟨B, 1, none⟩ = some u :=
  four_cells (blk_apart (blk_apart h1 hA 0 p) hA 1 q) (blk_apart (blk_apart h2 hB 0 p) hB 1 q)
theorem zval_add_same (neg : Bool) (u v : Nat) : zval neg (u + v) = zval neg u + zval neg v := by unfold zval; cases neg <;> simp <;> omega
theorem zval_add_less {na nb : Bool} {u v : Nat} (hne : na ≠ nb) (h : u < v) : zval nb (v - u) = zval na u + zval nb v := by
  unfold zval; cases na <;> cases nb <;> simp at hne ⊢ <;> omega
theorem zval_add_more {na nb : Bool} {u v : Nat} (hne : na ≠ nb) (h : v ≤ u) : zval na (u - v) = zval na u + zval nb v := by
  unfold zval; cases na <;> cases nb <;> simp at hne ⊢ <;> omega
theorem zval_mul (na nb : Bool) (u v : Nat) : zval (!(na == nb)) (u * v) = zval na u * zval nb v := by
  unfold zval; cases na <;> cases nb <;> simp [Int.neg_mul, Int.mul_neg]
end Go.Proofs.YtpjkhbfglgmnmaaGreatDoor
