/-
  Several texts of this claim as one, group 9.
-/
import Derived.Test.YthblmpkdcahmkaaG8
import Derived.Test.YthblmpkdcahmkaaG6
import Derived.Test.YthblmpkdcahmkaaG2
import Derived.Test.YthblmpkdcahmkaaG7
import Derived.Test.YthblmpkdcahmkaaG1
import Derived.BigRegion
import Derived.BigQuiet
import Derived.Deep.QuietTactic
import Derived.Deep.DeepMust
import Derived.Deep.RegionWith
import Derived.Deep.CutRange
import Derived.Deep.RegionHeld3
/-
  A window of a row of the call's own: what stands in it may be written, the row stays the call's own. Of no program.
-/
namespace Go.Proofs.Ythblmpkdcahmkaa
open Go.RowKit

/-- From place off of an own row on, n words: l. -/
def Win (w : World) (base g off n : Nat) (l : List Nat) : Prop := ∃ (N cap : Nat) (P : List Nat), Own w base g N cap P ∧ off + n ≤ N ∧ l = (P.drop off).take n
theorem Own.win {w : World} {base g n cap : Nat} {l : List Nat} (h : Own w base g n cap l) : Win w base g 0 n l :=
  ⟨n, cap, l, h, by omega, by rw [List.drop_zero, List.take_of_length_le (by rw [h.len]; exact Nat.le_refl _)]⟩
theorem Win.len {w : World} {base g off n : Nat} {l : List Nat} (h : Win w base g off n l) : l.length = n := by
  obtain ⟨N, cap, P, hO, hn, rfl⟩ := h
  have := hO.len
  rw [List.length_take, List.length_drop]
  omega
theorem Win.ok {w : World} {base g off n : Nat} {l : List Nat} (h : Win w base g off n l) : okw l := by
  obtain ⟨N, cap, P, hO, hn, rfl⟩ := h
  exact okw_take (okw_drop hO.2 off) n
theorem Win.base {w : World} {base g off n : Nat} {l : List Nat} (h : Win w base g off n l) : base ≤ g ∧ g < w.heap.size := by
  obtain ⟨N, cap, P, hO, _⟩ := h
  exact hO.base
theorem Win.cell {w : World} {base g off n : Nat} {l : List Nat} (h : Win w base g off n l) {k : Nat} (hk : k < n) : w.cell? ⟨g, off + k, none⟩ = some (.int .u32 ((atw l k : Nat) : Int)) := by
  obtain ⟨N, cap, P, hO, hn, rfl⟩ := h
  rw [hO.cell (by omega), atw_take hk, atw_drop]
theorem Win.frozen {w : World} {base g off n : Nat} {l : List Nat} (h : Win w base g off n l) (k : Nat) : w.frozen? ⟨g, off + k, none⟩ = false := by
  obtain ⟨N, cap, P, hO, _⟩ := h
  exact hO.1.frozenAt _
theorem Win.wd {w : World} {base g off n : Nat} {l : List Nat} (h : Win w base g off n l) {c : Nat} (hc : n ≤ c) (hc2 : c ≤ 9223372036854775807) : Wd w (some ⟨g, off, none⟩) n c l :=
  ⟨h.len, hc, hc2, h.ok, fun e => (by cases e), .inr ⟨g, off, rfl, fun _ hj => h.cell hj⟩⟩
theorem Win.set {w : World} {base g off n : Nat} {l : List Nat} (h : Win w base g off n l) {k r : Nat} (hr : r < 4294967296) : Win (w.setCell ⟨g, off + k, none⟩ (.int .u32 ((r : Nat) : Int))) base g off n (l.set k r) := by
  obtain ⟨N, cap, P, hO, hn, rfl⟩ := h
  refine ⟨N, cap, P.set (off + k) r, hO.set _ _ hr, hn, ?_⟩
  rw [List.drop_set, if_neg (by omega), List.take_set, Nat.add_sub_cancel_left]
theorem Win.take {w : World} {base g off n : Nat} {l : List Nat} (h : Win w base g off n l) {m : Nat} (hm : m ≤ n) : Win w base g off m (l.take m) := by
  obtain ⟨N, cap, P, hO, hn, rfl⟩ := h
  exact ⟨N, cap, P, hO, by omega, by rw [List.take_take, Nat.min_eq_left hm]⟩
theorem Win.drop {w : World} {base g off q m : Nat} {l : List Nat} (h : Win w base g off (q + m) l) : Win w base g (off + q) m (l.drop q) := by
  obtain ⟨N, cap, P, hO, hn, rfl⟩ := h
  exact ⟨N, cap, P, hO, by omega, by rw [List.drop_take, List.drop_drop, Nat.add_sub_cancel_left]⟩
theorem Win.later {w w' : World} {base g off n : Nat} {l : List Nat} (h : Win w base g off n l) (hb : Below w.heap.size w w') : Win w' base g off n l := by
  obtain ⟨N, cap, P, hO, hn, hl⟩ := h
  exact ⟨N, cap, P, hO.later hb, hn, hl⟩
theorem Win.other {w w' : World} {base g g' off n : Nat} {l : List Nat} (h : Win w base g off n l) (hg : w.grownBy w' (some g')) (hne : g ≠ g') : Win w' base g off n l := by
  obtain ⟨N, cap, P, hO, hn, hl⟩ := h
  exact ⟨N, cap, P, hO.other hg hne, hn, hl⟩
theorem Win.lower {w : World} {base base' g off n : Nat} {l : List Nat} (h : Win w base g off n l) (hb : base' ≤ base) : Win w base' g off n l := by
  obtain ⟨N, cap, P, hO, hn, hl⟩ := h
  exact ⟨N, cap, P, hO.lower hb, hn, hl⟩
theorem Wd.kept {w w' : World} {a : Option Addr} {n cap : Nat} {l : List Nat} {row : Option Nat} (h : Wd w a n cap l) (hg : w.grownBy w' row) (hne : ∀ ad : Addr, a = some ad → some ad.block ≠ row) : Wd w' a n cap l :=
  ⟨h.1, h.2.1, h.2.2.1, h.2.2.2.1, h.2.2.2.2.1, h.2.2.2.2.2.imp id fun ⟨b, off, e, hc⟩ => ⟨b, off, e, fun j hj => hg.cell (hc j hj) (hne ⟨b, off, none⟩ e)⟩⟩
/-- A row of the call's own that isn't empty has a block. -/
theorem own_block {w : World} {base : Nat} {a : Option Addr} {n cap : Nat} {l : List Nat} (h : w.ownsRow base 112 1 (.slice a n cap) n (wcells l)) (ho : okw l) (hn : 0 < n) : ∃ g, a = some ⟨g, 0, none⟩ ∧ Own w base g n cap l := by
  rcases h.2 with ⟨_, h0⟩ | ⟨g, cap', cur, e, _⟩
  · omega
  · simp only [Value.slice.injEq] at e
    obtain ⟨rfl, _, rfl⟩ := e
    exact ⟨g, rfl, h, ho⟩
theorem ownsRow_later {w w' : World} {base : Nat} {e : TypeId} {size : Nat} {v : Value} {n : Nat} {xs : List Value} (h : w.ownsRow base e size v n xs) (hb : Below w.heap.size w w') : w'.ownsRow base e size v n xs := by
  refine ⟨h.1, ?_⟩
  rcases h.2 with h0 | ⟨g', cap', cur, h1, h2, h3, h4⟩
  · exact .inl h0
  · exact .inr ⟨g', cap', cur, h1, h2, (hb.block g' (Array.getElem?_eq_some_iff.1 h3).1).trans h3, h4⟩
/-- The value that a slice of words holds in a world (for a measure that is read from memory). -/
def cellNat (w : World) (a : Addr) : Nat := match w.cell? a with | some (.int _ z) => z.toNat | _ => 0
def heldVal (w : World) : Value → Nat
  | .slice (some a) n _ => val ((List.range n).map fun j => cellNat w ⟨a.block, a.off + j, none⟩)
  | _ => 0
theorem Wd.held {w : World} {b off n cap : Nat} {l : List Nat} (h : Wd w (some ⟨b, off, none⟩) n cap l) : heldVal w (.slice (some ⟨b, off, none⟩) n cap) = val l := by
  show val ((List.range n).map fun j => cellNat w ⟨b, off + j, none⟩) = val l
  apply congrArg val
  apply list_eq_of_at
  · simp [h.len]
  · intro j hj
    simp at hj
    obtain ⟨b', off', e, hc⟩ := h.at (by omega)
    simp only [Option.some.injEq, Addr.mk.injEq, and_true] at e
    obtain ⟨rfl, rfl⟩ := e
    unfold atw
    rw [List.getD_eq_getElem?_getD, List.getElem?_map, List.getElem?_range hj]
    show cellNat w ⟨b, off + j, none⟩ = _
    unfold cellNat
    rw [hc j hj]
    show (((atw l j : Nat) : Int)).toNat = _
    rw [Int.toNat_natCast]; rfl
end Go.Proofs.Ythblmpkdcahmkaa

/-
  The contracts of the document's answer for layer 4: Mul.
-/
namespace Go.Proofs.Ythblmpkdcahmkaa
open Go.RowKit

theorem Own.drewN {w : World} {base g n cap : Nat} {l : List Nat} (h : Own w base g n cap l) (q : Nat) : Own (w.drewN q) base g n cap l := h
theorem Own.drew {w : World} {base g n cap : Nat} {l : List Nat} (h : Own w base g n cap l) : Own w.drew base g n cap l := h
set_option maxRecDepth 4096 in
set_option maxHeartbeats 2000000 in
theorem ref04_mul (a : Option Addr) (n cap : Nat) (la : List Nat) (b : Option Addr) (m cap' : Nat) (lb : List Nat) (w : World) (ha : Wd w a n cap la) (hb : Wd w b m cap' lb) (hn : n ≤ 4194304000000) (hm : m ≤ 4194304000000) :
    Calls Try.prog 99 #[.slice a n cap, .slice b m cap'] w (Lst (dg (val la * val lb)) w) := by
  obtain ⟨i0, hi, hz0, hz1, hz2⟩ := info_parts infoU32
  have Ha := Lib.hid ha
  have Hb := Lib.hid hb
  clear ha hb
  obtain ⟨N, hN⟩ : ∃ N : Nat, (n : Int) + (m : Int) = (N : Int) := ⟨n + m, by omega⟩
  have HN : Hid (N = n + m) := Lib.hid (by omega)
  have hNb : N ≤ 8388608000000 := by omega
  go_enter Try.func99, Try.ntmps99
  go_wp2_with (at_make; refine wpList_make_words _ rfl _ _ 58 rfl w.heap.size 112 i0 (.int .u32 0) Try.underlying58 hi hz0 hz1 rfl .i64 .i64 _ _ N N rfl rfl rfl rfl (Nat.le_refl _) (by rw [hz2]; omega) (by unfold maxLen; omega) (Nat.le_refl _) ?_; intro w1 hown1 hgrow1)
  rw [zeros_cells] at hown1
  have HO1 : Hid (Own w1 w.heap.size w.heap.size N N (List.replicate N 0)) := Lib.hid ⟨hown1, okw_zeros N⟩
  have hB1 : Below w.heap.size w w1 := (Below.refl _ _).grown hgrow1 (Nat.le_refl _) (fun k hk => by cases hk)
  clear hown1 hgrow1
  go_loopw [6] (fun iv wr => ∃ (i : Nat) (P : List Nat), i ≤ n ∧ iv = .int .i64 (i : Int) ∧ Hid (RowAt la lb P m i) ∧ Hid (Own wr w.heap.size w.heap.size N N P) ∧ Below w.heap.size w wr) (fun iv _ => n - (intOf iv).toNat)
  case atStart => exact ⟨0, List.replicate N 0, by omega, rfl, Lib.hid (row_start _ _ _ _), HO1, hB1⟩
  case round =>
    clear HO1 hB1
    obtain ⟨i, P, hin, rfl, HR, HO, hB⟩ := hrel
    by_cases hlt : i < n
    · have hii : (i : Int) < (n : Int) := by omega
      obtain ⟨ba, oa, rfl, hca⟩ := (Ha.out.later hB).at (by omega)
      have Hblk : Hid (ba < w.heap.size ∧ ∀ wz, Below w.heap.size w wz → wz.cell? ⟨ba, oa + i, none⟩ = some (.int .u32 ((atw la i : Nat) : Int))) := by
        obtain ⟨ba2, oa2, e2, hca2⟩ := Ha.out.at (by omega)
        simp only [Option.some.injEq, Addr.mk.injEq, and_true] at e2
        obtain ⟨rfl, rfl⟩ := e2
        exact Lib.hid ⟨World.block_lt_of_cell? w _ (hca2 i hlt), fun wz hz => cell_later hz (hca2 i hlt)⟩
      have hxw := atw_lt Ha.out.ok i
      obtain ⟨x, hxx⟩ : ∃ x, x = atw la i := ⟨_, rfl⟩
      rw [← hxx] at hxw Hblk
      have Hx := Lib.hid hxx
      clear hca hxx
      go_wp2
      go_loopw [7, 8] (fun sv jv wr => ∃ (j c : Nat) (P : List Nat), j ≤ m ∧ jv = .int .i64 (j : Int) ∧ sv = .int .u64 (c : Int) ∧ c < 4294967296 ∧ Hid (CellAt la lb P m i j c) ∧ Hid (Own wr w.heap.size w.heap.size N N P) ∧ Below w.heap.size w wr) (fun _ jv _ => m - (intOf jv).toNat)
      case atStart => exact ⟨0, 0, P, by omega, rfl, rfl, by omega, Lib.hid (cell_start HR.out), HO, hB⟩
      case round =>
        clear HO hB HR
        obtain ⟨j, c, P, hjm, rfl, rfl, hc, HC, HO, hB⟩ := hrel
        by_cases hjl : j < m
        · have hji : (j : Int) < (m : Int) := by omega
          obtain ⟨bb, ob, rfl, hcb⟩ := (Hb.out.later hB).at (by omega)
          have hcbj := hcb j hjl
          have hcai := Hblk.out.2 wr hB
          have hyw := atw_lt Hb.out.ok j
          obtain ⟨y, hyy⟩ : ∃ y, y = atw lb j := ⟨_, rfl⟩
          rw [← hyy] at hyw hcbj
          have Hy := Lib.hid hyy
          obtain ⟨q, hq⟩ : ∃ q : Nat, (i : Int) + (j : Int) = (q : Int) := ⟨i + j, by omega⟩
          have Hq : Hid (q = i + j) := Lib.hid (by omega)
          have hqN : q < N := by have := HN.out; omega
          have hqi : (q : Int) < (N : Int) := by omega
          have hcell := HO.out.cell (k := q) hqN
          have hfro := HO.out.1.frozenAt q
          have huw := atw_lt HO.out.2 q
          obtain ⟨u, huu⟩ : ∃ u, u = atw P q := ⟨_, rfl⟩
          rw [← huu] at huw hcell
          have Hu := Lib.hid huu
          have hroom := mul_room hxw hyw huw hc
          obtain ⟨p, hp⟩ : ∃ p : Nat, (x : Int) * (y : Int) = (p : Int) := ⟨x * y, by simp⟩
          have Hp : Hid (p = x * y) := Lib.hid (by rw [← Int.natCast_mul] at hp; omega)
          rw [← Hp.out] at hroom
          obtain ⟨hroom1, hroom2⟩ := hroom
          have hb := HO.out.base
          clear hcb hyy huu
          go_wp2
          go_quiet (fail)
          go_wp2
          go_roundw
          case rel =>
            have HOs := (HO.out.drewN nq).set q ((c + (p + u)) % 4294967296) (Nat.mod_lt _ (by decide))
            have hBs := (below_drewN hB nq).setCell (p := ⟨w.heap.size, q, none⟩) hb.1 (.int .u32 (((c + (p + u)) % 4294967296 : Nat) : Int))
            have e1 : (((c + (p + u)) % 4294967296 : Nat) : Int) = ((c : Int) + ((p : Int) + (u : Int))) % 4294967296 := by omega
            rw [e1] at HOs hBs
            exact ⟨j + 1, (c + (p + u)) / 4294967296, P.set q ((c + (p + u)) % 4294967296), by omega, by go_num, by go_num, by omega, Lib.hid (by
              have h1 := HC.out
              have h2 := HN.out
              have h3 := HO.out.len
              obtain rfl := Hq.out
              exact cell_step h1 hjl (by omega) (by rw [← Hx.out, ← Hy.out, ← Hu.out, ← Hp.out]; omega)), Lib.hid HOs, hBs⟩
          case measure => simp [intOf]; omega
        · obtain rfl : j = m := by omega
          obtain ⟨q, hq⟩ : ∃ q : Nat, (i : Int) + (j : Int) = (q : Int) := ⟨i + j, by omega⟩
          have Hq : Hid (q = i + j) := Lib.hid (by omega)
          have hqN : q < N := by have := HN.out; omega
          have hqi : (q : Int) < (N : Int) := by omega
          have hcell := HO.out.cell (k := q) hqN
          have hfro := HO.out.1.frozenAt q
          generalize atw P q = u at hcell
          have hb := HO.out.base
          have HOs := HO.out.set q c hc
          have hBs := hB.setCell (p := ⟨w.heap.size, q, none⟩) hb.1 (.int .u32 (c : Int))
          have HOs' := Lib.hid HOs
          have hBs' := Lib.hid hBs
          clear HOs hBs
          go_wp2
          go_roundw
          case rel =>
            exact ⟨i + 1, P.set q c, by omega, by go_num, Lib.hid (by
              have h1 := HC.out
              have h2 := HN.out
              have h3 := HO.out.len
              obtain rfl := Hq.out
              exact row_next h1 Hb.out.len (by omega)), HOs', hBs'.out⟩
          case measure => simp [intOf]; omega
    · obtain rfl : i = n := by omega
      have Hv := Lib.hid (row_end HR.out Ha.out.len)
      go_wp2_with fail
      refine (ref02_norm _ _ _ _ _ HO.out.wd (by omega)).mono ?_
      rintro e w' ⟨a', n', c', rfl, hwd, hbel⟩
      rw [Hv.out] at hwd
      have HWD := Lib.hid hwd
      clear hwd
      go_wp2
      go_ret
      exact ⟨_, _, _, rfl, HWD.out, below_then hB hbel⟩
end Go.Proofs.Ythblmpkdcahmkaa

/-
  The contracts of the document's answer for layer 7: ten, Text, Wrong, Read, Trim.
-/
namespace Go.Proofs.Ythblmpkdcahmkaa
open Go.RowKit

theorem digit_cut {d : Nat} (h : d < 10) : (({ data := #[48, 49, 50, 51, 52, 53, 54, 55, 56, 57] } : ByteArray).extract d (d + 1)) = bs [dig d] := by
  match d, h with
  | 0, _ => decide
  | 1, _ => decide
  | 2, _ => decide
  | 3, _ => decide
  | 4, _ => decide
  | 5, _ => decide
  | 6, _ => decide
  | 7, _ => decide
  | 8, _ => decide
  | 9, _ => decide
/-- For the measure of the loop that writes. -/
def textLeft (w : World) (x s : Value) : Nat := heldVal w x + (match s with | .string b => if b.size = 0 then 1 else 0 | _ => 0)
theorem held_own {w : World} {base : Nat} {e : TypeId} {a : Option Addr} {m c v : Nat} (h : w.ownsRow base e 1 (.slice a m c) m (wcells (dg v))) : heldVal w (.slice a m c) = v := by
  rcases h.2 with ⟨e1, h0⟩ | ⟨g, cap', cur, e1, _⟩
  · have h1 := h.1
    rw [wcells_length, h0] at h1
    simp only [Value.slice.injEq] at e1
    obtain ⟨rfl, _, _⟩ := e1
    exact (dg_nil_iff.1 (by omega)).symm
  · simp only [Value.slice.injEq] at e1
    obtain ⟨rfl, _, _⟩ := e1
    rw [(Wd.own h (okw_dg v)).held, val_dg]
end Go.Proofs.Ythblmpkdcahmkaa

/-
  The contracts of the document's answer for layer 7: Read.
-/
namespace Go.Proofs.Ythblmpkdcahmkaa
open Go.RowKit

theorem Wd.ofCell7 {w : World} {g x : Nat} (h : w.cell? ⟨g, 0, none⟩ = some (.int .u32 (x : Int))) (hx : x < 4294967296) : Wd w (some ⟨g, 0, none⟩) 1 1 [x] := by
  refine ⟨rfl, Nat.le_refl _, by omega, okw_cons.2 ⟨hx, okw_nil⟩, fun e => (by cases e), .inr ⟨g, 0, rfl, fun j hj => ?_⟩⟩
  obtain rfl : j = 0 := by omega
  exact h
theorem more7 {w w1 : World} (h : Below w.heap.size w w1) (o : Obj) : Below w.heap.size w (w1.alloc o) := below_then h (below_alloc _ _)
theorem drawn7 {w w1 : World} (h : Below w.heap.size w w1) : Below w.heap.size w w1.drew := h.drew
theorem cell7_newest {w : World} {g x : Nat} {t : TypeId} (hg : g = w.heap.size) : (w.alloc (.cells #[.int .u32 (x : Int)] t)).drew.cell? ⟨g, 0, none⟩ = some (.int .u32 (x : Int)) := by
  subst hg
  show (w.alloc (.cells #[.int .u32 (x : Int)] t)).cell? ⟨w.heap.size, 0, none⟩ = _
  simp
theorem cell7_grown {w : World} {a : Addr} {v : Value} (o : Obj) (h : w.cell? a = some v) : (w.alloc o).drew.cell? a = some v := cell_later (below_alloc w o).drew h
set_option maxRecDepth 4096 in
set_option maxHeartbeats 8000000 in
theorem ref07_read (l : List UInt8) (w : World) (hl : l.length ≤ 100) (hd : Hid (alldig l)) :
    Calls Try.prog 94 #[.string (bs l)] w (Lst (dg (readV l)) w) := by
  have hsz := bs_size l
  have HN : Hid (∀ k, k ≤ l.length → (dg (readV (l.take k))).length ≤ 20) := Lib.hid (fun k hk => by
    apply dg_length_le
    have h1 := readV_lt (l := l.take k) (fun x hx => hd.out x (List.mem_of_mem_take hx))
    have h2 : (10 : Nat) ^ (l.take k).length ≤ 10 ^ 100 := Nat.pow_le_pow_right (by decide) (by rw [List.length_take]; omega)
    have h3 : (10 : Nat) ^ 100 ≤ 4294967296 ^ 20 := by decide
    omega)
  go_enter Try.func94, Try.ntmps94
  go_wp2
  go_loopw [3, 4] (fun v i wr => ∃ (k : Nat) (a : Option Addr) (n c : Nat), k ≤ l.length ∧ i = .int .i64 k ∧ v = .slice a n c ∧ Hid (Wd wr a n c (dg (readV (l.take k)))) ∧ Below w.heap.size w wr) (fun _ i _ => l.length - (intOf i).toNat)
  case atStart => exact ⟨0, _, _, _, by omega, rfl, rfl, Lib.hid (by rw [List.take_zero]; show Wd _ _ _ _ (dg 0); rw [dg_zero]; exact Wd.empty _ _ _ (by omega)), below_alloc _ _⟩
  case round =>
    obtain ⟨k, a, n, c, hk, rfl, rfl, HW, hB⟩ := hrel
    have hn : n ≤ 20 := by rw [← HW.out.len]; exact HN.out k hk
    by_cases hlt : k < l.length
    · have hki : (k : Int) < (l.length : Int) := by omega
      have hget := bs_get l k hlt (by rw [bs_size]; exact hlt)
      have hdk := alldig_getD hd.out hlt
      have Hv := Lib.hid (readV_take hlt)
      generalize readV (l.take k) = v at *
      generalize (l.getD k 0).toNat = x at *
      obtain ⟨d, hdd⟩ : ∃ d : Nat, (x : Int) - 48 = (d : Int) := ⟨x - 48, by omega⟩
      have Hd : Hid (x - 48 = d) := Lib.hid (by omega)
      have hdw : d < 4294967296 := by omega
      have hBr := Lib.hid hB
      have HX : Hid (val (dg v) * val [10] + val [d] = readV (l.take (k + 1))) := Lib.hid (by rw [val_dg, Hv.out, Hd.out]; simp [val])
      have HL : Hid ((dg (val (dg v) * val [10])).length ≤ 21) := Lib.hid (by
        have h1 := dg_mul_length (val (dg v)) (val [10])
        have h2 := HW.out.len
        have h3 := dg_length_val_le (l := [10]) (okw_cons.2 ⟨by decide, okw_nil⟩)
        rw [val_dg] at h1 ⊢
        simp only [List.length_cons, List.length_nil] at h3
        omega)
      clear hB
      have hw1 : IntKind.u32.wrap (x : Int) = (x : Int) := by rw [IntKind.wrap_u32]; omega
      have hw2 : IntKind.u32.wrap (d : Int) = (d : Int) := by rw [IntKind.wrap_u32]; omega
      go_wp2
      go_region_with (first
        | (go_at_call 99; (refine (ref04_mul a n c (dg v) _ 1 1 [10] _ ?q1 (Wd.ofCell7 ?q2 (by omega)) ?q3 ?q4).mono ?_); (case q1 => (refine HW.out.later ?_); (repeat (first | (exact Below.refl _ _) | (refine more7 ?_ _) | (refine drawn7 ?_)))); (case q2 => first | (simp; done) | ((refine cell7_newest ?_); simp; done) | ((refine cell7_grown _ ?_); simp; done)); (case q3 => omega); (case q4 => omega); rintro e w1 ⟨a1, n1, c1, rfl, h1, b1⟩; have hBw : Below wr.heap.size wr w1 := ?q5; rotate_left; (case q5 => (refine below_then ?_ b1); (repeat (first | (exact Below.refl _ _) | (refine more7 ?_ _) | (refine drawn7 ?_)))))
        | (go_at_call 98; (refine (ref02_add a1 n1 c1 (dg (val (dg v) * val [10])) _ 1 1 [d] _ ?q1 (Wd.ofCell7 ?q2 hdw) ?q3 ?q4).mono ?_); (case q1 => first | (exact h1) | (exact h1.later (below_alloc _ _))); (case q2 => first | (simp; done) | ((refine cell_later b1 ?_); first | (simp; done) | ((refine cell7_newest ?_); simp; done) | ((refine cell7_grown _ ?_); simp; done))); (case q3 => have h9 := h1.len; have h8 := HL.out; omega); (case q4 => omega); rintro e w2 ⟨a2, n2, c2, rfl, h2, b2⟩))
      all_goals (
        rw [val_dg, HX.out] at h2
        have HF : Hid (Wd w2 a2 n2 c2 (dg (readV (l.take (k + 1))))) := Lib.hid h2
        have hcc : Below wr.heap.size wr w2 := by
          first
          | exact below_then hBw b2
          | exact below_then (more7 hBw _) b2
        have Hcc := Lib.hid (below_then hBr.out hcc)
        clear h2 b2 hcc h1 b1 hBw
        go_wp2
        go_roundw
        case rel => exact ⟨k + 1, a2, n2, c2, by omega, by go_num, rfl, HF, Hcc.out⟩
        case measure => simp [intOf]; omega)
    · have htk : l.take k = l := List.take_of_length_le (by omega)
      rw [htk] at HW
      clear htk
      go_wp2
      go_ret
      exact ⟨a, n, c, rfl, HW.out, hB⟩
end Go.Proofs.Ythblmpkdcahmkaa

/-
  The document's answer of layer 18: atom.
-/
namespace Go.Proofs.Ythblmpkdcahmkaa
open Go.WideShapes Go.RowKit Go.Deep

/-- A function of the reader's does what f says, where the reader is as asked. -/
def Does18 (P St Nt : TypeId) (p : Program) (fid : FuncId) (W : List Lw) (E : Nat) (N : List (List UInt8)) (f : Ps → List Np × Ps) (ok : Ps → Prop) : Prop :=
  ∀ (g : Nat) (a : Option Addr) (n c : Nat) (nv : Value) (s : Ps) (w : World), PS P St w g a n c W E nv N s → ok s → Calls p fid #[.pointer (some ⟨g, 0, none⟩)] w (Code18 P St Nt g a n c W E nv N (f s) w)
/-- One node, in a row of its own. -/
theorem code_one {P St Nt : TypeId} {w0 w : World} {g : Nat} {a : Option Addr} {n c : Nat} {W : List Lw} {E : Nat} {nv : Value} {N : List (List UInt8)} {s' : Ps} (hp : PS P St w g a n c W E nv N s') (hg : w0.grownBy w (some g)) (op i : Int) (aa : Option Addr) (an ac : Nat) (l : List Nat) (hw : Wd w aa an ac l) (hl : l.length ≤ 20) {r : List Np × Ps} (hr : r = ([(op, i, val l)], s')) {z : Nat} (hz : w.heap.size = z) :
    Code18 P St Nt g a n c W E nv N r w0 (.returned (.slice (some ⟨z, 0, none⟩) 1 1)) (w.alloc (.cells #[.int .i64 op, .int .i64 i, .slice aa an ac] Nt)) := by
  subst hr hz
  refine ⟨_, [⟨op, i, aa, an, ac, l⟩], rfl, (Kin.Mine.lit1 w Nt _ hw).low hg.size, rfl, fun x hx => by rw [List.mem_singleton.1 hx]; exact hl, hp.later (below_alloc _ _), grown_pass hg (below_alloc _ _)⟩
theorem code_void {P St Nt : TypeId} {w0 w : World} {g : Nat} {a : Option Addr} {n c : Nat} {W : List Lw} {E : Nat} {nv : Value} {N : List (List UInt8)} {s' : Ps} (hp : PS P St w g a n c W E nv N s') (hg : w0.grownBy w (some g)) {r : List Np × Ps} (hr : r = ([], s')) {z : Nat} (hz : w.heap.size = z) :
    Code18 P St Nt g a n c W E nv N r w0 (.returned (.slice (some ⟨z, 0, none⟩) 0 0)) (w.alloc (.cells #[] Nt)) := by
  subst hr hz
  exact ⟨_, [], rfl, (Kin.Mine.void w Nt).low hg.size, rfl, fun x hx => (by cases hx), hp.later (below_alloc _ _), grown_pass hg (below_alloc _ _)⟩
set_option maxRecDepth 4096 in
set_option maxHeartbeats 16000000 in
theorem ref18_atom (W : List Lw) (E : Nat) (N : List (List UInt8)) (hW : ∀ x ∈ W, Wk x) (hlen : W.length ≤ 100000) (l : Nat)
    (HX : Does18 68 9 80 Try.prog 33 W E N (pAll W E N l).2 (fun s => s.deep + l = 41 ∧ (l = 0 → 0 ≤ s.bad) ∧ s.i ≤ W.length)) :
    Does18 68 9 80 Try.prog 89 W E N (pAtom W E N (pAll W E N l).2) (fun s => s.deep + (l + 1) = 41 ∧ s.i ≤ W.length) := by
  intro g a n c nv s w h hok
  obtain ⟨hdl, hil⟩ := hok
  have HXX := Lib.hid HX
  clear HX
  have H := Lib.hid h
  have HK := Lib.hid (ref18_kind g a n c W E nv N s w h)
  have HS := Lib.hid fun (t : List UInt8) (w1 : World) (hb : Below w.heap.size w w1) => ref18_sees g a n c W E nv N s t w1 (H.out.later hb)
  have HFr := Lib.hid fun (w1 : World) (hb : Below w.heap.size w w1) => ref18_free g a n c W E nv N s w1 (H.out.later hb)
  have HW := Lib.hid hW
  have hnl := h.len
  have hbd := h.words.bound
  have ki : IntKind.i64.wrap ((s.i : Int) + 1) = ((s.i + 1 : Nat) : Int) := by rw [IntKind.wrap_i64]; omega
  have HF := Lib.hid (pAll_fine W E N l).2
  clear h hW
  obtain ⟨R, hR⟩ : ∃ R, pAtom W E N (pAll W E N l).2 s = R := ⟨_, rfl⟩
  rw [hR]
  unfold pAtom at hR
  by_cases hk : pKind W s = 1
  · rw [if_pos hk] at hR
    obtain ⟨hb, hi⟩ := pKind_i W (s := s) (by omega)
    obtain ⟨x, hx⟩ : ∃ x, W[s.i]? = some x := ⟨W[s.i]'hi, List.getElem?_eq_getElem _⟩
    have hT : pText W s = x.t := by unfold pText; rw [hx]
    have hkx : x.k = 1 := by
      have h9 := hk
      unfold pKind at h9
      rw [if_pos hb, hx] at h9
      exact h9
    have hWx := HW.out x (List.mem_of_getElem? hx)
    have hxl : x.t.length ≤ 60 := by have h9 := wk_most hWx; rw [hkx] at h9; exact h9
    have HD := Lib.hid (wk_digits hWx hkx)
    have hdl20 : (dg (readV x.t)).length ≤ 20 := by
      apply dg_length_le
      have h1 := readV_lt HD.out
      have h2 : (10 : Nat) ^ x.t.length ≤ 10 ^ 60 := Nat.pow_le_pow_right (by decide) hxl
      have h3 : (10 : Nat) ^ 60 ≤ 4294967296 ^ 20 := by decide
      omega
    rw [hk] at HK
    rw [hT] at hR
    have HRr := Lib.hid hR
    have HR0 := Lib.hid (ref07_read x.t)
    have HXw := Lib.hid hx
    clear hR hT hk hkx hWx
    go_enter Try.func89, Try.ntmps89
    go_wp2_with fail
    refine HK.out.mono ?_
    rintro e w1 ⟨rfl, b1⟩
    have H1 := Lib.hid (H.out.later b1)
    have G1 := Lib.hid (below_grown b1 (some g))
    obtain ⟨e0, e1, e2, e3, e4, e5⟩ := H1.out.cells
    obtain ⟨b, off, rfl, hlt, f0, f1, f2⟩ := H1.out.word HXw.out
    have k1 : (s.i : Int) < (n : Int) := by omega
    clear b1 HK H HS HFr hx
    generalize x.t = t at *
    go_wp2
    go_region_with (first
      | (go_at_call 94; (refine (HR0.out _ (by omega) HD).mono ?_); rintro e w2 ⟨a2, n2, c2, rfl, h2, b2⟩)
      | (go_at_call 93; (refine (ref02_norm a2 n2 c2 (dg (readV t)) _ h2 (by have := h2.len; omega)).mono ?_); rintro e w3 ⟨a3, n3, c3, rfl, h3, b3⟩))
    all_goals (
      rw [val_dg] at h3
      have b9 : Below w1.heap.size w1 w3 := below_then (below_then (Below.refl _ _).drew b2) b3
      have H3 := Lib.hid (H1.out.later b9)
      have G3 := Lib.hid (grown_pass G1.out b9)
      have HN3 := Lib.hid h3
      obtain ⟨x0, x1, x2, x3, x4, x5⟩ := H3.out.cells
      have xf := H3.out.free 1
      clear e0 e1 e2 e3 e4 e5 f0 f1 f2 b2 b3 b9 h2 h3 H1 G1
      go_wp2
      go_ret
      obtain ⟨h4, g4⟩ := H3.out.set1 (s.i + 1)
      exact code_one h4 (grown_then G3.out g4) 1 0 _ _ _ (dg (readV t)) (good_past (x := ⟨1, 0, a3, n3, c3, dg (readV t)⟩) HN3.out H3.out g4) hdl20 (by rw [← HRr.out, val_dg]) (by simp))
  · rw [if_neg hk] at hR
    have q0 : ((pKind W s : Int) == 1) = false := by simp; omega
    generalize pKind W s = kk at HK q0
    clear hk
    go_enter Try.func89, Try.ntmps89
    go_wp2_with fail
    refine HK.out.mono ?_
    rintro e w1 ⟨rfl, b1⟩
    have B1 := Lib.hid b1
    clear b1 HK
    have HSt := Lib.hid (HS.out [116])
    have HSy := Lib.hid (HS.out [121])
    have HSp := Lib.hid (HS.out [112])
    have HSl := Lib.hid (HS.out [40])
    clear HS
    by_cases ht : pSees W s [116] = true
    · have hi := pSees_i W ht
      rw [if_pos ht] at hR
      have HRr := Lib.hid hR
      rw [ht] at HSt
      clear hR ht
      go_wp2_with fail
      refine (HSt.out _ B1.out).mono ?_
      rintro e w2 ⟨rfl, bb⟩
      have B2 := Lib.hid (below_then B1.out bb)
      clear bb
      have HC := Lib.hid (H.out.later B2.out)
      have GC := Lib.hid (below_grown B2.out (some g))
      obtain ⟨e0, e1, e2, e3, e4, e5⟩ := HC.out.cells
      have ef := HC.out.free 1
      obtain ⟨h1, g1⟩ := HC.out.set1 (s.i + 1)
      have H1 := Lib.hid h1
      have G1 := Lib.hid (grown_then GC.out g1)
      clear h1 g1
      go_wp2
      go_ret
      exact code_one H1.out G1.out 2 0 none 0 0 [] (Wd.ofNil _) (by simp) HRr.out.symm (by simp)
    · rw [if_neg ht] at hR
      rw [Bool.not_eq_true] at ht
      rw [ht] at HSt
      clear ht
      go_wp2_with fail
      refine (HSt.out _ B1.out).mono ?_
      rintro e w2 ⟨rfl, bb⟩
      have B2 := Lib.hid (below_then B1.out bb)
      clear bb
      clear HSt B1
      by_cases hyp : pSees W s [121] = true ∨ pSees W s [112] = true
      · have hi : s.bad < 0 ∧ s.i < W.length := hyp.elim (pSees_i W) (pSees_i W)
        rw [if_pos hyp] at hR
        try dsimp only at hR
        have hm1 := (pMust_on W E [91]).within { s with i := s.i + 1 } (by dsimp only; omega)
        have hm2 := (pSmall_on W E).within _ hm1
        try dsimp only at hm2
        generalize hs1 : pMust W E [91] { s with i := s.i + 1 } = s1 at *
        have HS1 := Lib.hid hs1
        clear hs1
        generalize hry : pSees W s [121] = ry at *
        generalize hrp : pSees W s [112] = rp at *
        clear hry hrp
        cases ry
        · cases rp
          · simp at hyp
          · rw [if_pos rfl] at hR
            have HRr := Lib.hid hR
            clear hR hyp
            go_wp2_with fail
            refine (HSy.out _ B2.out).mono ?_
            rintro e w3 ⟨rfl, bb⟩
            have B3 := Lib.hid (below_then B2.out bb)
            clear bb
            go_wp2_with fail
            refine (HSp.out _ B3.out).mono ?_
            rintro e w4 ⟨rfl, bb⟩
            have B4 := Lib.hid (below_then B3.out bb)
            clear bb
            go_wp2_with fail
            refine (HSp.out _ B4.out).mono ?_
            rintro e w5 ⟨rfl, bb⟩
            have B5 := Lib.hid (below_then B4.out bb)
            clear bb
            have HC := Lib.hid (H.out.later B5.out)
            have GC := Lib.hid (below_grown B5.out (some g))
            obtain ⟨e0, e1, e2, e3, e4, e5⟩ := HC.out.cells
            have ef := HC.out.free 1
            obtain ⟨h1, g1⟩ := HC.out.set1 (s.i + 1)
            have H1 := Lib.hid h1
            have G1 := Lib.hid (grown_then GC.out g1)
            clear h1 g1
            go_wp2_with fail
            refine (ref18_must g a n c W E nv N { s with i := s.i + 1 } [91] _ H1.out (by dsimp only; omega)).mono ?_
            rintro e wm ⟨rfl, h2, g2⟩
            rw [HS1.out] at h2
            have H2 := Lib.hid h2
            have G2 := Lib.hid (grown_then G1.out g2)
            clear h2 g2 e0 e1 e2 e3 e4 e5 ef H1 G1
            go_wp2_with fail
            refine (ref18_small g a n c W E nv N _ wm H2.out HW.out (by omega)).mono ?_
            rintro e ws ⟨rfl, h3, g3⟩
            have H3 := Lib.hid h3
            have G3 := Lib.hid (grown_then G2.out g3)
            clear h3 g3 H2 G2
            go_wp2_with fail
            refine (ref18_must g a n c W E nv N _ [93] ws H3.out (by omega)).mono ?_
            rintro e wu ⟨rfl, h4, g4⟩
            have H4 := Lib.hid h4
            have G4 := Lib.hid (grown_then G3.out g4)
            clear h4 g4 H3 G3
            go_wp2
            go_ret
            exact code_one H4.out G4.out 4 _ none 0 0 [] (Wd.ofNil _) (by simp) HRr.out.symm rfl
        · cases rp
          · rw [if_neg (by decide)] at hR
            have HRr := Lib.hid hR
            clear hR hyp
            go_wp2_with fail
            refine (HSy.out _ B2.out).mono ?_
            rintro e w3 ⟨rfl, bb⟩
            have B3 := Lib.hid (below_then B2.out bb)
            clear bb
            go_wp2_with fail
            refine (HSp.out _ B3.out).mono ?_
            rintro e w4 ⟨rfl, bb⟩
            have B4 := Lib.hid (below_then B3.out bb)
            clear bb
            have HC := Lib.hid (H.out.later B4.out)
            have GC := Lib.hid (below_grown B4.out (some g))
            obtain ⟨e0, e1, e2, e3, e4, e5⟩ := HC.out.cells
            have ef := HC.out.free 1
            obtain ⟨h1, g1⟩ := HC.out.set1 (s.i + 1)
            have H1 := Lib.hid h1
            have G1 := Lib.hid (grown_then GC.out g1)
            clear h1 g1
            go_wp2_with fail
            refine (ref18_must g a n c W E nv N { s with i := s.i + 1 } [91] _ H1.out (by dsimp only; omega)).mono ?_
            rintro e wm ⟨rfl, h2, g2⟩
            rw [HS1.out] at h2
            have H2 := Lib.hid h2
            have G2 := Lib.hid (grown_then G1.out g2)
            clear h2 g2 e0 e1 e2 e3 e4 e5 ef H1 G1
            go_wp2_with fail
            refine (ref18_small g a n c W E nv N _ wm H2.out HW.out (by omega)).mono ?_
            rintro e ws ⟨rfl, h3, g3⟩
            have H3 := Lib.hid h3
            have G3 := Lib.hid (grown_then G2.out g3)
            clear h3 g3 H2 G2
            go_wp2_with fail
            refine (ref18_must g a n c W E nv N _ [93] ws H3.out (by omega)).mono ?_
            rintro e wu ⟨rfl, h4, g4⟩
            have H4 := Lib.hid h4
            have G4 := Lib.hid (grown_then G3.out g4)
            clear h4 g4 H3 G3
            go_wp2
            go_ret
            exact code_one H4.out G4.out 3 _ none 0 0 [] (Wd.ofNil _) (by simp) HRr.out.symm rfl
          · rw [if_pos rfl] at hR
            have HRr := Lib.hid hR
            clear hR hyp
            go_wp2_with fail
            refine (HSy.out _ B2.out).mono ?_
            rintro e w3 ⟨rfl, bb⟩
            have B3 := Lib.hid (below_then B2.out bb)
            clear bb
            go_wp2_with fail
            refine (HSp.out _ B3.out).mono ?_
            rintro e w4 ⟨rfl, bb⟩
            have B4 := Lib.hid (below_then B3.out bb)
            clear bb
            have HC := Lib.hid (H.out.later B4.out)
            have GC := Lib.hid (below_grown B4.out (some g))
            obtain ⟨e0, e1, e2, e3, e4, e5⟩ := HC.out.cells
            have ef := HC.out.free 1
            obtain ⟨h1, g1⟩ := HC.out.set1 (s.i + 1)
            have H1 := Lib.hid h1
            have G1 := Lib.hid (grown_then GC.out g1)
            clear h1 g1
            go_wp2_with fail
            refine (ref18_must g a n c W E nv N { s with i := s.i + 1 } [91] _ H1.out (by dsimp only; omega)).mono ?_
            rintro e wm ⟨rfl, h2, g2⟩
            rw [HS1.out] at h2
            have H2 := Lib.hid h2
            have G2 := Lib.hid (grown_then G1.out g2)
            clear h2 g2 e0 e1 e2 e3 e4 e5 ef H1 G1
            go_wp2_with fail
            refine (ref18_small g a n c W E nv N _ wm H2.out HW.out (by omega)).mono ?_
            rintro e ws ⟨rfl, h3, g3⟩
            have H3 := Lib.hid h3
            have G3 := Lib.hid (grown_then G2.out g3)
            clear h3 g3 H2 G2
            go_wp2_with fail
            refine (ref18_must g a n c W E nv N _ [93] ws H3.out (by omega)).mono ?_
            rintro e wu ⟨rfl, h4, g4⟩
            have H4 := Lib.hid h4
            have G4 := Lib.hid (grown_then G3.out g4)
            clear h4 g4 H3 G3
            go_wp2
            go_ret
            exact code_one H4.out G4.out 4 _ none 0 0 [] (Wd.ofNil _) (by simp) HRr.out.symm rfl
      · rw [if_neg hyp] at hR
        rw [not_or, Bool.not_eq_true, Bool.not_eq_true] at hyp
        rw [hyp.1] at HSy
        rw [hyp.2] at HSp
        clear hyp
        go_wp2_with fail
        refine (HSy.out _ B2.out).mono ?_
        rintro e w3 ⟨rfl, bb⟩
        have B3 := Lib.hid (below_then B2.out bb)
        clear bb
        go_wp2_with fail
        refine (HSp.out _ B3.out).mono ?_
        rintro e w4 ⟨rfl, bb⟩
        have B4 := Lib.hid (below_then B3.out bb)
        clear bb
        clear HSy HSp B2 B3
        by_cases hpl : pSees W s [40] = true
        · have hi := pSees_i W hpl
          rw [if_pos hpl] at hR
          try dsimp only at hR
          rw [hpl] at HSl
          clear hpl
          go_wp2_with fail
          refine (HSl.out _ B4.out).mono ?_
          rintro e w5 ⟨rfl, bb⟩
          have B5 := Lib.hid (below_then B4.out bb)
          clear bb
          have HC := Lib.hid (H.out.later B5.out)
          have GC := Lib.hid (below_grown B5.out (some g))
          have HLv := Lib.hid (ref18_level g a n c W E nv N s w5 HC.out (by omega) (by omega))
          obtain ⟨p1, p2, p3⟩ := pLevel_i W E s
          have p4 : l = 0 → 0 ≤ (pLevel W E s).bad := by
            intro h9
            unfold pLevel
            rw [if_pos (by omega)]
            exact (pBad_i W E s).2.2.1
          have d1 := HF.out.deep (pLevel W E s)
          have d2 := HF.out.within (pLevel W E s) (by omega)
          have d3 := (pMust_on W E [41]).deep ((pAll W E N l).2 (pLevel W E s)).2
          generalize pLevel W E s = s1 at *
          have HEx := Lib.hid fun w9 h9 => HXX.out g a n c nv s1 w9 h9 ⟨by omega, p4, by omega⟩
          generalize (pAll W E N l).2 s1 = r1 at *
          obtain ⟨code, s2⟩ := r1
          dsimp only at hR d1 d2 d3
          have HM := Lib.hid fun w9 h9 => ref18_must g a n c W E nv N s2 [41] w9 h9 (by omega)
          generalize pMust W E [41] s2 = s3 at *
          have HRr := Lib.hid hR
          clear hR p3 p4 H HFr HXX HF
          go_wp2_with fail
          refine HLv.out.mono ?_
          rintro e w6 ⟨rfl, h6, g6⟩
          have G6 := Lib.hid (grown_then GC.out g6)
          have HE9 := Lib.hid (HEx.out w6 h6)
          have hgl := h6.lt
          clear h6 g6 HEx HLv GC HC
          go_wp2_with fail
          refine HE9.out.mono ?_
          rintro e w7 ⟨v, L, rfl, m7, sm7, th7, h7, g7⟩
          have G7 := Lib.hid (grown_then G6.out g7)
          have HM9 := Lib.hid (HM.out w7 h7)
          have HP7 := Lib.hid h7
          have M7 := Lib.hid m7
          clear h7 g7 m7 HE9 HM
          go_wp2_with fail
          refine HM9.out.mono ?_
          rintro e w8 ⟨rfl, h8, g8⟩
          have H8 := Lib.hid h8
          have G8 := Lib.hid (grown_then G7.out g8)
          have M8 := Lib.hid (mine_past M7.out HP7.out g8 hgl)
          obtain ⟨e0, e1, e2, e3, e4, e5⟩ := h8.cells
          have ef := h8.free 3
          have hsd : s3.deep = s.deep + 1 := by omega
          rw [hsd] at e3
          have HSD := Lib.hid hsd
          have kd : IntKind.i64.wrap (((s.deep + 1 : Nat) : Int) - 1) = (s.deep : Int) := by rw [IntKind.wrap_i64]; omega
          have kd2 : IntKind.i64.wrap (s.deep : Int) = (s.deep : Int) := by rw [IntKind.wrap_i64]; omega
          clear hsd d1 d2 d3 p1 p2
          clear h8 g8 HM9 HP7 M7
          go_wp2
          go_ret
          obtain ⟨h9, g9⟩ := H8.out.set3 s.deep
          exact ⟨v, L, rfl, (mine_past M8.out H8.out g9 hgl).low G6.out.size, by rw [← HRr.out]; exact sm7, th7, by rw [← HRr.out]; dsimp only; rw [show s3.deep - 1 = s.deep by rw [HSD.out]; rfl]; exact h9, grown_then G8.out g9⟩
        · rw [if_neg hpl] at hR
          rw [Bool.not_eq_true] at hpl
          rw [hpl] at HSl
          clear hpl
          go_wp2_with fail
          refine (HSl.out _ B4.out).mono ?_
          rintro e w5 ⟨rfl, bb⟩
          have B5 := Lib.hid (below_then B4.out bb)
          clear bb
          clear HSl B4
          have HFr9 := Lib.hid (HFr.out _ B5.out)
          by_cases hfr : pFree W s = true
          · rw [if_pos hfr] at hR
            have hkk : pKind W s = 2 := by
              have h9 := hfr
              unfold pFree at h9
              simp at h9
              exact h9.1.1.1.1
            have hi := pKind_i W (s := s) (by omega)
            obtain ⟨x, hx⟩ : ∃ x, W[s.i]? = some x := ⟨W[s.i]'hi.2, List.getElem?_eq_getElem _⟩
            have hT : pText W s = x.t := by unfold pText; rw [hx]
            rw [hT] at hR
            have HRr := Lib.hid hR
            have HXw := Lib.hid hx
            rw [hfr] at HFr9
            clear hR hT hfr hkk hx HFr
            go_wp2_with fail
            refine HFr9.out.mono ?_
            rintro e w6 ⟨rfl, b6⟩
            have B6 := Lib.hid (below_then B5.out b6)
            have HC := Lib.hid (H.out.later B6.out)
            have GC := Lib.hid (below_grown B6.out (some g))
            have HFd := Lib.hid fun w9 (b9 : Below w6.heap.size w6 w9) => ref18_find g a n c W E nv N s x.t w9 (HC.out.later b9)
            obtain ⟨e0, e1, e2, e3, e4, e5⟩ := HC.out.cells
            obtain ⟨b, off, rfl, hlt, f0, f1, f2⟩ := HC.out.word HXw.out
            have ef := HC.out.free 1
            have k1 : (s.i : Int) < (n : Int) := by omega
            clear b6 B5 HFr9
            generalize x.t = t at *
            go_wp2
            go_quiet ((go_at_call 95; exact quiet_here (HFd.out _ (below_draws _ _)) ⟨_, rfl⟩))
            go_wp2
            go_ret
            obtain ⟨h9, g9⟩ := (HC.out.later (below_draws w6 _)).set1 (s.i + 1)
            exact code_one h9 (grown_then (grown_pass GC.out (below_draws w6 _)) g9) 5 _ none 0 0 [] (Wd.ofNil _) (by simp) HRr.out.symm (by simp)
          · rw [if_neg hfr] at hR
            rw [Bool.not_eq_true] at hfr
            rw [hfr] at HFr9
            have HRr := Lib.hid hR
            clear hR hfr HFr
            go_wp2_with fail
            refine HFr9.out.mono ?_
            rintro e w6 ⟨rfl, b6⟩
            have B6 := Lib.hid (below_then B5.out b6)
            have GC := Lib.hid (below_grown B6.out (some g))
            have HBd := Lib.hid (ref18_bad g a n c W E nv N s w6 (H.out.later B6.out))
            clear b6 B5 HFr9
            go_wp2_with fail
            refine HBd.out.mono ?_
            rintro e w7 ⟨rfl, h7, g7⟩
            have H7 := Lib.hid h7
            have G7 := Lib.hid (grown_then GC.out g7)
            clear h7 g7
            go_wp2
            go_ret
            exact code_void H7.out G7.out HRr.out.symm rfl
end Go.Proofs.Ythblmpkdcahmkaa

/-
  The document's answer of layer 18: factor, term, Expr.
-/
namespace Go.Proofs.Ythblmpkdcahmkaa
open Go.WideShapes Go.RowKit Go.Deep

theorem nd_news_at (w : World) (x : Nd) (e : TypeId) {z : Nat} (hz : w.heap.size = z) : ∀ j u, ([x].flatMap ndK.cells)[j]? = some u → (w.alloc (.cells #[.int .i64 x.op, .int .i64 x.i, .slice x.a x.n x.c] e)).cell? ((⟨z, 0, none⟩ : Addr).add j) = some u := by
  subst hz
  exact nd_news w x e
theorem sem_len {L : List Nd} {c : List Np} (h : L.map Nd.sem = c) : L.length = c.length := by rw [← h, List.length_map]
theorem thin_snoc {L : List Nd} (h : thinN 20 L) (op i : Int) : thinN 20 (L ++ [⟨op, i, none, 0, 0, []⟩]) := fun x hx => by
  rcases List.mem_append.1 hx with h9 | h9
  · exact h x h9
  · rw [List.mem_singleton.1 h9]; exact Nat.zero_le _
theorem thin_app {L M : List Nd} (h : thinN 20 L) (k : thinN 20 M) : thinN 20 (L ++ M) := fun x hx => (List.mem_append.1 hx).elim (h x) (k x)
/-- A node behind an expression: what comes back. -/
theorem code_more {P St Nt : TypeId} {w0 w w5 : World} {g : Nat} {a : Option Addr} {n c : Nat} {W : List Lw} {E : Nat} {nv v v' : Value} {N : List (List UInt8)} {s' : Ps} {L : List Nd} {cd : List Np} (hp : PS P St w g a n c W E nv N s') (hg : w0.grownBy w (some g)) (hgl : g < w0.heap.size) (hne : St ≠ Nt)
    (hm : ndK.Mine w w0.heap.size Nt v L) (hs : L.map Nd.sem = cd) (ht : thinN 20 L) (op i : Int) {o : Obj} (hrow : ndK.Mine w5 w0.heap.size Nt v' (L ++ [⟨op, i, none, 0, 0, []⟩])) (hgrow : (w.alloc o).grownBy w5 v.ownBlock) {r : List Np × Ps} (hr : r = (cd ++ [(op, i, 0)], s')) :
    Code18 P St Nt g a n c W E nv N r w0 (.returned v') w5 := by
  subst hr
  refine ⟨v', _, rfl, hrow, by rw [List.map_append, hs]; rfl, thin_snoc ht op i, ?_, ?_⟩
  · exact (hp.later (below_alloc w o)).past (hm.later (below_alloc w o)) hgrow hgl hne
  · exact grown_own (grown_pass hg (below_alloc w o)) hgrow (hm.base)
theorem infoNd18 : (Try.prog.info? 80).map (fun i => (i.zero, i.size, i.bytes)) = some (some (.agg #[.int .i64 0, .int .i64 0, .slice none 0 0]), 3, 40) := by kernel_rfl
set_option maxRecDepth 4096 in
set_option maxHeartbeats 16000000 in
theorem ref18_factor (W : List Lw) (E : Nat) (N : List (List UInt8)) (hW : ∀ x ∈ W, Wk x) (hlen : W.length ≤ 100000) (l : Nat)
    (HAt : Does18 68 9 80 Try.prog 89 W E N (pAtom W E N (pAll W E N l).2) (fun s => s.deep + (l + 1) = 41 ∧ s.i ≤ W.length))
    (HFa : 0 < l → Does18 68 9 80 Try.prog 80 W E N (pAll W E N l).1 (fun s => s.deep + l = 41 ∧ s.i ≤ W.length)) :
    Does18 68 9 80 Try.prog 80 W E N (pFac W E N (pAll W E N l).1 (pAll W E N l).2) (fun s => s.deep + (l + 1) = 41 ∧ s.i ≤ W.length) := by
  intro g a n c nv s w h hok
  obtain ⟨hdl, hil⟩ := hok
  have hA := nd_at Try.underlying45 infoNd18
  have hne : 9 ≠ 80 := by decide
  have HAA := Lib.hid HAt
  have HFF := Lib.hid HFa
  have H := Lib.hid h
  have HS := Lib.hid (ref18_sees g a n c W E nv N s [45] w h)
  have HW := Lib.hid hW
  have hgl := h.lt
  have hnl := h.len
  have hbd := h.words.bound
  have HF := Lib.hid (pAll_fine W E N l)
  have HAf := Lib.hid (pAtom_fine W E N (pAll_fine W E N l).2)
  clear h hW HAt HFa
  obtain ⟨R, hR⟩ : ∃ R, pFac W E N (pAll W E N l).1 (pAll W E N l).2 s = R := ⟨_, rfl⟩
  rw [hR]
  unfold pFac at hR
  by_cases hm : pSees W s [45] = true
  · have hi := pSees_i W hm
    rw [if_pos hm] at hR
    try dsimp only at hR
    rw [hm] at HS
    clear hm
    go_enter Try.func80, Try.ntmps80
    go_wp2_with fail
    refine HS.out.mono ?_
    rintro e w1 ⟨rfl, b1⟩
    have B1 := Lib.hid b1
    have HC := Lib.hid (H.out.later b1)
    have HLv := Lib.hid (ref18_level g a n c W E nv N s w1 HC.out (by omega) (by omega))
    obtain ⟨p1, p2, p3⟩ := pLevel_i W E s
    have p4 : l = 0 → 0 ≤ (pLevel W E s).bad := by
      intro h9
      unfold pLevel
      rw [if_pos (by omega)]
      exact (pBad_i W E s).2.2.1
    have d1 := HF.out.1.deep (pLevel W E s)
    have d2 := HF.out.1.within (pLevel W E s) (by omega)
    have d3 := HF.out.1.len (pLevel W E s)
    generalize pLevel W E s = s1 at *
    clear b1 p3 H HAA HAf
    go_wp2_with fail
    refine HLv.out.mono ?_
    rintro e w2 ⟨rfl, h2, g2⟩
    have H2 := Lib.hid h2
    have G2 := Lib.hid (grown_then (below_grown B1.out (some g)) g2)
    have b3 := below_alloc w2 (.cells #[] 80)
    have H3 := Lib.hid (H2.out.later b3)
    have G3 := Lib.hid (grown_pass G2.out b3)
    have hsz3 := G2.out.size
    obtain ⟨e0, e1, e2, e3, e4, e5⟩ := H3.out.cells
    clear h2 g2 b3 HLv HC B1
    by_cases hb : s1.bad < 0
    · rw [if_pos hb] at hR
      have hl0 : 0 < l := by
        rcases Nat.eq_zero_or_pos l with h9 | h9
        · have := p4 h9; omega
        · exact h9
      have HFx := Lib.hid (HFF.out hl0 g a n c nv s1 _ H3.out ⟨by omega, by omega⟩)
      generalize (pAll W E N l).1 s1 = r1 at *
      obtain ⟨code, s2⟩ := r1
      dsimp only at hR d1 d2 d3
      have HRr := Lib.hid hR
      clear hR HF HFF p4
      go_wp2_with fail
      refine HFx.out.mono ?_
      rintro e w4 ⟨v, L, rfl, m4, sm4, th4, h4, g4⟩
      have H4 := Lib.hid h4
      have G4 := Lib.hid (grown_then G3.out g4)
      have M4 := Lib.hid (m4.low (base' := w.heap.size) (by rw [blk_size]; omega))
      have hLl := sem_len sm4
      have hLn : L.length ≤ 100000 := by rw [hLl]; dsimp only; omega
      have SM := Lib.hid sm4
      have TH := Lib.hid th4
      clear h4 g4 m4 sm4 th4 hLl e0 e1 e2 e3 e4 e5 HFx H3 G3 H2 G2
      obtain ⟨e0, e1, e2, e3, e4, e5⟩ := H4.out.cells
      have ef := H4.out.free 3
      rw [show (s2).deep = s.deep + 1 by omega] at e3
      have HSD := Lib.hid (show (s2).deep - 1 = s.deep by omega)
      have kd : IntKind.i64.wrap (((s.deep + 1 : Nat) : Int) - 1) = (s.deep : Int) := by rw [IntKind.wrap_i64]; omega
      have kd2 : IntKind.i64.wrap (s.deep : Int) = (s.deep : Int) := by rw [IntKind.wrap_i64]; omega
      obtain ⟨h9, g9⟩ := H4.out.set3 s.deep
      have H9 := Lib.hid h9
      have G9 := Lib.hid (grown_then G4.out g9)
      have M9 := Lib.hid (mine_past M4.out H4.out g9 hgl)
      clear h9 g9
      go_wp2_with (at_builtin; refine Kin.wpList_append hA rfl _ _ rfl w.heap.size _ L rfl (Kin.Mine.later M9.out (below_alloc _ _)) ⟨_, 0, none⟩ 1 1 [⟨6, 0, none, 0, 0, []⟩] rfl rfl (nd_news_at _ ⟨6, 0, none, 0, 0, []⟩ _ (by simp)) (fun y hy => by rw [List.mem_singleton.1 hy]; exact Wd.ofNil _) (by unfold maxLen; omega) (by show (L.length + 1) * 40 ≤ _; omega) (by rw [blk_size]; have := G9.out.size; omega) ?_)
      intro v' w5 hrow hgrow hnew
      have HR5 := Lib.hid hrow
      have HG5 := Lib.hid hgrow
      clear hrow hgrow hnew
      go_wp2
      go_ret
      exact code_more H9.out G9.out hgl hne M9.out SM.out TH.out 6 0 HR5.out HG5.out (by rw [← HRr.out, HSD.out])
    · rw [if_neg hb] at hR
      have HRr := Lib.hid hR
      have M3 : Hid (ndK.Mine (w2.alloc (.cells #[] 80)) w.heap.size 80 (.slice (some ⟨w2.heap.size, 0, none⟩) 0 0) []) := Lib.hid ((Kin.Mine.void w2 80).low hsz3)
      clear hR HF HFF p4 e0 e1 e2 e3 e4
      obtain ⟨e0, e1, e2, e3, e4, e5⟩ := H3.out.cells
      have ef := H3.out.free 3
      rw [show (s1).deep = s.deep + 1 by omega] at e3
      have HSD := Lib.hid (show (s1).deep - 1 = s.deep by omega)
      have kd : IntKind.i64.wrap (((s.deep + 1 : Nat) : Int) - 1) = (s.deep : Int) := by rw [IntKind.wrap_i64]; omega
      have kd2 : IntKind.i64.wrap (s.deep : Int) = (s.deep : Int) := by rw [IntKind.wrap_i64]; omega
      obtain ⟨h9, g9⟩ := H3.out.set3 s.deep
      have H9 := Lib.hid h9
      have G9 := Lib.hid (grown_then G3.out g9)
      have M9 := Lib.hid (mine_past M3.out H3.out g9 hgl)
      clear h9 g9
      go_wp2_with (at_builtin; refine Kin.wpList_append hA rfl _ _ rfl w.heap.size _ ([] : List Nd) rfl (Kin.Mine.later M9.out (below_alloc _ _)) ⟨_, 0, none⟩ 1 1 [⟨6, 0, none, 0, 0, []⟩] rfl rfl (nd_news_at _ ⟨6, 0, none, 0, 0, []⟩ _ (by simp)) (fun y hy => by rw [List.mem_singleton.1 hy]; exact Wd.ofNil _) (by simp [maxLen]) (by show (0 + 1) * 40 ≤ _; omega) (by rw [blk_size]; have := G9.out.size; omega) ?_)
      intro v' w5 hrow hgrow hnew
      have HR5 := Lib.hid hrow
      have HG5 := Lib.hid hgrow
      clear hrow hgrow hnew
      go_wp2
      go_ret
      exact code_more H9.out G9.out hgl hne M9.out rfl (fun x hx => by cases hx) 6 0 HR5.out HG5.out (by rw [← HRr.out, HSD.out]; rfl)
  · rw [if_neg hm] at hR
    try dsimp only at hR
    rw [Bool.not_eq_true] at hm
    rw [hm] at HS
    clear hm
    go_enter Try.func80, Try.ntmps80
    go_wp2_with fail
    refine HS.out.mono ?_
    rintro e w1 ⟨rfl, b1⟩
    have HC := Lib.hid (H.out.later b1)
    have GC := Lib.hid (below_grown b1 (some g))
    have HAx := Lib.hid (HAA.out g a n c nv s w1 HC.out ⟨hdl, hil⟩)
    have d1 := HAf.out.deep s
    have d2 := HAf.out.within s hil
    have d3 := HAf.out.len s
    generalize pAtom W E N (pAll W E N l).2 s = r1 at *
    obtain ⟨code, s2⟩ := r1
    dsimp only at hR d1 d2 d3
    clear b1 HS H HF HFF HAA HAf
    go_wp2_with fail
    refine HAx.out.mono ?_
    rintro e w4 ⟨v, L, rfl, m4, sm4, th4, h4, g4⟩
    have H4 := Lib.hid h4
    have G4 := Lib.hid (grown_then GC.out g4)
    have M4 := Lib.hid (m4.low (base' := w.heap.size) GC.out.size)
    have hLl := sem_len sm4
    have hLn : L.length ≤ 100000 := by rw [hLl]; dsimp only; omega
    have SM := Lib.hid sm4
    have TH := Lib.hid th4
    have HS4 := Lib.hid (ref18_sees g a n c W E nv N s2 [94] w4 h4)
    clear h4 g4 m4 sm4 th4 hLl HAx HC GC
    by_cases hp : pSees W s2 [94] = true
    · have hi := pSees_i W hp
      rw [if_pos hp] at hR
      rw [hp] at HS4
      clear hp
      go_wp2_with fail
      refine HS4.out.mono ?_
      rintro e w5 ⟨rfl, b5⟩
      have H5 := Lib.hid (H4.out.later b5)
      have G5 := Lib.hid (grown_pass G4.out b5)
      have M5 := Lib.hid (M4.out.later b5)
      obtain ⟨e0, e1, e2, e3, e4, e5⟩ := H5.out.cells
      have ef := H5.out.free 1
      have ki : IntKind.i64.wrap ((s2.i : Int) + 1) = ((s2.i + 1 : Nat) : Int) := by rw [IntKind.wrap_i64]; omega
      obtain ⟨h6, g6⟩ := H5.out.set1 (s2.i + 1)
      have H6 := Lib.hid h6
      have G6 := Lib.hid (grown_then G5.out g6)
      have M6 := Lib.hid (mine_past M5.out H5.out g6 hgl)
      have HS6 := Lib.hid (ref18_sees g a n c W E nv N { s2 with i := s2.i + 1 } [45] _ h6)
      clear b5 h6 g6 HS4 H4 G4 M4
      by_cases hq : pSees W { s2 with i := s2.i + 1 } [45] = true
      · have hi2 := pSees_i W hq
        dsimp only at hi2
        rw [if_pos hq] at hR
        rw [hq] at HS6
        clear hq
        go_wp2_with fail
        refine HS6.out.mono ?_
        rintro e w7 ⟨rfl, b7⟩
        have H7 := Lib.hid (H6.out.later b7)
        have G7 := Lib.hid (grown_pass G6.out b7)
        have M7 := Lib.hid (M6.out.later b7)
        clear e0 e1 e2 e3 e4 e5 ef
        obtain ⟨e0, e1, e2, e3, e4, e5⟩ := H7.out.cells
        have ef := H7.out.free 1
        dsimp only at e1 e3 e5
        have ki2 : IntKind.i64.wrap (((s2.i + 1 : Nat) : Int) + 1) = ((s2.i + 1 + 1 : Nat) : Int) := by rw [IntKind.wrap_i64]; omega
        obtain ⟨h8, g8⟩ := H7.out.set1 (s2.i + 1 + 1)
        have H8 := Lib.hid h8
        have G8 := Lib.hid (grown_then G7.out g8)
        have M8 := Lib.hid (mine_past M7.out H7.out g8 hgl)
        clear b7 h8 g8 HS6
        have hq1 := pSmall_sm W E HW.out ({ s2 with i := s2.i + 1 + 1 })
        have hq2 := (pSmall_on W E).within ({ s2 with i := s2.i + 1 + 1 }) (by dsimp only; omega)
        have HSm := Lib.hid (ref18_small g a n c W E nv N ({ s2 with i := s2.i + 1 + 1 }) _ H8.out HW.out (by dsimp only; omega))
        generalize pSmall W E ({ s2 with i := s2.i + 1 + 1 }) = rq at *
        obtain ⟨q, s9⟩ := rq
        dsimp only at hR hq1 hq2 HSm
        have HRr := Lib.hid hR
        have kq : IntKind.i64.wrap ((-1) * (q : Int)) = -(q : Int) := by rw [IntKind.wrap_i64]; omega
        have kq1 : IntKind.i64.wrap (q : Int) = (q : Int) := by rw [IntKind.wrap_i64]; omega
        have kq2 : IntKind.i64.wrap (-(q : Int)) = -(q : Int) := by rw [IntKind.wrap_i64]; omega
        clear hR
        go_wp2_with fail
        refine HSm.out.mono ?_
        rintro e w9 ⟨rfl, h9, g9⟩
        have H9 := Lib.hid h9
        have G9 := Lib.hid (grown_then G8.out g9)
        have M9 := Lib.hid (mine_past M8.out H8.out g9 hgl)
        clear h9 g9 e0 e1 e2 e3 e4 e5 ef HSm
        go_wp2_with (at_builtin; refine Kin.wpList_append hA rfl _ _ rfl w.heap.size _ L rfl (Kin.Mine.later M9.out (below_alloc _ _)) ⟨_, 0, none⟩ 1 1 [⟨11, -(q : Int), none, 0, 0, []⟩] rfl rfl (nd_news_at _ ⟨11, -(q : Int), none, 0, 0, []⟩ _ (by simp)) (fun y hy => by rw [List.mem_singleton.1 hy]; exact Wd.ofNil _) (by unfold maxLen; omega) (by show (L.length + 1) * 40 ≤ _; omega) (by rw [blk_size]; have := G9.out.size; omega) ?_)
        intro v' w5 hrow hgrow hnew
        have HR5 := Lib.hid hrow
        have HG5 := Lib.hid hgrow
        clear hrow hgrow hnew
        go_wp2
        go_ret
        exact code_more H9.out G9.out hgl hne M9.out SM.out TH.out 11 (-(q : Int)) HR5.out HG5.out (by rw [← HRr.out])
      · rw [if_neg hq] at hR
        rw [Bool.not_eq_true] at hq
        rw [hq] at HS6
        clear hq
        go_wp2_with fail
        refine HS6.out.mono ?_
        rintro e w7 ⟨rfl, b7⟩
        have H7 := Lib.hid (H6.out.later b7)
        have G7 := Lib.hid (grown_pass G6.out b7)
        have M7 := Lib.hid (M6.out.later b7)
        clear e0 e1 e2 e3 e4 e5 ef
        obtain ⟨e0, e1, e2, e3, e4, e5⟩ := H7.out.cells
        have ef := H7.out.free 1
        clear b7 HS6
        have hq1 := pSmall_sm W E HW.out ({ s2 with i := s2.i + 1 })
        have hq2 := (pSmall_on W E).within ({ s2 with i := s2.i + 1 }) (by dsimp only; omega)
        have HSm := Lib.hid (ref18_small g a n c W E nv N ({ s2 with i := s2.i + 1 }) _ H7.out HW.out (by dsimp only; omega))
        generalize pSmall W E ({ s2 with i := s2.i + 1 }) = rq at *
        obtain ⟨q, s9⟩ := rq
        dsimp only at hR hq1 hq2 HSm
        have HRr := Lib.hid hR
        have kq : IntKind.i64.wrap (1 * (q : Int)) = (q : Int) := by rw [IntKind.wrap_i64]; omega
        have kq1 : IntKind.i64.wrap (q : Int) = (q : Int) := by rw [IntKind.wrap_i64]; omega
        have kq2 : IntKind.i64.wrap (-(q : Int)) = -(q : Int) := by rw [IntKind.wrap_i64]; omega
        clear hR
        go_wp2_with fail
        refine HSm.out.mono ?_
        rintro e w9 ⟨rfl, h9, g9⟩
        have H9 := Lib.hid h9
        have G9 := Lib.hid (grown_then G7.out g9)
        have M9 := Lib.hid (mine_past M7.out H7.out g9 hgl)
        clear h9 g9 e0 e1 e2 e3 e4 e5 ef HSm
        go_wp2_with (at_builtin; refine Kin.wpList_append hA rfl _ _ rfl w.heap.size _ L rfl (Kin.Mine.later M9.out (below_alloc _ _)) ⟨_, 0, none⟩ 1 1 [⟨11, (q : Int), none, 0, 0, []⟩] rfl rfl (nd_news_at _ ⟨11, (q : Int), none, 0, 0, []⟩ _ (by simp)) (fun y hy => by rw [List.mem_singleton.1 hy]; exact Wd.ofNil _) (by unfold maxLen; omega) (by show (L.length + 1) * 40 ≤ _; omega) (by rw [blk_size]; have := G9.out.size; omega) ?_)
        intro v' w5 hrow hgrow hnew
        have HR5 := Lib.hid hrow
        have HG5 := Lib.hid hgrow
        clear hrow hgrow hnew
        go_wp2
        go_ret
        exact code_more H9.out G9.out hgl hne M9.out SM.out TH.out 11 (q : Int) HR5.out HG5.out (by rw [← HRr.out])
    · rw [if_neg hp] at hR
      rw [Bool.not_eq_true] at hp
      rw [hp] at HS4
      have HRr := Lib.hid hR
      clear hp hR
      go_wp2_with fail
      refine HS4.out.mono ?_
      rintro e w5 ⟨rfl, b5⟩
      have H5 := Lib.hid (H4.out.later b5)
      have G5 := Lib.hid (grown_pass G4.out b5)
      have M5 := Lib.hid (M4.out.later b5)
      clear b5
      go_wp2
      go_ret
      exact ⟨v, L, rfl, M5.out, by rw [← HRr.out]; exact SM.out, TH.out, by rw [← HRr.out]; exact H5.out, G5.out⟩
end Go.Proofs.Ythblmpkdcahmkaa
