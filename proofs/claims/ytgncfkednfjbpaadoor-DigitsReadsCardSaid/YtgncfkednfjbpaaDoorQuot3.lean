/-
  The contracts of package quot (layer 5) at this seat: Word, long.
-/
import Derived.Test.YtgncfkednfjbpaaDoorQuot2
namespace Go.Proofs.YtgncfkednfjbpaaDoor
open Go.RowKit

theorem quot_word_none (a : Option Addr) (n cap : Nat) (w : World) : Calls Tryd.prog 28 #[.slice a n cap, .int .u32 0] w fun e w' => e = .returned (.tuple #[.slice none 0 0, .int .u32 0, .bool false]) ∧ w = w' := by
  go_enter Tryd.func28, Tryd.ntmps28
  go_wp2
  go_ret3
  exact ⟨rfl, rfl⟩
/-- Quotient and rest by a word. -/
def WordPost (v x : Nat) (w : World) (e : Ending) (w' : World) : Prop :=
  ∃ (a : Option Addr) (n cap : Nat), e = .returned (.tuple #[.slice a n cap, .int .u32 ((v % x : Nat) : Int), .bool true]) ∧ Wd w' a n cap (dg (v / x)) ∧ Below w.heap.size w w'
/-- The quotient stands in a row of the call's own. -/
def WordOwnPost (v x : Nat) (w : World) (e : Ending) (w' : World) : Prop :=
  ∃ (g n : Nat), e = .returned (.tuple #[.slice (some ⟨g, 0, none⟩) n n, .int .u32 ((v % x : Nat) : Int), .bool true]) ∧ Own w' w.heap.size g n n (dg (v / x)) ∧ Below w.heap.size w w'
set_option maxRecDepth 4096 in
set_option maxHeartbeats 2000000 in
theorem quot_word_own (a : Option Addr) (n cap : Nat) (l : List Nat) (x : Nat) (w : World) (h : Wd w a n cap l) (hn : n ≤ 1000000) (hx : x < 4294967296) (h0 : 0 < x) : Calls Tryd.prog 28 #[.slice a n cap, .int .u32 (x : Int)] w (WordOwnPost (val l) x w) := by
  have hmn : (dg (val l)).length ≤ n := h.trim_le
  have H := Lib.hid h
  have hxz : ((x : Int) == 0) = false := by simp; omega
  clear h
  go_enter Tryd.func28, Tryd.ntmps28
  go_wp2_with fail
  refine (nat_norm _ _ _ _ _ H.out (by omega)).mono ?_
  rintro e w1 ⟨g, m, rfl, Hm, Hown, hB1⟩
  have HO1 : Hid (Own w1 w.heap.size g m m (dg (val l))) := Lib.hid ⟨Hown.out, okw_dg _⟩
  have hm : m ≤ 1000000 := by rw [Hm.out]; omega
  have HL : Hid (okw (dg (val l)) ∧ (dg (val l)).length = m ∧ val (dg (val l)) = val l) := Lib.hid ⟨okw_dg _, Hm.out.symm, val_dg _⟩
  clear Hown Hm hmn H
  generalize dg (val l) = L at HO1 HL
  go_wp2
  go_loopw [5, 7] (fun rv iv wr => ∃ (k r : Nat) (Q : List Nat), k ≤ m ∧ iv = .int .i64 ((k : Int) - 1) ∧ rv = .int .u32 (r : Int) ∧ r < x ∧ Hid (WordAt x L Q k r) ∧ Hid (Own wr w.heap.size g m m Q) ∧ Below w.heap.size w wr) (fun _ iv _ => (intOf iv + 1).toNat)
  case atStart => exact ⟨m, 0, L, by omega, by go_num, rfl, h0, Lib.hid ⟨by rw [top_ge (by rw [HL.out.2.1]; omega)]; simp, h0, fun j _ => rfl, rfl⟩, HO1, hB1⟩
  case round =>
    clear HO1 hB1
    obtain ⟨k, r, Q, hk, rfl, rfl, hr, HW, HO, hB⟩ := hrel
    cases k with
    | zero =>
      have Hfin := Lib.hid (word_end HW.out HL.out.2.2)
      have hr2 : r = val l % x := Hfin.out.2
      have Hq : Hid (val Q = val l / x) := Lib.hid Hfin.out.1
      have Hr := Lib.hid hr2
      clear hr2 Hfin
      go_wp2_with fail
      refine (nat_norm _ _ _ _ _ HO.out.wd (by omega)).mono ?_
      rintro e w2 ⟨g2, n2, rfl, Hm2, h2, b2⟩
      rw [Hq.out] at h2
      have H2 : Hid (Own w2 w.heap.size g2 n2 n2 (dg (val l / x))) := Lib.hid (Own.lower ⟨h2.out, okw_dg _⟩ hB.size)
      clear h2
      go_wp2
      go_ret3
      exact ⟨g2, n2, by rw [← Hr.out]; rfl, H2.out, below_then hB b2⟩
    | succ k =>
      have e1 : ((k + 1 : Nat) : Int) - 1 = (k : Int) := by omega
      rw [e1]
      clear e1
      have hcell := HO.out.cell (k := k) (by omega)
      rw [HW.out.2.2.1 k (by omega)] at hcell
      have hfro := HO.out.1.frozenAt k
      have huw := atw_lt HL.out.1 k
      obtain ⟨u, huu⟩ : ∃ u, u = atw L k := ⟨_, rfl⟩
      rw [← huu] at huw hcell
      have Hu := Lib.hid huu
      have hb := HO.out.base
      obtain ⟨q, hq⟩ : ∃ q, q = (r * 4294967296 + u) / x := ⟨_, rfl⟩
      obtain ⟨s, hs⟩ : ∃ s, s = (r * 4294967296 + u) % x := ⟨_, rfl⟩
      have hqw : q < 4294967296 := by rw [hq]; exact Nat.div_lt_of_lt_mul (by omega)
      have hsx : s < x := by rw [hs]; exact Nat.mod_lt _ h0
      have HQ := Lib.hid hq
      have HS := Lib.hid hs
      have hki : (k : Int) < (m : Int) := by omega
      clear huu hq hs
      go_wp2_with fail
      refine (limb_div_nat r u x q s _ huw hx hr HQ HS).mono ?_
      rintro e w' ⟨rfl, p, rfl⟩
      have HOs := Lib.hid ((show Own (wr.drewN p) w.heap.size g m m Q from HO.out).set k q hqw)
      have HBs := Lib.hid ((below_drewN hB p).setCell (p := ⟨g, k, none⟩) hb.1 (.int .u32 (q : Int)))
      have HW2 : Hid (WordAt x L (Q.set k q) k s) := Lib.hid (by
        have h1 := word_down HW.out (by omega) (by rw [HO.out.len]; omega)
        rwa [← Hu.out, ← HQ.out, ← HS.out] at h1)
      go_wp2
      go_roundw
      case rel => exact ⟨k, s, Q.set k q, by omega, by go_num, rfl, hsx, HW2, HOs, HBs.out⟩
      case measure => simp [intOf]
theorem quot_word (a : Option Addr) (n cap : Nat) (l : List Nat) (x : Nat) (w : World) (h : Wd w a n cap l) (hn : n ≤ 1000000) (hx : x < 4294967296) (h0 : 0 < x) : Calls Tryd.prog 28 #[.slice a n cap, .int .u32 (x : Int)] w (WordPost (val l) x w) :=
  (quot_word_own a n cap l x w h hn hx h0).mono fun _ _ ⟨_, _, he, ho, hb⟩ => ⟨_, _, _, he, ho.wd, hb⟩
end Go.Proofs.YtgncfkednfjbpaaDoor
