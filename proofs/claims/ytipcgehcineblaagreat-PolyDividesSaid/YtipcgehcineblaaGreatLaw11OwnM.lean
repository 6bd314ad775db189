/-
  Layer 11's law: its own size, Is. Written by genref11d.py.
-/
import Derived.Test.YtipcgehcineblaaGreatRef11cM
import Derived.Test.YtipcgehcineblaaGreatG11
namespace Go.Proofs.YtipcgehcineblaaGreat
open Go.RowKit

theorem law11_of_rw (a : Option Addr) (n c : Nat) (qs : List Rat) (w : World) (h : Rw w a n c qs) (hn : n ≤ 1000) :
    Calls Tryz.prog 41 #[.slice a n c] w (fun e w' => ∃ (a' : Option Addr) (c' : Nat), e = .returned (.slice a' n c') ∧ Rw w' a' n c' qs ∧ Below w.heap.size w w') := by
  obtain ⟨L, h1, h2, h3⟩ := h
  exact (law11_of a n c L w h1 hn).mono fun _ _ ⟨a', c', he, h4, hb⟩ => ⟨a', c', he, ⟨L, h4, h2, h3⟩, hb⟩
set_option maxRecDepth 4096 in
set_option maxHeartbeats 4000000 in
theorem law11_is (a0 : Option Addr) (n0 c0 : Nat) (qs0 : List Rat) (a1 : Option Addr) (n1 c1 : Nat) (qs1 : List Rat) (w : World) (h0 : Rw w a0 n0 c0 qs0) (h1 : Rw w a1 n1 c1 qs1) (hn : n0 ≤ 1000) (ht0 : ∀ q ∈ qs0, qlen q ≤ 15728640000) (ht1 : ∀ q ∈ qs1, qlen q ≤ 15728640000) :
    Calls Tryz.prog 13 #[.slice a0 n0 c0, .slice a1 n1 c1] w (Gives (.bool (decide (qs0 = qs1))) w) := by
  obtain ⟨r, hr⟩ : ∃ r, decide (qs0 = qs1) = r := ⟨_, rfl⟩
  have HR := Lib.hid hr
  have H1 := Lib.hid h1
  have HT0 := Lib.hid ht0
  have HT1 := Lib.hid ht1
  rw [hr]
  clear hr h1 ht0 ht1
  go_enter Tryz.func13, Tryz.ntmps13
  go_wp2_with fail
  refine (law11_of_rw a0 n0 c0 qs0 _ h0 hn).mono ?_
  rintro e w1 ⟨a2, c2, rfl, h2, b⟩
  have H2 := Lib.hid h2
  have H3 := Lib.hid (H1.out.later b)
  have HB := Lib.hid b
  clear h2 b H1
  go_wp2_with fail
  refine (ref11_same a2 n0 c2 qs0 a1 n1 c1 qs1 _ H2.out H3.out hn HT0.out HT1.out).mono ?_
  rintro e w2 ⟨rfl, b⟩
  rw [HR.out]
  have HB2 := Lib.hid (below_then HB.out b)
  clear b
  go_wp2
  go_ret
  exact ⟨rfl, HB2.out⟩
end Go.Proofs.YtipcgehcineblaaGreat
