/-
  The contracts of the document's answer for layer 2: reading functions.
-/
import Derived.Test.YtdhfnlpolelcpaaRows
import Derived.Test.YtdhfnlpolelcpaaSlice
import Derived.IntWalk
import Derived.Deep.QuietTactic
import Derived.BigQuiet
namespace Go.Proofs.Ytdhfnlpolelcpaa
open Go.RowKit

theorem ref02_at (a : Option Addr) (n cap k : Nat) (l : List Nat) (w : World) (h : Wd w a n cap l) (hk : k ≤ 9223372036854775807) :
    Calls Try.prog 46 #[.slice a n cap, .int .i64 (k : Int)] w fun e w' => e = .returned (.int .u32 ((atw l k : Nat) : Int)) ∧ w = w' := by
  obtain ⟨hb1, hb2⟩ := h.bound
  by_cases hlt : k < n
  · obtain ⟨b, off, rfl, hc⟩ := h.at (by omega)
    have hck := hc k hlt
    clear hc h
    go_enter Try.func46, Try.ntmps46
    go_wp2
    go_ret
    exact ⟨rfl, rfl⟩
  · have ha : atw l k = 0 := atw_ge (by have := h.len; omega)
    have Ha := Lib.hid ha
    clear ha h
    go_enter Try.func46, Try.ntmps46
    go_wp2
    go_ret
    rw [Ha.out]
    exact ⟨rfl, rfl⟩
end Go.Proofs.Ytdhfnlpolelcpaa
