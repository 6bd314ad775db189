/-
  The contracts of package nat (layer 2) at this seat: comparing, reading as a number, the longest of some.
-/
import Derived.Test.YtpaenbikgehgcaaNat
namespace Go.Proofs.Ytpaenbikgehgcaa
open Go.RowKit

theorem or_low {hi lo : Int} (h0 : 0 ≤ hi) (h : hi ≤ 4294967295) (hl0 : 0 ≤ lo) (hl : lo ≤ 4294967295) : bits .or .u64 lo (hi * 4294967296) = lo + hi * 4294967296 := by
  have e := or_words h0 h hl0 hl
  have c : bits .or .u64 lo (hi * 4294967296) = bits .or .u64 (hi * 4294967296) lo := by
    show IntKind.u64.wrap ((BitVec.ofInt 64 lo ||| BitVec.ofInt 64 (hi * 4294967296)).toNat : Int) = IntKind.u64.wrap ((BitVec.ofInt 64 (hi * 4294967296) ||| BitVec.ofInt 64 lo).toNat : Int)
    rw [BitVec.or_comm]
  rw [c, e, Int.add_comm]
theorem or_none {x : Int} (h0 : 0 ≤ x) (h : x ≤ 4294967295) : bits .or .u64 0 x = x := by
  have e := or_words (hi := 0) (lo := x) (by omega) (by omega) h0 h
  simpa using e

end Go.Proofs.Ytpaenbikgehgcaa
