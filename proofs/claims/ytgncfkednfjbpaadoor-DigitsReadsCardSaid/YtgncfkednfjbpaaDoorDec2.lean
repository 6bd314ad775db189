/-
  The public strconv.AppendUint and FormatUint at base 10.
-/
import Derived.Test.YtgncfkednfjbpaaDoorDec
namespace Go.Proofs.YtgncfkednfjbpaaDoor
open Go.RowKit

set_option maxRecDepth 4096 in
theorem dec_append (B n u : Nat) (hu64 : u < 18446744073709551616) (sv : Value) (xs : List Value) (w : World) (hown : w.ownsRow B 5 1 sv n xs) (hB : B ≤ w.heap.size) (hn : n ≤ 1000000) (hT : Hid (Dec10 w)) :
    Calls Tryd.prog 20 #[sv, .int .u64 u, .int .i64 10] w fun e w' => ∃ v', e = .returned v' ∧ w'.ownsRow B 5 1 v' (n + (txt u).length) (xs ++ Lib.byteCells (txt u)) ∧ Below B w w' := by
  have Ho := Lib.hid hown
  clear hown
  go_enter Tryd.func20, Tryd.ntmps20
  go_wp2_with (go_at_call 30; refine (dec_append0 B n u hu64 sv xs _ Ho.out hB hn hT.out).mono ?_; rintro e w1 ⟨v1, rfl, h1, b1⟩; refine Hid.out ?_)
  refine Lib.hid ?_
  go_wp2
  go_ret
  exact ⟨v1, rfl, h1, b1⟩
set_option maxRecDepth 100000 in
set_option maxHeartbeats 6400000 in
/-- From 100 on: the numeral is laid in an array of the call's own and read as a text. -/
theorem dec_format0 (u : Nat) (hu : 100 ≤ u) (hu64 : u < 18446744073709551616) (w : World) (hT : Hid (Dec10 w)) :
    Calls Tryd.prog 40 #[.int .u64 u, .int .i64 10] w (Gives (.string (bs (txt u))) w) := by
  have hu1 : 1 ≤ u := by omega
  have hnd20 : Lib.nDigits u ≤ 20 := by have := Lib.numDigits_eq u hu1 hu64; split at this <;> omega
  have hal : Tryd.prog.arrayLen 60 = 24 := by kernel_rfl
  have hel : Tryd.prog.elem 60 = 5 := by kernel_rfl
  have hsl : ∀ W, (Instr.sliceAt 60 (.pointer (some ⟨w.heap.size, 0, none⟩)) none (some (.int .i64 (Lib.nDigits u : Int))) none).run Tryd.prog W = .ok (.slice (some ⟨w.heap.size, 0, none⟩) (Lib.nDigits u) 24) W := fun W => by
    rw [run_sliceAt_array_h W 60 ⟨w.heap.size, 0, none⟩ Tryd.underlying60 .i64 (Lib.nDigits u : Int) (by omega) (by rw [hal]; omega), hel, hal]
    go_simp
  have hH0 := Lib.holds_zero0 w 60 (Lib.nDigits u) (by omega)
  have hfmt := Any.internal_strconv_formatBase10 (P := Tryd.prog) (ρ := dec_lays_ren) { dec_lays with } w.heap.size 0 24 u (Array.replicate (Lib.nDigits u) 0) (w.alloc (.cells Lib.zeros24 60)) hH0 (by rw [Array.size_replicate]; exact Lib.lt_pow_nDigits u) hu64 (by rw [Array.size_replicate]; omega)
  rw [Array.size_replicate] at hfmt
  have HH0 := Lib.hid hH0
  have Hfmt := Lib.hid hfmt
  have iu : (100 : Int) ≤ (u : Int) := by omega
  clear hH0 hal hel hfmt
  go_enter Tryd.func40, Tryd.ntmps40
  go_wp2_with (first
    | (go_at_call 37; refine (Any.internal_strconv_numDigits (P := Tryd.prog) (ρ := dec_lays_ren) { dec_lays with } u hu1 hu64 _ (Lib.tabIs_alloc (hT.out.tab dec_lays.m17) _)).mono ?_; rintro e w' ⟨rfl, rfl⟩)
    | (go_at_call 38; refine Hfmt.out.mono ?_; rintro e w' ⟨rfl, k, v', dk, rfl, hF⟩; refine Hid.out ?_))
  refine Lib.hid ?_
  have hcv : (convert 43 9 (.slice (some ⟨w.heap.size, 0, none⟩) (Lib.nDigits u) 24)).run Tryd.prog ((Sort.putRow (fun (b : UInt8) => Value.int .u8 (b.toNat : Int)) (w.alloc (.cells Lib.zeros24 60)) w.heap.size 0 dk).drewN k) = .ok (.string (bs (txt u))) ((Sort.putRow (fun (b : UInt8) => Value.int .u8 (b.toNat : Int)) (w.alloc (.cells Lib.zeros24 60)) w.heap.size 0 dk).drewN k) := by
    have h := run_convert_bytes_back (P := Tryd.prog) ((Sort.putRow (fun (b : UInt8) => Value.int .u8 (b.toNat : Int)) (w.alloc (.cells Lib.zeros24 60)) w.heap.size 0 dk).drewN k) 43 9 5 ⟨w.heap.size, 0, none⟩ 24 (Lib.decDigits u) Tryd.underlying43 Tryd.underlying5 Tryd.underlying9 (fun j hj => by
      rw [Lib.row_is_numeral hF j hj, Lib.add_plain, World.cell?_drewN]
      exact Sort.cell?_putRow (fun (b : UInt8) => Value.int .u8 (b.toNat : Int)) _ w.heap.size 0 _ dk HH0.out (by rw [hF.size, Array.size_replicate]) j (by rw [hF.size]; rw [Lib.decDigits_length] at hj; exact hj))
    rw [Lib.decDigits_length, dec_txt] at h
    exact h
  obtain ⟨os, eo⟩ := Lib.fin_at w (.cells Lib.zeros24 60) dk k 0
  have hnx : Below w.heap.size w ((Sort.putRow (fun (b : UInt8) => Value.int .u8 (b.toNat : Int)) (w.alloc (.cells Lib.zeros24 60)) w.heap.size 0 dk).drewN k) := by rw [eo]; exact Lib.below_grow w.heap.size w (Nat.le_refl _) k os
  generalize (Sort.putRow (fun (b : UInt8) => Value.int .u8 (b.toNat : Int)) (w.alloc (.cells Lib.zeros24 60)) w.heap.size 0 dk).drewN k = W2 at hcv hnx ⊢
  clear eo HH0 Hfmt
  go_wp2
  go_ret
  exact ⟨rfl, hnx⟩
theorem dec_format (u : Nat) (hu : 100 ≤ u) (hu64 : u < 18446744073709551616) (w : World) (hT : Hid (Dec10 w)) :
    Calls Tryd.prog 31 #[.int .u64 u, .int .i64 10] w (Gives (.string (bs (txt u))) w) := by
  go_enter Tryd.func31, Tryd.ntmps31
  go_wp2_with (go_at_call 40; refine (dec_format0 u hu hu64 _ hT).mono ?_; rintro e w1 ⟨rfl, b1⟩)
  go_ret
  exact ⟨rfl, b1⟩
end Go.Proofs.YtgncfkednfjbpaaDoor
