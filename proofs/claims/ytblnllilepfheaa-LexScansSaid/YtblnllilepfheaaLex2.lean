/-
  Package lex, what it asks of the library: strings.Clone, and strings.Builder's WriteByte, WriteString, String, out of the shelf's contracts.
-/
import Derived.Test.YtblnllilepfheaaLexRun
import Derived.Shelf.Strconv.Clone
import Derived.Shelf.Strings.BuilderK
import Derived.WalkKit
namespace Go.Proofs.Ytblnllilepfheaa
open Go.RowKit

def lexclone_ren : Go.Shelf.Ren := ⟨fun | 316 => 31 | n => n, fun | 0 => 0 | 3 => 3 | 4 => 4 | 9 => 9 | 37 => 52 | 127 => 63 | 5 => 5 | n => n, fun | n => n⟩
theorem lexclone : Go.Proofs.LaysM.n316 Try.prog lexclone_ren := {
  mixed := by kernel_rfl
  f316 := Try.func31.trans (congrArg some (by kernel_rfl))
  t0 := Try.underlying0
  a0 := Try.isAgg0
  z0 := Try.sizeOf0
  v0 := Try.zeroValue0
  t3 := Try.underlying3
  a3 := Try.isAgg3
  z3 := Try.sizeOf3
  v3 := Try.zeroValue3
  t4 := Try.underlying4
  a4 := Try.isAgg4
  z4 := Try.sizeOf4
  v4 := Try.zeroValue4
  t9 := Try.underlying9
  a9 := Try.isAgg9
  z9 := Try.sizeOf9
  v9 := Try.zeroValue9
  t37 := Try.underlying52
  a37 := Try.isAgg52
  z37 := Try.sizeOf52
  v37 := Try.zeroValue52
  t127 := Try.underlying63
  a127 := Try.isAgg63
  z127 := Try.sizeOf63
  v127 := Try.zeroValue63
  t5 := Try.underlying5
  a5 := Try.isAgg5
  z5 := Try.sizeOf5
  v5 := Try.zeroValue5
  i0 := by kernel_rfl
  i3 := by kernel_rfl
  i4 := by kernel_rfl
  i5 := by kernel_rfl
  i9 := by kernel_rfl
  i37 := by kernel_rfl
  i127 := by kernel_rfl }
set_option maxRecDepth 4096 in
set_option maxHeartbeats 4000000 in
theorem lex_clone (l : List UInt8) (w : World) (hl : l.length ≤ 1000000) : Calls Try.prog 19 #[.string (bs l)] w (fun e w' => e = .returned (.string (bs l)) ∧ Below w.heap.size w w') := by
  have hs := bs_size l
  go_enter Try.func19, Try.ntmps19
  go_wp2_with (go_at_call 31; refine (Any.stringslite_Clone lexclone (bs l) _ (by rw [hs]; omega)).mono ?_)
  rintro e w1 ⟨rfl, hb⟩
  go_wp2
  go_ret
  exact ⟨rfl, hb⟩
def lexwb_ren : Go.Shelf.Ren := ⟨fun | 167 => 23 | 240 => 34 | 276 => 35 | n => n, fun | 80 => 60 | 0 => 0 | 4 => 4 | 5 => 5 | 9 => 9 | 20 => 20 | 37 => 52 | 70 => 51 | 72 => 54 | 75 => 56 | 164 => 64 | n => n, fun | n => n⟩
theorem lexwb : Go.Proofs.Lays.n167 Try.prog lexwb_ren := {
  mixed := by kernel_rfl
  f167 := Try.func23.trans (congrArg some (by kernel_rfl))
  f240 := Try.func34.trans (congrArg some (by kernel_rfl))
  f276 := Try.func35.trans (congrArg some (by kernel_rfl))
  t0 := Try.underlying0
  a0 := Try.isAgg0
  z0 := Try.sizeOf0
  v0 := Try.zeroValue0
  t4 := Try.underlying4
  a4 := Try.isAgg4
  z4 := Try.sizeOf4
  v4 := Try.zeroValue4
  t5 := Try.underlying5
  a5 := Try.isAgg5
  z5 := Try.sizeOf5
  v5 := Try.zeroValue5
  t9 := Try.underlying9
  a9 := Try.isAgg9
  z9 := Try.sizeOf9
  v9 := Try.zeroValue9
  t20 := Try.underlying20
  a20 := Try.isAgg20
  z20 := Try.sizeOf20
  v20 := Try.zeroValue20
  t37 := Try.underlying52
  a37 := Try.isAgg52
  z37 := Try.sizeOf52
  v37 := Try.zeroValue52
  t70 := Try.underlying51
  a70 := Try.isAgg51
  z70 := Try.sizeOf51
  v70 := Try.zeroValue51
  t72 := Try.underlying54
  a72 := Try.isAgg54
  z72 := Try.sizeOf54
  v72 := Try.zeroValue54
  t75 := Try.underlying56
  a75 := Try.isAgg56
  z75 := Try.sizeOf56
  v75 := Try.zeroValue56
  t164 := Try.underlying64
  a164 := Try.isAgg64
  z164 := Try.sizeOf64
  v164 := Try.zeroValue64 }
theorem lexwb_extra : Builder.Extra Try.prog lexwb_ren where
  sizeBuilder := by kernel_rfl
  liesBuilder := by kernel_rfl
  t5 := Try.underlying5
  a5 := Try.isAgg5
  z5 := Try.sizeOf5
  v5 := Try.zeroValue5
  infoByte := by kernel_rfl
  cellsByte := by kernel_rfl
  sizeByte := by kernel_rfl
  neB5 := by decide
theorem lex_putByte (B b : Nat) (xs : List UInt8) (c : UInt8) (w : World) (h : Lib.IsBuilderF 54 5 B b (Lib.byteCells xs) w) (hl : xs.length ≤ 100000000) (hB : B ≤ w.heap.size) :
    Calls Try.prog 23 #[.pointer (some ⟨b, 0, none⟩), .int .u8 (c.toNat : Int)] w (fun e w' => e = .returned .nilIface ∧ Lib.IsBuilderF 54 5 B b (Lib.byteCells (xs ++ [c])) w' ∧ Below B w w' ∧ Lib.OthersKept 5 (some b) w w') := by
  refine (Any.Builder_WriteByte_k lexwb lexwb_extra B b (Lib.byteCells xs) (c.toNat : Int) w h (by rw [Lib.byteCells_length]; omega) hB).mono ?_
  rintro e w1 ⟨rfl, h1, hb, hk⟩
  exact ⟨rfl, Or.inr (by rw [Lib.byteCells_append]; exact h1), hb, hk⟩
def lexws_ren : Go.Shelf.Ren := ⟨fun | 166 => 24 | 240 => 34 | 276 => 35 | n => n, fun | 80 => 60 | 5 => 5 | 0 => 0 | 3 => 3 | 4 => 4 | 9 => 9 | 20 => 20 | 37 => 52 | 70 => 51 | 72 => 54 | 75 => 56 | 164 => 64 | n => n, fun | n => n⟩
theorem lexws : Go.Proofs.Lays.n166 Try.prog lexws_ren := {
  mixed := by kernel_rfl
  f166 := Try.func24.trans (congrArg some (by kernel_rfl))
  f240 := Try.func34.trans (congrArg some (by kernel_rfl))
  f276 := Try.func35.trans (congrArg some (by kernel_rfl))
  t0 := Try.underlying0
  a0 := Try.isAgg0
  z0 := Try.sizeOf0
  v0 := Try.zeroValue0
  t3 := Try.underlying3
  a3 := Try.isAgg3
  z3 := Try.sizeOf3
  v3 := Try.zeroValue3
  t4 := Try.underlying4
  a4 := Try.isAgg4
  z4 := Try.sizeOf4
  v4 := Try.zeroValue4
  t9 := Try.underlying9
  a9 := Try.isAgg9
  z9 := Try.sizeOf9
  v9 := Try.zeroValue9
  t20 := Try.underlying20
  a20 := Try.isAgg20
  z20 := Try.sizeOf20
  v20 := Try.zeroValue20
  t37 := Try.underlying52
  a37 := Try.isAgg52
  z37 := Try.sizeOf52
  v37 := Try.zeroValue52
  t70 := Try.underlying51
  a70 := Try.isAgg51
  z70 := Try.sizeOf51
  v70 := Try.zeroValue51
  t72 := Try.underlying54
  a72 := Try.isAgg54
  z72 := Try.sizeOf54
  v72 := Try.zeroValue54
  t75 := Try.underlying56
  a75 := Try.isAgg56
  z75 := Try.sizeOf56
  v75 := Try.zeroValue56
  t164 := Try.underlying64
  a164 := Try.isAgg64
  z164 := Try.sizeOf64
  v164 := Try.zeroValue64 }
theorem lexws_extra : Builder.Extra Try.prog lexws_ren where
  sizeBuilder := by kernel_rfl
  liesBuilder := by kernel_rfl
  t5 := Try.underlying5
  a5 := Try.isAgg5
  z5 := Try.sizeOf5
  v5 := Try.zeroValue5
  infoByte := by kernel_rfl
  cellsByte := by kernel_rfl
  sizeByte := by kernel_rfl
  neB5 := by decide
theorem lex_strCells (l : List UInt8) : Lib.strCells (bs l) = Lib.byteCells l := by
  unfold Lib.strCells Lib.byteCells bs; rfl
theorem lex_putString (B b : Nat) (xs l : List UInt8) (w : World) (h : Lib.IsBuilderF 54 5 B b (Lib.byteCells xs) w) (hl : xs.length ≤ 100000000) (hl2 : l.length ≤ 100000000) (hB : B ≤ w.heap.size) :
    Calls Try.prog 24 #[.pointer (some ⟨b, 0, none⟩), .string (bs l)] w (fun e w' => e = .returned (.tuple #[.int .i64 (l.length : Int), .nilIface]) ∧ Lib.IsBuilderF 54 5 B b (Lib.byteCells (xs ++ l)) w' ∧ Below B w w' ∧ Lib.OthersKept 5 (some b) w w') := by
  refine (Any.Builder_WriteString_k lexws lexws_extra B b (Lib.byteCells xs) (bs l) w h (by rw [Lib.byteCells_length, bs_size]; omega) hB).mono ?_
  rintro e w1 ⟨rfl, h1, hb, hk⟩
  refine ⟨by rw [bs_size], Or.inr (by rw [Lib.byteCells_append, ← lex_strCells l]; exact h1), hb, hk⟩
def lexstr_ren : Go.Shelf.Ren := ⟨fun | 169 => 25 | n => n, fun | 5 => 5 | 0 => 0 | 3 => 3 | 9 => 9 | 37 => 52 | 70 => 51 | 72 => 54 | 127 => 63 | n => n, fun | n => n⟩
theorem lexstr : Go.Proofs.Lays.n169 Try.prog lexstr_ren := {
  mixed := by kernel_rfl
  f169 := Try.func25.trans (congrArg some (by kernel_rfl))
  t0 := Try.underlying0
  a0 := Try.isAgg0
  z0 := Try.sizeOf0
  v0 := Try.zeroValue0
  t3 := Try.underlying3
  a3 := Try.isAgg3
  z3 := Try.sizeOf3
  v3 := Try.zeroValue3
  t9 := Try.underlying9
  a9 := Try.isAgg9
  z9 := Try.sizeOf9
  v9 := Try.zeroValue9
  t37 := Try.underlying52
  a37 := Try.isAgg52
  z37 := Try.sizeOf52
  v37 := Try.zeroValue52
  t70 := Try.underlying51
  a70 := Try.isAgg51
  z70 := Try.sizeOf51
  v70 := Try.zeroValue51
  t72 := Try.underlying54
  a72 := Try.isAgg54
  z72 := Try.sizeOf54
  v72 := Try.zeroValue54
  t127 := Try.underlying63
  a127 := Try.isAgg63
  z127 := Try.sizeOf63
  v127 := Try.zeroValue63 }
theorem lexstr_extra : Builder.Extra Try.prog lexstr_ren where
  sizeBuilder := by kernel_rfl
  liesBuilder := by kernel_rfl
  t5 := Try.underlying5
  a5 := Try.isAgg5
  z5 := Try.sizeOf5
  v5 := Try.zeroValue5
  infoByte := by kernel_rfl
  cellsByte := by kernel_rfl
  sizeByte := by kernel_rfl
  neB5 := by decide
theorem lex_getString (B b : Nat) (xs : List UInt8) (w : World) (h : Lib.IsBuilderF 54 5 B b (Lib.byteCells xs) w) (hB : B ≤ w.heap.size) :
    Calls Try.prog 25 #[.pointer (some ⟨b, 0, none⟩)] w (fun e w' => e = .returned (.string (bs xs)) ∧ Below B w w') := by
  refine (Any.Builder_String_any_k lexstr lexstr_extra B b xs w h hB).mono ?_
  rintro e w1 ⟨rfl, _, hb, _⟩
  exact ⟨rfl, hb⟩
end Go.Proofs.Ytblnllilepfheaa
