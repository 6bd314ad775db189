/-
  The document's answer of layer 11: Read. Written by genref11d.py.
-/
import Derived.Test.YtjeigdlhjghinaaGreatDoorG24
import Derived.Test.YtjeigdlhjghinaaGreatDoorG21
import Derived.Test.YtjeigdlhjghinaaGreatDoorRef10eM
import Derived.Test.YtjeigdlhjghinaaGreatDoorG10
namespace Go.Proofs.YtjeigdlhjghinaaGreatDoor
open Go.RowKit

set_option maxRecDepth 4096 in
set_option maxHeartbeats 8000000 in
theorem ref11_read (l : List UInt8) (w : World) (hl : l.length ≤ 1000) :
    Calls Tryz.prog 39 #[.string (bs l)] w (fun e w' => ∃ (a : Option Addr) (n c : Nat), e = .returned (.tuple #[.slice a n c, .int .i64 (rowKind l), .int .i64 (rowPlace l)]) ∧ Rw w' a n c (rowVals l) ∧ Below w.heap.size w w') := by
  by_cases hne : l = []
  · subst hne
    have hem : (bs []).toList.isEmpty = true := by rw [bs_list]; rfl
    have e1 : rowKind [] = 0 := by unfold rowKind; rw [if_pos rfl]
    have e2 : rowPlace [] = 0 := by unfold rowPlace; rw [if_pos rfl]
    have e3 : rowVals [] = [] := by unfold rowVals; rw [if_pos (.inl rfl)]
    rw [e1, e2, e3]
    clear e1 e2 e3
    go_enter Tryz.func39, Tryz.ntmps39
    go_wp2
    go_ret3
    exact ⟨_, 0, 0, rfl, Rw.nil _, Below.refl _ _⟩
  · have hz := bs_size l
    have hl0 : 0 < l.length := List.length_pos_iff.2 hne
    have hem : (bs l).toList.isEmpty = false := by
      rw [bs_list]
      cases l with
      | nil => exact absurd rfl hne
      | cons x r => rfl
    obtain ⟨A, hA⟩ : ∃ A, rowKind l = A := ⟨_, rfl⟩
    obtain ⟨P, hP⟩ : ∃ P, rowPlace l = P := ⟨_, rfl⟩
    obtain ⟨VV, hVV⟩ : ∃ VV, rowVals l = VV := ⟨_, rfl⟩
    have HA := Lib.hid hA
    have HP := Lib.hid hP
    have HV := Lib.hid hVV
    rw [hA, hP, hVV]
    clear hA hP hVV
    obtain ⟨i0, hi, hz0, hz1, hz2⟩ := info_parts infoFrac11
    go_enter Tryz.func39, Tryz.ntmps39
    go_wp2
    go_loopw [5, 6, 7] (fun ov fv iv wr => ∃ (f i : Nat) (V : List Rat), fv = .int .i64 (f : Int) ∧ iv = .int .i64 (i : Int) ∧ Hid (ReadAt l f i V) ∧ f ≤ i ∧ i ≤ l.length + 1 ∧ V.length ≤ i ∧ Hid (Row wr w.heap.size 44 ov V) ∧ Hid (Below w.heap.size w wr) ∧ w.heap.size ≤ wr.heap.size) (fun _ _ iv _ => l.length + 1 - (intOf iv).toNat)
    case atStart => exact ⟨0, 0, [], rfl, rfl, Lib.hid (ReadAt.start l), by omega, by omega, by simp, Lib.hid (Row.nil _ _ _), Lib.hid (Below.refl _ _), by omega⟩
    case round =>
      obtain ⟨f, i, V, rfl, rfl, HRd, hfi, hil, hVi, HO, HB, hsz⟩ := hrel
      have hbd := HRd.out.bound
      by_cases hle : i ≤ l.length
      · have hlei : (i : Int) ≤ (l.length : Int) := by omega
        by_cases hlt : i < l.length
        · have hlti : (i : Int) < (l.length : Int) := by omega
          have hget0 := bs_get l i hlt (by rw [bs_size]; omega)
          by_cases hx : (l.getD i 0).toNat = 44
          · rw [hx] at hget0
            have hpiece := fun h => HRd.out.piece hle (fun _ => hx) h
            have hpbad := fun h => HRd.out.bad hne hle (fun _ => hx) h
            clear hx HRd
            obtain ⟨p, hpe⟩ : ∃ p, (l.drop f).take (i - f) = p := ⟨_, rfl⟩
            have hex : (bs l).extract f i = bs p := (bs_between l f i).trans (by rw [hpe])
            have hpl : p.length ≤ 1000 := by rw [← hpe, List.length_take, List.length_drop]; omega
            have HPc := Lib.hid hpiece
            have HPb := Lib.hid hpbad
            rw [hpe] at HPc HPb
            have hpb := figPlace_bound p
            obtain ⟨κ, hκe⟩ : ∃ κ, figKind p = κ := ⟨_, rfl⟩
            obtain ⟨π, hπe⟩ : ∃ π, figPlace p = π := ⟨_, rfl⟩
            obtain ⟨q, hqe⟩ : ∃ q, figVal p = q := ⟨_, rfl⟩
            have HC : ∀ w', Calls Tryz.prog 73 #[.string (bs p)] w' (LstQVV q (.int .i64 κ) (.int .i64 π) w') := fun w' => by rw [← hκe, ← hπe, ← hqe]; exact ref10_read p w' hpl
            rw [hκe] at HPc HPb
            rw [hπe] at HPb hpb
            rw [hqe] at HPc
            clear hpe hpiece hpbad hκe hπe hqe
            have hfi0 : (f : Int) ≤ (i : Int) := by omega
            have hil0 : (i : Int) ≤ (l.length : Int) := by omega
            go_wp2_with fail
            refine (HC _).mono ?_
            rintro e w4 ⟨a4, n4, c4, b4, m4, d4, rfl, h4, g4, bw⟩
            have hsz4 : w.heap.size ≤ w4.heap.size := Nat.le_trans hsz bw.size
            have ba := below_alloc w4 (.cells #[.bool (zneg q.num), .slice a4 n4 c4, .slice b4 m4 d4] 44)
            have bx := below_then bw ba
            replace HB := Lib.hid (below_then HB.out bx)
            replace HO := Lib.hid (HO.out.later bx)
            have XB : Hid ((World.alloc w4 (.cells #[.bool (zneg q.num), .slice a4 n4 c4, .slice b4 m4 d4] 44)).heap[w4.heap.size]? = some (.cells #[.bool (zneg q.num), .slice a4 n4 c4, .slice b4 m4 d4] 44 (0, 0))) := Lib.hid (blk_new w4 _ _)
            have U := Lib.hid (h4.later ba)
            have V4 := Lib.hid (g4.later ba)
            clear bw ba bx h4 g4 HC hsz hex hget0
            unfold frV
            obtain ⟨y0, y1, y2⟩ := fcells_3 XB.out
            by_cases hκ : κ = 0
            · subst hκ
              have HN : Hid (ReadAt l (i + 1) (i + 1) (V ++ [q])) := Lib.hid (HPc.out rfl)
              clear HPc HPb
              obtain ⟨W, hW⟩ : ∃ W, World.alloc w4 (.cells #[.bool (zneg q.num), .slice a4 n4 c4, .slice b4 m4 d4] 44) = W := ⟨_, rfl⟩
              have hWs : W.heap.size = w4.heap.size + 1 := by rw [← hW, blk_size]
              have ba := below_alloc (World.alloc w4 (.cells #[.bool (zneg q.num), .slice a4 n4 c4, .slice b4 m4 d4] 44)) (.cells #[.bool (zneg q.num), .slice a4 n4 c4, .slice b4 m4 d4] 44)
              have HOa := Lib.hid (HO.out.later ba)
              have HBa := Lib.hid (below_then HB.out ba)
              have Ua := Lib.hid (U.out.later ba)
              have Va := Lib.hid (V4.out.later ba)
              have hnw := rx_news (World.alloc w4 (.cells #[.bool (zneg q.num), .slice a4 n4 c4, .slice b4 m4 d4] 44)) q a4 n4 c4 b4 m4 d4 44
              rw [blk_size] at hnw
              have HNW := Lib.hid hnw
              have hVl : V.length ≤ 1000000 := by omega
              clear ba HO HB U V4 XB hnw hW
              go_wp2_with (at_builtin; refine wpList_append_row _ rfl _ _ 22 rfl w.heap.size 44 i0 Tryz.underlying22 hi hz0 hz1 hz2 _ V rfl HOa.out ⟨w4.heap.size + 1, 0, none⟩ q a4 n4 c4 b4 m4 d4 rfl HNW.out Ua.out Va.out hVl (by rw [blk_size, blk_size]; omega) ?_)
              intro mv5 w5 hrow hgrow hbase hcl
              have HO5 := Lib.hid hrow
              have HB5 := Lib.hid (HBa.out.grown hgrow (by rw [blk_size, blk_size]; omega) hbase)
              have hsz5 : w.heap.size ≤ w5.heap.size := Nat.le_trans (by rw [blk_size, blk_size]; omega) hgrow.size
              clear hrow hgrow hbase hcl HOa HBa Ua Va HNW
              go_wp2
              go_roundw
              case rel => exact ⟨i + 1, i + 1, V ++ [q], by go_num, by go_num, HN, by omega, by omega, (by simp only [List.length_append, List.length_cons, List.length_nil]; omega), HO5, HB5, hsz5⟩
              case measure => simp [intOf]; omega
            · obtain ⟨r1, r2, r3⟩ := HPb.out hκ
              rw [HA.out] at r1
              rw [HP.out] at r2
              rw [HV.out] at r3
              subst r1 r2 r3
              clear HPc HPb XB U V4 HO
              have hwr : IntKind.i64.wrap ((f : Int) + π) = (f : Int) + π := by rw [IntKind.wrap_i64]; omega
              go_wp2
              go_ret3
              exact ⟨_, 0, 0, rfl, rw_nil_any _ _, below_then HB.out (below_alloc _ _)⟩
          · have HN : Hid (ReadAt l f (i + 1) V) := Lib.hid (HRd.out.skip hlt hx)
            obtain ⟨x, hxx⟩ : ∃ x, (l.getD i 0).toNat = x := ⟨_, rfl⟩
            rw [hxx] at hget0 hx
            have e44 : ((x : Int) != 44) = true := by simp; omega
            clear hxx hx HRd
            go_wp2
            go_roundw
            case rel => exact ⟨f, i + 1, V, rfl, by go_num, HN, by omega, by omega, by omega, HO, HB, hsz⟩
            case measure => simp [intOf]; omega
        · have hlti : ¬ (i : Int) < (l.length : Int) := by omega
          have hget0 : True := trivial
          have hpiece := fun h => HRd.out.piece hle (fun h2 => absurd h2 hlt) h
          have hpbad := fun h => HRd.out.bad hne hle (fun h2 => absurd h2 hlt) h
          clear HRd
          obtain ⟨p, hpe⟩ : ∃ p, (l.drop f).take (i - f) = p := ⟨_, rfl⟩
          have hex : (bs l).extract f i = bs p := (bs_between l f i).trans (by rw [hpe])
          have hpl : p.length ≤ 1000 := by rw [← hpe, List.length_take, List.length_drop]; omega
          have HPc := Lib.hid hpiece
          have HPb := Lib.hid hpbad
          rw [hpe] at HPc HPb
          have hpb := figPlace_bound p
          obtain ⟨κ, hκe⟩ : ∃ κ, figKind p = κ := ⟨_, rfl⟩
          obtain ⟨π, hπe⟩ : ∃ π, figPlace p = π := ⟨_, rfl⟩
          obtain ⟨q, hqe⟩ : ∃ q, figVal p = q := ⟨_, rfl⟩
          have HC : ∀ w', Calls Tryz.prog 73 #[.string (bs p)] w' (LstQVV q (.int .i64 κ) (.int .i64 π) w') := fun w' => by rw [← hκe, ← hπe, ← hqe]; exact ref10_read p w' hpl
          rw [hκe] at HPc HPb
          rw [hπe] at HPb hpb
          rw [hqe] at HPc
          clear hpe hpiece hpbad hκe hπe hqe
          have hfi0 : (f : Int) ≤ (i : Int) := by omega
          have hil0 : (i : Int) ≤ (l.length : Int) := by omega
          go_wp2_with fail
          refine (HC _).mono ?_
          rintro e w4 ⟨a4, n4, c4, b4, m4, d4, rfl, h4, g4, bw⟩
          have hsz4 : w.heap.size ≤ w4.heap.size := Nat.le_trans hsz bw.size
          have ba := below_alloc w4 (.cells #[.bool (zneg q.num), .slice a4 n4 c4, .slice b4 m4 d4] 44)
          have bx := below_then bw ba
          replace HB := Lib.hid (below_then HB.out bx)
          replace HO := Lib.hid (HO.out.later bx)
          have XB : Hid ((World.alloc w4 (.cells #[.bool (zneg q.num), .slice a4 n4 c4, .slice b4 m4 d4] 44)).heap[w4.heap.size]? = some (.cells #[.bool (zneg q.num), .slice a4 n4 c4, .slice b4 m4 d4] 44 (0, 0))) := Lib.hid (blk_new w4 _ _)
          have U := Lib.hid (h4.later ba)
          have V4 := Lib.hid (g4.later ba)
          clear bw ba bx h4 g4 HC hsz hex hget0
          unfold frV
          obtain ⟨y0, y1, y2⟩ := fcells_3 XB.out
          by_cases hκ : κ = 0
          · subst hκ
            have HN : Hid (ReadAt l (i + 1) (i + 1) (V ++ [q])) := Lib.hid (HPc.out rfl)
            clear HPc HPb
            obtain ⟨W, hW⟩ : ∃ W, World.alloc w4 (.cells #[.bool (zneg q.num), .slice a4 n4 c4, .slice b4 m4 d4] 44) = W := ⟨_, rfl⟩
            have hWs : W.heap.size = w4.heap.size + 1 := by rw [← hW, blk_size]
            have ba := below_alloc (World.alloc w4 (.cells #[.bool (zneg q.num), .slice a4 n4 c4, .slice b4 m4 d4] 44)) (.cells #[.bool (zneg q.num), .slice a4 n4 c4, .slice b4 m4 d4] 44)
            have HOa := Lib.hid (HO.out.later ba)
            have HBa := Lib.hid (below_then HB.out ba)
            have Ua := Lib.hid (U.out.later ba)
            have Va := Lib.hid (V4.out.later ba)
            have hnw := rx_news (World.alloc w4 (.cells #[.bool (zneg q.num), .slice a4 n4 c4, .slice b4 m4 d4] 44)) q a4 n4 c4 b4 m4 d4 44
            rw [blk_size] at hnw
            have HNW := Lib.hid hnw
            have hVl : V.length ≤ 1000000 := by omega
            clear ba HO HB U V4 XB hnw hW
            go_wp2_with (at_builtin; refine wpList_append_row _ rfl _ _ 22 rfl w.heap.size 44 i0 Tryz.underlying22 hi hz0 hz1 hz2 _ V rfl HOa.out ⟨w4.heap.size + 1, 0, none⟩ q a4 n4 c4 b4 m4 d4 rfl HNW.out Ua.out Va.out hVl (by rw [blk_size, blk_size]; omega) ?_)
            intro mv5 w5 hrow hgrow hbase hcl
            have HO5 := Lib.hid hrow
            have HB5 := Lib.hid (HBa.out.grown hgrow (by rw [blk_size, blk_size]; omega) hbase)
            have hsz5 : w.heap.size ≤ w5.heap.size := Nat.le_trans (by rw [blk_size, blk_size]; omega) hgrow.size
            clear hrow hgrow hbase hcl HOa HBa Ua Va HNW
            go_wp2
            go_roundw
            case rel => exact ⟨i + 1, i + 1, V ++ [q], by go_num, by go_num, HN, by omega, by omega, (by simp only [List.length_append, List.length_cons, List.length_nil]; omega), HO5, HB5, hsz5⟩
            case measure => simp [intOf]; omega
          · obtain ⟨r1, r2, r3⟩ := HPb.out hκ
            rw [HA.out] at r1
            rw [HP.out] at r2
            rw [HV.out] at r3
            subst r1 r2 r3
            clear HPc HPb XB U V4 HO
            have hwr : IntKind.i64.wrap ((f : Int) + π) = (f : Int) + π := by rw [IntKind.wrap_i64]; omega
            go_wp2
            go_ret3
            exact ⟨_, 0, 0, rfl, rw_nil_any _ _, below_then HB.out (below_alloc _ _)⟩
      · obtain ⟨r1, r2, r3⟩ := HRd.out.done hne (by omega)
        rw [HA.out] at r1
        rw [HP.out] at r2
        rw [HV.out] at r3
        subst r1 r2 r3
        have hlei : ¬ (i : Int) ≤ (l.length : Int) := by omega
        obtain ⟨a9, c9, rfl, h9⟩ := HO.out.out
        have HF := Lib.hid h9
        clear h9 HO HRd
        go_wp2
        go_ret3
        exact ⟨a9, _, c9, rfl, HF.out, HB.out⟩
end Go.Proofs.YtjeigdlhjghinaaGreatDoor
