/-
  Package lex: Scan.
-/
import Derived.Test.YtblnllilepfheaaLex2
import Derived.Test.YtblnllilepfheaaLex4
import Derived.Test.YtblnllilepfheaaLexPush
import Derived.WalkKit
import Derived.OwnWalk
namespace Go.Proofs.Ytblnllilepfheaa
open Go.RowKit

theorem infoWord38 : (Try.prog.info? 38).map (fun i => (i.zero, i.size, i.bytes)) = some (some (.agg #[.int .i64 0, .string ⟨#[]⟩, .int .i64 0]), 3, 32) := by kernel_rfl
theorem info_word {P : Program} {t : TypeId} (h : (P.info? t).map (fun i => (i.zero, i.size, i.bytes)) = some (some (.agg #[.int .i64 0, .string ⟨#[]⟩, .int .i64 0]), 3, 32)) : ∃ i, P.info? t = some i ∧ i.zero = some (.agg #[.int .i64 0, .string ⟨#[]⟩, .int .i64 0]) ∧ i.size = 3 ∧ i.bytes = 32 := by
  cases hi : P.info? t with
  | none => rw [hi] at h; simp at h
  | some i => rw [hi] at h; simp at h; exact ⟨i, rfl, h⟩
set_option maxRecDepth 4096 in
set_option maxHeartbeats 8000000 in
theorem lex_scan (l : List UInt8) (hl : l.length ≤ 1000000) (w : World) : Calls Try.prog 6 #[.string (bs l)] w (LstS (lexScan l) w) := by
  obtain ⟨i0, hi, hz0, hz1, hz2⟩ := info_word infoWord38
  have hsz := bs_size l
  by_cases hbig : 4000 < l.length
  · have hb : ((l.length : Nat) : Int) > 4000 := by omega
    have hE : lexScan l = ([], 4000) := if_pos hbig
    rw [hE]
    clear hE
    go_enter Try.func6, Try.ntmps6
    go_wp2_with fail
    refine (lex_wrongAt 4000 _).mono ?_
    rintro e w1 ⟨rfl, b1⟩
    unfold faultV
    have hR := blk_later (blk_new w #[.int .i64 0, .int .i64 0, .int .i64 0, .int .i64 0] 25) b1
    have hR0 := blk_cell hR 0
    have hR1 := blk_cell hR 1
    have hR2 := blk_cell hR 2
    have hR3 := blk_cell hR 3
    have hF0 := blk_free hR 0
    have hF1 := blk_free hR 1
    have hF2 := blk_free hR 2
    have hF3 := blk_free hR 3
    have HG4 := Lib.hid (blk_set4 hR (.int .i64 1) (.int .i64 0) (.int .i64 0) (.int .i64 4000))
    have HB4 := Lib.hid (below_set4 (below_then (below_alloc w _) b1) (show w.heap.size ≤ w.heap.size from Nat.le_refl _) (.int .i64 1) (.int .i64 0) (.int .i64 0) (.int .i64 4000))
    simp only [List.getElem?_toArray, List.getElem?_cons_zero, List.getElem?_cons_succ] at hR0 hR1 hR2 hR3
    clear hR b1
    go_wp2
    refine bodyPost_ret (results_tmp_cell Try.results6 _ _ w.heap.size 25 #[.int .i64 1, .int .i64 0, .int .i64 0, .int .i64 4000] (0, 0) _ rfl HG4.out Try.underlying25 rfl (by kernel_rfl)) rfl ?_
    exact ⟨none, 0, 0, rfl, Wxs.nil _, HB4.out⟩
  · have hb : ¬ ((l.length : Nat) : Int) > 4000 := by omega
    have hE : lexScan l = lexGo l 0 false [] := if_neg hbig
    rw [hE]
    clear hE
    obtain ⟨R, hR⟩ : ∃ R, lexGo l 0 false [] = R := ⟨_, rfl⟩
    have HR := Lib.hid hR
    rw [hR]
    clear hR
    have hbig' : l.length ≤ 4000 := by omega
    clear hbig
    go_enter Try.func6, Try.ntmps6
    go_wp2_with fail
    refine (lex_skip l hl 0 (Nat.zero_le _) _).mono ?_
    rintro e w1 ⟨j0, rfl, hs0, ht0, rfl⟩
    have HS0 := Lib.hid hs0
    have HT0 := Lib.hid ht0
    have hj0 := hs0.2.1
    clear hs0 ht0
    go_wp2
    go_loopw [4, 5] (fun v iv wr => ∃ (k : Nat) (ws : List Lw), k ≤ l.length ∧ iv = .int .i64 (k : Int) ∧ ws.length ≤ k ∧ Hid (lexGo (l.drop k) k false ws = R) ∧ Hid (Stops l k) ∧ Hid (Apart ws k (l.drop k)) ∧ Hid (OwnX wr (w.heap.size + 1) 38 v (ws.map Lw.x)) ∧ Hid (Below w.heap.size w wr) ∧ Hid (wr.heap[w.heap.size]? = some (.cells #[.int .i64 0, .int .i64 0, .int .i64 0, .int .i64 0] 25 (0, 0)))) (fun _ iv _ => l.length - (intOf iv).toNat)
    case atStart => exact ⟨j0, [], hj0, rfl, Nat.zero_le _, Lib.hid ((HS0.out.2.2 []).symm.trans HR.out), HT0, Lib.hid (Apart.nil _ _), Lib.hid (OwnX.nil _ _ _), Lib.hid (below_alloc w _), Lib.hid (blk_new w _ _)⟩
    case round =>
      obtain ⟨k, ws, hk, rfl, hwl, HG, HT, HA, HX, HB, HRb⟩ := hrel
      by_cases hlt : k < l.length
      · have hki : (k : Int) < (l.length : Int) := by omega
        have hdr : (bs l).extract k l.length = bs (l.drop k) := lb_drop l k
        have HQ := Lib.hid (lex_first (l.drop k) (by rw [List.length_drop]; omega) wr)
        have hle := (lexFirst_le (l.drop k)).2
        have hk3 := (lexFirst_le (l.drop k)).1
        rw [List.length_drop] at hle
        have HN : Hid ((lexFirst (l.drop k)).1 = 0 → R = ([], (k : Int))) := Lib.hid fun h => by
          have hd := lex_drop hlt (x := l.getD k 0) rfl
          have h9 := HG.out
          have h8 := HA.out
          obtain ⟨q1, q2⟩ := HT.out _ _ hd
          rw [hd] at h9 h8 h
          rw [← h9, lexGo_none h8 q1 q2 h]
        have HL : Hid ((lexFirst (l.drop k)).1 ≠ 0 → lexMost (lexFirst (l.drop k)).1 < (lexFirst (l.drop k)).2 → R = ([], ((k + lexMost (lexFirst (l.drop k)).1 : Nat) : Int))) := Lib.hid fun h g => by
          rw [← HG.out, lexGo_long HA.out h g]
        have HW : Hid ((lexFirst (l.drop k)).1 ≠ 0 → (lexFirst (l.drop k)).2 ≤ lexMost (lexFirst (l.drop k)).1 → lexGo (l.drop (k + (lexFirst (l.drop k)).2)) (k + (lexFirst (l.drop k)).2) false (ws ++ [⟨(lexFirst (l.drop k)).1, (l.drop k).take (lexFirst (l.drop k)).2, k⟩]) = R) := Lib.hid fun h g => by
          rw [← HG.out, lexGo_word HA.out h g, List.drop_drop]
        have HE : Hid ((lexFirst (l.drop k)).1 ≠ 0 → 0 < (lexFirst (l.drop k)).2 ∧ ∀ c r, l.drop (k + (lexFirst (l.drop k)).2) = c :: r → lexMore (lexFirst (l.drop k)).1 c.toNat = false) := Lib.hid fun h => ⟨lexFirst_pos h, fun c r hc => lexFirst_end h (by rw [List.drop_drop]; exact hc)⟩
        generalize lexFirst (l.drop k) = f at *
        obtain ⟨fk, fn⟩ := f
        dsimp only at hle hk3 HN HL HW HE HQ
        go_wp2_with fail
        refine HQ.out.mono ?_
        rintro e w1 ⟨rfl, b1⟩
        have HX1 := Lib.hid (HX.out.later b1)
        have HB1 := Lib.hid (below_then HB.out b1)
        have HR1 := Lib.hid (blk_later HRb.out b1)
        clear b1 HX HB HRb HQ
        by_cases h0 : fk = 0
        · have q0 : ((fk : Int) == 0) = true := by simp [h0]
          have HF := Lib.hid (HN.out h0)
          obtain rfl := HF.out
          clear h0 HN HL HW HE HG HF
          go_wp2_with fail
          refine (lex_wrongAt (k : Int) _).mono ?_
          rintro e w2 ⟨rfl, b2⟩
          unfold faultV
          have hR := blk_later HR1.out b2
          have hR0 := blk_cell hR 0
          have hR1 := blk_cell hR 1
          have hR2 := blk_cell hR 2
          have hR3 := blk_cell hR 3
          have hF0 := blk_free hR 0
          have hF1 := blk_free hR 1
          have hF2 := blk_free hR 2
          have hF3 := blk_free hR 3
          have HG4 := Lib.hid (blk_set4 hR (.int .i64 1) (.int .i64 0) (.int .i64 0) (.int .i64 (k : Int)))
          have HB4 := Lib.hid (below_set4 (below_then HB1.out b2) (show w.heap.size ≤ w.heap.size from Nat.le_refl _) (.int .i64 1) (.int .i64 0) (.int .i64 0) (.int .i64 (k : Int)))
          simp only [List.getElem?_toArray, List.getElem?_cons_zero, List.getElem?_cons_succ] at hR0 hR1 hR2 hR3
          clear hR b2 HB1 HR1
          go_wp2
          refine bodyPost_ret (results_tmp_cell Try.results6 _ _ w.heap.size 25 #[.int .i64 1, .int .i64 0, .int .i64 0, .int .i64 (k : Int)] (0, 0) _ rfl HG4.out Try.underlying25 rfl (by kernel_rfl)) rfl ?_
          exact ⟨none, 0, 0, by rw [lexFault_at]; rfl, Wxs.nil _, HB4.out⟩
        · have q0 : ((fk : Int) == 0) = false := by simp; omega
          have HM := Lib.hid fun w => lex_longest (fk : Int) fk rfl w
          have hmo := lexMost_le fk
          by_cases hm : lexMost fk < fn
          · have HF := Lib.hid (HL.out h0 hm)
            obtain ⟨m, hmm⟩ : ∃ m, lexMost fk = m := ⟨_, rfl⟩
            rw [hmm] at HM hm hmo HF
            obtain rfl := HF.out
            have q1 : (m : Int) < (fn : Int) := by omega
            have k1 : IntKind.i64.wrap ((k : Int) + (m : Int)) = ((k + m : Nat) : Int) := by rw [IntKind.wrap_i64]; omega
            clear h0 HN HL HW HE HG HF hmm
            go_wp2_with fail
            refine (HM.out _).mono ?_
            rintro e w2 ⟨rfl, rfl⟩
            go_wp2_with fail
            refine (HM.out _).mono ?_
            rintro e w2 ⟨rfl, rfl⟩
            go_wp2_with fail
            refine (lex_wrongAt ((k + m : Nat) : Int) _).mono ?_
            rintro e w2 ⟨rfl, b2⟩
            unfold faultV
            have hR := blk_later HR1.out b2
            have hR0 := blk_cell hR 0
            have hR1 := blk_cell hR 1
            have hR2 := blk_cell hR 2
            have hR3 := blk_cell hR 3
            have hF0 := blk_free hR 0
            have hF1 := blk_free hR 1
            have hF2 := blk_free hR 2
            have hF3 := blk_free hR 3
            have HG4 := Lib.hid (blk_set4 hR (.int .i64 1) (.int .i64 0) (.int .i64 0) (.int .i64 ((k + m : Nat) : Int)))
            have HB4 := Lib.hid (below_set4 (below_then HB1.out b2) (show w.heap.size ≤ w.heap.size from Nat.le_refl _) (.int .i64 1) (.int .i64 0) (.int .i64 0) (.int .i64 ((k + m : Nat) : Int)))
            simp only [List.getElem?_toArray, List.getElem?_cons_zero, List.getElem?_cons_succ] at hR0 hR1 hR2 hR3
            clear hR b2 HB1 HR1
            go_wp2
            refine bodyPost_ret (results_tmp_cell Try.results6 _ _ w.heap.size 25 #[.int .i64 1, .int .i64 0, .int .i64 0, .int .i64 ((k + m : Nat) : Int)] (0, 0) _ rfl HG4.out Try.underlying25 rfl (by kernel_rfl)) rfl ?_
            exact ⟨none, 0, 0, by rw [lexFault_at]; rfl, Wxs.nil _, HB4.out⟩
          · have HF := Lib.hid (HW.out h0 (by omega))
            have hE := HE.out h0
            have hpos := hE.1
            have HE2 := Lib.hid hE.2
            clear hE
            obtain ⟨m, hmm⟩ : ∃ m, lexMost fk = m := ⟨_, rfl⟩
            rw [hmm] at HM hm hmo
            have q1 : ¬ (m : Int) < (fn : Int) := by omega
            have hcut : (bs l).extract k (k + fn) = bs ((l.drop k).take fn) := lb_cut l k fn
            have htl : ((l.drop k).take fn).length = fn := by rw [List.length_take, List.length_drop]; omega
            have HTL := Lib.hid htl
            clear htl
            generalize (l.drop k).take fn = t at *
            have k1 : IntKind.i64.wrap ((k : Int) + (fn : Int)) = (k : Int) + (fn : Int) := by rw [IntKind.wrap_i64]; omega
            have k2 : (k : Int) + (fn : Int) ≤ (l.length : Int) := by omega
            have k3 : ((k : Int) + (fn : Int)).toNat = k + fn := by omega
            have k4 : (0 : Int) ≤ (k : Int) + (fn : Int) := by omega
            have k5 : (k : Int) ≤ (k : Int) + (fn : Int) := by omega
            have hfn : fn ≤ 60 := by omega
            have HCL := Lib.hid fun w => lex_clone t w (by rw [HTL.out]; omega)
            have HSK := Lib.hid fun w => (by have h9 := lex_skip l hl (k + fn) (by omega) w; rw [Int.natCast_add] at h9; exact h9 : Calls Try.prog 16 #[.string (bs l), .int .i64 ((k : Int) + (fn : Int))] w (fun e w' => ∃ j : Nat, e = .returned (.int .i64 (j : Int)) ∧ Skips l (k + fn) j ∧ Stops l j ∧ w = w'))
            clear h0 HN HL HW HE HG hmm hle
            go_wp2_with fail
            refine (HM.out _).mono ?_
            rintro e w2 ⟨rfl, rfl⟩
            go_wp2_with fail
            refine (HCL.out _).mono ?_
            rintro e w2 ⟨rfl, b2⟩
            have HX2 := Lib.hid (HX1.out.later b2)
            have HB2 := Lib.hid (below_then HB1.out b2)
            have HR2 := Lib.hid (blk_later HR1.out b2)
            clear b2 HX1 HB1 HR1
            have hbs : w.heap.size + 1 ≤ w2.heap.size := (Array.getElem?_eq_some_iff.1 HR2.out).1
            go_wp2_with (at_builtin; refine wpList_append_x rfl _ _ 23 rfl (w.heap.size + 1) 38 i0 (.agg #[.int .i64 0, .string ⟨#[]⟩, .int .i64 0]) Try.underlying23 hi hz0 hz1 hz2 rfl _ (ws.map Lw.x) rfl (HX2.out.later (below_alloc w2 _)) ⟨w2.heap.size, 0, none⟩ ⟨(fk : Int), t, (k : Int)⟩ rfl (wcells_news _ _ _) (by rw [List.length_map]; omega) (by simp; omega) ?_)
            intro v' w5 hrow hgrow
            have HX5 := Lib.hid hrow
            have HB5 : Hid (Below w.heap.size w w5) := Lib.hid ((below_then HB2.out (below_alloc w2 _)).grown hgrow (by simp; omega) (fun g hg => by have := HX2.out.base g hg; omega))
            have HR5 : Hid (w5.heap[w.heap.size]? = some (.cells #[.int .i64 0, .int .i64 0, .int .i64 0, .int .i64 0] 25 (0, 0))) := Lib.hid (blk_keep (blk_later HR2.out (below_alloc w2 _)) hgrow (fun g hg => by have := HX2.out.base g hg; omega))
            clear hrow hgrow HX2 HB2 HR2
            go_wp2_with fail
            refine (HSK.out _).mono ?_
            rintro e w6 ⟨j, rfl, hs, ht, rfl⟩
            have HS6 := Lib.hid hs
            have HT6 := Lib.hid ht
            have hj1 := hs.1
            have hj2 := hs.2.1
            clear hs ht
            go_wp2
            go_roundw
            case rel => exact ⟨j, ws ++ [⟨fk, t, k⟩], hj2, by go_num, by simp; omega, Lib.hid ((HS6.out.2.2 _).symm.trans HF.out), HT6, Lib.hid (Apart.next HTL.out hj1 HE2.out), Lib.hid (by rw [List.map_append]; exact HX5.out), HB5, HR5⟩
            case measure => simp [intOf]; omega
      · obtain rfl : k = l.length := by omega
        have HF : Hid (R = (ws, -1)) := Lib.hid (by rw [← HG.out, List.drop_length]; rfl)
        obtain rfl := HF.out
        clear HG HF HT HA
        obtain ⟨a9, c9, rfl, h9⟩ := HX.out.slice
        have H9 := Lib.hid h9
        clear h9
        have hR := HRb.out
        have hR0 := blk_cell hR 0
        have hR1 := blk_cell hR 1
        have hR2 := blk_cell hR 2
        have hR3 := blk_cell hR 3
        have hF0 := blk_free hR 0
        have hF1 := blk_free hR 1
        have hF2 := blk_free hR 2
        have hF3 := blk_free hR 3
        have HG4 := Lib.hid (blk_set4 hR (.int .i64 0) (.int .i64 0) (.int .i64 0) (.int .i64 0))
        have HB4 := Lib.hid (below_set4 HB.out (show w.heap.size ≤ w.heap.size from Nat.le_refl _) (.int .i64 0) (.int .i64 0) (.int .i64 0) (.int .i64 0))
        simp only [List.getElem?_toArray, List.getElem?_cons_zero, List.getElem?_cons_succ] at hR0 hR1 hR2 hR3
        clear hR HB
        go_wp2
        refine bodyPost_ret (results_tmp_cell Try.results6 _ _ w.heap.size 25 #[.int .i64 0, .int .i64 0, .int .i64 0, .int .i64 0] (0, 0) _ rfl HG4.out Try.underlying25 rfl (by kernel_rfl)) rfl ?_
        exact ⟨a9, _, c9, rfl, H9.out.stored4 HRb.out 0 0 0 0, HB4.out⟩
end Go.Proofs.Ytblnllilepfheaa
