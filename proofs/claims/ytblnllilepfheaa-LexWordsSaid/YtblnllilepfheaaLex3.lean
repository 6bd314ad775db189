/-
  Package lex: what a byte is (inLine, isDigit, inName, isSign), how many bytes are such (span), how long a word may be (longest), a fault (wrongAt).
-/
import Derived.Test.YtblnllilepfheaaLexRun
import Derived.Test.YtblnllilepfheaaRef16
import Derived.Test.YtblnllilepfheaaFaultKit
import Derived.WalkKit
import Derived.OwnWalk
namespace Go.Proofs.Ytblnllilepfheaa
open Go.RowKit

set_option maxRecDepth 4096 in
set_option maxHeartbeats 4000000 in
theorem lex_inLine (c : Nat) (w : World) : Calls Try.prog 27 #[.int .u8 (c : Int)] w (Same1 (.bool (lexLine c)) w) := by
  have h : lexLine c = ((c : Int) != 10) := by rw [Bool.eq_iff_iff]; simp [lexLine]; omega
  rw [h]
  go_enter Try.func27, Try.ntmps27
  go_wp2
  go_ret
  exact ⟨rfl, rfl⟩
set_option maxRecDepth 4096 in
set_option maxHeartbeats 4000000 in
theorem lex_isDigit (c : Nat) (w : World) : Calls Try.prog 28 #[.int .u8 (c : Int)] w (Same1 (.bool (lexDig c)) w) := by
  unfold lexDig
  by_cases h1 : 48 ≤ c
  · have h1' : (48 : Int) ≤ (c : Int) := by omega
    have h2 : decide (c ≤ 57) = decide ((c : Int) ≤ 57) := decide_eq_decide.2 (by omega)
    rw [decide_eq_true h1, Bool.true_and, h2]
    go_enter Try.func28, Try.ntmps28
    go_wp2
    go_ret
    exact ⟨rfl, rfl⟩
  · have h1' : ¬ (48 : Int) ≤ (c : Int) := by omega
    rw [decide_eq_false h1, Bool.false_and]
    go_enter Try.func28, Try.ntmps28
    go_wp2
    go_ret
    exact ⟨rfl, rfl⟩
set_option maxRecDepth 4096 in
set_option maxHeartbeats 4000000 in
theorem lex_inName (c : Nat) (w : World) : Calls Try.prog 29 #[.int .u8 (c : Int)] w (Same1 (.bool (lexIn c)) w) := by
  have HD := Lib.hid (lex_isDigit c w)
  obtain ⟨d, hd⟩ : ∃ d, lexDig c = d := ⟨_, rfl⟩
  have hr : ∀ b : Bool, b = decide ((97 ≤ c ∧ c ≤ 122) ∨ (65 ≤ c ∧ c ≤ 90) ∨ c = 95) → lexIn c = (b || d) := by
    intro b hb
    unfold lexIn lexLet
    rw [hb, hd, Bool.eq_iff_iff]
    simp only [Bool.or_eq_true, decide_eq_true_eq, or_assoc]
  rw [hd] at HD
  clear hd
  by_cases g0 : 65 ≤ c ∧ c ≤ 90
  · rw [hr true (by rw [decide_eq_true (by omega)])]
    rw [Bool.true_or]
    have k1 : (65 : Int) ≤ (c : Int) := by omega
    have k2 : (c : Int) ≤ 90 := by omega
    clear hr
    clear HD
    go_enter Try.func29, Try.ntmps29
    go_wp2
    go_ret
    exact ⟨rfl, rfl⟩
  by_cases g1 : 97 ≤ c ∧ c ≤ 122
  · rw [hr true (by rw [decide_eq_true (by omega)])]
    rw [Bool.true_or]
    have k1 : (65 : Int) ≤ (c : Int) := by omega
    have k2 : ¬ (c : Int) ≤ 90 := by omega
    have k3 : (97 : Int) ≤ (c : Int) := by omega
    have k4 : (c : Int) ≤ 122 := by omega
    clear hr
    clear HD
    go_enter Try.func29, Try.ntmps29
    go_wp2
    go_ret
    exact ⟨rfl, rfl⟩
  by_cases g2 : c = 95
  · rw [hr true (by rw [decide_eq_true (by omega)])]
    rw [Bool.true_or]
    have k1 : (65 : Int) ≤ (c : Int) := by omega
    have k2 : ¬ (c : Int) ≤ 90 := by omega
    have k3 : ¬ (97 : Int) ≤ (c : Int) := by omega
    have k4 : ((c : Int) == 95) = true := by simp; omega
    clear hr
    clear HD
    go_enter Try.func29, Try.ntmps29
    go_wp2
    go_ret
    exact ⟨rfl, rfl⟩
  by_cases g3 : c < 65
  · rw [hr false (by rw [decide_eq_false (by omega)])]
    rw [Bool.false_or]
    have k1 : ¬ (65 : Int) ≤ (c : Int) := by omega
    have k3 : ¬ (97 : Int) ≤ (c : Int) := by omega
    have k4 : ((c : Int) == 95) = false := by simp; omega
    clear hr
    go_enter Try.func29, Try.ntmps29
    go_wp2_with fail
    refine HD.out.mono ?_
    rintro e w1 ⟨rfl, rfl⟩
    go_wp2
    go_ret
    exact ⟨rfl, rfl⟩
  by_cases g4 : c < 97
  · rw [hr false (by rw [decide_eq_false (by omega)])]
    rw [Bool.false_or]
    have k1 : (65 : Int) ≤ (c : Int) := by omega
    have k2 : ¬ (c : Int) ≤ 90 := by omega
    have k3 : ¬ (97 : Int) ≤ (c : Int) := by omega
    have k4 : ((c : Int) == 95) = false := by simp; omega
    clear hr
    go_enter Try.func29, Try.ntmps29
    go_wp2_with fail
    refine HD.out.mono ?_
    rintro e w1 ⟨rfl, rfl⟩
    go_wp2
    go_ret
    exact ⟨rfl, rfl⟩
  · rw [hr false (by rw [decide_eq_false (by omega)])]
    rw [Bool.false_or]
    have k1 : (65 : Int) ≤ (c : Int) := by omega
    have k2 : ¬ (c : Int) ≤ 90 := by omega
    have k3 : (97 : Int) ≤ (c : Int) := by omega
    have k5 : ¬ (c : Int) ≤ 122 := by omega
    have k4 : ((c : Int) == 95) = false := by simp; omega
    clear hr
    go_enter Try.func29, Try.ntmps29
    go_wp2_with fail
    refine HD.out.mono ?_
    rintro e w1 ⟨rfl, rfl⟩
    go_wp2
    go_ret
    exact ⟨rfl, rfl⟩
set_option maxRecDepth 4096 in
set_option maxHeartbeats 4000000 in
theorem lex_isSign (c : Nat) (hc : c < 256) (w : World) : Calls Try.prog 30 #[.int .u8 (c : Int)] w (fun e w' => e = .returned (.bool (lexSgn c)) ∧ Below w.heap.size w w') := by
  obtain ⟨R, hR⟩ : ∃ R, lexSgn c = R := ⟨_, rfl⟩
  rw [hR]
  have HR := Lib.hid hR
  clear hR
  have hcv : IntKind.i32.wrap (c : Int) = (c : Int) := by rw [IntKind.wrap_i32]; omega
  go_enter Try.func30, Try.ntmps30
  go_wp2
  go_loopw [2] (fun v w' => ∃ k : Nat, v = .bool false ∧ w' = w.iter ⟨#[43, 45, 42, 47, 94, 40, 41, 91, 93, 44, 59, 61]⟩ k ∧ k ≤ 12 ∧ Hid (R = (lexSigns.drop k).any fun x => x.toNat == c)) (fun _ w' => 12 - w'.iterPos w.heap.size)
  case atStart => exact ⟨0, rfl, rfl, by omega, Lib.hid (HR.out.symm.trans rfl)⟩
  case round =>
    obtain ⟨k, rfl, rfl, hk, HK⟩ := hrel
    by_cases hlt : k < 12
    · have hb : k < lexSigns.length := hlt
      have hlt' : k < (⟨#[43, 45, 42, 47, 94, 40, 41, 91, 93, 44, 59, 61]⟩ : ByteArray).size := hlt
      have hg : ((⟨#[43, 45, 42, 47, 94, 40, 41, 91, 93, 44, 59, 61]⟩ : ByteArray)[k]'hlt').toNat = (lexSigns.getD k 0).toNat := bs_get lexSigns k hb hlt'
      have hdr : lexSigns.drop k = lexSigns.getD k 0 :: lexSigns.drop (k + 1) := by
        rw [List.drop_eq_getElem_cons hb, List.getD_eq_getElem?_getD, List.getElem?_eq_getElem hb]; rfl
      have hx128 : (lexSigns.getD k 0).toNat < 128 := by
        have : ∀ j, j < 12 → (lexSigns.getD j 0).toNat < 128 := by decide
        exact this k hlt
      obtain ⟨x, hx⟩ : ∃ x, lexSigns.getD k 0 = x := ⟨_, rfl⟩
      rw [hx] at hg hdr hx128
      have HK2 : Hid (R = ((x.toNat == c) || (lexSigns.drop (k + 1)).any fun x => x.toNat == c)) := Lib.hid (by have h9 := HK.out; rw [hdr] at h9; exact h9)
      have hnx : ∀ ty, (Instr.next (.pointer (some ⟨w.heap.size, 0, none⟩)) true ty).run Try.prog (w.iter ⟨#[43, 45, 42, 47, 94, 40, 41, 91, 93, 44, 59, 61]⟩ k) = .ok (.tuple #[.bool true, .int .i64 k, .int .i32 x.toNat]) (w.iter ⟨#[43, 45, 42, 47, 94, 40, 41, 91, 93, 44, 59, 61]⟩ (k + 1)) := fun ty => by
        have h9 := run_next_ascii (P := Try.prog) w ⟨#[43, 45, 42, 47, 94, 40, 41, 91, 93, 44, 59, 61]⟩ k ty hlt' (by rw [hg]; exact hx128)
        rw [hg] at h9
        exact h9
      clear hg hdr hx hb
      by_cases hcx : x.toNat = c
      · have hc' : ((c : Int) == (x.toNat : Int)) = true := by simp [hcx]
        obtain rfl : R = true := by rw [HK2.out, hcx]; simp
        go_wp2
        go_ret
        exact ⟨rfl, (Below.refl _ _).alloc (Nat.le_refl _) _⟩
      · have hc' : ((c : Int) == (x.toNat : Int)) = false := by simp; omega
        go_wp2
        go_roundw
        case rel => exact ⟨k + 1, rfl, rfl, by omega, Lib.hid (by rw [HK2.out]; simp [hcx])⟩
        case measure => simp; omega
    · obtain rfl : k = 12 := by omega
      obtain rfl : R = false := by rw [HK.out]; rfl
      have hnx : ∀ ty, (Instr.next (.pointer (some ⟨w.heap.size, 0, none⟩)) true ty).run Try.prog (w.iter ⟨#[43, 45, 42, 47, 94, 40, 41, 91, 93, 44, 59, 61]⟩ 12) = _ := fun ty => run_next_end w _ 12 ty (by decide)
      go_wp2
      go_ret
      exact ⟨rfl, (Below.refl _ _).alloc (Nat.le_refl _) _⟩
set_option maxRecDepth 4096 in
set_option maxHeartbeats 4000000 in
theorem lex_span_inLine (l : List UInt8) (hl : l.length ≤ 1000000) (w : World) : Calls Try.prog 26 #[.string (bs l), .func (.func 27) #[] #[]] w (Same1 (.int .i64 (lexSpan lexLine l : Int)) w) := by
  have hsz := bs_size l
  obtain ⟨R, hR⟩ : ∃ R, lexSpan lexLine l = R := ⟨_, rfl⟩
  rw [hR]
  have HR := Lib.hid hR
  clear hR
  have HC := Lib.hid fun c => lex_inLine c w
  go_enter Try.func26, Try.ntmps26
  go_wp2
  go_loop [8] (fun iv => ∃ k : Nat, iv = .int .i64 (k : Int) ∧ k ≤ l.length ∧ Hid (R = k + lexSpan lexLine (l.drop k))) (fun iv => l.length - (intOf iv).toNat)
  case atStart => exact ⟨0, by go_num, by omega, Lib.hid (by rw [← HR.out]; simp)⟩
  case round =>
    obtain ⟨k, rfl, hk, HK⟩ := hrel
    by_cases hlt : k < l.length
    · obtain ⟨x, hx⟩ : ∃ x, l.getD k 0 = x := ⟨_, rfl⟩
      have hg : ((bs l)[k]'(by rw [hsz]; exact hlt)).toNat = x.toNat := by rw [bs_get l k hlt, hx]
      have hdr := lex_drop hlt hx
      have hki : (k : Int) < (l.length : Int) := by omega
      have HX := Lib.hid (HC.out x.toNat)
      clear hx
      obtain ⟨b, hb⟩ : ∃ b, lexLine x.toNat = b := ⟨_, rfl⟩
      rw [hb] at HX
      cases b
      · obtain rfl : R = k := by rw [HK.out, hdr, lexSpan_no hb]; rfl
        clear hb hdr
        go_wp2_with (go_at_call 27; refine HX.out.mono ?_; rintro e w1 ⟨rfl, rfl⟩)
        go_wp2
        go_ret
        exact ⟨rfl, rfl⟩
      · have HK2 : Hid (R = k + 1 + lexSpan lexLine (l.drop (k + 1))) := Lib.hid (by rw [HK.out, hdr, lexSpan_yes hb]; omega)
        clear hb hdr
        go_wp2_with (go_at_call 27; refine HX.out.mono ?_; rintro e w1 ⟨rfl, rfl⟩)
        go_wp2
        go_round
        case rel => exact ⟨k + 1, by go_num, by omega, HK2⟩
        case measure => simp [intOf]; omega
    · obtain rfl : k = l.length := by omega
      obtain rfl : R = l.length := by rw [HK.out, List.drop_length]; rfl
      go_wp2
      go_ret
      exact ⟨rfl, rfl⟩
set_option maxRecDepth 4096 in
set_option maxHeartbeats 4000000 in
theorem lex_span_isDigit (l : List UInt8) (hl : l.length ≤ 1000000) (w : World) : Calls Try.prog 26 #[.string (bs l), .func (.func 28) #[] #[]] w (Same1 (.int .i64 (lexSpan lexDig l : Int)) w) := by
  have hsz := bs_size l
  obtain ⟨R, hR⟩ : ∃ R, lexSpan lexDig l = R := ⟨_, rfl⟩
  rw [hR]
  have HR := Lib.hid hR
  clear hR
  have HC := Lib.hid fun c => lex_isDigit c w
  go_enter Try.func26, Try.ntmps26
  go_wp2
  go_loop [8] (fun iv => ∃ k : Nat, iv = .int .i64 (k : Int) ∧ k ≤ l.length ∧ Hid (R = k + lexSpan lexDig (l.drop k))) (fun iv => l.length - (intOf iv).toNat)
  case atStart => exact ⟨0, by go_num, by omega, Lib.hid (by rw [← HR.out]; simp)⟩
  case round =>
    obtain ⟨k, rfl, hk, HK⟩ := hrel
    by_cases hlt : k < l.length
    · obtain ⟨x, hx⟩ : ∃ x, l.getD k 0 = x := ⟨_, rfl⟩
      have hg : ((bs l)[k]'(by rw [hsz]; exact hlt)).toNat = x.toNat := by rw [bs_get l k hlt, hx]
      have hdr := lex_drop hlt hx
      have hki : (k : Int) < (l.length : Int) := by omega
      have HX := Lib.hid (HC.out x.toNat)
      clear hx
      obtain ⟨b, hb⟩ : ∃ b, lexDig x.toNat = b := ⟨_, rfl⟩
      rw [hb] at HX
      cases b
      · obtain rfl : R = k := by rw [HK.out, hdr, lexSpan_no hb]; rfl
        clear hb hdr
        go_wp2_with (go_at_call 28; refine HX.out.mono ?_; rintro e w1 ⟨rfl, rfl⟩)
        go_wp2
        go_ret
        exact ⟨rfl, rfl⟩
      · have HK2 : Hid (R = k + 1 + lexSpan lexDig (l.drop (k + 1))) := Lib.hid (by rw [HK.out, hdr, lexSpan_yes hb]; omega)
        clear hb hdr
        go_wp2_with (go_at_call 28; refine HX.out.mono ?_; rintro e w1 ⟨rfl, rfl⟩)
        go_wp2
        go_round
        case rel => exact ⟨k + 1, by go_num, by omega, HK2⟩
        case measure => simp [intOf]; omega
    · obtain rfl : k = l.length := by omega
      obtain rfl : R = l.length := by rw [HK.out, List.drop_length]; rfl
      go_wp2
      go_ret
      exact ⟨rfl, rfl⟩
set_option maxRecDepth 4096 in
set_option maxHeartbeats 4000000 in
theorem lex_span_inName (l : List UInt8) (hl : l.length ≤ 1000000) (w : World) : Calls Try.prog 26 #[.string (bs l), .func (.func 29) #[] #[]] w (Same1 (.int .i64 (lexSpan lexIn l : Int)) w) := by
  have hsz := bs_size l
  obtain ⟨R, hR⟩ : ∃ R, lexSpan lexIn l = R := ⟨_, rfl⟩
  rw [hR]
  have HR := Lib.hid hR
  clear hR
  have HC := Lib.hid fun c => lex_inName c w
  go_enter Try.func26, Try.ntmps26
  go_wp2
  go_loop [8] (fun iv => ∃ k : Nat, iv = .int .i64 (k : Int) ∧ k ≤ l.length ∧ Hid (R = k + lexSpan lexIn (l.drop k))) (fun iv => l.length - (intOf iv).toNat)
  case atStart => exact ⟨0, by go_num, by omega, Lib.hid (by rw [← HR.out]; simp)⟩
  case round =>
    obtain ⟨k, rfl, hk, HK⟩ := hrel
    by_cases hlt : k < l.length
    · obtain ⟨x, hx⟩ : ∃ x, l.getD k 0 = x := ⟨_, rfl⟩
      have hg : ((bs l)[k]'(by rw [hsz]; exact hlt)).toNat = x.toNat := by rw [bs_get l k hlt, hx]
      have hdr := lex_drop hlt hx
      have hki : (k : Int) < (l.length : Int) := by omega
      have HX := Lib.hid (HC.out x.toNat)
      clear hx
      obtain ⟨b, hb⟩ : ∃ b, lexIn x.toNat = b := ⟨_, rfl⟩
      rw [hb] at HX
      cases b
      · obtain rfl : R = k := by rw [HK.out, hdr, lexSpan_no hb]; rfl
        clear hb hdr
        go_wp2_with (go_at_call 29; refine HX.out.mono ?_; rintro e w1 ⟨rfl, rfl⟩)
        go_wp2
        go_ret
        exact ⟨rfl, rfl⟩
      · have HK2 : Hid (R = k + 1 + lexSpan lexIn (l.drop (k + 1))) := Lib.hid (by rw [HK.out, hdr, lexSpan_yes hb]; omega)
        clear hb hdr
        go_wp2_with (go_at_call 29; refine HX.out.mono ?_; rintro e w1 ⟨rfl, rfl⟩)
        go_wp2
        go_round
        case rel => exact ⟨k + 1, by go_num, by omega, HK2⟩
        case measure => simp [intOf]; omega
    · obtain rfl : k = l.length := by omega
      obtain rfl : R = l.length := by rw [HK.out, List.drop_length]; rfl
      go_wp2
      go_ret
      exact ⟨rfl, rfl⟩
set_option maxRecDepth 4096 in
set_option maxHeartbeats 4000000 in
theorem lex_longest (k : Int) (k' : Nat) (hk : k = (k' : Int)) (w : World) : Calls Try.prog 18 #[.int .i64 k] w (Same1 (.int .i64 (lexMost k' : Int)) w) := by
  unfold lexMost
  by_cases h1 : k' = 1
  · have k1 : k = 1 := by omega
    subst h1 k1
    clear hk
    go_enter Try.func18, Try.ntmps18
    go_wp2
    go_ret
    exact ⟨rfl, rfl⟩
  · have k1 : (k == 1) = false := by simp; omega
    by_cases h2 : k' = 2
    · have k2 : k = 2 := by omega
      subst h2 k2
      clear hk h1 k1
      go_enter Try.func18, Try.ntmps18
      go_wp2
      go_ret
      exact ⟨rfl, rfl⟩
    · have k2 : (k == 2) = false := by simp; omega
      rw [if_neg h1, if_neg h2]
      clear h1 h2 hk
      go_enter Try.func18, Try.ntmps18
      go_wp2
      go_ret
      exact ⟨rfl, rfl⟩
set_option maxRecDepth 4096 in
set_option maxHeartbeats 4000000 in
theorem lex_wrongAt (p : Int) (w : World) : Calls Try.prog 15 #[.int .i64 p] w (Gives (faultV 1 0 0 p) w) := by
  go_enter Try.func15, Try.ntmps15
  go_wp2
  refine bodyPost_ret (results_cell_row Try.results15 _ _ w.heap.size 25 #[.int .i64 1, .int .i64 0, .int .i64 0, .int .i64 p] (0, 0) _ rfl (blk_new _ _ _) Try.underlying25 rfl (by kernel_rfl)) rfl ?_
  exact ⟨rfl, below_alloc _ _⟩
end Go.Proofs.Ytblnllilepfheaa
