/-
  Several texts of this claim as one, group 17.
-/
import Derived.Test.YthblmpkdcahmkaaG3
import Derived.Test.YthblmpkdcahmkaaG10
import Derived.Test.YthblmpkdcahmkaaG5
import Derived.WalkKit
import Derived.OwnWalk
import Derived.Test.YthblmpkdcahmkaaG16
import Derived.Recover
import Derived.Defers
import Derived.RegionDies
/-
  Package lex: what a byte is (inLine, isDigit, inName, isSign), how many bytes are such (span), how long a word may be (longest), a fault (wrongAt).
-/
namespace Go.Proofs.Ythblmpkdcahmkaa
open Go.RowKit

set_option maxRecDepth 4096 in
set_option maxHeartbeats 4000000 in
theorem lex_inLine (c : Nat) (w : World) : Calls Try.prog 63 #[.int .u8 (c : Int)] w (Same1 (.bool (lexLine c)) w) := by
  have h : lexLine c = ((c : Int) != 10) := by rw [Bool.eq_iff_iff]; simp [lexLine]; omega
  rw [h]
  go_enter Try.func63, Try.ntmps63
  go_wp2
  go_ret
  exact ⟨rfl, rfl⟩
set_option maxRecDepth 4096 in
set_option maxHeartbeats 4000000 in
theorem lex_isDigit (c : Nat) (w : World) : Calls Try.prog 64 #[.int .u8 (c : Int)] w (Same1 (.bool (lexDig c)) w) := by
  unfold lexDig
  by_cases h1 : 48 ≤ c
  · have h1' : (48 : Int) ≤ (c : Int) := by omega
    have h2 : decide (c ≤ 57) = decide ((c : Int) ≤ 57) := decide_eq_decide.2 (by omega)
    rw [decide_eq_true h1, Bool.true_and, h2]
    go_enter Try.func64, Try.ntmps64
    go_wp2
    go_ret
    exact ⟨rfl, rfl⟩
  · have h1' : ¬ (48 : Int) ≤ (c : Int) := by omega
    rw [decide_eq_false h1, Bool.false_and]
    go_enter Try.func64, Try.ntmps64
    go_wp2
    go_ret
    exact ⟨rfl, rfl⟩
set_option maxRecDepth 4096 in
set_option maxHeartbeats 4000000 in
theorem lex_inName (c : Nat) (w : World) : Calls Try.prog 65 #[.int .u8 (c : Int)] w (Same1 (.bool (lexIn c)) w) := by
  have HD := Lib.hid (lex_isDigit c w)
  obtain ⟨d, hd⟩ : ∃ d, lexDig c = d := ⟨_, rfl⟩
  have hr : ∀ b : Bool, b = decide ((97 ≤ c ∧ c ≤ 122) ∨ (65 ≤ c ∧ c ≤ 90) ∨ c = 95) → lexIn c = (b || d) := by
    intro b hb
    unfold lexIn lexLet
    rw [hb, hd, Bool.eq_iff_iff]
    simp only [Bool.or_eq_true, decide_eq_true_eq, or_assoc]
  rw [hd] at HD
  clear hd
  by_cases g0 : 65 ≤ c ∧ c ≤ 90
  · rw [hr true (by rw [decide_eq_true (by omega)])]
    rw [Bool.true_or]
    have k1 : (65 : Int) ≤ (c : Int) := by omega
    have k2 : (c : Int) ≤ 90 := by omega
    clear hr
    clear HD
    go_enter Try.func65, Try.ntmps65
    go_wp2
    go_ret
    exact ⟨rfl, rfl⟩
  by_cases g1 : 97 ≤ c ∧ c ≤ 122
  · rw [hr true (by rw [decide_eq_true (by omega)])]
    rw [Bool.true_or]
    have k1 : (65 : Int) ≤ (c : Int) := by omega
    have k2 : ¬ (c : Int) ≤ 90 := by omega
    have k3 : (97 : Int) ≤ (c : Int) := by omega
    have k4 : (c : Int) ≤ 122 := by omega
    clear hr
    clear HD
    go_enter Try.func65, Try.ntmps65
    go_wp2
    go_ret
    exact ⟨rfl, rfl⟩
  by_cases g2 : c = 95
  · rw [hr true (by rw [decide_eq_true (by omega)])]
    rw [Bool.true_or]
    have k1 : (65 : Int) ≤ (c : Int) := by omega
    have k2 : ¬ (c : Int) ≤ 90 := by omega
    have k3 : ¬ (97 : Int) ≤ (c : Int) := by omega
    have k4 : ((c : Int) == 95) = true := by simp; omega
    clear hr
    clear HD
    go_enter Try.func65, Try.ntmps65
    go_wp2
    go_ret
    exact ⟨rfl, rfl⟩
  by_cases g3 : c < 65
  · rw [hr false (by rw [decide_eq_false (by omega)])]
    rw [Bool.false_or]
    have k1 : ¬ (65 : Int) ≤ (c : Int) := by omega
    have k3 : ¬ (97 : Int) ≤ (c : Int) := by omega
    have k4 : ((c : Int) == 95) = false := by simp; omega
    clear hr
    go_enter Try.func65, Try.ntmps65
    go_wp2_with fail
    refine HD.out.mono ?_
    rintro e w1 ⟨rfl, rfl⟩
    go_wp2
    go_ret
    exact ⟨rfl, rfl⟩
  by_cases g4 : c < 97
  · rw [hr false (by rw [decide_eq_false (by omega)])]
    rw [Bool.false_or]
    have k1 : (65 : Int) ≤ (c : Int) := by omega
    have k2 : ¬ (c : Int) ≤ 90 := by omega
    have k3 : ¬ (97 : Int) ≤ (c : Int) := by omega
    have k4 : ((c : Int) == 95) = false := by simp; omega
    clear hr
    go_enter Try.func65, Try.ntmps65
    go_wp2_with fail
    refine HD.out.mono ?_
    rintro e w1 ⟨rfl, rfl⟩
    go_wp2
    go_ret
    exact ⟨rfl, rfl⟩
  · rw [hr false (by rw [decide_eq_false (by omega)])]
    rw [Bool.false_or]
    have k1 : (65 : Int) ≤ (c : Int) := by omega
    have k2 : ¬ (c : Int) ≤ 90 := by omega
    have k3 : (97 : Int) ≤ (c : Int) := by omega
    have k5 : ¬ (c : Int) ≤ 122 := by omega
    have k4 : ((c : Int) == 95) = false := by simp; omega
    clear hr
    go_enter Try.func65, Try.ntmps65
    go_wp2_with fail
    refine HD.out.mono ?_
    rintro e w1 ⟨rfl, rfl⟩
    go_wp2
    go_ret
    exact ⟨rfl, rfl⟩
set_option maxRecDepth 4096 in
set_option maxHeartbeats 4000000 in
theorem lex_isSign (c : Nat) (hc : c < 256) (w : World) : Calls Try.prog 66 #[.int .u8 (c : Int)] w (fun e w' => e = .returned (.bool (lexSgn c)) ∧ Below w.heap.size w w') := by
  obtain ⟨R, hR⟩ : ∃ R, lexSgn c = R := ⟨_, rfl⟩
  rw [hR]
  have HR := Lib.hid hR
  clear hR
  have hcv : IntKind.i32.wrap (c : Int) = (c : Int) := by rw [IntKind.wrap_i32]; omega
  go_enter Try.func66, Try.ntmps66
  go_wp2
  go_loopw [2] (fun v w' => ∃ k : Nat, v = .bool false ∧ w' = w.iter ⟨#[43, 45, 42, 47, 94, 40, 41, 91, 93, 44, 59, 61]⟩ k ∧ k ≤ 12 ∧ Hid (R = (lexSigns.drop k).any fun x => x.toNat == c)) (fun _ w' => 12 - w'.iterPos w.heap.size)
  case atStart => exact ⟨0, rfl, rfl, by omega, Lib.hid (HR.out.symm.trans rfl)⟩
  case round =>
    obtain ⟨k, rfl, rfl, hk, HK⟩ := hrel
    by_cases hlt : k < 12
    · have hb : k < lexSigns.length := hlt
      have hlt' : k < (⟨#[43, 45, 42, 47, 94, 40, 41, 91, 93, 44, 59, 61]⟩ : ByteArray).size := hlt
      have hg : ((⟨#[43, 45, 42, 47, 94, 40, 41, 91, 93, 44, 59, 61]⟩ : ByteArray)[k]'hlt').toNat = (lexSigns.getD k 0).toNat := bs_get lexSigns k hb hlt'
      have hdr : lexSigns.drop k = lexSigns.getD k 0 :: lexSigns.drop (k + 1) := by
        rw [List.drop_eq_getElem_cons hb, List.getD_eq_getElem?_getD, List.getElem?_eq_getElem hb]; rfl
      have hx128 : (lexSigns.getD k 0).toNat < 128 := by
        have : ∀ j, j < 12 → (lexSigns.getD j 0).toNat < 128 := by decide
        exact this k hlt
      obtain ⟨x, hx⟩ : ∃ x, lexSigns.getD k 0 = x := ⟨_, rfl⟩
      rw [hx] at hg hdr hx128
      have HK2 : Hid (R = ((x.toNat == c) || (lexSigns.drop (k + 1)).any fun x => x.toNat == c)) := Lib.hid (by have h9 := HK.out; rw [hdr] at h9; exact h9)
      have hnx : ∀ ty, (Instr.next (.pointer (some ⟨w.heap.size, 0, none⟩)) true ty).run Try.prog (w.iter ⟨#[43, 45, 42, 47, 94, 40, 41, 91, 93, 44, 59, 61]⟩ k) = .ok (.tuple #[.bool true, .int .i64 k, .int .i32 x.toNat]) (w.iter ⟨#[43, 45, 42, 47, 94, 40, 41, 91, 93, 44, 59, 61]⟩ (k + 1)) := fun ty => by
        have h9 := run_next_ascii (P := Try.prog) w ⟨#[43, 45, 42, 47, 94, 40, 41, 91, 93, 44, 59, 61]⟩ k ty hlt' (by rw [hg]; exact hx128)
        rw [hg] at h9
        exact h9
      clear hg hdr hx hb
      by_cases hcx : x.toNat = c
      · have hc' : ((c : Int) == (x.toNat : Int)) = true := by simp [hcx]
        obtain rfl : R = true := by rw [HK2.out, hcx]; simp
        go_wp2
        go_ret
        exact ⟨rfl, (Below.refl _ _).alloc (Nat.le_refl _) _⟩
      · have hc' : ((c : Int) == (x.toNat : Int)) = false := by simp; omega
        go_wp2
        go_roundw
        case rel => exact ⟨k + 1, rfl, rfl, by omega, Lib.hid (by rw [HK2.out]; simp [hcx])⟩
        case measure => simp; omega
    · obtain rfl : k = 12 := by omega
      obtain rfl : R = false := by rw [HK.out]; rfl
      have hnx : ∀ ty, (Instr.next (.pointer (some ⟨w.heap.size, 0, none⟩)) true ty).run Try.prog (w.iter ⟨#[43, 45, 42, 47, 94, 40, 41, 91, 93, 44, 59, 61]⟩ 12) = _ := fun ty => run_next_end w _ 12 ty (by decide)
      go_wp2
      go_ret
      exact ⟨rfl, (Below.refl _ _).alloc (Nat.le_refl _) _⟩
set_option maxRecDepth 4096 in
set_option maxHeartbeats 4000000 in
theorem lex_span_inLine (l : List UInt8) (hl : l.length ≤ 1000000) (w : World) : Calls Try.prog 62 #[.string (bs l), .func (.func 63) #[] #[]] w (Same1 (.int .i64 (lexSpan lexLine l : Int)) w) := by
  have hsz := bs_size l
  obtain ⟨R, hR⟩ : ∃ R, lexSpan lexLine l = R := ⟨_, rfl⟩
  rw [hR]
  have HR := Lib.hid hR
  clear hR
  have HC := Lib.hid fun c => lex_inLine c w
  go_enter Try.func62, Try.ntmps62
  go_wp2
  go_loop [8] (fun iv => ∃ k : Nat, iv = .int .i64 (k : Int) ∧ k ≤ l.length ∧ Hid (R = k + lexSpan lexLine (l.drop k))) (fun iv => l.length - (intOf iv).toNat)
  case atStart => exact ⟨0, by go_num, by omega, Lib.hid (by rw [← HR.out]; simp)⟩
  case round =>
    obtain ⟨k, rfl, hk, HK⟩ := hrel
    by_cases hlt : k < l.length
    · obtain ⟨x, hx⟩ : ∃ x, l.getD k 0 = x := ⟨_, rfl⟩
      have hg : ((bs l)[k]'(by rw [hsz]; exact hlt)).toNat = x.toNat := by rw [bs_get l k hlt, hx]
      have hdr := lex_drop hlt hx
      have hki : (k : Int) < (l.length : Int) := by omega
      have HX := Lib.hid (HC.out x.toNat)
      clear hx
      obtain ⟨b, hb⟩ : ∃ b, lexLine x.toNat = b := ⟨_, rfl⟩
      rw [hb] at HX
      cases b
      · obtain rfl : R = k := by rw [HK.out, hdr, lexSpan_no hb]; rfl
        clear hb hdr
        go_wp2_with (go_at_call 63; refine HX.out.mono ?_; rintro e w1 ⟨rfl, rfl⟩)
        go_wp2
        go_ret
        exact ⟨rfl, rfl⟩
      · have HK2 : Hid (R = k + 1 + lexSpan lexLine (l.drop (k + 1))) := Lib.hid (by rw [HK.out, hdr, lexSpan_yes hb]; omega)
        clear hb hdr
        go_wp2_with (go_at_call 63; refine HX.out.mono ?_; rintro e w1 ⟨rfl, rfl⟩)
        go_wp2
        go_round
        case rel => exact ⟨k + 1, by go_num, by omega, HK2⟩
        case measure => simp [intOf]; omega
    · obtain rfl : k = l.length := by omega
      obtain rfl : R = l.length := by rw [HK.out, List.drop_length]; rfl
      go_wp2
      go_ret
      exact ⟨rfl, rfl⟩
set_option maxRecDepth 4096 in
set_option maxHeartbeats 4000000 in
theorem lex_span_isDigit (l : List UInt8) (hl : l.length ≤ 1000000) (w : World) : Calls Try.prog 62 #[.string (bs l), .func (.func 64) #[] #[]] w (Same1 (.int .i64 (lexSpan lexDig l : Int)) w) := by
  have hsz := bs_size l
  obtain ⟨R, hR⟩ : ∃ R, lexSpan lexDig l = R := ⟨_, rfl⟩
  rw [hR]
  have HR := Lib.hid hR
  clear hR
  have HC := Lib.hid fun c => lex_isDigit c w
  go_enter Try.func62, Try.ntmps62
  go_wp2
  go_loop [8] (fun iv => ∃ k : Nat, iv = .int .i64 (k : Int) ∧ k ≤ l.length ∧ Hid (R = k + lexSpan lexDig (l.drop k))) (fun iv => l.length - (intOf iv).toNat)
  case atStart => exact ⟨0, by go_num, by omega, Lib.hid (by rw [← HR.out]; simp)⟩
  case round =>
    obtain ⟨k, rfl, hk, HK⟩ := hrel
    by_cases hlt : k < l.length
    · obtain ⟨x, hx⟩ : ∃ x, l.getD k 0 = x := ⟨_, rfl⟩
      have hg : ((bs l)[k]'(by rw [hsz]; exact hlt)).toNat = x.toNat := by rw [bs_get l k hlt, hx]
      have hdr := lex_drop hlt hx
      have hki : (k : Int) < (l.length : Int) := by omega
      have HX := Lib.hid (HC.out x.toNat)
      clear hx
      obtain ⟨b, hb⟩ : ∃ b, lexDig x.toNat = b := ⟨_, rfl⟩
      rw [hb] at HX
      cases b
      · obtain rfl : R = k := by rw [HK.out, hdr, lexSpan_no hb]; rfl
        clear hb hdr
        go_wp2_with (go_at_call 64; refine HX.out.mono ?_; rintro e w1 ⟨rfl, rfl⟩)
        go_wp2
        go_ret
        exact ⟨rfl, rfl⟩
      · have HK2 : Hid (R = k + 1 + lexSpan lexDig (l.drop (k + 1))) := Lib.hid (by rw [HK.out, hdr, lexSpan_yes hb]; omega)
        clear hb hdr
        go_wp2_with (go_at_call 64; refine HX.out.mono ?_; rintro e w1 ⟨rfl, rfl⟩)
        go_wp2
        go_round
        case rel => exact ⟨k + 1, by go_num, by omega, HK2⟩
        case measure => simp [intOf]; omega
    · obtain rfl : k = l.length := by omega
      obtain rfl : R = l.length := by rw [HK.out, List.drop_length]; rfl
      go_wp2
      go_ret
      exact ⟨rfl, rfl⟩
set_option maxRecDepth 4096 in
set_option maxHeartbeats 4000000 in
theorem lex_span_inName (l : List UInt8) (hl : l.length ≤ 1000000) (w : World) : Calls Try.prog 62 #[.string (bs l), .func (.func 65) #[] #[]] w (Same1 (.int .i64 (lexSpan lexIn l : Int)) w) := by
  have hsz := bs_size l
  obtain ⟨R, hR⟩ : ∃ R, lexSpan lexIn l = R := ⟨_, rfl⟩
  rw [hR]
  have HR := Lib.hid hR
  clear hR
  have HC := Lib.hid fun c => lex_inName c w
  go_enter Try.func62, Try.ntmps62
  go_wp2
  go_loop [8] (fun iv => ∃ k : Nat, iv = .int .i64 (k : Int) ∧ k ≤ l.length ∧ Hid (R = k + lexSpan lexIn (l.drop k))) (fun iv => l.length - (intOf iv).toNat)
  case atStart => exact ⟨0, by go_num, by omega, Lib.hid (by rw [← HR.out]; simp)⟩
  case round =>
    obtain ⟨k, rfl, hk, HK⟩ := hrel
    by_cases hlt : k < l.length
    · obtain ⟨x, hx⟩ : ∃ x, l.getD k 0 = x := ⟨_, rfl⟩
      have hg : ((bs l)[k]'(by rw [hsz]; exact hlt)).toNat = x.toNat := by rw [bs_get l k hlt, hx]
      have hdr := lex_drop hlt hx
      have hki : (k : Int) < (l.length : Int) := by omega
      have HX := Lib.hid (HC.out x.toNat)
      clear hx
      obtain ⟨b, hb⟩ : ∃ b, lexIn x.toNat = b := ⟨_, rfl⟩
      rw [hb] at HX
      cases b
      · obtain rfl : R = k := by rw [HK.out, hdr, lexSpan_no hb]; rfl
        clear hb hdr
        go_wp2_with (go_at_call 65; refine HX.out.mono ?_; rintro e w1 ⟨rfl, rfl⟩)
        go_wp2
        go_ret
        exact ⟨rfl, rfl⟩
      · have HK2 : Hid (R = k + 1 + lexSpan lexIn (l.drop (k + 1))) := Lib.hid (by rw [HK.out, hdr, lexSpan_yes hb]; omega)
        clear hb hdr
        go_wp2_with (go_at_call 65; refine HX.out.mono ?_; rintro e w1 ⟨rfl, rfl⟩)
        go_wp2
        go_round
        case rel => exact ⟨k + 1, by go_num, by omega, HK2⟩
        case measure => simp [intOf]; omega
    · obtain rfl : k = l.length := by omega
      obtain rfl : R = l.length := by rw [HK.out, List.drop_length]; rfl
      go_wp2
      go_ret
      exact ⟨rfl, rfl⟩
set_option maxRecDepth 4096 in
set_option maxHeartbeats 4000000 in
theorem lex_longest (k : Int) (k' : Nat) (hk : k = (k' : Int)) (w : World) : Calls Try.prog 38 #[.int .i64 k] w (Same1 (.int .i64 (lexMost k' : Int)) w) := by
  unfold lexMost
  by_cases h1 : k' = 1
  · have k1 : k = 1 := by omega
    subst h1 k1
    clear hk
    go_enter Try.func38, Try.ntmps38
    go_wp2
    go_ret
    exact ⟨rfl, rfl⟩
  · have k1 : (k == 1) = false := by simp; omega
    by_cases h2 : k' = 2
    · have k2 : k = 2 := by omega
      subst h2 k2
      clear hk h1 k1
      go_enter Try.func38, Try.ntmps38
      go_wp2
      go_ret
      exact ⟨rfl, rfl⟩
    · have k2 : (k == 2) = false := by simp; omega
      rw [if_neg h1, if_neg h2]
      clear h1 h2 hk
      go_enter Try.func38, Try.ntmps38
      go_wp2
      go_ret
      exact ⟨rfl, rfl⟩
set_option maxRecDepth 4096 in
set_option maxHeartbeats 4000000 in
theorem lex_wrongAt (p : Int) (w : World) : Calls Try.prog 35 #[.int .i64 p] w (Gives (faultV 1 0 0 p) w) := by
  go_enter Try.func35, Try.ntmps35
  go_wp2
  refine bodyPost_ret (results_cell_row Try.results35 _ _ w.heap.size 28 #[.int .i64 1, .int .i64 0, .int .i64 0, .int .i64 p] (0, 0) _ rfl (blk_new _ _ _) Try.underlying28 rfl (by kernel_rfl)) rfl ?_
  exact ⟨rfl, below_alloc _ _⟩
end Go.Proofs.Ythblmpkdcahmkaa

/-
  Package lex: the word with which a text begins (first), what is no word's (skip).
-/
namespace Go.Proofs.Ythblmpkdcahmkaa
open Go.RowKit

theorem lb_drop (l : List UInt8) (k : Nat) : (bs l).extract k l.length = bs (l.drop k) := by unfold bs; rw [ByteArray.extract_mk]; simp [List.take_of_length_le]
theorem lexMore1f : lexMore 1 = lexDig := funext lexMore1
theorem lexMore2f : lexMore 2 = lexIn := funext lexMore2
/-- What first tells of a text that begins with this byte. -/
theorem first_dig {c : UInt8} {r : List UInt8} (h : lexDig c.toNat = true) : lexFirst (c :: r) = (1, lexSpan lexDig (c :: r)) := by
  have hk : lexKind c.toNat = 1 := by unfold lexKind; rw [if_pos h]
  rw [lexFirst_yes (by omega), hk, lexMore1f, lexSpan_yes h]
theorem first_name {c : UInt8} {r : List UInt8} (h0 : lexDig c.toNat = false) (h : lexIn c.toNat = true) : lexFirst (c :: r) = (2, lexSpan lexIn (c :: r)) := by
  have hl : lexLet c.toNat = true := by simpa [lexIn, h0] using h
  have hk : lexKind c.toNat = 2 := by unfold lexKind; rw [if_neg (by rw [h0]; decide), if_pos hl]
  rw [lexFirst_yes (by omega), hk, lexMore2f, lexSpan_yes h]
theorem first_sign {c : UInt8} {r : List UInt8} (h0 : lexDig c.toNat = false) (h : lexIn c.toNat = false) (hs : lexSgn c.toNat = true) : lexFirst (c :: r) = (3, 1) := by
  have hl : lexLet c.toNat = false := by simpa [lexIn, h0] using h
  have hk : lexKind c.toNat = 3 := by unfold lexKind; rw [if_neg (by rw [h0]; decide), if_neg (by rw [hl]; decide), if_pos hs]
  rw [lexFirst_yes (by omega), hk]
  cases r with
  | nil => rfl
  | cons x r => rw [lexSpan_no (lexMore3 (by decide) (by decide) _)]
theorem first_none {c : UInt8} {r : List UInt8} (h0 : lexDig c.toNat = false) (h : lexIn c.toNat = false) (hs : lexSgn c.toNat = false) : lexFirst (c :: r) = (0, 0) := by
  have hl : lexLet c.toNat = false := by simpa [lexIn, h0] using h
  exact lexFirst_no (by unfold lexKind; rw [if_neg (by rw [h0]; decide), if_neg (by rw [hl]; decide), if_neg (by rw [hs]; decide)])
set_option maxRecDepth 4096 in
set_option maxHeartbeats 4000000 in
theorem lex_first (l : List UInt8) (hl : l.length ≤ 1000000) (w : World) : Calls Try.prog 37 #[.string (bs l)] w (fun e w' => e = .returned (.tuple #[.int .i64 ((lexFirst l).1 : Int), .int .i64 ((lexFirst l).2 : Int)]) ∧ Below w.heap.size w w') := by
  obtain ⟨F, hF⟩ : ∃ F, lexFirst l = F := ⟨_, rfl⟩
  rw [hF]
  have HF := Lib.hid hF
  clear hF
  cases l with
  | nil =>
    obtain rfl := HF.out.symm
    have hem : (bs []).toList.isEmpty = true := by rw [bs_list]; rfl
    go_enter Try.func37, Try.ntmps37
    go_wp2
    go_ret2
    exact ⟨rfl, Below.refl _ _⟩
  | cons c r =>
    have hem : (bs (c :: r)).toList.isEmpty = false := by rw [bs_list]; rfl
    have hsz := bs_size (c :: r)
    have h0 : (0 : Int) < ((c :: r).length : Int) := by simp
    have h0' : 0 < (c :: r).length := by simp
    have hg : ((bs (c :: r))[0]'(by rw [hsz]; exact h0')).toNat = c.toNat := by rw [bs_get (c :: r) 0 h0']; rfl
    have H1 : Hid (lexDig c.toNat = true → F = (1, lexSpan lexDig (c :: r))) := Lib.hid fun h => HF.out.symm.trans (first_dig h)
    have H2 : Hid (lexDig c.toNat = false → lexIn c.toNat = true → F = (2, lexSpan lexIn (c :: r))) := Lib.hid fun h g => HF.out.symm.trans (first_name h g)
    have H3 : Hid (lexDig c.toNat = false → lexIn c.toNat = false → lexSgn c.toNat = true → F = (3, 1)) := Lib.hid fun h g i => HF.out.symm.trans (first_sign h g i)
    have H4 : Hid (lexDig c.toNat = false → lexIn c.toNat = false → lexSgn c.toNat = false → F = (0, 0)) := Lib.hid fun h g i => HF.out.symm.trans (first_none h g i)
    have HD := Lib.hid (lex_isDigit c.toNat w)
    have HN := Lib.hid (lex_inName c.toNat w)
    have HS := Lib.hid (lex_isSign c.toNat c.toNat_lt w)
    generalize c.toNat = x at *
    have HL := Lib.hid hl
    generalize (c :: r) = L at *
    clear hl HF
    cases hd : lexDig x
    · rw [hd] at HD H2 H3 H4
      cases hn : lexIn x
      · rw [hn] at HN H3 H4
        cases hs : lexSgn x
        · rw [hs] at HS H4
          obtain rfl := H4.out rfl rfl rfl
          clear hd hn hs H1 H2 H3 H4
          go_enter Try.func37, Try.ntmps37
          go_wp2_with fail
          refine HD.out.mono ?_
          rintro e w1 ⟨rfl, rfl⟩
          go_wp2_with fail
          refine HN.out.mono ?_
          rintro e w1 ⟨rfl, rfl⟩
          go_wp2_with fail
          refine HS.out.mono ?_
          rintro e w1 ⟨rfl, hb⟩
          go_wp2
          go_ret2
          exact ⟨rfl, hb⟩
        · rw [hs] at HS H3
          obtain rfl := H3.out rfl rfl rfl
          clear hd hn hs H1 H2 H3 H4
          go_enter Try.func37, Try.ntmps37
          go_wp2_with fail
          refine HD.out.mono ?_
          rintro e w1 ⟨rfl, rfl⟩
          go_wp2_with fail
          refine HN.out.mono ?_
          rintro e w1 ⟨rfl, rfl⟩
          go_wp2_with fail
          refine HS.out.mono ?_
          rintro e w1 ⟨rfl, hb⟩
          go_wp2
          go_ret2
          exact ⟨rfl, hb⟩
      · rw [hn] at HN H2
        obtain rfl := H2.out rfl rfl
        clear hd hn H1 H2 H3 H4 HS
        obtain ⟨S, hS⟩ : ∃ S, lexSpan lexIn L = S := ⟨_, rfl⟩
        have HQ := Lib.hid (lex_span_inName L HL.out w)
        rw [hS] at HQ ⊢
        clear hS
        go_enter Try.func37, Try.ntmps37
        go_wp2_with fail
        refine HD.out.mono ?_
        rintro e w1 ⟨rfl, rfl⟩
        go_wp2_with fail
        refine HN.out.mono ?_
        rintro e w1 ⟨rfl, rfl⟩
        go_wp2_with fail
        refine HQ.out.mono ?_
        rintro e w1 ⟨rfl, rfl⟩
        go_wp2
        go_ret2
        exact ⟨rfl, Below.refl _ _⟩
    · rw [hd] at HD H1
      obtain rfl := H1.out rfl
      clear hd H1 H2 H3 H4 HS HN
      obtain ⟨S, hS⟩ : ∃ S, lexSpan lexDig L = S := ⟨_, rfl⟩
      have HQ := Lib.hid (lex_span_isDigit L HL.out w)
      rw [hS] at HQ ⊢
      clear hS
      go_enter Try.func37, Try.ntmps37
      go_wp2_with fail
      refine HD.out.mono ?_
      rintro e w1 ⟨rfl, rfl⟩
      go_wp2_with fail
      refine HQ.out.mono ?_
      rintro e w1 ⟨rfl, rfl⟩
      go_wp2
      go_ret2
      exact ⟨rfl, Below.refl _ _⟩
set_option maxRecDepth 4096 in
set_option maxHeartbeats 4000000 in
theorem lex_skip (l : List UInt8) (hl : l.length ≤ 1000000) (i : Nat) (hi : i ≤ l.length) (w : World) : Calls Try.prog 36 #[.string (bs l), .int .i64 (i : Int)] w (fun e w' => ∃ j : Nat, e = .returned (.int .i64 (j : Int)) ∧ Skips l i j ∧ Stops l j ∧ w = w') := by
  have hsz := bs_size l
  go_enter Try.func36, Try.ntmps36
  go_wp2
  go_loop [1] (fun iv => ∃ k : Nat, iv = .int .i64 (k : Int) ∧ k ≤ l.length ∧ Hid (Skips l i k)) (fun iv => l.length - (intOf iv).toNat)
  case atStart => exact ⟨i, rfl, hi, Lib.hid (Skips.refl hi)⟩
  case round =>
    obtain ⟨k, rfl, hk, HK⟩ := hrel
    by_cases hlt : k < l.length
    · obtain ⟨x, hx⟩ : ∃ x, l.getD k 0 = x := ⟨_, rfl⟩
      have hg : ((bs l)[k]'(by rw [hsz]; exact hlt)).toNat = x.toNat := by rw [bs_get l k hlt, hx]
      have hki : (k : Int) < (l.length : Int) := by omega
      have HX := Lib.hid hx
      clear hx
      by_cases h32 : x.toNat = 32
      · have q32 : ((x.toNat : Int) == 32) = true := by simp; omega
        have HS : Hid (Skips l i (k + 1)) := Lib.hid (HK.out.trans (Skips.blank hlt HX.out (by simp [lexBlank, h32])))
        have k1 : IntKind.i64.wrap ((k : Int) + 1) = (k : Int) + 1 := by rw [IntKind.wrap_i64]; omega
        clear h32
        go_wp2
        go_round
        case rel => exact ⟨k + 1, by go_num, by omega, HS⟩
        case measure => simp [intOf]; omega
      by_cases h9 : x.toNat = 9
      · have q32 : ((x.toNat : Int) == 32) = false := by simp; omega
        have q9 : ((x.toNat : Int) == 9) = true := by simp; omega
        have HS : Hid (Skips l i (k + 1)) := Lib.hid (HK.out.trans (Skips.blank hlt HX.out (by simp [lexBlank, h9])))
        have k1 : IntKind.i64.wrap ((k : Int) + 1) = (k : Int) + 1 := by rw [IntKind.wrap_i64]; omega
        clear h9
        go_wp2
        go_round
        case rel => exact ⟨k + 1, by go_num, by omega, HS⟩
        case measure => simp [intOf]; omega
      by_cases h10 : x.toNat = 10
      · have q32 : ((x.toNat : Int) == 32) = false := by simp; omega
        have q9 : ((x.toNat : Int) == 9) = false := by simp; omega
        have q10 : ((x.toNat : Int) == 10) = true := by simp; omega
        have HS : Hid (Skips l i (k + 1)) := Lib.hid (HK.out.trans (Skips.blank hlt HX.out (by simp [lexBlank, h10])))
        have k1 : IntKind.i64.wrap ((k : Int) + 1) = (k : Int) + 1 := by rw [IntKind.wrap_i64]; omega
        clear h10
        go_wp2
        go_round
        case rel => exact ⟨k + 1, by go_num, by omega, HS⟩
        case measure => simp [intOf]; omega
      by_cases h13 : x.toNat = 13
      · have q32 : ((x.toNat : Int) == 32) = false := by simp; omega
        have q9 : ((x.toNat : Int) == 9) = false := by simp; omega
        have q10 : ((x.toNat : Int) == 10) = false := by simp; omega
        have q13 : ((x.toNat : Int) == 13) = true := by simp; omega
        have HS : Hid (Skips l i (k + 1)) := Lib.hid (HK.out.trans (Skips.blank hlt HX.out (by simp [lexBlank, h13])))
        have k1 : IntKind.i64.wrap ((k : Int) + 1) = (k : Int) + 1 := by rw [IntKind.wrap_i64]; omega
        clear h13
        go_wp2
        go_round
        case rel => exact ⟨k + 1, by go_num, by omega, HS⟩
        case measure => simp [intOf]; omega
      by_cases h35 : x.toNat = 35
      · have q32 : ((x.toNat : Int) == 32) = false := by simp; omega
        have q9 : ((x.toNat : Int) == 9) = false := by simp; omega
        have q10 : ((x.toNat : Int) == 10) = false := by simp; omega
        have q13 : ((x.toNat : Int) == 13) = false := by simp; omega
        have q35 : ((x.toNat : Int) == 35) = true := by simp; omega
        have HS : Hid (Skips l i (k + lexSpan lexLine (l.drop k))) := Lib.hid (HK.out.trans (Skips.note hlt HX.out h35))
        have hpos := lexSpan_note hlt HX.out h35
        have hle := lexSpan_le lexLine (l.drop k)
        rw [List.length_drop] at hle
        have hdr : (bs l).extract k l.length = bs (l.drop k) := lb_drop l k
        have HQ := Lib.hid (lex_span_inLine (l.drop k) (by rw [List.length_drop]; omega) w)
        generalize lexSpan lexLine (l.drop k) = S at *
        have k1 : IntKind.i64.wrap ((k : Int) + (S : Int)) = (k : Int) + (S : Int) := by rw [IntKind.wrap_i64]; omega
        clear h35
        go_wp2_with fail
        refine HQ.out.mono ?_
        rintro e w1 ⟨rfl, rfl⟩
        go_wp2
        go_round
        case rel => exact ⟨k + S, by go_num, by omega, HS⟩
        case measure => simp [intOf]; omega
      · have HS : Hid (Stops l k) := Lib.hid (Stops.at HX.out hlt h35 (by simp [lexBlank, h32, h9, h10, h13]))
        have q32 : ((x.toNat : Int) == 32) = false := by simp; omega
        have q9 : ((x.toNat : Int) == 9) = false := by simp; omega
        have q10 : ((x.toNat : Int) == 10) = false := by simp; omega
        have q13 : ((x.toNat : Int) == 13) = false := by simp; omega
        have q35 : ((x.toNat : Int) == 35) = false := by simp; omega
        clear h35 h32 h9 h10 h13
        go_wp2
        go_ret
        exact ⟨k, rfl, HK.out, HS.out, rfl⟩
    · obtain rfl : k = l.length := by omega
      go_wp2
      go_ret
      exact ⟨l.length, rfl, HK.out, Stops.end l, rfl⟩
end Go.Proofs.Ythblmpkdcahmkaa

/-
  Package lex: Scan.
-/
namespace Go.Proofs.Ythblmpkdcahmkaa
open Go.RowKit

theorem infoWord38 : (Try.prog.info? 88).map (fun i => (i.zero, i.size, i.bytes)) = some (some (.agg #[.int .i64 0, .string ⟨#[]⟩, .int .i64 0]), 3, 32) := by kernel_rfl
theorem info_word {P : Program} {t : TypeId} (h : (P.info? t).map (fun i => (i.zero, i.size, i.bytes)) = some (some (.agg #[.int .i64 0, .string ⟨#[]⟩, .int .i64 0]), 3, 32)) : ∃ i, P.info? t = some i ∧ i.zero = some (.agg #[.int .i64 0, .string ⟨#[]⟩, .int .i64 0]) ∧ i.size = 3 ∧ i.bytes = 32 := by
  cases hi : P.info? t with
  | none => rw [hi] at h; simp at h
  | some i => rw [hi] at h; simp at h; exact ⟨i, rfl, h⟩
set_option maxRecDepth 4096 in
set_option maxHeartbeats 8000000 in
theorem lex_scan (l : List UInt8) (hl : l.length ≤ 1000000) (w : World) : Calls Try.prog 16 #[.string (bs l)] w (LstS (lexScan l) w) := by
  obtain ⟨i0, hi, hz0, hz1, hz2⟩ := info_word infoWord38
  have hsz := bs_size l
  by_cases hbig : 4000 < l.length
  · have hb : ((l.length : Nat) : Int) > 4000 := by omega
    have hE : lexScan l = ([], 4000) := if_pos hbig
    rw [hE]
    clear hE
    go_enter Try.func16, Try.ntmps16
    go_wp2_with fail
    refine (lex_wrongAt 4000 _).mono ?_
    rintro e w1 ⟨rfl, b1⟩
    unfold faultV
    have hR := blk_later (blk_new w #[.int .i64 0, .int .i64 0, .int .i64 0, .int .i64 0] 28) b1
    have hR0 := blk_cell hR 0
    have hR1 := blk_cell hR 1
    have hR2 := blk_cell hR 2
    have hR3 := blk_cell hR 3
    have hF0 := blk_free hR 0
    have hF1 := blk_free hR 1
    have hF2 := blk_free hR 2
    have hF3 := blk_free hR 3
    have HG4 := Lib.hid (blk_set4 hR (.int .i64 1) (.int .i64 0) (.int .i64 0) (.int .i64 4000))
    have HB4 := Lib.hid (below_set4 (below_then (below_alloc w _) b1) (show w.heap.size ≤ w.heap.size from Nat.le_refl _) (.int .i64 1) (.int .i64 0) (.int .i64 0) (.int .i64 4000))
    simp only [List.getElem?_toArray, List.getElem?_cons_zero, List.getElem?_cons_succ] at hR0 hR1 hR2 hR3
    clear hR b1
    go_wp2
    refine bodyPost_ret (results_tmp_cell Try.results16 _ _ w.heap.size 28 #[.int .i64 1, .int .i64 0, .int .i64 0, .int .i64 4000] (0, 0) _ rfl HG4.out Try.underlying28 rfl (by kernel_rfl)) rfl ?_
    exact ⟨none, 0, 0, rfl, Wxs.nil _, HB4.out⟩
  · have hb : ¬ ((l.length : Nat) : Int) > 4000 := by omega
    have hE : lexScan l = lexGo l 0 false [] := if_neg hbig
    rw [hE]
    clear hE
    obtain ⟨R, hR⟩ : ∃ R, lexGo l 0 false [] = R := ⟨_, rfl⟩
    have HR := Lib.hid hR
    rw [hR]
    clear hR
    have hbig' : l.length ≤ 4000 := by omega
    clear hbig
    go_enter Try.func16, Try.ntmps16
    go_wp2_with fail
    refine (lex_skip l hl 0 (Nat.zero_le _) _).mono ?_
    rintro e w1 ⟨j0, rfl, hs0, ht0, rfl⟩
    have HS0 := Lib.hid hs0
    have HT0 := Lib.hid ht0
    have hj0 := hs0.2.1
    clear hs0 ht0
    go_wp2
    go_loopw [4, 5] (fun v iv wr => ∃ (k : Nat) (ws : List Lw), k ≤ l.length ∧ iv = .int .i64 (k : Int) ∧ ws.length ≤ k ∧ Hid (lexGo (l.drop k) k false ws = R) ∧ Hid (Stops l k) ∧ Hid (Apart ws k (l.drop k)) ∧ Hid (OwnX wr (w.heap.size + 1) 88 v (ws.map Lw.x)) ∧ Hid (Below w.heap.size w wr) ∧ Hid (wr.heap[w.heap.size]? = some (.cells #[.int .i64 0, .int .i64 0, .int .i64 0, .int .i64 0] 28 (0, 0)))) (fun _ iv _ => l.length - (intOf iv).toNat)
    case atStart => exact ⟨j0, [], hj0, rfl, Nat.zero_le _, Lib.hid ((HS0.out.2.2 []).symm.trans HR.out), HT0, Lib.hid (Apart.nil _ _), Lib.hid (OwnX.nil _ _ _), Lib.hid (below_alloc w _), Lib.hid (blk_new w _ _)⟩
    case round =>
      obtain ⟨k, ws, hk, rfl, hwl, HG, HT, HA, HX, HB, HRb⟩ := hrel
      by_cases hlt : k < l.length
      · have hki : (k : Int) < (l.length : Int) := by omega
        have hdr : (bs l).extract k l.length = bs (l.drop k) := lb_drop l k
        have HQ := Lib.hid (lex_first (l.drop k) (by rw [List.length_drop]; omega) wr)
        have hle := (lexFirst_le (l.drop k)).2
        have hk3 := (lexFirst_le (l.drop k)).1
        rw [List.length_drop] at hle
        have HN : Hid ((lexFirst (l.drop k)).1 = 0 → R = ([], (k : Int))) := Lib.hid fun h => by
          have hd := lex_drop hlt (x := l.getD k 0) rfl
          have h9 := HG.out
          have h8 := HA.out
          obtain ⟨q1, q2⟩ := HT.out _ _ hd
          rw [hd] at h9 h8 h
          rw [← h9, lexGo_none h8 q1 q2 h]
        have HL : Hid ((lexFirst (l.drop k)).1 ≠ 0 → lexMost (lexFirst (l.drop k)).1 < (lexFirst (l.drop k)).2 → R = ([], ((k + lexMost (lexFirst (l.drop k)).1 : Nat) : Int))) := Lib.hid fun h g => by
          rw [← HG.out, lexGo_long HA.out h g]
        have HW : Hid ((lexFirst (l.drop k)).1 ≠ 0 → (lexFirst (l.drop k)).2 ≤ lexMost (lexFirst (l.drop k)).1 → lexGo (l.drop (k + (lexFirst (l.drop k)).2)) (k + (lexFirst (l.drop k)).2) false (ws ++ [⟨(lexFirst (l.drop k)).1, (l.drop k).take (lexFirst (l.drop k)).2, k⟩]) = R) := Lib.hid fun h g => by
          rw [← HG.out, lexGo_word HA.out h g, List.drop_drop]
        have HE : Hid ((lexFirst (l.drop k)).1 ≠ 0 → 0 < (lexFirst (l.drop k)).2 ∧ ∀ c r, l.drop (k + (lexFirst (l.drop k)).2) = c :: r → lexMore (lexFirst (l.drop k)).1 c.toNat = false) := Lib.hid fun h => ⟨lexFirst_pos h, fun c r hc => lexFirst_end h (by rw [List.drop_drop]; exact hc)⟩
        generalize lexFirst (l.drop k) = f at *
        obtain ⟨fk, fn⟩ := f
        dsimp only at hle hk3 HN HL HW HE HQ
        go_wp2_with fail
        refine HQ.out.mono ?_
        rintro e w1 ⟨rfl, b1⟩
        have HX1 := Lib.hid (HX.out.later b1)
        have HB1 := Lib.hid (below_then HB.out b1)
        have HR1 := Lib.hid (blk_later HRb.out b1)
        clear b1 HX HB HRb HQ
        by_cases h0 : fk = 0
        · have q0 : ((fk : Int) == 0) = true := by simp [h0]
          have HF := Lib.hid (HN.out h0)
          obtain rfl := HF.out
          clear h0 HN HL HW HE HG HF
          go_wp2_with fail
          refine (lex_wrongAt (k : Int) _).mono ?_
          rintro e w2 ⟨rfl, b2⟩
          unfold faultV
          have hR := blk_later HR1.out b2
          have hR0 := blk_cell hR 0
          have hR1 := blk_cell hR 1
          have hR2 := blk_cell hR 2
          have hR3 := blk_cell hR 3
          have hF0 := blk_free hR 0
          have hF1 := blk_free hR 1
          have hF2 := blk_free hR 2
          have hF3 := blk_free hR 3
          have HG4 := Lib.hid (blk_set4 hR (.int .i64 1) (.int .i64 0) (.int .i64 0) (.int .i64 (k : Int)))
          have HB4 := Lib.hid (below_set4 (below_then HB1.out b2) (show w.heap.size ≤ w.heap.size from Nat.le_refl _) (.int .i64 1) (.int .i64 0) (.int .i64 0) (.int .i64 (k : Int)))
          simp only [List.getElem?_toArray, List.getElem?_cons_zero, List.getElem?_cons_succ] at hR0 hR1 hR2 hR3
          clear hR b2 HB1 HR1
          go_wp2
          refine bodyPost_ret (results_tmp_cell Try.results16 _ _ w.heap.size 28 #[.int .i64 1, .int .i64 0, .int .i64 0, .int .i64 (k : Int)] (0, 0) _ rfl HG4.out Try.underlying28 rfl (by kernel_rfl)) rfl ?_
          exact ⟨none, 0, 0, by rw [lexFault_at]; rfl, Wxs.nil _, HB4.out⟩
        · have q0 : ((fk : Int) == 0) = false := by simp; omega
          have HM := Lib.hid fun w => lex_longest (fk : Int) fk rfl w
          have hmo := lexMost_le fk
          by_cases hm : lexMost fk < fn
          · have HF := Lib.hid (HL.out h0 hm)
            obtain ⟨m, hmm⟩ : ∃ m, lexMost fk = m := ⟨_, rfl⟩
            rw [hmm] at HM hm hmo HF
            obtain rfl := HF.out
            have q1 : (m : Int) < (fn : Int) := by omega
            have k1 : IntKind.i64.wrap ((k : Int) + (m : Int)) = ((k + m : Nat) : Int) := by rw [IntKind.wrap_i64]; omega
            clear h0 HN HL HW HE HG HF hmm
            go_wp2_with fail
            refine (HM.out _).mono ?_
            rintro e w2 ⟨rfl, rfl⟩
            go_wp2_with fail
            refine (HM.out _).mono ?_
            rintro e w2 ⟨rfl, rfl⟩
            go_wp2_with fail
            refine (lex_wrongAt ((k + m : Nat) : Int) _).mono ?_
            rintro e w2 ⟨rfl, b2⟩
            unfold faultV
            have hR := blk_later HR1.out b2
            have hR0 := blk_cell hR 0
            have hR1 := blk_cell hR 1
            have hR2 := blk_cell hR 2
            have hR3 := blk_cell hR 3
            have hF0 := blk_free hR 0
            have hF1 := blk_free hR 1
            have hF2 := blk_free hR 2
            have hF3 := blk_free hR 3
            have HG4 := Lib.hid (blk_set4 hR (.int .i64 1) (.int .i64 0) (.int .i64 0) (.int .i64 ((k + m : Nat) : Int)))
            have HB4 := Lib.hid (below_set4 (below_then HB1.out b2) (show w.heap.size ≤ w.heap.size from Nat.le_refl _) (.int .i64 1) (.int .i64 0) (.int .i64 0) (.int .i64 ((k + m : Nat) : Int)))
            simp only [List.getElem?_toArray, List.getElem?_cons_zero, List.getElem?_cons_succ] at hR0 hR1 hR2 hR3
            clear hR b2 HB1 HR1
            go_wp2
            refine bodyPost_ret (results_tmp_cell Try.results16 _ _ w.heap.size 28 #[.int .i64 1, .int .i64 0, .int .i64 0, .int .i64 ((k + m : Nat) : Int)] (0, 0) _ rfl HG4.out Try.underlying28 rfl (by kernel_rfl)) rfl ?_
            exact ⟨none, 0, 0, by rw [lexFault_at]; rfl, Wxs.nil _, HB4.out⟩
          · have HF := Lib.hid (HW.out h0 (by omega))
            have hE := HE.out h0
            have hpos := hE.1
            have HE2 := Lib.hid hE.2
            clear hE
            obtain ⟨m, hmm⟩ : ∃ m, lexMost fk = m := ⟨_, rfl⟩
            rw [hmm] at HM hm hmo
            have q1 : ¬ (m : Int) < (fn : Int) := by omega
            have hcut : (bs l).extract k (k + fn) = bs ((l.drop k).take fn) := lb_cut l k fn
            have htl : ((l.drop k).take fn).length = fn := by rw [List.length_take, List.length_drop]; omega
            have HTL := Lib.hid htl
            clear htl
            generalize (l.drop k).take fn = t at *
            have k1 : IntKind.i64.wrap ((k : Int) + (fn : Int)) = (k : Int) + (fn : Int) := by rw [IntKind.wrap_i64]; omega
            have k2 : (k : Int) + (fn : Int) ≤ (l.length : Int) := by omega
            have k3 : ((k : Int) + (fn : Int)).toNat = k + fn := by omega
            have k4 : (0 : Int) ≤ (k : Int) + (fn : Int) := by omega
            have k5 : (k : Int) ≤ (k : Int) + (fn : Int) := by omega
            have hfn : fn ≤ 60 := by omega
            have HCL := Lib.hid fun w => lex_clone t w (by rw [HTL.out]; omega)
            have HSK := Lib.hid fun w => (by have h9 := lex_skip l hl (k + fn) (by omega) w; rw [Int.natCast_add] at h9; exact h9 : Calls Try.prog 36 #[.string (bs l), .int .i64 ((k : Int) + (fn : Int))] w (fun e w' => ∃ j : Nat, e = .returned (.int .i64 (j : Int)) ∧ Skips l (k + fn) j ∧ Stops l j ∧ w = w'))
            clear h0 HN HL HW HE HG hmm hle
            go_wp2_with fail
            refine (HM.out _).mono ?_
            rintro e w2 ⟨rfl, rfl⟩
            go_wp2_with fail
            refine (HCL.out _).mono ?_
            rintro e w2 ⟨rfl, b2⟩
            have HX2 := Lib.hid (HX1.out.later b2)
            have HB2 := Lib.hid (below_then HB1.out b2)
            have HR2 := Lib.hid (blk_later HR1.out b2)
            clear b2 HX1 HB1 HR1
            have hbs : w.heap.size + 1 ≤ w2.heap.size := (Array.getElem?_eq_some_iff.1 HR2.out).1
            go_wp2_with (at_builtin; refine wpList_append_x rfl _ _ 51 rfl (w.heap.size + 1) 88 i0 (.agg #[.int .i64 0, .string ⟨#[]⟩, .int .i64 0]) Try.underlying51 hi hz0 hz1 hz2 rfl _ (ws.map Lw.x) rfl (HX2.out.later (below_alloc w2 _)) ⟨w2.heap.size, 0, none⟩ ⟨(fk : Int), t, (k : Int)⟩ rfl (wcells_news _ _ _) (by rw [List.length_map]; omega) (by simp; omega) ?_)
            intro v' w5 hrow hgrow
            have HX5 := Lib.hid hrow
            have HB5 : Hid (Below w.heap.size w w5) := Lib.hid ((below_then HB2.out (below_alloc w2 _)).grown hgrow (by simp; omega) (fun g hg => by have := HX2.out.base g hg; omega))
            have HR5 : Hid (w5.heap[w.heap.size]? = some (.cells #[.int .i64 0, .int .i64 0, .int .i64 0, .int .i64 0] 28 (0, 0))) := Lib.hid (blk_keep (blk_later HR2.out (below_alloc w2 _)) hgrow (fun g hg => by have := HX2.out.base g hg; omega))
            clear hrow hgrow HX2 HB2 HR2
            go_wp2_with fail
            refine (HSK.out _).mono ?_
            rintro e w6 ⟨j, rfl, hs, ht, rfl⟩
            have HS6 := Lib.hid hs
            have HT6 := Lib.hid ht
            have hj1 := hs.1
            have hj2 := hs.2.1
            clear hs ht
            go_wp2
            go_roundw
            case rel => exact ⟨j, ws ++ [⟨fk, t, k⟩], hj2, by go_num, by simp; omega, Lib.hid ((HS6.out.2.2 _).symm.trans HF.out), HT6, Lib.hid (Apart.next HTL.out hj1 HE2.out), Lib.hid (by rw [List.map_append]; exact HX5.out), HB5, HR5⟩
            case measure => simp [intOf]; omega
      · obtain rfl : k = l.length := by omega
        have HF : Hid (R = (ws, -1)) := Lib.hid (by rw [← HG.out, List.drop_length]; rfl)
        obtain rfl := HF.out
        clear HG HF HT HA
        obtain ⟨a9, c9, rfl, h9⟩ := HX.out.slice
        have H9 := Lib.hid h9
        clear h9
        have hR := HRb.out
        have hR0 := blk_cell hR 0
        have hR1 := blk_cell hR 1
        have hR2 := blk_cell hR 2
        have hR3 := blk_cell hR 3
        have hF0 := blk_free hR 0
        have hF1 := blk_free hR 1
        have hF2 := blk_free hR 2
        have hF3 := blk_free hR 3
        have HG4 := Lib.hid (blk_set4 hR (.int .i64 0) (.int .i64 0) (.int .i64 0) (.int .i64 0))
        have HB4 := Lib.hid (below_set4 HB.out (show w.heap.size ≤ w.heap.size from Nat.le_refl _) (.int .i64 0) (.int .i64 0) (.int .i64 0) (.int .i64 0))
        simp only [List.getElem?_toArray, List.getElem?_cons_zero, List.getElem?_cons_succ] at hR0 hR1 hR2 hR3
        clear hR HB
        go_wp2
        refine bodyPost_ret (results_tmp_cell Try.results16 _ _ w.heap.size 28 #[.int .i64 0, .int .i64 0, .int .i64 0, .int .i64 0] (0, 0) _ rfl HG4.out Try.underlying28 rfl (by kernel_rfl)) rfl ?_
        exact ⟨a9, _, c9, rfl, H9.out.stored4 HRb.out 0 0 0 0, HB4.out⟩
end Go.Proofs.Ythblmpkdcahmkaa

/-
  Package parse: caught, readerOf, the deferred closures.
-/
namespace Go.Proofs.Ythblmpkdcahmkaa
open Go.WideShapes Go.RowKit Go.Deep

set_option maxRecDepth 4096 in
set_option maxHeartbeats 8000000 in
theorem parse_caught_none (w : World) : Calls Try.prog 22 #[.nilIface] w (Gives (faultV 0 0 0 0) w) := by
  have HG := Lib.hid (blk_new w #[.int .i64 0, .int .i64 0, .int .i64 0, .int .i64 0] 28)
  have HB := Lib.hid (below_alloc w (.cells #[.int .i64 0, .int .i64 0, .int .i64 0, .int .i64 0] 28))
  go_enter Try.func22, Try.ntmps22
  go_wp2
  refine bodyPost_ret (results_cell_row Try.results22 _ _ w.heap.size 28 #[.int .i64 0, .int .i64 0, .int .i64 0, .int .i64 0] (0, 0) _ rfl HG.out Try.underlying28 rfl (by kernel_rfl)) rfl ?_
  exact ⟨rfl, HB.out⟩
set_option maxRecDepth 4096 in
set_option maxHeartbeats 8000000 in
theorem parse_caught_fault (z : Int) (w : World) : Calls Try.prog 22 #[.iface 28 (faultV 1 0 0 z)] w (Gives (faultV 1 0 0 z) w) := by
  have hta : ∀ w : World, (Instr.typeAssert (.iface 28 (.agg #[.int .i64 1, .int .i64 0, .int .i64 0, .int .i64 z])) 20 28 true).run Try.prog w = .ok (.tuple #[.agg #[.int .i64 1, .int .i64 0, .int .i64 0, .int .i64 z], .bool true]) w := fun _ => by kernel_rfl
  have b2 := below_alloc (w.alloc (.cells #[.int .i64 1, .int .i64 0, .int .i64 0, .int .i64 z] 28)) (.cells #[.int .i64 1, .int .i64 0, .int .i64 0, .int .i64 z] 28)
  have HG := Lib.hid (blk_later (blk_new w #[.int .i64 1, .int .i64 0, .int .i64 0, .int .i64 z] 28) b2)
  have HB := Lib.hid (below_then (below_alloc w (.cells #[.int .i64 1, .int .i64 0, .int .i64 0, .int .i64 z] 28)) b2)
  clear b2
  unfold faultV
  go_enter Try.func22, Try.ntmps22
  go_wp2
  refine bodyPost_ret (results_cell_row Try.results22 _ _ w.heap.size 28 #[.int .i64 1, .int .i64 0, .int .i64 0, .int .i64 z] (0, 0) _ rfl HG.out Try.underlying28 rfl (by kernel_rfl)) rfl ?_
  exact ⟨rfl, HB.out⟩
set_option maxRecDepth 4096 in
theorem parse_shut_bad (g : Nat) (z x0 x1 x2 x3 : Int) (older : List PanicEntry) (w : World) (h : w.heap[g]? = some (.cells #[.int .i64 x0, .int .i64 x1, .int .i64 x2, .int .i64 x3] 28 (0, 0))) :
    CallsD Try.prog 21 #[.pointer (some ⟨g, 0, none⟩)] (.panicking ({ v := .iface 28 (faultV 1 0 0 z), recovered := false } :: older)) w fun e u' w' =>
      e = .returned (.tuple #[]) ∧ u' = .panicking ({ v := .iface 28 (faultV 1 0 0 z), recovered := true } :: older) ∧ w.grownBy w' (some g) ∧ w'.heap[g]? = some (.cells #[.int .i64 1, .int .i64 0, .int .i64 0, .int .i64 z] 28 (0, 0)) := by
  have HC := Lib.hid (parse_caught_fault z)
  have H := Lib.hid h
  clear h
  refine callsD_of_wpS Try.func21 rfl fun c₀ cs hu => ?_
  apply wpS_region
  simp [wpOpsS, go_sem, recoverD, hu, Try.ntmps21]
  refine (HC.out w).mono ?_
  rintro e w1 ⟨rfl, b1⟩
  have A1 := blk_later H.out b1
  have c0 := blk_cell A1 0
  have c1 := blk_cell A1 1
  have c2 := blk_cell A1 2
  have c3 := blk_cell A1 3
  have e0 := blk_free A1 0
  have e1 := blk_free A1 1
  have e2 := blk_free A1 2
  have e3 := blk_free A1 3
  simp only [List.getElem?_toArray, List.getElem?_cons_zero, List.getElem?_cons_succ] at c0 c1 c2 c3
  have HA := Lib.hid (blk_set4 A1 (.int .i64 1) (.int .i64 0) (.int .i64 0) (.int .i64 z))
  have HG := Lib.hid (grown_then (grown_then (grown_then (grown_then (below_grown b1 (some g)) (grown_cell _ g 0 (.int .i64 1))) (grown_cell _ g 1 (.int .i64 0))) (grown_cell _ g 2 (.int .i64 0))) (grown_cell _ g 3 (.int .i64 z)))
  clear A1 b1
  unfold faultV
  simp [go_sem, bodyPostS, results, Try.results21, storeCells, c0, c1, c2, c3, e0, e1, e2, e3]
  exact ⟨HG.out, HA.out⟩
set_option maxRecDepth 4096 in
theorem parse_shut_idle (g : Nat) (x0 x1 x2 x3 : Int) (w : World) (h : w.heap[g]? = some (.cells #[.int .i64 x0, .int .i64 x1, .int .i64 x2, .int .i64 x3] 28 (0, 0))) :
    CallsD Try.prog 21 #[.pointer (some ⟨g, 0, none⟩)] .returning w fun e u' w' =>
      e = .returned (.tuple #[]) ∧ u' = .returning ∧ w.grownBy w' (some g) ∧ w'.heap[g]? = some (.cells #[.int .i64 0, .int .i64 0, .int .i64 0, .int .i64 0] 28 (0, 0)) := by
  have HC := Lib.hid (parse_caught_none)
  have H := Lib.hid h
  clear h
  refine callsD_of_wpS Try.func21 rfl fun c₀ cs hu => ?_
  apply wpS_region
  simp [wpOpsS, go_sem, recoverD, hu, Try.ntmps21]
  refine (HC.out w).mono ?_
  rintro e w1 ⟨rfl, b1⟩
  have A1 := blk_later H.out b1
  have c0 := blk_cell A1 0
  have c1 := blk_cell A1 1
  have c2 := blk_cell A1 2
  have c3 := blk_cell A1 3
  have e0 := blk_free A1 0
  have e1 := blk_free A1 1
  have e2 := blk_free A1 2
  have e3 := blk_free A1 3
  simp only [List.getElem?_toArray, List.getElem?_cons_zero, List.getElem?_cons_succ] at c0 c1 c2 c3
  have HA := Lib.hid (blk_set4 A1 (.int .i64 0) (.int .i64 0) (.int .i64 0) (.int .i64 0))
  have HG := Lib.hid (grown_then (grown_then (grown_then (grown_then (below_grown b1 (some g)) (grown_cell _ g 0 (.int .i64 0))) (grown_cell _ g 1 (.int .i64 0))) (grown_cell _ g 2 (.int .i64 0))) (grown_cell _ g 3 (.int .i64 0)))
  clear A1 b1
  unfold faultV
  simp [go_sem, bodyPostS, results, Try.results21, storeCells, c0, c1, c2, c3, e0, e1, e2, e3]
  exact ⟨.returning, by cases c₀; subst hu; rfl, rfl, HG.out, HA.out⟩
set_option maxRecDepth 4096 in
theorem expr_shut_bad (g : Nat) (z x0 x1 x2 x3 : Int) (older : List PanicEntry) (w : World) (h : w.heap[g]? = some (.cells #[.int .i64 x0, .int .i64 x1, .int .i64 x2, .int .i64 x3] 28 (0, 0))) :
    CallsD Try.prog 31 #[.pointer (some ⟨g, 0, none⟩)] (.panicking ({ v := .iface 28 (faultV 1 0 0 z), recovered := false } :: older)) w fun e u' w' =>
      e = .returned (.tuple #[]) ∧ u' = .panicking ({ v := .iface 28 (faultV 1 0 0 z), recovered := true } :: older) ∧ w.grownBy w' (some g) ∧ w'.heap[g]? = some (.cells #[.int .i64 1, .int .i64 0, .int .i64 0, .int .i64 z] 28 (0, 0)) := by
  have HC := Lib.hid (parse_caught_fault z)
  have H := Lib.hid h
  clear h
  refine callsD_of_wpS Try.func31 rfl fun c₀ cs hu => ?_
  apply wpS_region
  simp [wpOpsS, go_sem, recoverD, hu, Try.ntmps31]
  refine (HC.out w).mono ?_
  rintro e w1 ⟨rfl, b1⟩
  have A1 := blk_later H.out b1
  have c0 := blk_cell A1 0
  have c1 := blk_cell A1 1
  have c2 := blk_cell A1 2
  have c3 := blk_cell A1 3
  have e0 := blk_free A1 0
  have e1 := blk_free A1 1
  have e2 := blk_free A1 2
  have e3 := blk_free A1 3
  simp only [List.getElem?_toArray, List.getElem?_cons_zero, List.getElem?_cons_succ] at c0 c1 c2 c3
  have HA := Lib.hid (blk_set4 A1 (.int .i64 1) (.int .i64 0) (.int .i64 0) (.int .i64 z))
  have HG := Lib.hid (grown_then (grown_then (grown_then (grown_then (below_grown b1 (some g)) (grown_cell _ g 0 (.int .i64 1))) (grown_cell _ g 1 (.int .i64 0))) (grown_cell _ g 2 (.int .i64 0))) (grown_cell _ g 3 (.int .i64 z)))
  clear A1 b1
  unfold faultV
  simp [go_sem, bodyPostS, results, Try.results31, storeCells, c0, c1, c2, c3, e0, e1, e2, e3]
  exact ⟨HG.out, HA.out⟩
set_option maxRecDepth 4096 in
theorem expr_shut_idle (g : Nat) (x0 x1 x2 x3 : Int) (w : World) (h : w.heap[g]? = some (.cells #[.int .i64 x0, .int .i64 x1, .int .i64 x2, .int .i64 x3] 28 (0, 0))) :
    CallsD Try.prog 31 #[.pointer (some ⟨g, 0, none⟩)] .returning w fun e u' w' =>
      e = .returned (.tuple #[]) ∧ u' = .returning ∧ w.grownBy w' (some g) ∧ w'.heap[g]? = some (.cells #[.int .i64 0, .int .i64 0, .int .i64 0, .int .i64 0] 28 (0, 0)) := by
  have HC := Lib.hid (parse_caught_none)
  have H := Lib.hid h
  clear h
  refine callsD_of_wpS Try.func31 rfl fun c₀ cs hu => ?_
  apply wpS_region
  simp [wpOpsS, go_sem, recoverD, hu, Try.ntmps31]
  refine (HC.out w).mono ?_
  rintro e w1 ⟨rfl, b1⟩
  have A1 := blk_later H.out b1
  have c0 := blk_cell A1 0
  have c1 := blk_cell A1 1
  have c2 := blk_cell A1 2
  have c3 := blk_cell A1 3
  have e0 := blk_free A1 0
  have e1 := blk_free A1 1
  have e2 := blk_free A1 2
  have e3 := blk_free A1 3
  simp only [List.getElem?_toArray, List.getElem?_cons_zero, List.getElem?_cons_succ] at c0 c1 c2 c3
  have HA := Lib.hid (blk_set4 A1 (.int .i64 0) (.int .i64 0) (.int .i64 0) (.int .i64 0))
  have HG := Lib.hid (grown_then (grown_then (grown_then (grown_then (below_grown b1 (some g)) (grown_cell _ g 0 (.int .i64 0))) (grown_cell _ g 1 (.int .i64 0))) (grown_cell _ g 2 (.int .i64 0))) (grown_cell _ g 3 (.int .i64 0)))
  clear A1 b1
  unfold faultV
  simp [go_sem, bodyPostS, results, Try.results31, storeCells, c0, c1, c2, c3, e0, e1, e2, e3]
  exact ⟨.returning, by cases c₀; subst hu; rfl, rfl, HG.out, HA.out⟩
/-- A reader at the beginning of a text; or the panic with the fault of its words. -/
def ReadP (R F : TypeId) (W : List Lw) (E : Nat) (z : Int) (w : World) (e : Ending) (w' : World) : Prop :=
  (z < 0 ∧ (∃ g a n c, e = .returned (.pointer (some ⟨g, 0, none⟩)) ∧ w.heap.size ≤ g ∧ RW R w' g a n c W E (.slice none 0 0) (.slice none 0 0) ⟨0, 0, z⟩) ∧ Below w.heap.size w w') ∨ (0 ≤ z ∧ e = badP F z ∧ Below w.heap.size w w')
theorem RW.init {R : TypeId} {w : World} {a : Option Addr} {n c : Nat} {W : List Lw} {E : Nat} {z : Int} (hw : Wxs w a n c (W.map Lw.x)) (hz : z < 0) : RW R (w.alloc (.cells (rwCells a n c E 0 (.slice none 0 0) (.slice none 0 0)) R)) w.heap.size a n c W E (.slice none 0 0) (.slice none 0 0) ⟨0, 0, z⟩ := by
  refine ⟨blk_new w _ R, (by rw [List.drop_zero]; exact hw.later (below_alloc _ _)), fun b off e h0 => ?_, Nat.zero_le _, hz, ⟨_, _, _, rfl⟩, ⟨_, _, _, rfl⟩⟩
  obtain ⟨b', off', e', h1, _⟩ := hw.at h0
  rw [e] at e'
  obtain ⟨rfl, rfl, _⟩ := Addr.mk.inj (Option.some.inj e')
  rcases Nat.lt_or_ge b w.heap.size with h9 | h9
  · exact h9
  · rw [World.cell?, Array.getElem?_eq_none h9] at h1; cases h1
set_option maxRecDepth 4096 in
set_option maxHeartbeats 8000000 in
theorem parse_readerOf (l : List UInt8) (hl : l.length ≤ 1000000) (w : World) :
    Calls Try.prog 23 #[.string (bs l)] w (ReadP 77 28 (lexScan l).1 l.length (lexScan l).2 w) := by
  have HS := Lib.hid (lex_scan l hl w)
  have hsz := bs_size l
  generalize lexScan l = r at *
  obtain ⟨W, z⟩ := r
  by_cases hz : z < 0
  · have hfz : lexFault z = faultV 0 0 0 0 := if_pos hz
    have HF := Lib.hid hfz
    have HZ := Lib.hid hz
    clear hfz hz
    go_enter Try.func23, Try.ntmps23
    go_wp2_with fail
    refine HS.out.mono ?_
    rintro e w1 ⟨a, n, c, rfl, hx, b1⟩
    rw [HF.out]
    unfold faultV
    have b2 := below_alloc w1 (.cells #[.int .i64 0, .int .i64 0, .int .i64 0, .int .i64 0] 28)
    have hR := RW.init (R := 77) (E := l.length) (hx.later b2) HZ.out
    have hz2 : (w1.alloc (.cells #[.int .i64 0, .int .i64 0, .int .i64 0, .int .i64 0] 28)).heap.size = w1.heap.size + 1 := by simp
    rw [hz2] at hR
    have HR := Lib.hid hR
    have HB := Lib.hid (below_then (below_then b1 b2) (below_alloc _ (.cells (rwCells a n c l.length 0 (.slice none 0 0) (.slice none 0 0)) 77)))
    have hs := b1.size
    clear hR hz2 b1 b2 hx
    go_wp2
    go_ret
    exact .inl ⟨HZ.out, ⟨_, a, n, c, rfl, by omega, HR.out⟩, HB.out⟩
  · have hfz : lexFault z = faultV 1 0 0 z := if_neg hz
    have HF := Lib.hid hfz
    have HZ := Lib.hid (by omega : 0 ≤ z)
    clear hfz hz
    go_enter Try.func23, Try.ntmps23
    go_wp2_with fail
    refine HS.out.mono ?_
    rintro e w1 ⟨a, n, c, rfl, hx, b1⟩
    rw [HF.out]
    unfold faultV
    have HB := Lib.hid (below_then b1 (below_alloc w1 (.cells #[.int .i64 1, .int .i64 0, .int .i64 0, .int .i64 z] 28)))
    clear b1 hx
    go_wp2
    exact ⟨rfl, .inr ⟨HZ.out, rfl, HB.out⟩⟩
end Go.Proofs.Ythblmpkdcahmkaa

/-
  Package parse: the door of Parse: what a panic, what no panic gives.
-/
namespace Go.Proofs.Ythblmpkdcahmkaa
open Go.WideShapes Go.RowKit Go.Deep

theorem results_two {P : Program} {fn : Func} {p q : Tmp} {tp tq : TypeId} (h : fn.results = #[.cell p tp, .cell q tq]) (tmps : Array Value) (w : World) (g g' : Nat) (t t' : TypeId) (cs cs' : Array Value) (d d' : TypeDesc)
    (hp : tmps.getD p undef = .pointer (some ⟨g, 0, none⟩)) (hg : w.heap[g]? = some (.cells cs t (0, 0))) (hu : P.underlying tp = some d) (hd : (match d with | .struct _ | .array _ _ => true | _ => false) = true) (hi : (P.info? tp).map (·.size) = some cs.size)
    (hq : tmps.getD q undef = .pointer (some ⟨g', 0, none⟩)) (hg' : w.heap[g']? = some (.cells cs' t' (0, 0))) (hu' : P.underlying tq = some d') (hd' : (match d' with | .struct _ | .array _ _ => true | _ => false) = true) (hi' : (P.info? tq).map (·.size) = some cs'.size) :
    (results fn tmps).run P w = .ok (.tuple #[.agg cs, .agg cs']) w := by
  have hp' : tmps[p]?.getD undef = .pointer (some ⟨g, 0, none⟩) := by simpa using hp
  have hq' : tmps[q]?.getD undef = .pointer (some ⟨g', 0, none⟩) := by simpa using hq
  simp [results, h, hp', hq', asAddr, run_loadVar_row w g t tp cs (0, 0) d hg hu hd hi, run_loadVar_row w g' t' tq cs' (0, 0) d' hg' hu' hd' hi', Result.andThen]
theorem parse_door_bad {R : Ending → World → Prop} {tmps : Array Value} {k : Nat} {z : Int} {wz : World} (ht2 : tmps.getD 2 undef = .pointer (some ⟨k, 0, none⟩)) (ht3 : tmps.getD 3 undef = .pointer (some ⟨k + 1, 0, none⟩))
    (D0 : wz.heap[k]? = some (.cells #[.slice none 0 0, .slice none 0 0] 26 (0, 0))) (D1 : wz.heap[k + 1]? = some (.cells #[.int .i64 0, .int .i64 0, .int .i64 0, .int .i64 0] 28 (0, 0)))
    (hR : ∀ w', wz.grownBy w' (some (k + 1)) → R (.returned (.tuple #[.agg #[.slice none 0 0, .slice none 0 0], faultV 1 0 0 z])) w') :
    Leaves Try.prog Try.f7 tmps R [{ target := .fn (.func 21) #[.pointer (some ⟨k + 1, 0, none⟩)], args := #[] }] (.panicking [{ v := .iface 28 (faultV 1 0 0 z), recovered := false }]) wz := by
  refine leaves_cons (f := 21) (args := #[.pointer (some ⟨k + 1, 0, none⟩)]) (by simp) (by simp [go_sem]) ?_
  refine (parse_shut_bad (k + 1) z 0 0 0 0 [] wz D1).mono ?_
  rintro e u' w'' ⟨rfl, rfl, gz, D9⟩
  change Leaves _ _ _ _ [] .returning _
  have D8 := blk_stays D0 gz (fun j hj => by have := Option.some.inj hj; omega)
  refine ⟨_, results_two (g := k) (g' := k + 1) (cs := #[.slice none 0 0, .slice none 0 0]) (cs' := #[.int .i64 1, .int .i64 0, .int .i64 0, .int .i64 z]) Try.results7 _ _ 26 28 _ _ ht2 D8 Try.underlying26 rfl (by kernel_rfl) ht3 D9 Try.underlying28 rfl (by kernel_rfl), hR _ gz⟩
theorem parse_door_done {R : Ending → World → Prop} {tmps : Array Value} {k : Nat} {u v : Value} {wz : World} (ht2 : tmps.getD 2 undef = .pointer (some ⟨k, 0, none⟩)) (ht3 : tmps.getD 3 undef = .pointer (some ⟨k + 1, 0, none⟩))
    (D0 : wz.heap[k]? = some (.cells #[u, v] 26 (0, 0))) (D1 : wz.heap[k + 1]? = some (.cells #[.int .i64 0, .int .i64 0, .int .i64 0, .int .i64 0] 28 (0, 0)))
    (hR : ∀ w', wz.grownBy w' (some (k + 1)) → R (.returned (.tuple #[.agg #[u, v], faultV 0 0 0 0])) w') :
    Leaves Try.prog Try.f7 tmps R [{ target := .fn (.func 21) #[.pointer (some ⟨k + 1, 0, none⟩)], args := #[] }] .returning wz := by
  refine leaves_cons (f := 21) (args := #[.pointer (some ⟨k + 1, 0, none⟩)]) (by simp) (by simp [go_sem]) ?_
  refine (parse_shut_idle (k + 1) 0 0 0 0 wz D1).mono ?_
  rintro e u' w'' ⟨rfl, rfl, gz, D9⟩
  change Leaves _ _ _ _ [] .returning _
  have D8 := blk_stays D0 gz (fun j hj => by have := Option.some.inj hj; omega)
  refine ⟨_, results_two (g := k) (g' := k + 1) (cs := #[u, v]) (cs' := #[.int .i64 0, .int .i64 0, .int .i64 0, .int .i64 0]) Try.results7 _ _ 26 28 _ _ ht2 D8 Try.underlying26 rfl (by kernel_rfl) ht3 D9 Try.underlying28 rfl (by kernel_rfl), hR _ gz⟩
theorem pOuts_stays {W : List Lw} {ex : Ps → List Np × Ps} : ∀ (m : Nat) (O : List (List Np)) (s : Ps), 0 ≤ s.bad → (pOuts W ex m O s).2.bad = s.bad := fun m O s hb => by rw [pOuts_bad hb]
theorem pOutsAll_stays (W : List Lw) (E : Nat) (N : List (List UInt8)) (s : Ps) (hb : 0 ≤ s.bad) : (pOutsAll W E N s).2.bad = s.bad := by
  have h1 := (pMust_on W E [91]).stays s hb
  have h2 := (pAll_fine W E N 41).2.stays (pMust W E [91] s) (by omega)
  have h3 := pOuts_stays (W := W) (ex := (pAll W E N 41).2) W.length [((pAll W E N 41).2 (pMust W E [91] s)).1] ((pAll W E N 41).2 (pMust W E [91] s)).2 (by omega)
  have h4 := (pMust_on W E [93]).stays (pOuts W (pAll W E N 41).2 W.length [((pAll W E N 41).2 (pMust W E [91] s)).1] ((pAll W E N 41).2 (pMust W E [91] s)).2).2 (by omega)
  unfold pOutsAll
  dsimp only
  omega
theorem pOver_bad {W : List Lw} {E : Nat} {s : Ps} (hb : 0 ≤ s.bad) : pOver W E s = s := if_neg (fun h => by omega)
theorem pParse_is {W : List Lw} {E : Nat} {z : Int} (hz : z < 0) : ∀ k, pLets W E W.length [] [] ⟨0, 0, z⟩ = k → (0 ≤ k.2.2.1.bad → pParse W E z = ([], [], k.2.2.1.bad)) ∧ (k.2.2.2 = false → ∀ o, pOutsAll W E k.2.1 k.2.2.1 = o → (0 ≤ (pOver W E o.2).bad → pParse W E z = ([], [], (pOver W E o.2).bad)) ∧ ((pOver W E o.2).bad < 0 → pParse W E z = (k.1, o.1, -1))) := by
  intro k hk
  have key : pParse W E z = if 0 ≤ (pOver W E (pField W E ⟨0, 0, z⟩).2.2).bad then ([], [], (pOver W E (pField W E ⟨0, 0, z⟩).2.2).bad) else ((pField W E ⟨0, 0, z⟩).1, (pField W E ⟨0, 0, z⟩).2.1, -1) := by
    unfold pParse
    rw [if_neg (by omega)]
  have f1 : k.2.2.2 = true → pField W E ⟨0, 0, z⟩ = (k.1, [], k.2.2.1) := fun h => by
    unfold pField
    rw [hk]
    exact if_pos h
  have f2 : k.2.2.2 = false → pField W E ⟨0, 0, z⟩ = (k.1, (pOutsAll W E k.2.1 k.2.2.1).1, (pOutsAll W E k.2.1 k.2.2.1).2) := fun h => by
    unfold pField
    rw [hk]
    exact if_neg (by rw [h]; decide)
  refine ⟨fun hb => ?_, fun hf o ho => ?_⟩
  · rw [key]
    cases hq : k.2.2.2 with
    | true =>
      rw [f1 hq]
      dsimp only
      rw [pOver_bad hb, if_pos hb]
    | false =>
      rw [f2 hq]
      dsimp only
      have h9 := pOutsAll_stays W E k.2.1 k.2.2.1 hb
      rw [pOver_bad (by omega), h9, if_pos hb]
  · rw [key, f2 hf, ho]
    exact ⟨fun h => if_pos h, fun h => if_neg (fun h9 => by have : 0 ≤ (pOver W E o.2).bad := h9; omega)⟩
end Go.Proofs.Ythblmpkdcahmkaa
