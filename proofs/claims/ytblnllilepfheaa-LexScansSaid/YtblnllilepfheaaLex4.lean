/-
  Package lex: the word with which a text begins (first), what is no word's (skip).
-/
import Derived.Test.YtblnllilepfheaaLex3
import Derived.WalkKit
namespace Go.Proofs.Ytblnllilepfheaa
open Go.RowKit

theorem lb_drop (l : List UInt8) (k : Nat) : (bs l).extract k l.length = bs (l.drop k) := by unfold bs; rw [ByteArray.extract_mk]; simp [List.take_of_length_le]
theorem lexMore1f : lexMore 1 = lexDig := funext lexMore1
theorem lexMore2f : lexMore 2 = lexIn := funext lexMore2
/-- What first tells of a text that begins with this byte. -/
theorem first_dig {c : UInt8} {r : List UInt8} (h : lexDig c.toNat = true) : lexFirst (c :: r) = (1, lexSpan lexDig (c :: r)) := by
  have hk : lexKind c.toNat = 1 := by unfold lexKind; rw [if_pos h]
  rw [lexFirst_yes (by omega), hk, lexMore1f, lexSpan_yes h]
theorem first_name {c : UInt8} {r : List UInt8} (h0 : lexDig c.toNat = false) (h : lexIn c.toNat = true) : lexFirst (c :: r) = (2, lexSpan lexIn (c :: r)) := by
  have hl : lexLet c.toNat = true := by simpa [lexIn, h0] using h
  have hk : lexKind c.toNat = 2 := by unfold lexKind; rw [if_neg (by rw [h0]; decide), if_pos hl]
  rw [lexFirst_yes (by omega), hk, lexMore2f, lexSpan_yes h]
theorem first_sign {c : UInt8} {r : List UInt8} (h0 : lexDig c.toNat = false) (h : lexIn c.toNat = false) (hs : lexSgn c.toNat = true) : lexFirst (c :: r) = (3, 1) := by
  have hl : lexLet c.toNat = false := by simpa [lexIn, h0] using h
  have hk : lexKind c.toNat = 3 := by unfold lexKind; rw [if_neg (by rw [h0]; decide), if_neg (by rw [hl]; decide), if_pos hs]
  rw [lexFirst_yes (by omega), hk]
  cases r with
  | nil => rfl
  | cons x r => rw [lexSpan_no (lexMore3 (by decide) (by decide) _)]
theorem first_none {c : UInt8} {r : List UInt8} (h0 : lexDig c.toNat = false) (h : lexIn c.toNat = false) (hs : lexSgn c.toNat = false) : lexFirst (c :: r) = (0, 0) := by
  have hl : lexLet c.toNat = false := by simpa [lexIn, h0] using h
  exact lexFirst_no (by unfold lexKind; rw [if_neg (by rw [h0]; decide), if_neg (by rw [hl]; decide), if_neg (by rw [hs]; decide)])
set_option maxRecDepth 4096 in
set_option maxHeartbeats 4000000 in
theorem lex_first (l : List UInt8) (hl : l.length ≤ 1000000) (w : World) : Calls Try.prog 17 #[.string (bs l)] w (fun e w' => e = .returned (.tuple #[.int .i64 ((lexFirst l).1 : Int), .int .i64 ((lexFirst l).2 : Int)]) ∧ Below w.heap.size w w') := by
  obtain ⟨F, hF⟩ : ∃ F, lexFirst l = F := ⟨_, rfl⟩
  rw [hF]
  have HF := Lib.hid hF
  clear hF
  cases l with
  | nil =>
    obtain rfl := HF.out.symm
    have hem : (bs []).toList.isEmpty = true := by rw [bs_list]; rfl
    go_enter Try.func17, Try.ntmps17
    go_wp2
    go_ret2
    exact ⟨rfl, Below.refl _ _⟩
  | cons c r =>
    have hem : (bs (c :: r)).toList.isEmpty = false := by rw [bs_list]; rfl
    have hsz := bs_size (c :: r)
    have h0 : (0 : Int) < ((c :: r).length : Int) := by simp
    have h0' : 0 < (c :: r).length := by simp
    have hg : ((bs (c :: r))[0]'(by rw [hsz]; exact h0')).toNat = c.toNat := by rw [bs_get (c :: r) 0 h0']; rfl
    have H1 : Hid (lexDig c.toNat = true → F = (1, lexSpan lexDig (c :: r))) := Lib.hid fun h => HF.out.symm.trans (first_dig h)
    have H2 : Hid (lexDig c.toNat = false → lexIn c.toNat = true → F = (2, lexSpan lexIn (c :: r))) := Lib.hid fun h g => HF.out.symm.trans (first_name h g)
    have H3 : Hid (lexDig c.toNat = false → lexIn c.toNat = false → lexSgn c.toNat = true → F = (3, 1)) := Lib.hid fun h g i => HF.out.symm.trans (first_sign h g i)
    have H4 : Hid (lexDig c.toNat = false → lexIn c.toNat = false → lexSgn c.toNat = false → F = (0, 0)) := Lib.hid fun h g i => HF.out.symm.trans (first_none h g i)
    have HD := Lib.hid (lex_isDigit c.toNat w)
    have HN := Lib.hid (lex_inName c.toNat w)
    have HS := Lib.hid (lex_isSign c.toNat c.toNat_lt w)
    generalize c.toNat = x at *
    have HL := Lib.hid hl
    generalize (c :: r) = L at *
    clear hl HF
    cases hd : lexDig x
    · rw [hd] at HD H2 H3 H4
      cases hn : lexIn x
      · rw [hn] at HN H3 H4
        cases hs : lexSgn x
        · rw [hs] at HS H4
          obtain rfl := H4.out rfl rfl rfl
          clear hd hn hs H1 H2 H3 H4
          go_enter Try.func17, Try.ntmps17
          go_wp2_with fail
          refine HD.out.mono ?_
          rintro e w1 ⟨rfl, rfl⟩
          go_wp2_with fail
          refine HN.out.mono ?_
          rintro e w1 ⟨rfl, rfl⟩
          go_wp2_with fail
          refine HS.out.mono ?_
          rintro e w1 ⟨rfl, hb⟩
          go_wp2
          go_ret2
          exact ⟨rfl, hb⟩
        · rw [hs] at HS H3
          obtain rfl := H3.out rfl rfl rfl
          clear hd hn hs H1 H2 H3 H4
          go_enter Try.func17, Try.ntmps17
          go_wp2_with fail
          refine HD.out.mono ?_
          rintro e w1 ⟨rfl, rfl⟩
          go_wp2_with fail
          refine HN.out.mono ?_
          rintro e w1 ⟨rfl, rfl⟩
          go_wp2_with fail
          refine HS.out.mono ?_
          rintro e w1 ⟨rfl, hb⟩
          go_wp2
          go_ret2
          exact ⟨rfl, hb⟩
      · rw [hn] at HN H2
        obtain rfl := H2.out rfl rfl
        clear hd hn H1 H2 H3 H4 HS
        obtain ⟨S, hS⟩ : ∃ S, lexSpan lexIn L = S := ⟨_, rfl⟩
        have HQ := Lib.hid (lex_span_inName L HL.out w)
        rw [hS] at HQ ⊢
        clear hS
        go_enter Try.func17, Try.ntmps17
        go_wp2_with fail
        refine HD.out.mono ?_
        rintro e w1 ⟨rfl, rfl⟩
        go_wp2_with fail
        refine HN.out.mono ?_
        rintro e w1 ⟨rfl, rfl⟩
        go_wp2_with fail
        refine HQ.out.mono ?_
        rintro e w1 ⟨rfl, rfl⟩
        go_wp2
        go_ret2
        exact ⟨rfl, Below.refl _ _⟩
    · rw [hd] at HD H1
      obtain rfl := H1.out rfl
      clear hd H1 H2 H3 H4 HS HN
      obtain ⟨S, hS⟩ : ∃ S, lexSpan lexDig L = S := ⟨_, rfl⟩
      have HQ := Lib.hid (lex_span_isDigit L HL.out w)
      rw [hS] at HQ ⊢
      clear hS
      go_enter Try.func17, Try.ntmps17
      go_wp2_with fail
      refine HD.out.mono ?_
      rintro e w1 ⟨rfl, rfl⟩
      go_wp2_with fail
      refine HQ.out.mono ?_
      rintro e w1 ⟨rfl, rfl⟩
      go_wp2
      go_ret2
      exact ⟨rfl, Below.refl _ _⟩
set_option maxRecDepth 4096 in
set_option maxHeartbeats 4000000 in
theorem lex_skip (l : List UInt8) (hl : l.length ≤ 1000000) (i : Nat) (hi : i ≤ l.length) (w : World) : Calls Try.prog 16 #[.string (bs l), .int .i64 (i : Int)] w (fun e w' => ∃ j : Nat, e = .returned (.int .i64 (j : Int)) ∧ Skips l i j ∧ Stops l j ∧ w = w') := by
  have hsz := bs_size l
  go_enter Try.func16, Try.ntmps16
  go_wp2
  go_loop [1] (fun iv => ∃ k : Nat, iv = .int .i64 (k : Int) ∧ k ≤ l.length ∧ Hid (Skips l i k)) (fun iv => l.length - (intOf iv).toNat)
  case atStart => exact ⟨i, rfl, hi, Lib.hid (Skips.refl hi)⟩
  case round =>
    obtain ⟨k, rfl, hk, HK⟩ := hrel
    by_cases hlt : k < l.length
    · obtain ⟨x, hx⟩ : ∃ x, l.getD k 0 = x := ⟨_, rfl⟩
      have hg : ((bs l)[k]'(by rw [hsz]; exact hlt)).toNat = x.toNat := by rw [bs_get l k hlt, hx]
      have hki : (k : Int) < (l.length : Int) := by omega
      have HX := Lib.hid hx
      clear hx
      by_cases h32 : x.toNat = 32
      · have q32 : ((x.toNat : Int) == 32) = true := by simp; omega
        have HS : Hid (Skips l i (k + 1)) := Lib.hid (HK.out.trans (Skips.blank hlt HX.out (by simp [lexBlank, h32])))
        have k1 : IntKind.i64.wrap ((k : Int) + 1) = (k : Int) + 1 := by rw [IntKind.wrap_i64]; omega
        clear h32
        go_wp2
        go_round
        case rel => exact ⟨k + 1, by go_num, by omega, HS⟩
        case measure => simp [intOf]; omega
      by_cases h9 : x.toNat = 9
      · have q32 : ((x.toNat : Int) == 32) = false := by simp; omega
        have q9 : ((x.toNat : Int) == 9) = true := by simp; omega
        have HS : Hid (Skips l i (k + 1)) := Lib.hid (HK.out.trans (Skips.blank hlt HX.out (by simp [lexBlank, h9])))
        have k1 : IntKind.i64.wrap ((k : Int) + 1) = (k : Int) + 1 := by rw [IntKind.wrap_i64]; omega
        clear h9
        go_wp2
        go_round
        case rel => exact ⟨k + 1, by go_num, by omega, HS⟩
        case measure => simp [intOf]; omega
      by_cases h10 : x.toNat = 10
      · have q32 : ((x.toNat : Int) == 32) = false := by simp; omega
        have q9 : ((x.toNat : Int) == 9) = false := by simp; omega
        have q10 : ((x.toNat : Int) == 10) = true := by simp; omega
        have HS : Hid (Skips l i (k + 1)) := Lib.hid (HK.out.trans (Skips.blank hlt HX.out (by simp [lexBlank, h10])))
        have k1 : IntKind.i64.wrap ((k : Int) + 1) = (k : Int) + 1 := by rw [IntKind.wrap_i64]; omega
        clear h10
        go_wp2
        go_round
        case rel => exact ⟨k + 1, by go_num, by omega, HS⟩
        case measure => simp [intOf]; omega
      by_cases h13 : x.toNat = 13
      · have q32 : ((x.toNat : Int) == 32) = false := by simp; omega
        have q9 : ((x.toNat : Int) == 9) = false := by simp; omega
        have q10 : ((x.toNat : Int) == 10) = false := by simp; omega
        have q13 : ((x.toNat : Int) == 13) = true := by simp; omega
        have HS : Hid (Skips l i (k + 1)) := Lib.hid (HK.out.trans (Skips.blank hlt HX.out (by simp [lexBlank, h13])))
        have k1 : IntKind.i64.wrap ((k : Int) + 1) = (k : Int) + 1 := by rw [IntKind.wrap_i64]; omega
        clear h13
        go_wp2
        go_round
        case rel => exact ⟨k + 1, by go_num, by omega, HS⟩
        case measure => simp [intOf]; omega
      by_cases h35 : x.toNat = 35
      · have q32 : ((x.toNat : Int) == 32) = false := by simp; omega
        have q9 : ((x.toNat : Int) == 9) = false := by simp; omega
        have q10 : ((x.toNat : Int) == 10) = false := by simp; omega
        have q13 : ((x.toNat : Int) == 13) = false := by simp; omega
        have q35 : ((x.toNat : Int) == 35) = true := by simp; omega
        have HS : Hid (Skips l i (k + lexSpan lexLine (l.drop k))) := Lib.hid (HK.out.trans (Skips.note hlt HX.out h35))
        have hpos := lexSpan_note hlt HX.out h35
        have hle := lexSpan_le lexLine (l.drop k)
        rw [List.length_drop] at hle
        have hdr : (bs l).extract k l.length = bs (l.drop k) := lb_drop l k
        have HQ := Lib.hid (lex_span_inLine (l.drop k) (by rw [List.length_drop]; omega) w)
        generalize lexSpan lexLine (l.drop k) = S at *
        have k1 : IntKind.i64.wrap ((k : Int) + (S : Int)) = (k : Int) + (S : Int) := by rw [IntKind.wrap_i64]; omega
        clear h35
        go_wp2_with fail
        refine HQ.out.mono ?_
        rintro e w1 ⟨rfl, rfl⟩
        go_wp2
        go_round
        case rel => exact ⟨k + S, by go_num, by omega, HS⟩
        case measure => simp [intOf]; omega
      · have HS : Hid (Stops l k) := Lib.hid (Stops.at HX.out hlt h35 (by simp [lexBlank, h32, h9, h10, h13]))
        have q32 : ((x.toNat : Int) == 32) = false := by simp; omega
        have q9 : ((x.toNat : Int) == 9) = false := by simp; omega
        have q10 : ((x.toNat : Int) == 10) = false := by simp; omega
        have q13 : ((x.toNat : Int) == 13) = false := by simp; omega
        have q35 : ((x.toNat : Int) == 35) = false := by simp; omega
        clear h35 h32 h9 h10 h13
        go_wp2
        go_ret
        exact ⟨k, rfl, HK.out, HS.out, rfl⟩
    · obtain rfl : k = l.length := by omega
      go_wp2
      go_ret
      exact ⟨l.length, rfl, HK.out, Stops.end l, rfl⟩
end Go.Proofs.Ytblnllilepfheaa
