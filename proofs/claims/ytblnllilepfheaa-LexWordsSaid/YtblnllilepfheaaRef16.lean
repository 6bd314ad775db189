/-
  The document's answer of layer 16: digit, letter, Kind, more, Most.
-/
import Derived.Test.YtblnllilepfheaaLexPlain
import Derived.Test.YtblnllilepfheaaSlice
import Derived.WalkKit
namespace Go.Proofs.Ytblnllilepfheaa
open Go.RowKit

/-- Just this comes back; nothing is made. -/
def Same1 (v : Value) (w : World) (e : Ending) (w' : World) : Prop := e = .returned v ∧ w = w'
set_option maxRecDepth 4096 in
set_option maxHeartbeats 4000000 in
theorem ref16_digit (c : Nat) (w : World) : Calls Try.prog 32 #[.int .u8 (c : Int)] w (Same1 (.bool (lexDig c)) w) := by
  unfold lexDig
  by_cases h1 : 48 ≤ c
  · have h1' : (48 : Int) ≤ (c : Int) := by omega
    rw [decide_eq_true h1, Bool.true_and]
    have h2 : decide (c ≤ 57) = decide ((c : Int) ≤ 57) := decide_eq_decide.2 (by omega)
    rw [h2]
    go_enter Try.func32, Try.ntmps32
    go_wp2
    go_ret
    exact ⟨rfl, rfl⟩
  · have h1' : ¬ (48 : Int) ≤ (c : Int) := by omega
    rw [decide_eq_false h1, Bool.false_and]
    go_enter Try.func32, Try.ntmps32
    go_wp2
    go_ret
    exact ⟨rfl, rfl⟩
set_option maxRecDepth 4096 in
set_option maxHeartbeats 4000000 in
theorem ref16_letter (c : Nat) (w : World) : Calls Try.prog 33 #[.int .u8 (c : Int)] w (Same1 (.bool (lexLet c)) w) := by
  obtain ⟨r, hr⟩ : ∃ r, lexLet c = r := ⟨_, rfl⟩
  rw [hr]
  unfold lexLet at hr
  have hd : r = decide ((97 ≤ c ∧ c ≤ 122) ∨ (65 ≤ c ∧ c ≤ 90) ∨ c = 95) := by
    rw [← hr, Bool.or_assoc, ← Bool.decide_or, ← Bool.decide_or]
  clear hr
  by_cases h1 : 97 ≤ c
  · have k1 : (97 : Int) ≤ (c : Int) := by omega
    have k2 : (65 : Int) ≤ (c : Int) := by omega
    have k3 : ¬ (c : Int) ≤ 90 := by omega
    have k4 : ¬ (c : Int) = 95 := by omega
    have hd2 : r = decide ((c : Int) ≤ 122) := by rw [hd]; exact decide_eq_decide.2 (by omega)
    by_cases h2 : c ≤ 122
    · have k5 : (c : Int) ≤ 122 := by omega
      rw [hd2, decide_eq_true k5]
      clear hd hd2
      go_enter Try.func33, Try.ntmps33
      go_wp2
      go_ret
      exact ⟨rfl, rfl⟩
    · have k5 : ¬ (c : Int) ≤ 122 := by omega
      rw [hd2, decide_eq_false k5]
      clear hd hd2
      go_enter Try.func33, Try.ntmps33
      go_wp2
      go_ret
      exact ⟨by simp; omega, rfl⟩
  · have k1 : ¬ (97 : Int) ≤ (c : Int) := by omega
    by_cases h2 : 65 ≤ c
    · have k2 : (65 : Int) ≤ (c : Int) := by omega
      by_cases h3 : c ≤ 90
      · have k3 : (c : Int) ≤ 90 := by omega
        rw [hd, decide_eq_true (by omega)]
        clear hd
        go_enter Try.func33, Try.ntmps33
        go_wp2
        go_ret
        exact ⟨rfl, rfl⟩
      · have k3 : ¬ (c : Int) ≤ 90 := by omega
        have hd2 : r = ((c : Int) == 95) := by rw [hd, Bool.eq_iff_iff]; simp; omega
        rw [hd2]
        clear hd hd2
        go_enter Try.func33, Try.ntmps33
        go_wp2
        go_ret
        exact ⟨rfl, rfl⟩
    · have k2 : ¬ (65 : Int) ≤ (c : Int) := by omega
      have k4 : ((c : Int) == 95) = false := by simp; omega
      rw [hd, decide_eq_false (by omega)]
      clear hd
      go_enter Try.func33, Try.ntmps33
      go_wp2
      go_ret
      exact ⟨by first | rfl | (simp; omega), rfl⟩
theorem sgn_from (c : Nat) : lexSgn c = (lexSigns.drop 0).any fun x => x.toNat == c := rfl
set_option maxRecDepth 4096 in
set_option maxHeartbeats 8000000 in
theorem ref16_kind (c : Nat) (w : World) : Calls Try.prog 21 #[.int .u8 (c : Int)] w (Same1 (.int .i64 (lexKind c : Int)) w) := by
  have HD := Lib.hid (ref16_digit c w)
  have HL := Lib.hid (ref16_letter c w)
  unfold lexKind
  by_cases h1 : lexDig c = true
  · rw [if_pos h1]
    rw [h1] at HD
    go_enter Try.func21, Try.ntmps21
    go_wp2_with fail
    refine HD.out.mono ?_
    rintro e w1 ⟨rfl, rfl⟩
    go_wp2
    go_ret
    exact ⟨rfl, rfl⟩
  · rw [if_neg h1]
    have h1' : lexDig c = false := by simpa using h1
    rw [h1'] at HD
    by_cases h2 : lexLet c = true
    · rw [if_pos h2]
      rw [h2] at HL
      go_enter Try.func21, Try.ntmps21
      go_wp2_with fail
      refine HD.out.mono ?_
      rintro e w1 ⟨rfl, rfl⟩
      go_wp2_with fail
      refine HL.out.mono ?_
      rintro e w1 ⟨rfl, rfl⟩
      go_wp2
      go_ret
      exact ⟨rfl, rfl⟩
    · rw [if_neg h2]
      have h2' : lexLet c = false := by simpa using h2
      rw [h2'] at HL
      clear h1 h1' h2 h2'
      obtain ⟨K, hK⟩ : ∃ K : Nat, (if lexSgn c = true then 3 else 0) = K := ⟨_, rfl⟩
      rw [hK]
      have HK0 : Hid (lexSgn c = lexSgn c ∧ ((lexSgn c = true → K = 3) ∧ (lexSgn c = false → K = 0))) := Lib.hid ⟨rfl, fun h => by rw [← hK, if_pos h], fun h => by rw [← hK, if_neg (by rw [h]; decide)]⟩
      clear hK
      go_enter Try.func21, Try.ntmps21
      go_wp2_with fail
      refine HD.out.mono ?_
      rintro e w1 ⟨rfl, rfl⟩
      go_wp2_with fail
      refine HL.out.mono ?_
      rintro e w1 ⟨rfl, rfl⟩
      clear HD HL
      go_wp2
      go_loop [4] (fun iv => ∃ k : Nat, iv = .int .i64 (k : Int) ∧ k ≤ 12 ∧ Hid (lexSgn c = (lexSigns.drop k).any fun x => x.toNat == c)) (fun iv => 12 - (intOf iv).toNat)
      case atStart => exact ⟨0, by go_num, by omega, Lib.hid (sgn_from c)⟩
      case round =>
        obtain ⟨k, rfl, hk, HR⟩ := hrel
        by_cases hlt : k < 12
        · have hb : k < lexSigns.length := hlt
          have hg : ((⟨#[43, 45, 42, 47, 94, 40, 41, 91, 93, 44, 59, 61]⟩ : ByteArray)[k]'hlt).toNat = (lexSigns.getD k 0).toNat := bs_get lexSigns k hb hlt
          have hdr : lexSigns.drop k = lexSigns.getD k 0 :: lexSigns.drop (k + 1) := by
            rw [List.drop_eq_getElem_cons hb, List.getD_eq_getElem?_getD, List.getElem?_eq_getElem hb]; rfl
          obtain ⟨x, hx⟩ : ∃ x, lexSigns.getD k 0 = x := ⟨_, rfl⟩
          rw [hx] at hg hdr
          have HR2 : Hid (lexSgn c = ((x.toNat == c) || (lexSigns.drop (k + 1)).any fun x => x.toNat == c)) := Lib.hid (by have h9 := HR.out; rw [hdr] at h9; exact h9)
          by_cases hc : x.toNat = c
          · have hc' : ((x.toNat : Int) == (c : Int)) = true := by simp [hc]
            have hK3 : K = 3 := HK0.out.2.1 (by rw [HR2.out, hc]; simp)
            subst hK3
            go_wp2
            go_ret
            exact ⟨rfl, rfl⟩
          · have hc' : ((x.toNat : Int) == (c : Int)) = false := by simp; omega
            go_wp2
            go_round
            case rel => exact ⟨k + 1, by go_num, by omega, Lib.hid (by rw [HR2.out]; simp [hc])⟩
            case measure => simp [intOf]; omega
        · obtain rfl : k = 12 := by omega
          have hK0 : K = 0 := HK0.out.2.2 (by rw [HR.out]; rfl)
          subst hK0
          go_wp2
          go_ret
          exact ⟨rfl, rfl⟩
set_option maxRecDepth 4096 in
set_option maxHeartbeats 8000000 in
theorem ref16_more (k : Int) (k' : Nat) (hk : k = (k' : Int)) (c : Nat) (w : World) : Calls Try.prog 20 #[.int .i64 k, .int .u8 (c : Int)] w (Same1 (.bool (lexMore k' c)) w) := by
  have HD := Lib.hid (ref16_digit c w)
  have HL := Lib.hid (ref16_letter c w)
  obtain ⟨d, hd⟩ : ∃ d, lexDig c = d := ⟨_, rfl⟩
  obtain ⟨l, hl⟩ : ∃ l, lexLet c = l := ⟨_, rfl⟩
  unfold lexMore
  rw [hd] at HD ⊢
  rw [hl] at HL ⊢
  clear hd hl
  by_cases h1 : k' = 1
  · have k1 : k = 1 := by omega
    subst h1 k1
    clear hk
    cases d
    · go_enter Try.func20, Try.ntmps20
      go_wp2_with fail
      refine HD.out.mono ?_
      rintro e w1 ⟨rfl, rfl⟩
      go_wp2
      go_ret
      exact ⟨rfl, rfl⟩
    · go_enter Try.func20, Try.ntmps20
      go_wp2_with fail
      refine HD.out.mono ?_
      rintro e w1 ⟨rfl, rfl⟩
      go_wp2
      go_ret
      exact ⟨rfl, rfl⟩
  · have k1 : ¬ k = 1 := by omega
    have k1' : (k == 1) = false := by simp [k1]
    by_cases h2 : k' = 2
    · have k2 : k = 2 := by omega
      subst h2 k2
      clear hk h1 k1 k1'
      cases d
      · go_enter Try.func20, Try.ntmps20
        go_wp2_with fail
        refine HD.out.mono ?_
        rintro e w1 ⟨rfl, rfl⟩
        go_wp2_with fail
        refine HL.out.mono ?_
        rintro e w1 ⟨rfl, rfl⟩
        go_wp2
        go_ret
        exact ⟨rfl, rfl⟩
      · go_enter Try.func20, Try.ntmps20
        go_wp2_with fail
        refine HD.out.mono ?_
        rintro e w1 ⟨rfl, rfl⟩
        go_wp2
        go_ret
        exact ⟨rfl, rfl⟩
    · have k2 : ¬ k = 2 := by omega
      have k2' : (k == 2) = false := by simp [k2]
      rw [decide_eq_false h1, decide_eq_false h2]
      clear h1 h2 HD HL hk
      go_enter Try.func20, Try.ntmps20
      go_wp2
      go_ret
      exact ⟨rfl, rfl⟩
set_option maxRecDepth 4096 in
set_option maxHeartbeats 4000000 in
theorem ref16_most (k : Int) (k' : Nat) (hk : k = (k' : Int)) (w : World) : Calls Try.prog 22 #[.int .i64 k] w (Same1 (.int .i64 (lexMost k' : Int)) w) := by
  unfold lexMost
  by_cases h1 : k' = 1
  · have k1 : k = 1 := by omega
    subst h1 k1
    clear hk
    go_enter Try.func22, Try.ntmps22
    go_wp2
    go_ret
    exact ⟨rfl, rfl⟩
  · have k1 : ¬ k = 1 := by omega
    by_cases h2 : k' = 2
    · have k2 : k = 2 := by omega
      subst h2 k2
      clear hk h1 k1
      go_enter Try.func22, Try.ntmps22
      go_wp2
      go_ret
      exact ⟨rfl, rfl⟩
    · have k2 : ¬ k = 2 := by omega
      rw [if_neg h1, if_neg h2]
      clear h1 h2 hk
      go_enter Try.func22, Try.ntmps22
      go_wp2
      go_ret
      exact ⟨rfl, rfl⟩
end Go.Proofs.Ytblnllilepfheaa
