/-
  The contracts of the document's answer for layer 10: Text, tens.
-/
import Derived.Test.YtjeigdlhjghinaaGreatDoorG15
import Derived.Test.YtjeigdlhjghinaaGreatDoorG13
import Derived.Test.YtjeigdlhjghinaaGreatDoorG24
import Derived.Test.YtjeigdlhjghinaaGreatDoorG12
import Derived.Test.YtjeigdlhjghinaaGreatDoorG11
namespace Go.Proofs.YtjeigdlhjghinaaGreatDoor
open Go.RowKit

theorem blen_txt {w : World} {a : Option Addr} {n cap : Nat} {l : List Nat} (h : Wd w a n cap l) (hn : n ≤ 1000) : (txt (val l)).length ≤ 32001 := by
  have h1 := val_lt h.ok
  rw [h.len, pow32] at h1
  have h2 := txt_length_le h1
  omega
set_option maxRecDepth 4096 in
set_option maxHeartbeats 2000000 in
theorem ref10_text (q : Rat) (a : Option Addr) (n cap : Nat) (b : Option Addr) (m cap' : Nat) (w : World) (ha : Wd w a n cap (dg q.num.natAbs)) (hb : Wd w b m cap' (dg q.den)) (hn : n ≤ 1000) (hm : m ≤ 1000) :
    Calls Tryz.prog 76 #[frV (zneg q.num) a n cap b m cap'] w (Gives (.string (bs (ftxt q))) w) := by
  have HB := Lib.hid (below_alloc w (.cells #[.bool (zneg q.num), .slice a n cap, .slice b m cap'] 44))
  have HX := Lib.hid (blk_new w #[.bool (zneg q.num), .slice a n cap, .slice b m cap'] 44)
  have HA := Lib.hid (ha.later HB.out)
  have HC := Lib.hid (hb.later HB.out)
  have ht1 := blen_txt ha hn
  have ht2 := blen_txt hb hm
  rw [val_dg] at ht1 ht2
  have hz : (ztxt q.num).length ≤ 32002 := by unfold ztxt; split <;> (try rw [List.length_cons]) <;> omega
  have HZ : Hid (zval (zneg q.num) (val (dg q.num.natAbs)) = q.num) := Lib.hid (by rw [val_dg, zval_of])
  have HV : Hid (val (dg q.den) = q.den) := Lib.hid (val_dg q.den)
  have hs1 := bs_size (ztxt q.num)
  have hs2 := bs_size [47]
  have hs3 := bs_size (txt q.den)
  simp only [List.length_cons, List.length_nil] at hs2
  clear ha hb
  go_enter Tryz.func76, Tryz.ntmps76
  unfold frV
  obtain ⟨k0, k1, k2⟩ := cells_3 HX.out
  go_wp2_with fail
  refine (ref09_up _ a n cap b m cap' _).mono ?_
  rintro e w1 ⟨rfl, b1⟩
  clear k0 k1 k2
  replace HB := Lib.hid (below_then HB.out b1)
  replace HX := Lib.hid (blk_later HX.out b1)
  replace HA := Lib.hid (HA.out.later b1)
  replace HC := Lib.hid (HC.out.later b1)
  clear b1
  unfold whV
  go_wp2_with fail
  refine (ref08_text_z _ a n cap _ q.num _ HA.out (by omega) HZ.out).mono ?_
  rintro e w2 ⟨rfl, b2⟩
  replace HB := Lib.hid (below_then HB.out b2)
  replace HX := Lib.hid (blk_later HX.out b2)
  replace HC := Lib.hid (HC.out.later b2)
  clear b2
  obtain ⟨k0, k1, k2⟩ := cells_3 HX.out
  go_wp2_with fail
  refine (ref06_one b m cap' q.den _ HC.out).mono ?_
  rintro e w3 ⟨rfl, rfl⟩
  by_cases hd : q.den = 1
  · have HF : Hid (ftxt q = ztxt q.num) := Lib.hid (by unfold ftxt; rw [if_pos hd, List.append_nil])
    rw [decide_eq_true hd]
    clear hd
    go_wp2
    go_ret
    exact ⟨by rw [HF.out]; rfl, HB.out⟩
  · have HF : Hid (bs (ztxt q.num) ++ (bs [47] ++ bs (txt q.den)) = bs (ftxt q)) := Lib.hid (by rw [bs_append, bs_append]; unfold ftxt; rw [if_neg hd]; rfl)
    rw [decide_eq_false hd]
    clear hd
    go_wp2_with fail
    refine (ref07_text b m cap' _ _ HC.out (by omega)).mono ?_
    rintro e w4 ⟨rfl, b4⟩
    rw [HV.out]
    go_wp2
    go_ret
    exact ⟨by rw [← HF.out]; rfl, below_then HB.out b4⟩
set_option maxRecDepth 4096 in
set_option maxHeartbeats 2000000 in
theorem ref10_tens (N : Nat) (w : World) (hN : N ≤ 100) : Calls Tryz.prog 115 #[.int .i64 (N : Int)] w (Lst (dg (10 ^ N)) w) := by
  have HL : Hid (∀ k, k ≤ 100 → (dg (10 ^ k)).length ≤ 60) := Lib.hid (fun k hk => by
    apply dg_length_le
    have h1 : 10 ^ k ≤ 10 ^ 100 := Nat.pow_le_pow_right (by decide) hk
    have h2 : (10 : Nat) ^ 100 < 4294967296 ^ 60 := by decide
    omega)
  have H1 := Lib.hid (Wd.lit1 w 91 (x := 1) (by omega))
  have HD1 : Hid (dg (10 ^ 0) = [1]) := Lib.hid (dg_word (by decide) (by decide))
  have HB0 := Lib.hid (below_alloc w (.cells #[.int .u32 ((1 : Nat) : Int)] 91))
  go_enter Tryz.func115, Tryz.ntmps115
  go_wp2
  go_loopw [3, 4] (fun v i wr => ∃ (k : Nat) (a : Option Addr) (n c : Nat), k ≤ N ∧ i = .int .i64 (k : Int) ∧ v = .slice a n c ∧ Hid (Wd wr a n c (dg (10 ^ k))) ∧ Hid (Below w.heap.size w wr)) (fun _ i _ => N - (intOf i).toNat)
  case atStart => exact ⟨0, _, _, _, by omega, rfl, rfl, Lib.hid (by rw [HD1.out]; exact H1.out), HB0⟩
  case round =>
    clear H1 HB0 HD1
    obtain ⟨k, a, n, c, hk, rfl, rfl, HW, HB⟩ := hrel
    have hn : n ≤ 60 := by rw [← HW.out.len]; exact HL.out k (by omega)
    by_cases hlt : k < N
    · have hki : (k : Int) < (N : Int) := by omega
      have HX : Hid (val (dg (10 ^ k)) * val [10] = 10 ^ (k + 1)) := Lib.hid (by rw [val_dg, Nat.pow_succ]; rfl)
      go_wp2_with fail
      refine (ref04_mul a n c _ _ 1 1 [10] _ (HW.out.later (below_alloc _ _)) (Wd.lit1 wr 91 (x := 10) (by omega)) (by omega) (by omega)).mono ?_
      rintro e w2 ⟨a2, n2, c2, rfl, h2, b2⟩
      rw [HX.out] at h2
      have H2 := Lib.hid h2
      have HB2 := Lib.hid (below_then HB.out (below_then (below_alloc _ _) b2))
      clear h2 b2
      go_wp2
      go_roundw
      case rel => exact ⟨k + 1, a2, n2, c2, by omega, by go_num, rfl, H2, HB2⟩
      case measure => simp [intOf]; omega
    · obtain rfl : k = N := by omega
      go_wp2
      go_ret
      exact ⟨a, n, c, rfl, HW.out, HB.out⟩
end Go.Proofs.YtjeigdlhjghinaaGreatDoor
