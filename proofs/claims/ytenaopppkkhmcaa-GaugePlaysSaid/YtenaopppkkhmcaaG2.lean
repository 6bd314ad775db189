/-
  Several texts of this claim as one, group 2.
-/
import Derived.Test.YtenaopppkkhmcaaG1
import Derived.Lib.BitFns
import Derived.Lib.TrailingZeros
import Derived.Laws.OwnMore
import Derived.Test.YtenaopppkkhmcaaRows
import Derived.IntWalk
import Derived.Deep.QuietTactic
import Derived.BigQuiet
import Derived.Deep.AppendSrc
import Derived.Deep.DeepMust
/-
  The contracts of package nat (layer 2) at this seat: Add, less, Sub, Gap.
-/
namespace Go.Proofs.Ytenaopppkkhmcaa
open Go.RowKit

set_option maxRecDepth 4096 in
set_option maxHeartbeats 4000000 in
theorem nat_less (a : Option Addr) (n cap : Nat) (la : List Nat) (b : Option Addr) (m cap' : Nat) (lb : List Nat) (w : World) (ha : Wd w a n cap la) (hb : Wd w b m cap' lb) (hn : n ≤ 17592183947264) (hle : Hid (val lb ≤ val la)) :
    Calls Try.prog 66 #[.slice a n cap, .slice b m cap'] w (Lst (dg (val la - val lb)) w) := by
  obtain ⟨hb1, hb2⟩ := ha.bound
  obtain ⟨hb3, hb4⟩ := hb.bound
  have Ha := Lib.hid ha
  have Hb := Lib.hid hb
  clear ha hb
  go_enter Try.func66, Try.ntmps66
  go_wp2_with fail
  refine (nat_trim _ _ _ _ _ Ha.out).mono ?_
  rintro e w' ⟨p, rfl, Hp, hp, HA, rfl⟩
  go_wp2_with fail
  refine (nat_trim _ _ _ _ _ Hb.out).mono ?_
  rintro e w' ⟨q, rfl, Hq, hq, HB, rfl⟩
  have hqp : q ≤ p := by rw [Hp.out, Hq.out]; exact dg_length_mono hle.out
  go_wp2_with fail
  refine (nat_norm _ _ _ _ _ HA.out (by omega)).mono ?_
  rintro e w1 ⟨g, r, rfl, Hr, Hown, hB1⟩
  rw [val_dg] at Hr Hown
  have HO : Hid (Own w1 w.heap.size g r r (dg (val la))) := Lib.hid ⟨Hown.out, okw_dg _⟩
  have hrp : r = p := by rw [Hr.out, Hp.out]
  clear Hown Hr
  subst hrp
  have hx : Hid (okw (dg (val la)) ∧ (dg (val la)).length = r ∧ val (dg (val la)) = val la) := Lib.hid ⟨okw_dg _, Hp.out.symm, val_dg _⟩
  have hy : Hid (okw (dg (val lb)) ∧ (dg (val lb)).length = q ∧ val (dg (val lb)) = val lb) := Lib.hid ⟨okw_dg _, Hq.out.symm, val_dg _⟩
  clear Ha HA Hb Hp Hq
  generalize dg (val la) = x at *
  generalize dg (val lb) = y at *
  go_wp2
  go_loopw [6, 18] (fun cv iv w2 => ∃ (k c : Nat) (o : List Nat), k ≤ q ∧ iv = .int .i64 k ∧ cv = .int .u32 (c : Int) ∧ c ≤ 1 ∧ Hid (o.length = k) ∧ Hid (low x k + 4294967296 ^ k * c = low y k + val o) ∧ Hid (Own w2 w.heap.size g r r (o ++ x.drop k)) ∧ Below w.heap.size w w2) (fun _ iv _ => q - (intOf iv).toNat)
  case atStart => exact ⟨0, 0, [], by omega, rfl, rfl, by omega, Lib.hid rfl, Lib.hid (by rw [low_zero, low_zero]; rfl), Lib.hid (by simpa using HO.out), hB1⟩
  case round =>
    clear HO hB1
    obtain ⟨k, c, o, hk, rfl, rfl, hc, Hol, Hv, HO, hB2⟩ := hrel
    by_cases hlt : k < q
    · obtain ⟨bb, ob, rfl, hcb⟩ := (HB.out.later hB2).at (by omega)
      have hcbk := hcb k hlt
      have hcell := HO.out.cell (k := k) (by omega)
      rw [atw_over _ _ _ Hol.out] at hcell
      have hfro := HO.out.1.frozenAt k
      have hyl := atw_lt hy.out.1 k
      have hxl := atw_lt hx.out.1 k
      obtain ⟨xk, hxk⟩ : ∃ xk, xk = atw x k := ⟨_, rfl⟩
      obtain ⟨yk, hyk⟩ : ∃ yk, yk = atw y k := ⟨_, rfl⟩
      rw [← hxk] at hxl hcell
      rw [← hyk] at hyl hcbk
      have Hxk := Lib.hid hxk
      have Hyk := Lib.hid hyk
      have hk1 : (k : Int) < (r : Int) := by omega
      have hb := HO.out.base
      clear hxk hyk hcb
      go_wp2_with (go_at_call 71; (with_reducible refine (limb_sub_nat xk yk c _ (by omega) (by omega) (by omega)).mono ?_); rintro e w' ⟨s, z, rfl, hz, hs, Hs, rfl⟩)
      go_roundw
      case rel => exact ⟨k + 1, z, o ++ [s], by omega, by go_num, rfl, hz, Lib.hid (by have := Hol.out; simp; omega), Lib.hid (sub_step Hol.out Hv.out (by rw [← Hxk.out, ← Hyk.out]; exact Hs.out)), Lib.hid (by have h := HO.out.set k s hs; rwa [set_over o x k s Hol.out (by rw [hx.out.2.1]; omega)] at h), hB2.setCell hb.1 _⟩
      case measure => simp [intOf]; omega
    · obtain rfl : k = q := by omega
      go_wp2
      go_loopw [6, 9] (fun cv iv w3 => ∃ (t c : Nat) (o : List Nat), k ≤ t ∧ t ≤ r ∧ iv = .int .i64 t ∧ cv = .int .u32 (c : Int) ∧ c ≤ 1 ∧ Hid (o.length = t) ∧ Hid (low x t + 4294967296 ^ t * c = low y t + val o) ∧ Hid (Own w3 w.heap.size g r r (o ++ x.drop t)) ∧ Below w.heap.size w w3) (fun _ iv _ => r - (intOf iv).toNat)
      case atStart => exact ⟨k, c, o, by omega, by omega, rfl, rfl, hc, Hol, Hv, HO, hB2⟩
      case round =>
        clear HO hB2 Hv Hol hc
        obtain ⟨t, c, o, hkt, htn, rfl, rfl, hc, Hol, Hv, HO, hB2⟩ := hrel
        by_cases hc0 : c = 0
        · subst hc0
          have hfin : val (o ++ x.drop t) = val la - val lb := by
            have := sub_stop (la := x) (lb := y) Hol.out (by rw [hy.out.2.1]; exact hkt) (by simpa using Hv.out)
            rw [hx.out.2.2, hy.out.2.2] at this
            omega
          have Hfin := Lib.hid hfin
          clear hfin
          by_cases hlt : t < r
          · go_wp2_with fail
            refine (nat_trim _ _ _ _ _ HO.out.wd).mono ?_
            rintro e w' ⟨s, rfl, Hs, hs, HT, rfl⟩
            rw [Hfin.out] at HT
            go_wp2
            go_ret
            exact ⟨_, s, _, rfl, HT.out, hB2⟩
          · go_wp2_with fail
            refine (nat_trim _ _ _ _ _ HO.out.wd).mono ?_
            rintro e w' ⟨s, rfl, Hs, hs, HT, rfl⟩
            rw [Hfin.out] at HT
            go_wp2
            go_ret
            exact ⟨_, s, _, rfl, HT.out, hB2⟩
        · have Hc1 : Hid (c = 1) := Lib.hid (by omega)
          have hcp : 0 < c := by omega
          have hcpi : (0 : Int) < (c : Int) := by omega
          clear hc0
          by_cases hlt : t < r
          · have hcell := HO.out.cell (k := t) (by omega)
            rw [atw_over _ _ _ Hol.out] at hcell
            have hfro := HO.out.1.frozenAt t
            have hxl := atw_lt hx.out.1 t
            obtain ⟨xk, hxk⟩ : ∃ xk, xk = atw x t := ⟨_, rfl⟩
            rw [← hxk] at hxl hcell
            have Hxk := Lib.hid hxk
            have Hyk : Hid (atw y t = 0) := Lib.hid (atw_ge (by rw [hy.out.2.1]; exact hkt))
            have hk1 : (t : Int) < (r : Int) := by omega
            have hb := HO.out.base
            clear hxk
            go_wp2_with (go_at_call 71; (with_reducible refine (limb_sub_nat0 xk c _ (by omega) (by omega)).mono ?_); rintro e w' ⟨s, z, rfl, hz, hs, Hs, rfl⟩)
            go_roundw
            case rel => exact ⟨t + 1, z, o ++ [s], by omega, by omega, by go_num, rfl, hz, Lib.hid (by have := Hol.out; simp; omega), Lib.hid (sub_step Hol.out Hv.out (by rw [← Hxk.out, Hyk.out]; exact Hs.out)), Lib.hid (by have h := HO.out.set t s hs; rwa [set_over o x t s Hol.out (by rw [hx.out.2.1]; omega)] at h), hB2.setCell hb.1 _⟩
            case measure => simp [intOf]; omega
          · exfalso
            obtain rfl : t = r := by omega
            have h1 := Hv.out
            have h2 := val_lt (okw_append.1 HO.out.2).1
            have h3 := hle.out
            rw [Hc1.out, low_ge (by rw [hx.out.2.1]; omega), low_ge (by rw [hy.out.2.1]; exact hkt), hx.out.2.2, hy.out.2.2] at h1
            rw [Hol.out] at h2
            omega
theorem nat_gap (a : Option Addr) (n cap : Nat) (la : List Nat) (b : Option Addr) (m cap' : Nat) (lb : List Nat) (w : World) (ha : Wd w a n cap la) (hb : Wd w b m cap' lb) (hn : n ≤ 17592183947264) (hm : m ≤ 17592183947264) :
    Calls Try.prog 60 #[.slice a n cap, .slice b m cap'] w (Lst2 (dg (val la - val lb + (val lb - val la))) (.int .i64 (cmpI (val la) (val lb))) w) := by
  have Ha := Lib.hid ha
  have Hb := Lib.hid hb
  clear ha hb
  go_enter Try.func60, Try.ntmps60
  go_wp2_with fail
  refine (nat_cmp _ _ _ _ _ _ _ _ _ Ha.out Hb.out).mono ?_
  rintro e w1 ⟨rfl, hB1⟩
  have Ha1 := Lib.hid (Ha.out.later hB1)
  have Hb1 := Lib.hid (Hb.out.later hB1)
  by_cases hlt : val la < val lb
  · have hc : cmpI (val la) (val lb) < 0 := by rw [cmpI_lt hlt]; omega
    have hv : val la - val lb + (val lb - val la) = val lb - val la := by omega
    have Hv := Lib.hid hv
    have hle : Hid (val la ≤ val lb) := Lib.hid (by omega)
    clear hlt hv
    generalize cmpI (val la) (val lb) = c at *
    go_wp2_with fail
    refine (nat_less _ _ _ _ _ _ _ _ _ Hb1.out Ha1.out hm hle).mono ?_
    rintro e w2 ⟨a2, n2, c2, rfl, h2, hB2⟩
    have H2 := Lib.hid h2
    clear h2
    go_wp2
    go_ret2
    exact ⟨_, _, _, rfl, by rw [Hv.out]; exact H2.out, below_then hB1 hB2⟩
  · have hc : ¬ cmpI (val la) (val lb) < 0 := by unfold cmpI; split <;> (try split) <;> omega
    have hv : val la - val lb + (val lb - val la) = val la - val lb := by omega
    have Hv := Lib.hid hv
    have hle : Hid (val lb ≤ val la) := Lib.hid (by omega)
    clear hlt hv
    generalize cmpI (val la) (val lb) = c at *
    go_wp2_with fail
    refine (nat_less _ _ _ _ _ _ _ _ _ Ha1.out Hb1.out hn hle).mono ?_
    rintro e w2 ⟨a2, n2, c2, rfl, h2, hB2⟩
    have H2 := Lib.hid h2
    clear h2
    go_wp2
    go_ret2
    exact ⟨_, _, _, rfl, by rw [Hv.out]; exact H2.out, below_then hB1 hB2⟩
end Go.Proofs.Ytenaopppkkhmcaa

/-
  Package nat keeps what the laws of layer 2 lean on.
-/
namespace Go.Proofs.Ytenaopppkkhmcaa
open Go.RowKit
theorem natSaid : NatSaid where
  norm := fun a n cap l w h hn => (nat_norm a n cap l w h hn).mono fun _ _ ⟨_, _, he, _, HO, hB⟩ => ⟨_, _, _, he, Wd.own HO.out (okw_dg _), hB⟩
  of := nat_of
  small := fun a n cap l w h _ => nat_small a n cap l w h
  zero := fun a n cap l w h _ => nat_zero a n cap l w h
  cmp := fun a n cap la b m cap' lb w ha hb _ _ => nat_cmp a n cap la b m cap' lb w ha hb
  gap := nat_gap
end Go.Proofs.Ytenaopppkkhmcaa

/-
  Plain mathematics: the bits of natural numbers, of lists of words, and shifts. Nothing of the program.
-/
namespace Go.Proofs.Ytenaopppkkhmcaa

theorem pow32 (k : Nat) : (4294967296 : Nat) ^ k = 2 ^ (32 * k) := by rw [Nat.pow_mul]

/-- How many bits a number has. -/
def blen (n : Nat) : Nat := if n = 0 then 0 else n.log2 + 1
theorem lt_blen (n : Nat) : n < 2 ^ blen n := by
  unfold blen; split
  · subst_vars; decide
  · exact Nat.lt_log2_self
theorem blen_le {n k : Nat} : blen n ≤ k ↔ n < 2 ^ k := by
  constructor
  · intro h; exact Nat.lt_of_lt_of_le (lt_blen n) (Nat.pow_le_pow_right (by decide) h)
  · intro h
    unfold blen; split
    · omega
    · rename_i h0; exact (Nat.log2_lt h0).2 h
theorem blen_ge {n : Nat} (h : n ≠ 0) : 2 ^ (blen n - 1) ≤ n := by
  unfold blen; rw [if_neg h, Nat.add_sub_cancel]; exact Nat.log2_self_le h
theorem blen_pos {n : Nat} (h : n ≠ 0) : 0 < blen n := by unfold blen; rw [if_neg h]; omega
theorem blen_eq {n k : Nat} (h : n < 2 ^ k) (hk : k = 0 ∨ 2 ^ (k - 1) ≤ n) : blen n = k := by
  have h1 := blen_le.2 h
  rcases hk with hk | hk
  · omega
  · rcases Nat.lt_or_ge (blen n) k with h2 | h2
    · have h3 := blen_le.1 (show blen n ≤ k - 1 by omega)
      omega
    · omega
theorem blen_mul {v n : Nat} (h : v ≠ 0) : blen (v * 2 ^ n) = blen v + n := by
  have hp : 0 < blen v := blen_pos h
  apply blen_eq
  · rw [Nat.pow_add]; exact Nat.mul_lt_mul_of_pos_right (lt_blen v) (Nat.two_pow_pos n)
  · refine .inr ?_
    rw [show blen v + n - 1 = (blen v - 1) + n by omega, Nat.pow_add]
    exact Nat.mul_le_mul_right _ (blen_ge h)
theorem aux_zero (f : Nat) : Lib.bitLenAux f 0 = 0 := by cases f <;> simp [Lib.bitLenAux]
theorem aux_bounds : ∀ (f x : Nat), x < 2 ^ f → x ≠ 0 → 1 ≤ Lib.bitLenAux f x ∧ 2 ^ (Lib.bitLenAux f x - 1) ≤ x ∧ x < 2 ^ Lib.bitLenAux f x
  | 0, x, h, h0 => by simp at h; omega
  | f + 1, x, h, h0 => by
    rw [Lib.bitLenAux, if_neg h0]
    by_cases h2 : x / 2 = 0
    · rw [h2, aux_zero]
      have : x = 1 := by omega
      subst this
      simp
    · obtain ⟨a, b, c⟩ := aux_bounds f (x / 2) (by rw [Nat.pow_succ] at h; omega) h2
      generalize Lib.bitLenAux f (x / 2) = L at a b c ⊢
      obtain ⟨k, rfl⟩ : ∃ k, L = k + 1 := ⟨L - 1, by omega⟩
      simp only [Nat.add_sub_cancel] at b
      refine ⟨by omega, ?_, ?_⟩
      · rw [show 1 + (k + 1) - 1 = k + 1 by omega, Nat.pow_succ]; omega
      · rw [show 1 + (k + 1) = k + 1 + 1 by omega, Nat.pow_succ]; omega
theorem bitLen_blen {x : Nat} (h : x < 18446744073709551616) : Lib.bitLen x = blen x := by
  by_cases h0 : x = 0
  · subst h0; rfl
  · obtain ⟨a, b, c⟩ := aux_bounds 64 x h h0
    exact (blen_eq c (.inr b)).symm

/-! Bits of lists of words. -/
theorem val_split2 (l : List Nat) (i : Nat) : val l = 2 ^ (32 * i) * top l i + low l i := by rw [val_split l i, pow32]; omega
theorem low_lt2 {l : List Nat} (h : okw l) (i : Nat) : low l i < 2 ^ (32 * i) := by rw [← pow32]; exact low_lt h i
theorem val_bit {l : List Nat} (h : okw l) (i : Nat) : (val l).testBit i = (atw l (i / 32)).testBit (i % 32) := by
  rw [val_split2 l (i / 32), Nat.testBit_two_pow_mul_add _ (low_lt2 h _), if_neg (by omega), top_succ]
  have e : i - 32 * (i / 32) = i % 32 := by omega
  rw [e, Nat.add_comm, show (4294967296 : Nat) = 2 ^ 32 from rfl, Nat.testBit_two_pow_mul_add _ (atw_lt h _), if_pos (by omega)]
/-- The topmost word that isn't 0. -/
theorem blen_top {l : List Nat} {i : Nat} (ho : okw l) (ht : top l (i + 1) = 0) (h0 : atw l i ≠ 0) : blen (val l) = 32 * i + blen (atw l i) := by
  have hl := low_lt2 ho i
  have hv : val l = 2 ^ (32 * i) * atw l i + low l i := by rw [val_split2 l i, top_succ, ht]; rfl
  have hb := blen_pos h0
  apply blen_eq
  · rw [hv, Nat.pow_add]
    have h1 : 2 ^ (32 * i) * atw l i + 2 ^ (32 * i) ≤ 2 ^ (32 * i) * 2 ^ blen (atw l i) := by
      rw [← Nat.mul_succ]; exact Nat.mul_le_mul_left _ (lt_blen _)
    omega
  · refine .inr ?_
    rw [hv, show 32 * i + blen (atw l i) - 1 = 32 * i + (blen (atw l i) - 1) by omega, Nat.pow_add]
    have h1 := Nat.mul_le_mul_left (2 ^ (32 * i)) (blen_ge h0)
    omega
end Go.Proofs.Ytenaopppkkhmcaa

/-
  Plain mathematics: shifts of lists of words, word by word, and numbers built bit by bit. Nothing of the program.
-/
namespace Go.Proofs.Ytenaopppkkhmcaa

theorem dg_len_blen (n : Nat) : (dg n).length = (blen n + 31) / 32 := by
  have h1 : (dg n).length ≤ (blen n + 31) / 32 := dg_length_le (by
    rw [pow32]; exact Nat.lt_of_lt_of_le (lt_blen n) (Nat.pow_le_pow_right (by decide) (by omega)))
  have h2 : blen n ≤ 32 * (dg n).length := blen_le.2 (by rw [← pow32]; exact lt_dg_length n)
  omega
theorem top_div {l : List Nat} (h : okw l) (q : Nat) : top l q = val l / 2 ^ (32 * q) := by
  have h1 := val_split2 l q
  have h2 := low_lt2 h q
  have hp := Nat.two_pow_pos (32 * q)
  rw [h1, Nat.mul_add_div hp, Nat.div_eq_of_lt h2, Nat.add_zero]
theorem low_bit (l : List Nat) (h : okw l) (i : Nat) : (val l).testBit i = decide (atw l (i / 32) / 2 ^ (i % 32) % 2 = 1) := by
  rw [val_bit h, Nat.testBit_eq_decide_div_mod_eq]

/-- A shift up, word by word. -/
theorem up_step {l o : List Nat} {k q r c c' x : Nat} (ho : o.length = q + k) (h : val o + 4294967296 ^ (q + k) * c = low l k * 2 ^ (32 * q + r)) (hx : x + 4294967296 * c' = atw l k * 2 ^ r + c) :
    val (o ++ [x]) + 4294967296 ^ (q + (k + 1)) * c' = low l (k + 1) * 2 ^ (32 * q + r) := by
  have e1 : 4294967296 ^ k * atw l k * 2 ^ (32 * q + r) = 4294967296 ^ (q + k) * (atw l k * 2 ^ r) := by
    rw [Nat.pow_add 2, ← pow32, Nat.pow_add 4294967296 q k]
    generalize 4294967296 ^ k = A
    generalize 4294967296 ^ q = B
    generalize 2 ^ r = C
    rw [Nat.mul_comm A, Nat.mul_assoc, Nat.mul_comm B A, Nat.mul_assoc A, Nat.mul_left_comm, Nat.mul_left_comm B]
  rw [val_snoc, ho, low_succ, Nat.add_mul, e1, show q + (k + 1) = q + k + 1 from rfl, pow_succ32, ← h]
  generalize 4294967296 ^ (q + k) = P at *
  have e2 : P * x + 4294967296 * P * c' = P * (atw l k * 2 ^ r) + P * c := by
    rw [Nat.mul_comm 4294967296 P, Nat.mul_assoc, ← Nat.mul_add, hx, Nat.mul_add]
  omega
theorem up_end0 {o : List Nat} {v q m n : Nat} (hok : okw o) (hm : (dg v).length = m) (h0 : v ≠ 0) (hq : 32 * q ≤ n) (ho : o.length = q + m) (h : val o = v * 2 ^ n) : o = dg (v * 2 ^ n) := by
  rw [← h]
  refine dg_of_ge hok (.inr ?_)
  have hm0 : (dg v).length ≠ 0 := fun e => h0 (dg_nil_iff.1 e)
  have h1 := dg_ge hm0
  rw [hm] at h1 hm0
  rw [ho, h, pow32, show 32 * (q + m - 1) = 32 * (m - 1) + 32 * q by omega, Nat.pow_add, ← pow32]
  exact Nat.mul_le_mul h1 (Nat.pow_le_pow_right (by decide) hq)
theorem up_end1 {o : List Nat} {c z : Nat} (hok : okw o) (hc : c < 4294967296) (h0 : c ≠ 0) (h : val o + 4294967296 ^ o.length * c = z) : o ++ [c] = dg z := by
  have h1 := dg_snoc hok hc h0
  rwa [val_snoc, h] at h1

theorem val_set (o : List Nat) (k y : Nat) (hk : k < o.length) : val (o.set k y) + 4294967296 ^ k * atw o k = val o + 4294967296 ^ k * y := by
  induction o generalizing k with
  | nil => simp at hk
  | cons x o ih =>
    cases k with
    | zero => simp [val, atw]; omega
    | succ k =>
      have := ih k (by simpa using hk)
      have e : atw (x :: o) (k + 1) = atw o k := by simp [atw]
      simp only [List.set_cons_succ, val]
      rw [e, pow_succ32, Nat.mul_assoc, Nat.mul_assoc]
      omega
/-- A word's high part, and what of it falls into the word below. -/
theorem word_parts (w r : Nat) (hr : r ≤ 31) : w * 2 ^ (32 - r) = w * 2 ^ (32 - r) % 4294967296 + 4294967296 * (w / 2 ^ r) := by
  have e : w * 2 ^ (32 - r) / 4294967296 = w / 2 ^ r := by
    rw [show (4294967296 : Nat) = 2 ^ r * 2 ^ (32 - r) by rw [← Nat.pow_add, show r + (32 - r) = 32 by omega], Nat.mul_div_mul_right _ _ (Nat.two_pow_pos _)]
  rw [← e]; omega
theorem down_first {t : List Nat} (r : Nat) : val [atw t 0 / 2 ^ r] = low t 1 / 2 ^ r := by simp [val, low_one]
/-- What stands in the topmost word so far leaves room for the next one's low bits. -/
theorem down_room {t o : List Nat} {k r : Nat} (hr : r ≤ 31) (ht : okw t) (h : val o = low t (k + 1) / 2 ^ r) : atw o k < 2 ^ (32 - r) := by
  have h1 := low_lt2 ht (k + 1)
  have h2 : low t (k + 1) / 2 ^ r < 2 ^ (32 * k) * 2 ^ (32 - r) := by
    rw [Nat.div_lt_iff_lt_mul (Nat.two_pow_pos r), ← Nat.pow_add, ← Nat.pow_add, show 32 * k + (32 - r) + r = 32 * (k + 1) by omega]
    exact h1
  rw [← h] at h2
  have h3 : 2 ^ (32 * k) * atw o k ≤ val o := by
    rw [val_split2 o k, top_succ, Nat.mul_add]; omega
  exact Nat.lt_of_mul_lt_mul_left (Nat.lt_of_le_of_lt h3 h2)
theorem down_or {x w r : Nat} (hr : r ≤ 31) (hx : x < 2 ^ (32 - r)) : x ||| (w * 2 ^ (32 - r) % 4294967296) = x + w * 2 ^ (32 - r) % 4294967296 ∧ x + w * 2 ^ (32 - r) % 4294967296 < 4294967296 := by
  have e0 : (4294967296 : Nat) = 2 ^ (32 - r) * 2 ^ r := by rw [← Nat.pow_add, show 32 - r + r = 32 by omega]
  have e1 : w * 2 ^ (32 - r) % 4294967296 = 2 ^ (32 - r) * (w % 2 ^ r) := by rw [e0, Nat.mul_comm w, Nat.mul_mod_mul_left]
  rw [e1]
  constructor
  · have := Nat.two_pow_add_eq_or_of_lt hx (w % 2 ^ r)
    rw [Nat.or_comm, ← this, Nat.add_comm]
  · have h1 : w % 2 ^ r < 2 ^ r := Nat.mod_lt _ (Nat.two_pow_pos r)
    have h2 : 2 ^ (32 - r) * (w % 2 ^ r) + 2 ^ (32 - r) ≤ 2 ^ (32 - r) * 2 ^ r := by rw [← Nat.mul_succ]; exact Nat.mul_le_mul_left _ h1
    omega
theorem down_step {t o : List Nat} {k r : Nat} (hr : r ≤ 31) (ho : o.length = k + 1) (h : val o = low t (k + 1) / 2 ^ r) :
    val (o.set k (atw o k + atw t (k + 1) * 2 ^ (32 - r) % 4294967296) ++ [atw t (k + 1) / 2 ^ r]) = low t (k + 1 + 1) / 2 ^ r := by
  have hs := val_set o k (atw o k + atw t (k + 1) * 2 ^ (32 - r) % 4294967296) (by omega)
  have hw := word_parts (atw t (k + 1)) r hr
  have e : low t (k + 1 + 1) / 2 ^ r = low t (k + 1) / 2 ^ r + 4294967296 ^ k * (atw t (k + 1) * 2 ^ (32 - r)) := by
    rw [low_succ t (k + 1)]
    have e1 : 4294967296 ^ (k + 1) * atw t (k + 1) = 2 ^ r * (4294967296 ^ k * (atw t (k + 1) * 2 ^ (32 - r))) := by
      rw [pow_succ32, show (4294967296 : Nat) * 4294967296 ^ k = 2 ^ r * 2 ^ (32 - r) * 4294967296 ^ k by rw [← Nat.pow_add, show r + (32 - r) = 32 by omega]]
      generalize 2 ^ (32 - r) = A
      generalize 4294967296 ^ k = B
      rw [Nat.mul_assoc, Nat.mul_assoc, Nat.mul_left_comm A, Nat.mul_comm A]
    rw [e1, Nat.add_mul_div_left _ _ (Nat.two_pow_pos r)]
  rw [val_snoc, List.length_set, ho, e, ← h, pow_succ32]
  generalize atw t (k + 1) * 2 ^ (32 - r) = W at *
  generalize W % 4294967296 = a at *
  generalize atw t (k + 1) / 2 ^ r = b at *
  subst hw
  rw [Nat.mul_add] at hs ⊢
  rw [Nat.mul_comm 4294967296 (4294967296 ^ k), Nat.mul_assoc]
  omega
theorem set_behind (o z : List Nat) (x y k : Nat) (hk : k < o.length) : ((o ++ [x]) ++ z).set k y = (o.set k y ++ [x]) ++ z := by
  rw [List.set_append_left _ _ (by simp; omega), List.set_append_left _ _ hk]
theorem shift_div {l : List Nat} (h : okw l) (q r : Nat) : top l q / 2 ^ r = val l / 2 ^ (32 * q + r) := by
  rw [top_div h, Nat.div_div_eq_div_mul, ← Nat.pow_add]

theorem mod_next (X i : Nat) : X % 2 ^ (i + 1) = X % 2 ^ i + 2 ^ i * (X.testBit i).toNat := by
  rw [Nat.pow_succ, Nat.mod_mul, Nat.testBit_eq_decide_div_mod_eq]
  congr 2
  rcases Nat.mod_two_eq_zero_or_one (X / 2 ^ i) with h | h <;> simp [h]
theorem lt_of_bit {v p : Nat} (h : v < 2 ^ (p + 1)) (hb : v.testBit p = false) : v < 2 ^ p := by
  have h1 := mod_next v p
  rw [hb, Nat.mod_eq_of_lt h] at h1
  have h2 : v % 2 ^ p < 2 ^ p := Nat.mod_lt _ (Nat.two_pow_pos p)
  simp at h1
  omega
/-! What the machine's words tell. -/
theorem or_u32_nat (x y : Nat) (hx : x < 4294967296) (hy : y < 4294967296) : bits .or .u32 (x : Int) (y : Int) = ((x ||| y : Nat) : Int) := by
  have h1 : (BitVec.ofInt 32 (x : Int)).toNat = x := by rw [BitVec.ofInt_natCast, BitVec.toNat_ofNat]; exact Nat.mod_eq_of_lt (by omega)
  have h2 : (BitVec.ofInt 32 (y : Int)).toNat = y := by rw [BitVec.ofInt_natCast, BitVec.toNat_ofNat]; exact Nat.mod_eq_of_lt (by omega)
  have h3 : x ||| y < 2 ^ 32 := Nat.or_lt_two_pow (by omega) (by omega)
  show IntKind.u32.wrap ((BitVec.ofInt 32 (x : Int) ||| BitVec.ofInt 32 (y : Int)).toNat : Int) = _
  rw [BitVec.toNat_or, h1, h2, wrapu32]
  omega
theorem div_pow_int (x r : Nat) : (x : Int) / 2 ^ r = ((x / 2 ^ r : Nat) : Int) := by rw [Int.natCast_ediv, Int.natCast_pow]; rfl
theorem mul_pow_int (x r : Nat) : (x : Int) * 2 ^ r = ((x * 2 ^ r : Nat) : Int) := by rw [Int.natCast_mul, Int.natCast_pow]; rfl
theorem div_pow_lt {x : Nat} (h : x < 4294967296) (r : Nat) : x / 2 ^ r < 4294967296 := Nat.lt_of_le_of_lt (Nat.div_le_self _ _) h
end Go.Proofs.Ytenaopppkkhmcaa

/-
  Plain mathematics: products and powers of numbers that are lists of words. Nothing of the program.
-/
namespace Go.Proofs.Ytenaopppkkhmcaa

theorem atw_set_ne {l : List Nat} {k j y : Nat} (h : j ≠ k) : atw (l.set k y) j = atw l j := by
  unfold atw
  rw [List.getD_eq_getElem?_getD, List.getD_eq_getElem?_getD, List.getElem?_set_ne (Ne.symm h)]
theorem atw_zeros (n k : Nat) : atw (List.replicate n 0) k = 0 := by
  unfold atw
  rw [List.getD_eq_getElem?_getD, List.getElem?_replicate]
  split <;> rfl

/-- A product, row by row: what the first i words of a make of b stands in P; nothing stands from place i + m on. -/
def RowAt (A B P : List Nat) (m i : Nat) : Prop := val P = low A i * val B ∧ ∀ k, i + m ≤ k → atw P k = 0
/-- Within a row: j words of b are done, and c is carried. -/
def CellAt (A B P : List Nat) (m i j c : Nat) : Prop := val P + 4294967296 ^ (i + j) * c = low A i * val B + 4294967296 ^ i * (atw A i * low B j) ∧ ∀ k, i + m ≤ k → atw P k = 0
theorem row_start (A B : List Nat) (n m : Nat) : RowAt A B (List.replicate n 0) m 0 := ⟨by rw [val_zeros, low_zero, Nat.zero_mul], fun k _ => atw_zeros n k⟩
theorem cell_start {A B P : List Nat} {m i : Nat} (h : RowAt A B P m i) : CellAt A B P m i 0 0 := ⟨by rw [h.1, low_zero]; simp, h.2⟩
theorem cell_step {A B P : List Nat} {m i j c lo hi : Nat} (h : CellAt A B P m i j c) (hj : j < m) (hP : i + j < P.length) (hs : lo + 4294967296 * hi = atw A i * atw B j + (atw P (i + j) + c)) : CellAt A B (P.set (i + j) lo) m i (j + 1) hi := by
  refine ⟨?_, fun k hk => by rw [atw_set_ne (by omega)]; exact h.2 k hk⟩
  have h1 := val_set P (i + j) lo hP
  have h2 := h.1
  have h3 : 4294967296 ^ (i + j) * lo + 4294967296 ^ (i + j) * (4294967296 * hi) = 4294967296 ^ (i + j) * (atw A i * atw B j) + (4294967296 ^ (i + j) * atw P (i + j) + 4294967296 ^ (i + j) * c) := by
    rw [← Nat.mul_add, hs, Nat.mul_add, Nat.mul_add]
  have h4 : 4294967296 ^ (i + (j + 1)) * hi = 4294967296 ^ (i + j) * (4294967296 * hi) := by rw [← Nat.add_assoc, Nat.pow_succ, Nat.mul_assoc]
  have h5 : 4294967296 ^ i * (atw A i * low B (j + 1)) = 4294967296 ^ i * (atw A i * low B j) + 4294967296 ^ (i + j) * (atw A i * atw B j) := by
    rw [low_succ, Nat.mul_add, Nat.mul_add, Nat.pow_add, Nat.mul_left_comm (atw A i), ← Nat.mul_assoc (4294967296 ^ i) (4294967296 ^ j)]
  rw [h4, h5]
  generalize val (P.set (i + j) lo) = a1 at *
  generalize 4294967296 ^ (i + j) * lo = a2 at *
  generalize 4294967296 ^ (i + j) * (4294967296 * hi) = a3 at *
  generalize 4294967296 ^ (i + j) * (atw A i * atw B j) = a4 at *
  generalize 4294967296 ^ (i + j) * atw P (i + j) = a5 at *
  generalize 4294967296 ^ (i + j) * c = a6 at *
  generalize low A i * val B = a7 at *
  generalize 4294967296 ^ i * (atw A i * low B j) = a8 at *
  omega
theorem row_next {A B P : List Nat} {m i c : Nat} (h : CellAt A B P m i m c) (hB : B.length = m) (hP : i + m < P.length) : RowAt A B (P.set (i + m) c) m (i + 1) := by
  refine ⟨?_, fun k hk => by rw [atw_set_ne (by omega)]; exact h.2 k (by omega)⟩
  have h1 := val_set P (i + m) c hP
  have h2 := h.1
  rw [h.2 (i + m) (Nat.le_refl _), Nat.mul_zero, Nat.add_zero] at h1
  rw [low_ge (l := B) (i := m) (by omega)] at h2
  rw [h1, h2, low_succ, Nat.add_mul, Nat.mul_assoc]
theorem row_end {A B P : List Nat} {m i : Nat} (h : RowAt A B P m i) (hA : A.length = i) : val P = val A * val B := by rw [h.1, low_ge (by omega)]
/-- A number by a word, word by word. -/
theorem word_step {l o : List Nat} {k x c hi lo : Nat} {d : Nat} (ho : o.length = k) (h : val o + 4294967296 ^ k * c = low l k * x + d) (hs : lo + 4294967296 * hi = atw l k * x + c) :
    val (o ++ [lo]) + 4294967296 ^ (k + 1) * hi = low l (k + 1) * x + d := by
  have h3 : 4294967296 ^ k * lo + 4294967296 ^ k * (4294967296 * hi) = 4294967296 ^ k * (atw l k * x) + 4294967296 ^ k * c := by rw [← Nat.mul_add, hs, Nat.mul_add]
  have h4 : 4294967296 ^ (k + 1) * hi = 4294967296 ^ k * (4294967296 * hi) := by rw [Nat.pow_succ, Nat.mul_assoc]
  rw [val_snoc, ho, h4, low_succ, Nat.add_mul, Nat.mul_assoc]
  generalize 4294967296 ^ k * lo = a2 at *
  generalize 4294967296 ^ k * (4294967296 * hi) = a3 at *
  generalize 4294967296 ^ k * (atw l k * x) = a4 at *
  generalize 4294967296 ^ k * c = a6 at *
  generalize low l k * x = a7 at *
  omega

/-- How long a product is. -/
theorem dg_mul_length (a b : Nat) : (dg (a * b)).length ≤ (dg a).length + (dg b).length := by
  apply dg_length_le
  rw [Nat.pow_add]
  have h1 := lt_dg_length a
  have h2 := lt_dg_length b
  exact Nat.mul_lt_mul'' h1 h2
end Go.Proofs.Ytenaopppkkhmcaa

/-
  Plain mathematics: quotients of numbers that are lists of words, by a guess from their highest words, and bit by bit. Nothing of the program.
-/
namespace Go.Proofs.Ytenaopppkkhmcaa

/-- Nothing stands from place t on. -/
def Flat (P : List Nat) (t : Nat) : Prop := ∀ k, t ≤ k → atw P k = 0
theorem val_noughts : ∀ {l : List Nat}, (∀ k, atw l k = 0) → val l = 0
  | [], _ => rfl
  | x :: l, h => by
    have h0 : x = 0 := h 0
    have h1 := val_noughts (l := l) (fun k => h (k + 1))
    rw [val, h0, h1]
theorem top_flat {P : List Nat} {t : Nat} (h : Flat P t) : top P t = 0 := val_noughts (fun k => by rw [atw_drop]; exact h _ (by omega))
theorem flat_lt {P : List Nat} {t : Nat} (ho : okw P) (h : Flat P t) : val P < 4294967296 ^ t := by
  have h1 := low_lt ho t
  have h2 := val_split P t
  rw [top_flat h, Nat.mul_zero] at h2
  omega
theorem top_zero_of_lt {P : List Nat} {t : Nat} (h : val P < 4294967296 ^ t) : top P t = 0 := by
  have h2 := val_split P t
  rcases Nat.eq_zero_or_pos (top P t) with h3 | h3
  · exact h3
  · have h4 : 4294967296 ^ t * 1 ≤ 4294967296 ^ t * top P t := Nat.mul_le_mul_left _ h3
    omega
theorem flat_of_lt {P : List Nat} {t : Nat} (h : val P < 4294967296 ^ t) : Flat P t := fun k hk => by
  have h1 := top_zero_of_lt (P := P) (t := k) (Nat.lt_of_lt_of_le h (Nat.pow_le_pow_right (by decide) hk))
  rw [top_succ] at h1
  omega
theorem flat_set {P : List Nat} {t k y : Nat} (h : Flat P t) (hk : k < t) : Flat (P.set k y) t := fun j hj => by
  rw [atw_set_ne (by omega)]; exact h j hj
/-- q times D taken away from P0 at place i, j words of it done: c is carried, b borrowed. -/
def TakeAt (P0 D P : List Nat) (i q j c b : Nat) : Prop := val P + 4294967296 ^ i * (q * low D j) = val P0 + 4294967296 ^ (i + j) * (c + b)
theorem take_start (P0 D : List Nat) (i q : Nat) : TakeAt P0 D P0 i q 0 0 0 := by unfold TakeAt; rw [low_zero]; simp
theorem take_word {x y k lo b r b' u v : Nat} (h1 : x + 4294967296 ^ k * u = y + 4294967296 ^ k * r) (hs : u + 4294967296 * b' = lo + b + r) (hv : v = lo + b) :
    x + 4294967296 ^ k * v = y + 4294967296 ^ (k + 1) * b' := by
  subst hv
  have h3 : 4294967296 ^ k * u + 4294967296 ^ k * (4294967296 * b') = 4294967296 ^ k * (lo + b) + 4294967296 ^ k * r := by rw [← Nat.mul_add, hs, Nat.mul_add]
  have h4 : 4294967296 ^ (k + 1) * b' = 4294967296 ^ k * (4294967296 * b') := by rw [Nat.pow_succ, Nat.mul_assoc]
  rw [h4]
  generalize 4294967296 ^ k * u = a1 at *
  generalize 4294967296 ^ k * r = a2 at *
  generalize 4294967296 ^ k * (4294967296 * b') = a3 at *
  generalize 4294967296 ^ k * (lo + b) = a4 at *
  omega
theorem take_step {P0 D P : List Nat} {i q j c b lo hi r b' : Nat} (h : TakeAt P0 D P i q j c b) (hP : i + j < P.length) (hm : lo + 4294967296 * hi = atw D j * q + c) (hs : atw P (i + j) + 4294967296 * b' = lo + b + r) :
    TakeAt P0 D (P.set (i + j) r) i q (j + 1) hi b' := by
  unfold TakeAt at *
  have h1 := take_word (val_set P (i + j) r hP) hs rfl
  have h5 : 4294967296 ^ i * (q * low D (j + 1)) = 4294967296 ^ i * (q * low D j) + 4294967296 ^ (i + j) * (atw D j * q) := by
    rw [low_succ, Nat.mul_add, Nat.mul_add, Nat.pow_add, Nat.mul_left_comm q, Nat.mul_comm q (atw D j), ← Nat.mul_assoc (4294967296 ^ i) (4294967296 ^ j)]
  have h6 : 4294967296 ^ (i + j) * lo + 4294967296 ^ (i + j) * (4294967296 * hi) = 4294967296 ^ (i + j) * (atw D j * q) + 4294967296 ^ (i + j) * c := by rw [← Nat.mul_add, hm, Nat.mul_add]
  have h7 : 4294967296 ^ (i + (j + 1)) * (hi + b') = 4294967296 ^ (i + j) * (4294967296 * hi) + 4294967296 ^ (i + j + 1) * b' := by
    rw [← Nat.add_assoc, Nat.mul_add, Nat.pow_succ, Nat.mul_assoc]
  have h8 : 4294967296 ^ (i + j) * (lo + b) = 4294967296 ^ (i + j) * lo + 4294967296 ^ (i + j) * b := Nat.mul_add ..
  have h9 : 4294967296 ^ (i + j) * (c + b) = 4294967296 ^ (i + j) * c + 4294967296 ^ (i + j) * b := Nat.mul_add ..
  rw [h5, h7]
  rw [h8] at h1
  rw [h9] at h
  generalize val (P.set (i + j) r) = a1 at *
  generalize 4294967296 ^ (i + j) * lo = a2 at *
  generalize 4294967296 ^ (i + j) * (4294967296 * hi) = a3 at *
  generalize 4294967296 ^ (i + j) * (atw D j * q) = a4 at *
  generalize 4294967296 ^ (i + j) * b = a5 at *
  generalize 4294967296 ^ (i + j) * c = a6 at *
  generalize 4294967296 ^ (i + j + 1) * b' = a7 at *
  generalize 4294967296 ^ i * (q * low D j) = a8 at *
  omega
theorem take_end {P0 D P : List Nat} {i q m c b r b' : Nat} (h : TakeAt P0 D P i q m c b) (hD : D.length = m) (hP : i + m < P.length) (hs : atw P (i + m) + 4294967296 * b' = c + b + r) :
    val (P.set (i + m) r) + 4294967296 ^ i * (q * val D) = val P0 + 4294967296 ^ (i + m + 1) * b' := by
  unfold TakeAt at h
  rw [low_ge (by omega)] at h
  have h1 := take_word (val_set P (i + m) r hP) hs rfl
  generalize val (P.set (i + m) r) = a1 at *
  generalize 4294967296 ^ (i + m) * (c + b) = a2 at *
  omega

/-- D added to P0 at place i, j words of it done: c is carried. -/
def GiveAt (P0 D P : List Nat) (i j c : Nat) : Prop := val P + 4294967296 ^ (i + j) * c = val P0 + 4294967296 ^ i * low D j
theorem give_start (P0 D : List Nat) (i : Nat) : GiveAt P0 D P0 i 0 0 := by unfold GiveAt; rw [low_zero]; simp
theorem give_word {x y k r z c u d : Nat} (h1 : x + 4294967296 ^ k * u = y + 4294967296 ^ k * r) (hs : r + 4294967296 * z = c + (u + d)) :
    x + 4294967296 ^ (k + 1) * z = y + (4294967296 ^ k * c + 4294967296 ^ k * d) := by
  have h3 : 4294967296 ^ k * r + 4294967296 ^ k * (4294967296 * z) = 4294967296 ^ k * c + (4294967296 ^ k * u + 4294967296 ^ k * d) := by rw [← Nat.mul_add, hs, Nat.mul_add, Nat.mul_add]
  have h4 : 4294967296 ^ (k + 1) * z = 4294967296 ^ k * (4294967296 * z) := by rw [Nat.pow_succ, Nat.mul_assoc]
  rw [h4]
  generalize 4294967296 ^ k * u = a1 at *
  generalize 4294967296 ^ k * r = a2 at *
  generalize 4294967296 ^ k * (4294967296 * z) = a3 at *
  generalize 4294967296 ^ k * c = a4 at *
  generalize 4294967296 ^ k * d = a5 at *
  omega
theorem give_step {P0 D P : List Nat} {i j c r z : Nat} (h : GiveAt P0 D P i j c) (hP : i + j < P.length) (hs : r + 4294967296 * z = c + (atw P (i + j) + atw D j)) : GiveAt P0 D (P.set (i + j) r) i (j + 1) z := by
  unfold GiveAt at *
  have h1 := give_word (val_set P (i + j) r hP) hs
  have h5 : 4294967296 ^ i * low D (j + 1) = 4294967296 ^ i * low D j + 4294967296 ^ (i + j) * atw D j := by rw [low_succ, Nat.mul_add, Nat.pow_add, Nat.mul_assoc]
  rw [h5, ← Nat.add_assoc i j 1]
  generalize val (P.set (i + j) r) = a1 at *
  generalize 4294967296 ^ (i + j + 1) * z = a2 at *
  generalize 4294967296 ^ (i + j) * c = a3 at *
  generalize 4294967296 ^ (i + j) * atw D j = a4 at *
  generalize 4294967296 ^ i * low D j = a5 at *
  omega
theorem give_end {P0 D P : List Nat} {i m c r z : Nat} (h : GiveAt P0 D P i m c) (hD : D.length = m) (hP : i + m < P.length) (hs : r + 4294967296 * z = c + (atw P (i + m) + 0)) :
    val (P.set (i + m) r) + 4294967296 ^ (i + m + 1) * z = val P0 + 4294967296 ^ i * val D := by
  unfold GiveAt at h
  rw [low_ge (by omega)] at h
  have h1 := give_word (val_set P (i + m) r hP) hs
  rw [Nat.mul_zero, Nat.add_zero] at h1
  generalize val (P.set (i + m) r) = a1 at *
  generalize 4294967296 ^ (i + m + 1) * z = a2 at *
  generalize 4294967296 ^ (i + m) * c = a3 at *
  omega

/-- The guess at a word of a quotient, from the two highest words of what is divided, and of the divisor. -/
def guessOf (u1 u0 v1 v0 : Nat) : Nat :=
  if v1 ≤ u1 then 4294967295
  else if (u1 * 4294967296 + u0) % v1 < (u1 * 4294967296 + u0) / v1 * v0 / 4294967296 then (u1 * 4294967296 + u0) / v1 - 1
  else (u1 * 4294967296 + u0) / v1
theorem guess_num {u1 u0 v1 v0 p dl wl D W : Nat} (hv1 : 2147483648 ≤ v1) (hv0 : v0 < 4294967296) (hu0 : u0 < 4294967296) (hvw : v1 < 4294967296) (hdl : dl < p) (hwl : wl < 4294967296 * p) (hD : D = v1 * (4294967296 * p) + (v0 * p + dl)) (hW : W = (u1 * 4294967296 + u0) * (4294967296 * p) + wl) (hlt : W < 4294967296 * D) :
    W < (guessOf u1 u0 v1 v0 + 1) * D ∧ guessOf u1 u0 v1 v0 * D ≤ W + D ∧ guessOf u1 u0 v1 v0 < 4294967296 := by
  obtain ⟨X, hX⟩ : ∃ X, X = 4294967296 * p := ⟨_, rfl⟩
  rw [← hX] at hwl hD hW
  have a1 : v0 * p + p ≤ X := by
    have h := Nat.mul_le_mul_right p (show v0 + 1 ≤ 4294967296 by omega)
    rw [Nat.add_mul, Nat.one_mul] at h
    omega
  have a2 : 2147483648 * X ≤ v1 * X := Nat.mul_le_mul_right _ hv1
  unfold guessOf
  split
  · rename_i hle
    have a3 : v1 * X ≤ u1 * X := Nat.mul_le_mul_right _ hle
    have a4 : (u1 * 4294967296 + u0) * X = 4294967296 * (u1 * X) + u0 * X := by rw [Nat.add_mul, Nat.mul_comm u1, Nat.mul_assoc]
    generalize u0 * X = t0 at *
    generalize u1 * X = t1 at *
    generalize v1 * X = t2 at *
    generalize v0 * p = t3 at *
    refine ⟨by omega, by omega, by omega⟩
  · rename_i hle
    obtain ⟨U, hU⟩ : ∃ U, U = u1 * 4294967296 + u0 := ⟨_, rfl⟩
    rw [← hU] at hW ⊢
    have hUv : U < v1 * 4294967296 := by omega
    have hq : U / v1 < 4294967296 := Nat.div_lt_of_lt_mul hUv
    have hr : U % v1 < v1 := Nat.mod_lt _ (by omega)
    have hdm := Nat.div_add_mod U v1
    generalize U / v1 = q at *
    generalize U % v1 = r at *
    have e1 : q * D = q * v1 * X + q * (v0 * p + dl) := by rw [hD, Nat.mul_add, Nat.mul_assoc]
    have e2 : U * X = q * v1 * X + r * X := by rw [← hdm, Nat.add_mul, Nat.mul_comm v1 q]
    have e3 : q * X ≤ 4294967295 * X := Nat.mul_le_mul_right _ (by omega)
    have e4 : r * X + X ≤ v1 * X := by have := Nat.mul_le_mul_right X (show r + 1 ≤ v1 by omega); rwa [Nat.add_mul, Nat.one_mul] at this
    have e5 : q * (v0 * p + dl) ≤ q * X := Nat.mul_le_mul_left _ (by omega)
    have e6 : (q + 1) * D = q * D + D := by rw [Nat.add_mul, Nat.one_mul]
    split
    · rename_i hgt
      have hq1 : 1 ≤ q := by
        rcases Nat.eq_zero_or_pos q with h0 | h0
        · subst h0; simp at hgt
        · exact h0
      have f1 : (r + 1) * 4294967296 ≤ q * v0 := by
        have h1 : r + 1 ≤ q * v0 / 4294967296 := hgt
        have h2 := Nat.div_mul_le_self (q * v0) 4294967296
        have h3 := Nat.mul_le_mul_right 4294967296 h1
        exact Nat.le_trans h3 h2
      have f2 : (r + 1) * X ≤ q * (v0 * p + dl) := by
        have h1 := Nat.mul_le_mul_right p f1
        have h2 : q * v0 * p ≤ q * (v0 * p + dl) := by rw [Nat.mul_assoc]; exact Nat.mul_le_mul_left _ (by omega)
        rw [hX, ← Nat.mul_assoc]
        omega
      rw [Nat.add_mul, Nat.one_mul] at f2
      have f3 : (q - 1 + 1) * D = q * D := by rw [Nat.sub_add_cancel hq1]
      have f4 : (q - 1) * D + D = q * D := by rw [← f3, Nat.add_mul, Nat.one_mul]
      rw [f3]
      generalize (q - 1) * D = y0 at *
      generalize q * D = y1 at *
      generalize q * v1 * X = y2 at *
      generalize q * (v0 * p + dl) = y3 at *
      generalize U * X = y4 at *
      generalize r * X = y5 at *
      generalize q * X = y6 at *
      generalize v1 * X = y7 at *
      generalize v0 * p = y8 at *
      refine ⟨by omega, by omega, by omega⟩
    · rename_i hgt
      have f1 : q * v0 < (r + 1) * 4294967296 := by
        have h1 : q * v0 / 4294967296 < r + 1 := by omega
        exact (Nat.div_lt_iff_lt_mul (by decide)).1 h1
      have f2 : q * (v0 * p + dl) ≤ (r + 2) * X := by
        have h1 : q * (v0 * p + dl) ≤ q * (v0 * p + p) := Nat.mul_le_mul_left _ (by omega)
        have h2 : q * (v0 * p + p) = (q * v0 + q) * p := by rw [Nat.mul_add, Nat.add_mul, Nat.mul_assoc]
        have h3 : (q * v0 + q) * p ≤ ((r + 2) * 4294967296) * p := Nat.mul_le_mul_right _ (by omega)
        rw [hX, ← Nat.mul_assoc]
        omega
      rw [Nat.add_mul] at f2
      generalize (q + 1) * D = y0 at *
      generalize q * D = y1 at *
      generalize q * v1 * X = y2 at *
      generalize q * (v0 * p + dl) = y3 at *
      generalize U * X = y4 at *
      generalize r * X = y5 at *
      generalize q * X = y6 at *
      generalize v1 * X = y7 at *
      generalize v0 * p = y8 at *
      refine ⟨by omega, by omega, by omega⟩
/-- The guess, from lists: what stands in P from place i on, by D. -/
theorem guess_list {P D : List Nat} {i m : Nat} (hP : okw P) (hD : okw D) (hm : D.length = m + 2) (hF : Flat P (i + m + 3)) (hv : 2147483648 ≤ atw D (m + 1)) (hlt : val P < 4294967296 ^ (i + 1) * val D) :
    top P i < (guessOf (atw P (i + m + 2)) (atw P (i + m + 1)) (atw D (m + 1)) (atw D m) + 1) * val D ∧ guessOf (atw P (i + m + 2)) (atw P (i + m + 1)) (atw D (m + 1)) (atw D m) * val D ≤ top P i + val D ∧ guessOf (atw P (i + m + 2)) (atw P (i + m + 1)) (atw D (m + 1)) (atw D m) < 4294967296 := by
  refine guess_num (p := 4294967296 ^ m) (dl := low D m) (wl := low (P.drop i) (m + 1)) hv (atw_lt hD m) (atw_lt hP _) (atw_lt hD _) (low_lt hD m) (by rw [← pow_succ32]; exact low_lt (okw_drop hP i) _) ?_ ?_ ?_
  · have h1 := val_split D m
    rw [top_succ, top_succ, top_ge (l := D) (i := m + 1 + 1) (by omega)] at h1
    rw [h1, ← pow_succ32, Nat.pow_succ]
    generalize 4294967296 ^ m = X
    rw [Nat.mul_add, Nat.mul_zero, Nat.add_zero, Nat.mul_comm X (atw D m), ← Nat.mul_assoc X, Nat.mul_comm (X * 4294967296)]
    omega
  · have h1 := val_split (P.drop i) (m + 1)
    have h2 : top (P.drop i) (m + 3) = 0 := by
      have : top (P.drop i) (m + 3) = top P (i + m + 3) := by unfold top; rw [List.drop_drop, Nat.add_assoc]
      rw [this, top_flat hF]
    rw [top_succ, top_succ, h2, atw_drop, atw_drop] at h1
    show val (P.drop i) = _
    rw [h1, ← pow_succ32, ← Nat.add_assoc, show i + (m + 1 + 1) = i + m + 2 by omega]
    generalize 4294967296 ^ (m + 1) = X
    rw [Nat.mul_comm X]
    have e : atw P (i + m + 1) + 4294967296 * (atw P (i + m + 2) + 4294967296 * 0) = atw P (i + m + 2) * 4294967296 + atw P (i + m + 1) := by omega
    rw [e]
    omega
  · have h1 := val_split P i
    rcases Nat.lt_or_ge (top P i) (4294967296 * val D) with h2 | h2
    · exact h2
    · have h3 := Nat.mul_le_mul_left (4294967296 ^ i) h2
      rw [← Nat.mul_assoc, Nat.mul_comm _ 4294967296, ← pow_succ32] at h3
      generalize 4294967296 ^ (i + 1) * val D = y1 at *
      generalize 4294967296 ^ i * top P i = y2 at *
      omega

/-- One word of the quotient was taken away: what P held, P' and q times D at place i hold; P' is below D at place i. -/
def Taken (P D P' : List Nat) (i q : Nat) : Prop := val P' + 4294967296 ^ i * (q * val D) = val P ∧ val P' < 4294967296 ^ i * val D
theorem low_top_lt {P : List Nat} (hP : okw P) {i x : Nat} (h : top P i < x) : val P < 4294967296 ^ i * x := by
  have h1 := val_split P i
  have h2 := low_lt hP i
  have h3 := Nat.mul_le_mul_left (4294967296 ^ i) (show top P i + 1 ≤ x from h)
  rw [Nat.mul_add, Nat.mul_one] at h3
  generalize 4294967296 ^ i * top P i = y1 at *
  generalize 4294967296 ^ i * x = y2 at *
  generalize 4294967296 ^ i = y3 at *
  omega
theorem taken_yes {P D P1 : List Nat} {i m g : Nat} (hP : okw P) (hlow : top P i < (g + 1) * val D) (h1 : val P1 + 4294967296 ^ i * (g * val D) = val P + 4294967296 ^ (i + m + 1) * 0) : Taken P D P1 i g := by
  rw [Nat.mul_zero, Nat.add_zero] at h1
  have h2 := low_top_lt hP hlow
  rw [Nat.add_mul, Nat.one_mul, Nat.mul_add] at h2
  unfold Taken
  generalize 4294967296 ^ i * (g * val D) = y1 at *
  generalize 4294967296 ^ i * val D = y2 at *
  exact ⟨h1, by omega⟩
theorem taken_back {P D P1 P2 : List Nat} {i m g c : Nat} (hP : okw P) (hP1 : val P1 < 4294967296 ^ (i + m + 1)) (hP2 : val P2 < 4294967296 ^ (i + m + 1)) (hhigh : g * val D ≤ top P i + val D) (hc : c ≤ 1)
    (h1 : val P1 + 4294967296 ^ i * (g * val D) = val P + 4294967296 ^ (i + m + 1) * 1) (h2 : val P2 + 4294967296 ^ (i + m + 1) * c = val P1 + 4294967296 ^ i * val D) : 1 ≤ g ∧ Taken P D P2 i (g - 1) := by
  have h3 := val_split P i
  have hgt : top P i < g * val D := by
    rcases Nat.lt_or_ge (top P i) (g * val D) with h | h
    · exact h
    · have h4 := Nat.mul_le_mul_left (4294967296 ^ i) h
      omega
  have hg : 1 ≤ g := by
    rcases Nat.eq_zero_or_pos g with h | h
    · subst h; simp at hgt
    · exact h
  have e1 : (g - 1) * val D + val D = g * val D := by
    have : (g - 1 + 1) * val D = g * val D := by rw [Nat.sub_add_cancel hg]
    rwa [Nat.add_mul, Nat.one_mul] at this
  have e2 : 4294967296 ^ i * ((g - 1) * val D) + 4294967296 ^ i * val D = 4294967296 ^ i * (g * val D) := by rw [← Nat.mul_add, e1]
  have e3 : 4294967296 ^ i * ((g - 1) * val D) ≤ 4294967296 ^ i * top P i := Nat.mul_le_mul_left _ (by omega)
  have e4 := low_top_lt hP hgt
  have hc1 : c = 1 := by
    rcases Nat.eq_zero_or_pos c with h | h
    · subst h
      generalize 4294967296 ^ (i + m + 1) = E at *
      generalize 4294967296 ^ i * ((g - 1) * val D) = y1 at *
      generalize 4294967296 ^ i * (g * val D) = y2 at *
      generalize 4294967296 ^ i * val D = y3 at *
      generalize 4294967296 ^ i * top P i = y4 at *
      omega
    · omega
  subst hc1
  refine ⟨hg, ?_, ?_⟩
  · generalize 4294967296 ^ (i + m + 1) = E at *
    generalize 4294967296 ^ i * ((g - 1) * val D) = y1 at *
    generalize 4294967296 ^ i * (g * val D) = y2 at *
    generalize 4294967296 ^ i * val D = y3 at *
    generalize 4294967296 ^ i * top P i = y4 at *
    omega
  · generalize 4294967296 ^ (i + m + 1) = E at *
    generalize 4294967296 ^ i * ((g - 1) * val D) = y1 at *
    generalize 4294967296 ^ i * (g * val D) = y2 at *
    generalize 4294967296 ^ i * val D = y3 at *
    generalize 4294967296 ^ i * top P i = y4 at *
    omega

/-- A long division: A is what was divided, by D; Q holds the words of the quotient from place k on, P what is left. -/
def LongAt (A : Nat) (D Q P : List Nat) (k : Nat) : Prop := val P + val Q * val D = A ∧ val P < 4294967296 ^ k * val D ∧ ∀ j, j < k → atw Q j = 0
theorem long_step {A : Nat} {D Q P P' : List Nat} {i q : Nat} (h : LongAt A D Q P (i + 1)) (hQ : i < Q.length) (ht : Taken P D P' i q) : LongAt A D (Q.set i q) P' i := by
  refine ⟨?_, ht.2, fun j hj => by rw [atw_set_ne (by omega)]; exact h.2.2 j (by omega)⟩
  have h1 := val_set Q i q hQ
  rw [h.2.2 i (by omega), Nat.mul_zero, Nat.add_zero] at h1
  have h2 := h.1
  have h3 := ht.1
  have e : 4294967296 ^ i * q * val D = 4294967296 ^ i * (q * val D) := Nat.mul_assoc ..
  rw [h1, Nat.add_mul, e]
  omega
theorem long_end {A : Nat} {D Q P : List Nat} (h : LongAt A D Q P 0) : val Q = A / val D ∧ val P = A % val D := by
  have h1 := h.1
  have h2 := h.2.1
  rw [Nat.pow_zero, Nat.one_mul] at h2
  have h3 : A = val P + val D * val Q := by rw [Nat.mul_comm]; exact h1.symm
  rw [h3, Nat.add_mul_div_left _ _ (by omega), Nat.div_eq_of_lt h2, Nat.add_mul_mod_self_left, Nat.mod_eq_of_lt h2]
  omega
/-- A divisor shifted up so that its highest bit is set. -/
theorem norm_top {b m s : Nat} (hm : (dg b).length = m + 1) (hs : s = 32 - blen (atw (dg b) m)) : s < 32 ∧ (dg (b * 2 ^ s)).length = m + 1 ∧ 2147483648 ≤ atw (dg (b * 2 ^ s)) m := by
  have hr : atw (dg b) m ≠ 0 := by
    have := atw_dg (l := dg b) (okw_dg b)
    rw [val_dg, hm] at this
    simpa using this
  have ht : top (dg b) (m + 1) = 0 := top_ge (by omega)
  have h1 := blen_top (okw_dg b) ht hr
  rw [val_dg] at h1
  have h2 : blen (atw (dg b) m) ≤ 32 := blen_le.2 (atw_lt (okw_dg b) m)
  have h3 := blen_pos hr
  have hb : b ≠ 0 := by
    intro e; subst e; rw [dg_zero] at hm; simp at hm
  have h4 := blen_mul (n := s) hb
  have h5 : blen (b * 2 ^ s) = 32 * (m + 1) := by omega
  have h6 : (dg (b * 2 ^ s)).length = m + 1 := by rw [dg_len_blen, h5]; omega
  refine ⟨by omega, h6, ?_⟩
  have hr2 : atw (dg (b * 2 ^ s)) m ≠ 0 := by
    have := atw_dg (l := dg (b * 2 ^ s)) (okw_dg _)
    rw [val_dg, h6] at this
    simpa using this
  have h7 := blen_top (okw_dg (b * 2 ^ s)) (top_ge (l := dg (b * 2 ^ s)) (i := m + 1) (by omega)) hr2
  rw [val_dg, h5] at h7
  have h8 := blen_ge hr2
  rw [show blen (atw (dg (b * 2 ^ s)) m) - 1 = 31 by omega] at h8
  exact h8
/-- What the long division starts with. -/
theorem long_start {A n m : Nat} {D : List Nat} (hA : (dg A).length + 1 = n + (m + 1)) (hD : D.length = m + 1) (hv : 2147483648 ≤ atw D m) : LongAt A D (List.replicate n 0) (dg A ++ [0]) n := by
  refine ⟨?_, ?_, fun j _ => atw_zeros n j⟩
  · rw [val_zeros, Nat.zero_mul, val_snoc, val_dg]; omega
  · have h1 : val (dg A ++ [0]) = A := by rw [val_snoc, val_dg]; omega
    rw [h1]
    have h2 := lt_dg_length A
    rw [show (dg A).length = n + m by omega, Nat.pow_add] at h2
    have h3 := val_split D m
    rw [top_succ, top_ge (l := D) (i := m + 1) (by omega)] at h3
    have h4 : 4294967296 ^ m * 1 ≤ 4294967296 ^ m * (atw D m + 4294967296 * 0) := Nat.mul_le_mul_left _ (by omega)
    have h5 := Nat.mul_le_mul_left (4294967296 ^ n) (show 4294967296 ^ m ≤ val D by omega)
    omega
/-- Both shifted alike: the quotient stays, the rest is shifted. -/
theorem shifted_div (a b s : Nat) : a * 2 ^ s / (b * 2 ^ s) = a / b ∧ a * 2 ^ s % (b * 2 ^ s) / 2 ^ s = a % b := by
  have hp := Nat.two_pow_pos s
  exact ⟨Nat.mul_div_mul_right _ _ hp, by rw [Nat.mul_mod_mul_right, Nat.mul_div_cancel _ hp]⟩

/-- By a word, from the top: what is done of the quotient stands in Q from place k on; r is left of it. -/
def WordAt (x : Nat) (L Q : List Nat) (k r : Nat) : Prop := top L k = top Q k * x + r ∧ r < x ∧ (∀ j, j < k → atw Q j = atw L j) ∧ Q.length = L.length
theorem top_set {Q : List Nat} {i y : Nat} : top (Q.set i y) (i + 1) = top Q (i + 1) := by
  unfold top; rw [List.drop_set_of_lt (by omega)]
theorem word_down {x i r : Nat} {L Q : List Nat} (h : WordAt x L Q (i + 1) r) (hx : 0 < x) (hi : i < Q.length) : WordAt x L (Q.set i ((r * 4294967296 + atw L i) / x)) i ((r * 4294967296 + atw L i) % x) := by
  obtain ⟨h1, h2, h3, h4⟩ := h
  refine ⟨?_, Nat.mod_lt _ hx, fun j hj => by rw [atw_set_ne (by omega)]; exact h3 j (by omega), by rw [List.length_set]; exact h4⟩
  have e : atw (Q.set i ((r * 4294967296 + atw L i) / x)) i = (r * 4294967296 + atw L i) / x := by
    unfold atw; rw [List.getD_eq_getElem?_getD, List.getElem?_set_self hi]; rfl
  have hd := Nat.div_add_mod (r * 4294967296 + atw L i) x
  rw [top_succ L, top_succ (Q.set i _), e, top_set, h1, Nat.add_mul, Nat.mul_comm ((r * 4294967296 + atw L i) / x) x, Nat.mul_assoc 4294967296]
  generalize x * ((r * 4294967296 + atw L i) / x) = y1 at *
  generalize top Q (i + 1) * x = y2 at *
  omega
theorem word_end {A x r : Nat} {L Q : List Nat} (h : WordAt x L Q 0 r) (hA : val L = A) : val Q = A / x ∧ r = A % x := by
  obtain ⟨h1, h2, _, _⟩ := h
  rw [top_zero, top_zero, hA] at h1
  rw [h1, Nat.mul_comm, Nat.mul_add_div (by omega), Nat.mul_add_mod, Nat.div_eq_of_lt h2, Nat.mod_eq_of_lt h2]
  omega
end Go.Proofs.Ytenaopppkkhmcaa

/-
  Whole numbers in memory and as values: a sign and a list of words. Of no program.
-/
namespace Go.Proofs.Ytenaopppkkhmcaa
open Go.RowKit

/-- A whole number, as a value; its value. -/
def whV (neg : Bool) (a : Option Addr) (n cap : Nat) : Value := .agg #[.bool neg, .slice a n cap]
def zval (neg : Bool) (v : Nat) : Int := if neg = true then -(v : Int) else (v : Int)
/-- Whether a whole number is below 0. -/
def zneg (z : Int) : Bool := decide (z < 0)
theorem zval_neg (neg : Bool) (v : Nat) : zneg (zval neg v) = (neg && decide (v ≠ 0)) := by
  unfold zneg zval
  cases neg with
  | false => simp
  | true =>
    by_cases h : v = 0
    · subst h; rfl
    · rw [if_pos rfl, decide_eq_true h, decide_eq_true (by omega)]; rfl
theorem zval_abs (neg : Bool) (v : Nat) : (zval neg v).natAbs = v := by unfold zval; cases neg <;> simp
theorem zval_of (z : Int) : zval (zneg z) z.natAbs = z := by
  unfold zval zneg
  by_cases h : z < 0
  · rw [decide_eq_true h, if_pos rfl]; omega
  · rw [decide_eq_false h, if_neg (by simp)]; omega
/-- A right whole number comes back. -/
def LstZ (z : Int) (w : World) (e : Ending) (w' : World) : Prop :=
  ∃ (a : Option Addr) (n cap : Nat), e = .returned (whV (zneg z) a n cap) ∧ Wd w' a n cap (dg z.natAbs) ∧ Below w.heap.size w w'
/-- What a block holds, cell by cell. -/
theorem blk_cell {w : World} {g : Nat} {cur : Array Value} {t : TypeId} (h : w.heap[g]? = some (.cells cur t (0, 0))) (j : Nat) : w.cell? ⟨g, j, none⟩ = cur[j]? := cell_of_row w g j cur t (0, 0) h
theorem blk_free {w : World} {g : Nat} {cur : Array Value} {t : TypeId} (h : w.heap[g]? = some (.cells cur t (0, 0))) (j : Nat) : w.frozen? ⟨g, j, none⟩ = false := frozen_of_row w g j cur t h
theorem blk_new (w : World) (cur : Array Value) (t : TypeId) : (w.alloc (.cells cur t)).heap[w.heap.size]? = some (.cells cur t (0, 0)) := heap_alloc_new w _
theorem blk_later {w w' : World} {g : Nat} {o : Obj} (h : w.heap[g]? = some o) (hb : Below w.heap.size w w') : w'.heap[g]? = some o := (hb.block g (Array.getElem?_eq_some_iff.1 h).1).trans h
theorem blk_size (w : World) (o : Obj) : (w.alloc o).heap.size = w.heap.size + 1 := by simp
/-- Words do not lie in a block that holds no words: they stay when it is written. -/
theorem Wd.stored {w : World} {a : Option Addr} {n cap : Nat} {l : List Nat} (h : Wd w a n cap l) {g : Nat} {cur : Array Value} {t : TypeId} (hg : w.heap[g]? = some (.cells cur t (0, 0))) (hc : ∀ (j : Nat) (k : Int), cur[j]? ≠ some (.int .u32 k)) (i : Nat) (u : Value) : Wd (w.setCell ⟨g, i, none⟩ u) a n cap l := by
  refine ⟨h.1, h.2.1, h.2.2.1, h.2.2.2.1, h.2.2.2.2.1, h.2.2.2.2.2.imp id fun ⟨b, off, e, hcl⟩ => ⟨b, off, e, fun j hj => ?_⟩⟩
  have h1 := hcl j hj
  have hne : b ≠ g := fun e2 => by
    subst e2
    rw [blk_cell hg] at h1
    exact hc _ _ h1
  rw [World.cell?_of_block (w := w) (Below.heap_setCell _ _ _ _ (by exact hne))]
  exact h1
theorem blk_set {w : World} {g : Nat} {cur : Array Value} {t : TypeId} (h : w.heap[g]? = some (.cells cur t (0, 0))) (i : Nat) (u : Value) : (w.setCell ⟨g, i, none⟩ u).heap[g]? = some (.cells (cur.setIfInBounds i u) t (0, 0)) := heap_setCell_same w g i cur t u h
theorem blk_set2 {w : World} {g : Nat} {x y : Value} {t : TypeId} (h : w.heap[g]? = some (.cells #[x, y] t (0, 0))) (u v : Value) : ((w.setCell ⟨g, 0, none⟩ u).setCell ⟨g, 1, none⟩ v).heap[g]? = some (.cells #[u, v] t (0, 0)) := by
  have h1 := blk_set (blk_set h 0 u) 1 v
  simpa using h1
theorem no_words {b : Bool} {a : Option Addr} {n cap : Nat} : ∀ (j : Nat) (k : Int), (#[Value.bool b, .slice a n cap] : Array Value)[j]? ≠ some (.int .u32 k) := by
  intro j k
  match j with
  | 0 => simp
  | 1 => simp
  | j + 2 => simp
theorem Wd.stored2 {w : World} {a : Option Addr} {n cap : Nat} {l : List Nat} (h : Wd w a n cap l) {g : Nat} {b : Bool} {x : Option Addr} {y z : Nat} {t : TypeId} (hg : w.heap[g]? = some (.cells #[.bool b, .slice x y z] t (0, 0))) (c : Bool) (v : Value) : Wd ((w.setCell ⟨g, 0, none⟩ (.bool c)).setCell ⟨g, 1, none⟩ v) a n cap l := by
  have h1 := h.stored hg no_words 0 (.bool c)
  have h2 : (w.setCell ⟨g, 0, none⟩ (.bool c)).heap[g]? = some (.cells #[.bool c, .slice x y z] t (0, 0)) := by simpa using blk_set hg 0 (.bool c)
  exact h1.stored h2 no_words 1 v
theorem below_set2 {w w1 : World} {g : Nat} (h : Below w.heap.size w w1) (hg : w.heap.size ≤ g) (u v : Value) : Below w.heap.size w ((w1.setCell ⟨g, 0, none⟩ u).setCell ⟨g, 1, none⟩ v) := (h.setCell (p := ⟨g, 0, none⟩) hg u).setCell (p := ⟨g, 1, none⟩) hg v
/-- The sign of a whole number. -/
def sgn (z : Int) : Int := if z = 0 then 0 else if z < 0 then -1 else 1
/-- One box, two boxes of a call: where they are later. -/
theorem box_at (w w1 : World) (x : Array Value) (t : TypeId) (hb : Below (w.alloc (.cells x t)).heap.size (w.alloc (.cells x t)) w1) : w1.heap[w.heap.size]? = some (.cells x t (0, 0)) := blk_later (blk_new w x t) hb
theorem boxes_at (w w1 : World) (x y : Array Value) (t s : TypeId) (hb : Below ((w.alloc (.cells x t)).alloc (.cells y s)).heap.size ((w.alloc (.cells x t)).alloc (.cells y s)) w1) :
    w1.heap[w.heap.size]? = some (.cells x t (0, 0)) ∧ w1.heap[w.heap.size + 1]? = some (.cells y s (0, 0)) := by
  refine ⟨blk_later (blk_later (blk_new w x t) (below_alloc _ _)) hb, ?_⟩
  have h2 := blk_new (w.alloc (.cells x t)) y s
  rw [blk_size] at h2
  exact blk_later h2 hb
end Go.Proofs.Ytenaopppkkhmcaa

/-
  The contracts of the document's answer for layer 2: reading functions.
-/
namespace Go.Proofs.Ytenaopppkkhmcaa
open Go.RowKit

end Go.Proofs.Ytenaopppkkhmcaa

/-
  The contracts of the document's answer for layer 2: functions that make lists.
-/
namespace Go.Proofs.Ytenaopppkkhmcaa
open Go.RowKit

end Go.Proofs.Ytenaopppkkhmcaa

/-
  The contracts of the document's answer for layer 8: Norm, Same, Sign, Neg.
-/
namespace Go.Proofs.Ytenaopppkkhmcaa
open Go.RowKit

end Go.Proofs.Ytenaopppkkhmcaa

/-
  Rows of words of the call's own, several side by side: what is written into one leaves the others. Of no program.
-/
namespace Go.Proofs.Ytenaopppkkhmcaa
open Go.RowKit

theorem grown_refl (w : World) (row : Option Nat) : w.grownBy w row := ⟨rfl, rfl, rfl, Nat.le_refl _, fun _ _ _ => rfl⟩
theorem grown_then {a b c : World} {row : Option Nat} (h : a.grownBy b row) (k : b.grownBy c row) : a.grownBy c row :=
  ⟨k.os.trans h.os, k.tape.trans h.tape, k.output.trans h.output, Nat.le_trans h.size k.size, fun i hi hr => (k.block i (Nat.lt_of_lt_of_le hi h.size) hr).trans (h.block i hi hr)⟩
theorem grown_cell (w : World) (g k : Nat) (u : Value) : w.grownBy (w.setCell ⟨g, k, none⟩ u) (some g) :=
  ⟨rfl, rfl, rfl, by simp [World.setCell], fun i _ hr => Below.heap_setCell _ _ _ _ (fun e => hr (by rw [e]))⟩
theorem grown_drewN {a w : World} {row : Option Nat} (h : a.grownBy w row) (n : Nat) : a.grownBy (w.drewN n) row := grown_then h ⟨rfl, rfl, rfl, Nat.le_refl _, fun _ _ _ => rfl⟩
/-- What was there below a world is there below a later one: whatever holds of memory since a world w holds of what has grown besides one own row. -/
theorem grown_below {w0 w w' : World} {g : Nat} (hB : Below w0.heap.size w0 w) (hg : w.grownBy w' (some g)) (hb : w0.heap.size ≤ g) : Below w0.heap.size w0 w' :=
  hB.grown hg hB.size (fun k hk => by cases hk; exact hb)
theorem Own.later {w w' : World} {base g n cap : Nat} {l : List Nat} (h : Own w base g n cap l) (hb : Below w.heap.size w w') : Own w' base g n cap l := by
  refine ⟨⟨h.1.1, ?_⟩, h.2⟩
  rcases h.1.2 with h0 | ⟨g', cap', cur, h1, h2, h3, h4⟩
  · exact .inl h0
  · exact .inr ⟨g', cap', cur, h1, h2, (hb.block g' (Array.getElem?_eq_some_iff.1 h3).1).trans h3, h4⟩
theorem Own.other {w w' : World} {base g g' n cap : Nat} {l : List Nat} (h : Own w base g n cap l) (hg : w.grownBy w' (some g')) (hne : g ≠ g') : Own w' base g n cap l :=
  ⟨h.1.kept hg (.inr (by simp [Value.ownBlock]; exact hne)), h.2⟩
theorem Own.stay {w w' : World} {base g n cap : Nat} {l : List Nat} (h : Own w base g n cap l) (hg : w.grownBy w' none) : Own w' base g n cap l :=
  ⟨h.1.kept hg (.inr (by simp [Value.ownBlock])), h.2⟩
theorem Own.lower {w : World} {base base' g n cap : Nat} {l : List Nat} (h : Own w base g n cap l) (hb : base' ≤ base) : Own w base' g n cap l :=
  ⟨⟨h.1.1, h.1.2.imp id fun ⟨g, cap, cur, h1, h2, h3⟩ => ⟨g, cap, cur, h1, Nat.le_trans hb h2, h3⟩⟩, h.2⟩
theorem Own.bound {w : World} {base g n cap : Nat} {l : List Nat} (h : Own w base g n cap l) : n ≤ cap ∧ cap ≤ 9223372036854775807 := h.wd.bound
end Go.Proofs.Ytenaopppkkhmcaa
