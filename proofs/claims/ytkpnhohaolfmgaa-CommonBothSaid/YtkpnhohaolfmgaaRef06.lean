/-
  The contracts of the document's answer for layer 6: Zeros, Less in a window, down, odd, double.
-/
import Derived.Test.YtkpnhohaolfmgaaWin
import Derived.Test.YtkpnhohaolfmgaaGcdPlain
import Derived.Test.YtkpnhohaolfmgaaRef04
import Derived.Test.YtkpnhohaolfmgaaRef05b
namespace Go.Proofs.Ytkpnhohaolfmgaa
open Go.RowKit

theorem ref01_zeros (m : Nat) (w : World) (h0 : 0 < m) (h1 : m < 4294967296) :
    Calls Try.prog 37 #[.int .u32 (m : Int)] w fun e w' => e = .returned (.int .i64 ((tz m : Nat) : Int)) ∧ w = w' := by
  have ht : (((m : Nat) : Int) == 0) = false := by simp; omega
  have hz : tz m < 32 := tz_lt (by omega) h1
  go_enter Try.func37, Try.ntmps37
  go_wp2
  go_loop [0, 3] (fun x n => ∃ a g : Nat, 0 < a ∧ a < 4294967296 ∧ g ≤ 32 ∧ Hid (g + tz a = tz m) ∧ x = .int .u32 a ∧ n = .int .i64 g) (fun x _ => (intOf x).toNat)
  case atStart => exact ⟨m, 0, h0, h1, by omega, Lib.hid (by omega), rfl, rfl⟩
  case round =>
    obtain ⟨a, g, ha, ha1, hg, Hl, rfl, rfl⟩ := hrel
    by_cases he : a % 2 = 0
    · have hb : (((a : Nat) : Int) % 2 == 0) = true := by rw [beq_iff_eq]; omega
      have He := Lib.hid he
      have Hs := Lib.hid (tz_even (n := a) (by omega) he)
      have hg2 : g < 32 := by have := Hs.out; have := Hl.out; omega
      clear he
      go_wp2
      go_round
      case rel => exact ⟨a / 2, g + 1, by have := He.out; omega, by omega, by omega, Lib.hid (by have := Hs.out; have := Hl.out; omega), by go_num, by go_num⟩
      case measure => simp [intOf]; omega
    · have hb : (((a : Nat) : Int) % 2 == 0) = false := by rw [beq_eq_false_iff_ne]; omega
      have Hs := Lib.hid (tz_odd (n := a) (by omega))
      clear he
      go_wp2
      go_ret
      exact ⟨ret_i64 (by have := Hl.out; have := Hs.out; omega), rfl⟩
def LessWin (base g off n : Nat) (P D : List Nat) (w : World) (e : Ending) (w' : World) : Prop :=
  ∃ (P' : List Nat), e = .returned (.tuple #[]) ∧ Hid (Win w' base g off n P') ∧ w.grownBy w' (some g) ∧ Hid (val P' = val P - val D)
set_option maxHeartbeats 2000000 in
theorem ref05_less_win (base : Nat) (w : World) (g off n c : Nat) (P : List Nat) (d : Option Addr) (m dcap : Nat) (D : List Nat) (hO : Win w base g off n P) (hd : Wd w d m dcap D) (hne : Hid (∀ ad : Addr, d = some ad → some ad.block ≠ some g)) (hN : n ≤ 2000000) (hm : m ≤ n) (hle : Hid (val D ≤ val P)) :
    Calls Try.prog 26 #[.slice (some ⟨g, off, none⟩) n c, .slice d m dcap] w (LessWin base g off n P D w) := by
  have HO0 := Lib.hid hO
  have HPo := Lib.hid hO.ok
  have HD := Lib.hid hd
  clear hO hd
  go_enter Try.func26, Try.ntmps26
  go_wp2
  go_loopw [4, 5] (fun sv kv wr => ∃ (k s : Nat) (R : List Nat), k ≤ n ∧ kv = .int .i64 (k : Int) ∧ sv = .int .u64 (s : Int) ∧ s ≤ 1 ∧ Hid (LessAt P D R k s) ∧ Hid (Win wr base g off n R) ∧ w.grownBy wr (some g)) (fun _ kv _ => n - (intOf kv).toNat)
  case atStart => exact ⟨0, 0, P, by omega, rfl, rfl, by omega, Lib.hid (less_start _ _), HO0, grown_refl _ _⟩
  case round =>
    obtain ⟨k, s, R, hk, rfl, rfl, hs, HL, HO, hG⟩ := hrel
    by_cases hlt : k < n
    · have hcell := HO.out.cell (k := k) hlt
      rw [HL.out.2 k (Nat.le_refl _)] at hcell
      have hfro := HO.out.frozen k
      have huw := atw_lt HPo.out k
      obtain ⟨u, huu⟩ : ∃ u, u = atw P k := ⟨_, rfl⟩
      rw [← huu] at huw hcell
      have Hu := Lib.hid huu
      have hki : (k : Int) < (n : Int) := by omega
      clear huu
      go_wp2_with fail
      refine (ref02_at _ _ _ k _ _ (HD.out.kept hG hne.out) (by omega)).mono ?_
      rintro e w' ⟨rfl, rfl⟩
      have hdw := atw_lt HD.out.ok k
      obtain ⟨b, hbb⟩ : ∃ b, b = atw D k := ⟨_, rfl⟩
      rw [← hbb] at hdw ⊢
      have Hb := Lib.hid hbb
      clear hbb
      obtain ⟨y, hy⟩ : ∃ y : Nat, (b : Int) + (s : Int) = (y : Int) := ⟨b + s, by omega⟩
      have Hy : Hid (y = b + s) := Lib.hid (by omega)
      have hyb : y ≤ 4294967296 := by omega
      by_cases hxy : u < y
      · obtain ⟨x, hx⟩ : ∃ x : Nat, (u : Int) + 4294967296 = (x : Int) := ⟨u + 4294967296, by omega⟩
        obtain ⟨r, hr⟩ : ∃ r : Nat, (x : Int) - (y : Int) = (r : Int) := ⟨x - y, by omega⟩
        have hrw : r < 4294967296 := by omega
        have HS : Hid (u + 4294967296 * 1 = b + s + r) := Lib.hid (by have := Hy.out; omega)
        have HOs := Lib.hid (HO.out.set (k := k) hrw)
        have hGs := Lib.hid (grown_then hG (grown_cell _ g (off + k) (.int .u32 (r : Int))))
        go_wp2
        go_roundw
        case rel => exact ⟨k + 1, 1, R.set k r, by omega, by go_num, rfl, by omega, Lib.hid (less_step HL.out (by rw [HO.out.len]; omega) (by rw [← Hu.out, ← Hb.out]; exact HS.out)), HOs, hGs.out⟩
        case measure => simp [intOf]; omega
      · obtain ⟨r, hr⟩ : ∃ r : Nat, (u : Int) - (y : Int) = (r : Int) := ⟨u - y, by omega⟩
        have hrw : r < 4294967296 := by omega
        have HS : Hid (u + 4294967296 * 0 = b + s + r) := Lib.hid (by have := Hy.out; omega)
        have HOs := Lib.hid (HO.out.set (k := k) hrw)
        have hGs := Lib.hid (grown_then hG (grown_cell _ g (off + k) (.int .u32 (r : Int))))
        go_wp2
        go_roundw
        case rel => exact ⟨k + 1, 0, R.set k r, by omega, by go_num, rfl, by omega, Lib.hid (less_step HL.out (by rw [HO.out.len]; omega) (by rw [← Hu.out, ← Hb.out]; exact HS.out)), HOs, hGs.out⟩
        case measure => simp [intOf]; omega
    · obtain rfl : k = n := by omega
      have Hfin : Hid (val R = val P - val D) := Lib.hid (less_end HL.out HO.out.ok HO.out.len (by rw [HD.out.len]; exact hm) hle.out)
      go_wp2
      go_end0
      exact ⟨R, rfl, HO, hG, Hfin⟩
def DownPost (base g off c v : Nat) (w : World) (e : Ending) (w' : World) : Prop :=
  ∃ n', e = .returned (.slice (some ⟨g, off, none⟩) n' c) ∧ n' ≤ c ∧ Hid (Win w' base g off n' (dg v)) ∧ w.grownBy w' (some g)
set_option maxHeartbeats 2000000 in
theorem ref06_down (base : Nat) (w : World) (g off n c s : Nat) (L : List Nat) (hO : Win w base g off n L) (hs : s ≤ 31) (hn : n ≤ 2000000) (hc : n ≤ c) (hc2 : c ≤ 9223372036854775807) :
    Calls Try.prog 38 #[.slice (some ⟨g, off, none⟩) n c, .int .i64 (s : Int)] w (DownPost base g off c (val L / 2 ^ s) w) := by
  have HO0 := Lib.hid hO
  have HLo := Lib.hid hO.ok
  have HLl := Lib.hid hO.len
  clear hO
  go_enter Try.func38, Try.ntmps38
  go_wp2
  go_loopw [5] (fun kv wr => ∃ (k : Nat) (R : List Nat), k ≤ n ∧ kv = .int .i64 (k : Int) ∧ Hid (ShiftAt L R s k) ∧ Hid (Win wr base g off n R) ∧ w.grownBy wr (some g)) (fun kv _ => n - (intOf kv).toNat)
  case atStart => exact ⟨0, L, by omega, rfl, Lib.hid (shift_start _ _), HO0, grown_refl _ _⟩
  case round =>
    obtain ⟨k, R, hk, rfl, HS, HO, hG⟩ := hrel
    by_cases hlt : k < n
    · have hcell := HO.out.cell (k := k) hlt
      rw [HS.out.2 k (Nat.le_refl _)] at hcell
      have hfro := HO.out.frozen k
      have huw := atw_lt HLo.out k
      have hxw := atw_lt HLo.out (k + 1)
      obtain ⟨p, hp⟩ : ∃ p : Nat, (k : Int) + 1 = (p : Int) := ⟨k + 1, by omega⟩
      have Hp : Hid (p = k + 1) := Lib.hid (by omega)
      rw [← Hp.out] at hxw
      obtain ⟨u, huu⟩ : ∃ u, u = atw L k := ⟨_, rfl⟩
      obtain ⟨x, hxx⟩ : ∃ x, x = atw L p := ⟨_, rfl⟩
      rw [← huu] at huw hcell
      rw [← hxx] at hxw
      have Hu := Lib.hid huu
      have Hx := Lib.hid hxx
      obtain ⟨t, ht⟩ : ∃ t : Nat, (x : Int) * 4294967296 + (u : Int) = (t : Int) := ⟨x * 4294967296 + u, by omega⟩
      have Ht : Hid (t = x * 4294967296 + u) := Lib.hid (by omega)
      obtain ⟨z, hz⟩ : ∃ z : Nat, (t : Int) / 2 ^ s = (z : Int) := ⟨t / 2 ^ s, by rw [Int.natCast_ediv, Int.natCast_pow]; rfl⟩
      have Hz : Hid (z = t / 2 ^ s) := Lib.hid (by have := div_pow_int t s; omega)
      obtain ⟨r, hr⟩ : ∃ r : Nat, (z : Int) % 4294967296 = (r : Int) := ⟨z % 4294967296, by omega⟩
      have Hr : Hid (r = z % 4294967296) := Lib.hid (by omega)
      have hrw : r < 4294967296 := by omega
      have htw : t < 18446744073709551616 := by omega
      have hzt : z ≤ t := by rw [Hz.out]; exact Nat.div_le_self _ _
      have hki : (k : Int) < (n : Int) := by omega
      have HOs := Lib.hid (HO.out.set (k := k) hrw)
      have hGs := Lib.hid (grown_then hG (grown_cell _ g (off + k) (.int .u32 (r : Int))))
      have HSn : Hid (ShiftAt L (R.set k r) s (k + 1)) := Lib.hid (shift_step HS.out HLo.out (by omega) (by rw [HO.out.len]; omega) (by
        rw [Hr.out, Hz.out, Ht.out, Hx.out, Hu.out, Hp.out]))
      clear huu
      by_cases hlast : p < n
      · have hcell2 := HO.out.cell (k := p) hlast
        rw [HS.out.2 p (by omega), ← Hx.out] at hcell2
        have hpi : (p : Int) < (n : Int) := by omega
        clear hxx
        go_wp2
        go_roundw
        case rel => exact ⟨p, R.set k r, by omega, by go_num, by rw [Hp.out]; exact HSn, HOs, hGs.out⟩
        case measure => simp [intOf]; omega
      · have hx0 : x = 0 := by rw [hxx]; exact atw_ge (by rw [HLl.out]; omega)
        have hpi : (n : Int) ≤ (p : Int) := by omega
        subst hx0
        have htu : t = u := by omega
        subst htu
        have hrz : r = z := by omega
        subst hrz
        clear hxx ht hr
        go_wp2
        go_roundw
        case rel => exact ⟨p, R.set k r, by omega, by go_num, by rw [Hp.out]; exact HSn, HOs, hGs.out⟩
        case measure => simp [intOf]; omega
    · obtain rfl : k = n := by omega
      have Hv := Lib.hid (shift_end HS.out HLo.out HLl.out HO.out.len)
      clear HS hlt
      go_wp2
      go_loop [0] (fun sv => ∃ m : Nat, m ≤ k ∧ sv = .slice (some ⟨g, off, none⟩) m c ∧ Hid (top R m = 0)) (fun sv => lenOf sv)
      case atStart => exact ⟨k, by omega, rfl, Lib.hid (top_ge (by rw [HO.out.len]; omega))⟩
      case round =>
        obtain ⟨m, hm, rfl, Ht⟩ := hrel
        cases m with
        | zero =>
          have HW := Lib.hid (HO.out.take (m := 0) (by omega))
          have Hfin : Hid (R.take 0 = dg (val L / 2 ^ s)) := Lib.hid (by rw [← Hv.out]; exact take_right (by omega) HO.out.ok Ht.out (.inl rfl))
          go_wp2
          go_ret
          exact ⟨0, rfl, by omega, Lib.hid (by rw [← Hfin.out]; exact HW.out), hG⟩
        | succ m =>
          have hcell := HO.out.cell (k := m) (by omega)
          have hyw := atw_lt HO.out.ok m
          by_cases hz : atw R m = 0
          · rw [hz] at hcell
            have Ht2 : Hid (top R m = 0) := Lib.hid (by rw [top_succ, hz, Ht.out])
            clear hz
            go_wp2
            go_round
            case rel => exact ⟨m, by omega, by go_num, Ht2⟩
            case measure => simp [lenOf]
          · have hzb : (((atw R m : Nat) : Int) == 0) = false := by simp [hz]
            have HW := Lib.hid (HO.out.take (m := m + 1) hm)
            have Hfin : Hid (R.take (m + 1) = dg (val L / 2 ^ s)) := Lib.hid (by rw [← Hv.out]; exact take_right (by rw [HO.out.len]; exact hm) HO.out.ok Ht.out (.inr (by simpa using hz)))
            clear hz
            go_wp2
            go_ret
            exact ⟨m + 1, rfl, by omega, Lib.hid (by rw [← Hfin.out]; exact HW.out), hG⟩
def OddPost (base g v : Nat) (w : World) (e : Ending) (w' : World) : Prop :=
  ∃ off n c, e = .returned (.tuple #[.slice (some ⟨g, off, none⟩) n c, .int .i64 ((tz v : Nat) : Int)]) ∧ n ≤ c ∧ c ≤ 9223372036854775807 ∧ Hid (Win w' base g off n (dg (oddp v))) ∧ w.grownBy w' (some g)
set_option maxHeartbeats 2000000 in
theorem ref06_odd (base : Nat) (w : World) (g off n c : Nat) (L : List Nat) (hO : Win w base g off n L) (hn : n ≤ 2000000) (hc : n ≤ c) (hc2 : c ≤ 9223372036854775807) (h0 : Hid (val L ≠ 0)) :
    Calls Try.prog 24 #[.slice (some ⟨g, off, none⟩) n c] w (OddPost base g (val L) w) := by
  have HO := Lib.hid hO
  have HLo := Lib.hid hO.ok
  have HLl := Lib.hid hO.len
  clear hO
  go_enter Try.func24, Try.ntmps24
  go_wp2
  go_loop [0, 4] (fun sv tv => ∃ q m : Nat, q + m = n ∧ sv = .slice (some ⟨g, off + q, none⟩) m (c - q) ∧ tv = .int .i64 ((32 * q : Nat) : Int) ∧ Hid (low L q = 0)) (fun sv _ => lenOf sv)
  case atStart => exact ⟨0, n, by omega, rfl, rfl, Lib.hid (low_zero L)⟩
  case round =>
    obtain ⟨q, m, hqm, rfl, rfl, Hl⟩ := hrel
    have hqn : q < n := by rw [← HLl.out]; exact top_left Hl.out h0.out
    have hcell := HO.out.cell (k := q) hqn
    have hyw := atw_lt HLo.out q
    have hm0 : 0 < m := by omega
    by_cases hz : atw L q = 0
    · rw [hz] at hcell
      have Hl2 := Lib.hid (low_noughts Hl.out hz)
      have hq1 : q + 1 < n := by rw [← HLl.out]; exact top_left Hl2.out h0.out
      obtain ⟨m1, rfl⟩ : ∃ m1, m = m1 + 1 := ⟨m - 1, by omega⟩
      have hcq : ¬ (c - q = 1) := by omega
      clear hz
      go_wp2
      go_round
      case rel => exact ⟨q + 1, m1, by omega, by first | rfl | (congr 1; omega), by go_num, Hl2⟩
      case measure => simp [lenOf]
    · have hzb : (((atw L q : Nat) : Int) == 0) = false := by simp [hz]
      have hy0 : 0 < atw L q := by omega
      have Htz := Lib.hid (tz_low HLo.out Hl.out hz)
      have htl : tz (atw L q) < 32 := tz_lt hz hyw
      have HW : Hid (Win w base g (off + q) m (L.drop q)) := Lib.hid (by have h1 := HO.out; rw [← hqm] at h1; exact h1.drop)
      clear hz
      generalize atw L q = y at *
      have Hsh : Hid (val (L.drop q) / 2 ^ tz y = oddp (val L)) := Lib.hid (by unfold oddp; rw [Htz.out]; exact shift_div HLo.out q (tz y))
      go_wp2_with fail
      refine (ref01_zeros y _ hy0 hyw).mono ?_
      rintro e w' ⟨rfl, rfl⟩
      generalize tz y = t at *
      go_wp2_with fail
      refine (ref06_down base _ g (off + q) m (c - q) t (L.drop q) HW.out (by omega) (by omega) (by omega) (by omega)).mono ?_
      rintro e w1 ⟨n', rfl, hn', HW1, hG⟩
      rw [Hsh.out] at HW1
      go_wp2
      go_ret2
      exact ⟨off + q, n', c - q, by rw [Htz.out]; rfl, hn', by omega, HW1, hG⟩
end Go.Proofs.Ytkpnhohaolfmgaa
