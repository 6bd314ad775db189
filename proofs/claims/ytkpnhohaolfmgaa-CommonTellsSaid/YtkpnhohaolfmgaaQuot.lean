/-
  The contracts of package quot (layer 5) at this seat: what long division does word by word.
-/
import Derived.Test.YtkpnhohaolfmgaaOwn
import Derived.Test.YtkpnhohaolfmgaaTwos2
import Derived.Test.YtkpnhohaolfmgaaNatAll
import Derived.Test.YtkpnhohaolfmgaaProd
namespace Go.Proofs.Ytkpnhohaolfmgaa
open Go.RowKit

def LessenPost (base g N cap i m q : Nat) (D P : List Nat) (w : World) (e : Ending) (w' : World) : Prop :=
  ∃ (P' : List Nat) (b : Nat), e = .returned (.int .u32 (b : Int)) ∧ b ≤ 1 ∧ Hid (Own w' base g N cap P') ∧ w.grownBy w' (some g) ∧ Hid (val P' + 4294967296 ^ i * (q * val D) = val P + 4294967296 ^ (i + m + 1) * b) ∧ Hid (Flat P' (i + m + 1))
set_option maxHeartbeats 2000000 in
theorem quot_lessen (w0 w : World) (g i N cap c m dcap q : Nat) (P D : List Nat) (d : Option Addr) (hO : Own w w0.heap.size g N cap P) (hB : Below w0.heap.size w0 w) (hd : Wd w0 d m dcap D) (hi : i + m < N) (hq : q < 4294967296) (hN : N ≤ 2000000) (hF : Flat P (i + m + 1)) :
    Calls Try.prog 62 #[.slice (some ⟨g, i, none⟩) (m + 1) c, .slice d m dcap, .int .u32 (q : Int)] w (LessenPost w0.heap.size g N cap i m q D P w) := by
  have HO0 := Lib.hid hO
  have HD := Lib.hid hd
  have HF0 := Lib.hid hF
  have HDl := Lib.hid hd.len
  have HPl := Lib.hid hO.len
  clear hO hd hF
  go_enter Try.func62, Try.ntmps62
  go_wp2
  go_loopw [7, 9, 14] (fun cv bv jv wr => ∃ (j y b : Nat) (R : List Nat), j ≤ m ∧ jv = .int .i64 (j : Int) ∧ cv = .int .u32 (y : Int) ∧ bv = .int .u32 (b : Int) ∧ y < 4294967296 ∧ b ≤ 1 ∧ Hid (TakeAt P D R i q j y b) ∧ Hid (Flat R (i + m + 1)) ∧ Hid (Own wr w0.heap.size g N cap R) ∧ w.grownBy wr (some g)) (fun _ _ jv _ => m - (intOf jv).toNat)
  case atStart => exact ⟨0, 0, 0, P, by omega, rfl, rfl, rfl, by omega, by omega, Lib.hid (take_start _ _ _ _), HF0, HO0, grown_refl _ _⟩
  case round =>
    obtain ⟨j, y, b, R, hj, rfl, rfl, rfl, hy, hb, HT, HF, HO, hG⟩ := hrel
    have hbase := HO.out.base
    have hB2 := grown_below hB hG hbase.1
    by_cases hlt : j < m
    · obtain ⟨bd, od, rfl, hcd⟩ := (HD.out.later hB2).at (by omega)
      have hcdj := hcd j hlt
      have hji : (j : Int) < (m : Int) := by omega
      have hxw := atw_lt HD.out.ok j
      obtain ⟨x, hxx⟩ : ∃ x, x = atw D j := ⟨_, rfl⟩
      rw [← hxx] at hxw hcdj
      have Hx := Lib.hid hxx
      have hcell := HO.out.cell (k := i + j) (by omega)
      have hfro := HO.out.1.frozenAt (i + j)
      have huw := atw_lt HO.out.2 (i + j)
      obtain ⟨u, huu⟩ : ∃ u, u = atw R (i + j) := ⟨_, rfl⟩
      rw [← huu] at huw hcell
      have Hu := Lib.hid huu
      clear hcd hxx huu hB2
      go_wp2_with fail
      refine (limb_mul_nat x q y _ hxw hq hy).mono ?_
      rintro e w' ⟨hi2, lo, rfl, hh, hl, Hs, rfl⟩
      go_wp2_with fail
      refine (limb_sub_nat u lo b _ huw hl hb).mono ?_
      rintro e w' ⟨r, z, rfl, hz, hr, Hr, rfl⟩
      have HOs := Lib.hid (HO.out.set (i + j) r hr)
      have hGs := Lib.hid (grown_then hG (grown_cell _ g (i + j) (.int .u32 (r : Int))))
      go_wp2
      go_roundw
      case rel =>
        exact ⟨j + 1, hi2, z, R.set (i + j) r, by omega, by go_num, rfl, rfl, hh, hz, Lib.hid (by
          have h1 := HPl.out
          have h2 := HO.out.len
          exact take_step HT.out (by omega) (by rw [← Hx.out]; exact Hs.out) (by rw [← Hu.out]; exact Hr.out)), Lib.hid (flat_set HF.out (by omega)), HOs, hGs.out⟩
      case measure => simp [intOf]; omega
    · obtain rfl : j = m := by omega
      have hcell := HO.out.cell (k := i + j) (by omega)
      have hfro := HO.out.1.frozenAt (i + j)
      have huw := atw_lt HO.out.2 (i + j)
      obtain ⟨u, huu⟩ : ∃ u, u = atw R (i + j) := ⟨_, rfl⟩
      rw [← huu] at huw hcell
      have Hu := Lib.hid huu
      clear huu hB2
      go_wp2_with fail
      refine (limb_sub_nat u y b _ huw hy hb).mono ?_
      rintro e w' ⟨r, z, rfl, hz, hr, Hr, rfl⟩
      have HOs := Lib.hid (HO.out.set (i + j) r hr)
      have hGs := Lib.hid (grown_then hG (grown_cell _ g (i + j) (.int .u32 (r : Int))))
      go_wp2
      go_ret
      exact ⟨R.set (i + j) r, z, rfl, hz, HOs, hGs.out, Lib.hid (by
        have h2 := HO.out.len
        exact take_end HT.out HDl.out (by omega) (by rw [← Hu.out]; exact Hr.out)), Lib.hid (flat_set HF.out (by omega))⟩
def GivePost (base g N cap i m : Nat) (D P : List Nat) (w : World) (e : Ending) (w' : World) : Prop :=
  ∃ (P' : List Nat) (z : Nat), e = .returned (.tuple #[]) ∧ z ≤ 1 ∧ Hid (Own w' base g N cap P') ∧ w.grownBy w' (some g) ∧ Hid (val P' + 4294967296 ^ (i + m + 1) * z = val P + 4294967296 ^ i * val D) ∧ Hid (Flat P' (i + m + 1))
set_option maxHeartbeats 2000000 in
theorem quot_giveBack (w0 w : World) (g i N cap c m dcap : Nat) (P D : List Nat) (d : Option Addr) (hO : Own w w0.heap.size g N cap P) (hB : Below w0.heap.size w0 w) (hd : Wd w0 d m dcap D) (hi : i + m < N) (hN : N ≤ 2000000) (hF : Flat P (i + m + 1)) :
    Calls Try.prog 63 #[.slice (some ⟨g, i, none⟩) (m + 1) c, .slice d m dcap] w (GivePost w0.heap.size g N cap i m D P w) := by
  have HO0 := Lib.hid hO
  have HD := Lib.hid hd
  have HF0 := Lib.hid hF
  have HDl := Lib.hid hd.len
  have HPl := Lib.hid hO.len
  clear hO hd hF
  go_enter Try.func63, Try.ntmps63
  go_wp2
  go_loopw [4, 9] (fun cv jv wr => ∃ (j y : Nat) (R : List Nat), j ≤ m ∧ jv = .int .i64 (j : Int) ∧ cv = .int .u32 (y : Int) ∧ y ≤ 1 ∧ Hid (GiveAt P D R i j y) ∧ Hid (Flat R (i + m + 1)) ∧ Hid (Own wr w0.heap.size g N cap R) ∧ w.grownBy wr (some g)) (fun _ jv _ => m - (intOf jv).toNat)
  case atStart => exact ⟨0, 0, P, by omega, rfl, rfl, by omega, Lib.hid (give_start _ _ _), HF0, HO0, grown_refl _ _⟩
  case round =>
    obtain ⟨j, y, R, hj, rfl, rfl, hy, HT, HF, HO, hG⟩ := hrel
    have hbase := HO.out.base
    have hB2 := grown_below hB hG hbase.1
    by_cases hlt : j < m
    · obtain ⟨bd, od, rfl, hcd⟩ := (HD.out.later hB2).at (by omega)
      have hcdj := hcd j hlt
      have hji : (j : Int) < (m : Int) := by omega
      have hxw := atw_lt HD.out.ok j
      obtain ⟨x, hxx⟩ : ∃ x, x = atw D j := ⟨_, rfl⟩
      rw [← hxx] at hxw hcdj
      have Hx := Lib.hid hxx
      have hcell := HO.out.cell (k := i + j) (by omega)
      have hfro := HO.out.1.frozenAt (i + j)
      have huw := atw_lt HO.out.2 (i + j)
      obtain ⟨u, huu⟩ : ∃ u, u = atw R (i + j) := ⟨_, rfl⟩
      rw [← huu] at huw hcell
      have Hu := Lib.hid huu
      clear hcd hxx huu hB2
      go_wp2_with fail
      refine (limb_add_nat u x y _ huw hxw hy).mono ?_
      rintro e w' ⟨r, z, rfl, hz, hr, Hr, rfl⟩
      have HOs := Lib.hid (HO.out.set (i + j) r hr)
      have hGs := Lib.hid (grown_then hG (grown_cell _ g (i + j) (.int .u32 (r : Int))))
      go_wp2
      go_roundw
      case rel =>
        exact ⟨j + 1, z, R.set (i + j) r, by omega, by go_num, rfl, hz, Lib.hid (by
          have h1 := HPl.out
          have h2 := HO.out.len
          exact give_step HT.out (by omega) (by rw [← Hx.out, ← Hu.out]; exact Hr.out)), Lib.hid (flat_set HF.out (by omega)), HOs, hGs.out⟩
      case measure => simp [intOf]; omega
    · obtain rfl : j = m := by omega
      have hcell := HO.out.cell (k := i + j) (by omega)
      have hfro := HO.out.1.frozenAt (i + j)
      have huw := atw_lt HO.out.2 (i + j)
      obtain ⟨u, huu⟩ : ∃ u, u = atw R (i + j) := ⟨_, rfl⟩
      rw [← huu] at huw hcell
      have Hu := Lib.hid huu
      clear huu hB2
      go_wp2_with fail
      refine (limb_add_nat0 u y _ huw hy).mono ?_
      rintro e w' ⟨r, z, rfl, hz, hr, Hr, rfl⟩
      have HOs := Lib.hid (HO.out.set (i + j) r hr)
      have hGs := Lib.hid (grown_then hG (grown_cell _ g (i + j) (.int .u32 (r : Int))))
      go_wp2
      go_end0
      exact ⟨R.set (i + j) r, z, rfl, hz, HOs, hGs.out, Lib.hid (by
        have h2 := HO.out.len
        exact give_end HT.out HDl.out (by omega) (by rw [← Hu.out]; exact Hr.out)), Lib.hid (flat_set HF.out (by omega))⟩
end Go.Proofs.Ytkpnhohaolfmgaa
