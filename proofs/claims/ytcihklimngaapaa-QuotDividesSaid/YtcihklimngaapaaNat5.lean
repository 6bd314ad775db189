/-
  The contracts of package nat (layer 2) at this seat: Add, less, Sub, Gap.
-/
import Derived.Test.YtcihklimngaapaaNat4
namespace Go.Proofs.Ytcihklimngaapaa
open Go.RowKit

set_option maxHeartbeats 2000000 in
theorem nat_add (a : Option Addr) (n cap : Nat) (ls : List (List Nat)) (w : World) (h : Wds w a n cap ls) (hn : n ≤ 1000000) (hw : words ls ≤ 1000000) :
    Calls Try.prog 15 #[.slice a n cap] w (Lst (dg (vals ls)) w) := by
  obtain ⟨i0, hi, hz0, hz1, hz2⟩ := info_parts infoU32
  obtain ⟨hb1, hb2⟩ := h.bound
  have H := Lib.hid h
  clear h
  go_enter Try.func15, Try.ntmps15
  go_wp2_with fail
  refine (nat_longest _ _ _ _ _ H.out hw).mono ?_
  rintro e w' ⟨N, rfl, hN, rfl⟩
  go_wp2_with (at_make; refine wpList_make_own _ rfl _ _ 22 rfl w.heap.size 32 i0 (.int .u32 0) 1 Try.underlying22 hi hz0 hz1 .i64 .i64 _ (N + 1) rfl rfl (by omega) (by rw [hz2]; omega) (by unfold maxLen; omega) (Nat.le_refl _) ?_; intro w1 hown1 hgrow1)
  have HO1 : Hid (Own w1 w.heap.size w.heap.size 0 (N + 1) []) := Lib.hid ⟨hown1, okw_nil⟩
  have hB1 : Below w.heap.size w w1 := (Below.refl _ _).grown hgrow1 (Nat.le_refl _) (fun k hk => by cases hk)
  clear hown1 hgrow1
  go_loopw [3, 12] (fun s i wr => ∃ k g m cap2 : Nat, k ≤ n ∧ i = .int .i64 k ∧ s = .slice (some ⟨g, 0, none⟩) m cap2 ∧ m ≤ 1000001 ∧ Hid (Own wr w.heap.size g m cap2 (dg (vals (ls.take k)))) ∧ Below w.heap.size w wr) (fun _ i _ => n - (intOf i).toNat)
  case atStart => exact ⟨0, _, 0, _, by omega, rfl, rfl, by omega, Lib.hid (by simpa [vals, dg_zero] using HO1.out), hB1⟩
  case round =>
    clear HO1 hB1
    obtain ⟨k, g, m, cap2, hk, rfl, rfl, hm, HO, hB⟩ := hrel
    by_cases hlt : k < n
    · obtain ⟨b, off, rfl, a', n', c', hc0, hwd⟩ := H.out.at hlt
      have hc := cell_later hB hc0
      have hn' : n' ≤ words ls := by rw [← hwd.len]; exact words_mem _ _ (by rw [H.out.len]; exact hlt)
      have HW := Lib.hid hwd
      have HW2 := Lib.hid (hwd.later hB)
      clear hwd hc0
      have hk1 : (k : Int) < (n : Int) := by omega
      go_wp2_with fail
      refine (nat_trim _ _ _ _ _ HW2.out).mono ?_
      rintro e w' ⟨m2, rfl, Hm, hmn, HT, rfl⟩
      have HT0 : Hid (Wd w a' m2 c' (dg (val (ls.getD k [])))) := Lib.hid (by rw [Hm.out]; exact HW.out.trim)
      go_wp2_with fail
      refine (nat_addTo w _ g m cap2 _ _ _ _ _ HO.out hB HT0.out (by omega) (by omega)).mono ?_
      rintro e w2 ⟨g2, m3, cap3, rfl, HO2, hB2⟩
      have hv := vals_take ls k (by rw [H.out.len]; exact hlt)
      rw [← hv] at HO2
      have hm3 : m3 ≤ 1000001 := by
        have h1 := HO2.out.len
        have h2 := vals_length (ls := ls.take (k + 1)) (fun l hl => H.out.oks l (List.mem_of_mem_take hl)) (by rw [List.length_take]; have := H.out.len; omega)
        have h3 := words_le_take ls (k + 1)
        omega
      clear HO HT HT0 HW HW2 hB hv Hm hmn
      go_wp2
      go_roundw
      case rel => exact ⟨k + 1, g2, m3, cap3, by omega, by go_num, rfl, hm3, HO2, hB2⟩
      case measure => simp [intOf]; omega
    · have hkn : k = n := by omega
      have hfin : dg (vals (ls.take k)) = dg (vals ls) := by rw [List.take_of_length_le (by rw [H.out.len]; omega)]
      rw [hfin] at HO
      clear hkn hfin
      go_wp2
      go_ret
      exact ⟨_, m, cap2, rfl, HO.out.wd, hB⟩
end Go.Proofs.Ytcihklimngaapaa
