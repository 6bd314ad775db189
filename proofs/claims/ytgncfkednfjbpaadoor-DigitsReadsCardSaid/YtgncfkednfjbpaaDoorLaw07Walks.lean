/-
  The walks of the laws of layer 7: works, DigitsWrites, DigitsReads, DigitsBack.
-/
import Derived.Test.YtgncfkednfjbpaaDoorNatAll
import Derived.Test.YtgncfkednfjbpaaDoorRef07b
namespace Go.Proofs.YtgncfkednfjbpaaDoor
open Go.RowKit

theorem txt_ten : txt 4294967296 = [52, 50, 57, 52, 57, 54, 55, 50, 57, 54] := by
  rw [txt_big (by decide), txt_big (by decide), txt_big (by decide), txt_big (by decide), txt_big (by decide), txt_big (by decide), txt_big (by decide), txt_big (by decide), txt_big (by decide), txt_small (by decide)]
  decide
theorem wrong_12x : wrongI [49, 50, 120] = 2 := by decide
theorem below_of_eq {w w' : World} (h : w = w') : Below w.heap.size w w' := by subst h; exact Below.refl _ _
theorem ref07_wrong_gives (l : List UInt8) (w : World) (hl : l.length ≤ 1000000) : Calls Tryd.prog 11 #[.string (bs l)] w (Gives (.int .i64 (wrongI l)) w) :=
  (ref07_wrong l w hl).mono fun _ _ ⟨he, hw⟩ => ⟨he, below_of_eq hw⟩
set_option maxRecDepth 4096 in
set_option maxHeartbeats 1000000 in
theorem law07_works (S : DigitsSaid) (w : World) (hT : Hid (Dec10 w)) : Calls Tryd.prog 6 #[] w (Gives (.bool true) w) := by
  have hr : readV [48, 48, 55] = 7 := by decide
  have hl : (dg 4294967296).length ≤ 2 := dg_length_le (by decide)
  have hq : ((bs [52, 50, 57, 52, 57, 54, 55, 50, 57, 54]).toList == [52, 50, 57, 52, 57, 54, 55, 50, 57, 54]) = true := by rw [bs_list]; rfl
  go_enter Tryd.func6, Tryd.ntmps6
  go_wp2_with fail
  refine (S.read_ok [48, 48, 55] _ (by simp) (Lib.hid (by decide))).mono ?_
  rintro e w1 ⟨a1, n1, c1, rfl, h1, b1⟩
  rw [hr, dg_word (by decide) (by decide)] at h1
  have hB1 := b1
  have Ha_1 := Lib.hid h1
  unfold faultV
  clear h1 b1
  go_wp2_with fail
  refine (S.read_no [49, 50, 120] _ (by simp) (Lib.hid (by decide))).mono ?_
  rintro e w2 ⟨a2, n2, c2, rfl, h2, b2⟩
  have hB2 := below_then hB1 (below_then (below_alloc _ _) b2)
  have Ha_2 := Lib.hid (Ha_1.out.later (below_then (below_alloc _ _) b2))
  have Hf_2 := Lib.hid ((Box.new w1 0 0 0 0 _).later b2)
  rw [wrong_12x]
  unfold faultV
  clear h2 b2 Ha_1 hB1
  go_wp2_with fail
  refine (natSaid.of 4294967296 _ (by omega)).mono ?_
  rintro e w3 ⟨a3, n3, c3, rfl, h3, b3⟩
  have hn3 := h3.len
  have hB3 := below_then hB2 (below_then (below_alloc _ _) b3)
  have Ha_3 := Lib.hid (Ha_2.out.later (below_then (below_alloc _ _) b3))
  have Hf_3 := Lib.hid (Hf_2.out.later (below_then (below_alloc _ _) b3))
  have Hg_3 := Lib.hid ((Box.new w2 1 0 0 2 _).later b3)
  have Hn_3 := Lib.hid h3
  clear h3 b3 Ha_2 Hf_2 hB2
  go_wp2_with fail
  refine (S.text _ _ _ _ _ Hn_3.out (by omega) (Lib.hid (hT.out.later hB3))).mono ?_
  rintro e w4 ⟨rfl, b4⟩
  have hB4 := below_then hB3 b4
  have Ha_4 := Lib.hid (Ha_3.out.later b4)
  have Hf_4 := Lib.hid (Hf_3.out.later b4)
  have Hg_4 := Lib.hid (Hg_3.out.later b4)
  rw [val_dg, txt_ten]
  clear b4 Ha_3 Hf_3 Hg_3 Hn_3 hB3
  go_wp2_with fail
  refine (ref02_same_yes _ _ _ _ _ _ _ _ _ (Ha_4.out.later (below_alloc _ _)) (Wd.lit1 w4 40 (x := 7) (by omega)) rfl).mono ?_
  rintro e w5 ⟨rfl, b5⟩
  have hB5 := below_then hB4 (below_then (below_alloc _ _) b5)
  have Hf_5 := Lib.hid (Hf_4.out.later (below_then (below_alloc _ _) b5))
  have Hg_5 := Lib.hid (Hg_4.out.later (below_then (below_alloc _ _) b5))
  clear b5 Ha_4 Hf_4 Hg_4 hB4
  obtain ⟨hf0, hf1, hf2, hf3⟩ := Hf_5.out
  obtain ⟨hg0, hg1, hg2, hg3⟩ := Hg_5.out
  go_wp2
  go_ret
  exact ⟨rfl, hB5⟩
theorem law07_writes_out (S : DigitsSaid) (a : Option Addr) (n cap : Nat) (w : World) (hT : Hid (Dec10 w)) (h1 : n ≤ 9223372036854775807) (h : 40 < n) :
    Calls Tryd.prog 3 #[.slice a n cap] w (Gives (.bool true) w) := by
  have hbi : (40 : Int) < (n : Int) := by omega
  clear h
  go_enter Tryd.func3, Tryd.ntmps3
  go_wp2_with fail
  refine (law07_works S _ (Lib.hid hT.out)).mono ?_
  rintro e w1 ⟨rfl, b1⟩
  have hB1 := b1
  clear b1
  go_wp2
  go_ret
  exact ⟨rfl, hB1⟩
set_option maxRecDepth 4096 in
set_option maxHeartbeats 1000000 in
theorem law07_writes_in (S : DigitsSaid) (a : Option Addr) (n cap : Nat) (la : List Nat) (w : World) (hT : Hid (Dec10 w)) (ha : Wd w a n cap la) (hn : n ≤ 40) :
    Calls Tryd.prog 3 #[.slice a n cap] w (Gives (.bool true) w) := by
  have hz := bs_size (txt (val la))
  have Ha := Lib.hid ha
  clear ha
  go_enter Tryd.func3, Tryd.ntmps3
  go_wp2_with fail
  refine (ref07_text _ _ _ _ _ Ha.out (by omega)).mono ?_
  rintro e w1 ⟨rfl, b1⟩
  have hB1 := b1
  clear b1
  go_wp2_with fail
  refine (S.text _ _ _ _ _ (Ha.out.later hB1) (by omega) (Lib.hid (hT.out.later hB1))).mono ?_
  rintro e w2 ⟨rfl, b2⟩
  have hB2 := below_then hB1 b2
  clear b2 hB1
  go_wp2_with fail
  refine (S.len _ _ _ _ _ (Ha.out.later hB2) (by omega) (Lib.hid (hT.out.later hB2))).mono ?_
  rintro e w3 ⟨rfl, b3⟩
  have hB3 := below_then hB2 b3
  clear b3 hB2
  go_wp2_with fail
  refine (law07_works S _ (Lib.hid (hT.out.later hB3))).mono ?_
  rintro e w4 ⟨rfl, b4⟩
  have hB4 := below_then hB3 b4
  clear b4 hB3
  go_wp2
  go_ret
  exact ⟨rfl, hB4⟩
theorem law07_writes (S : DigitsSaid) (a : Option Addr) (n cap : Nat) (la : List Nat) (w : World) (hT : Hid (Dec10 w)) (ha : Wd w a n cap la) :
    Calls Tryd.prog 3 #[.slice a n cap] w (Gives (.bool true) w) := by
  have p1 := ha.bound
  by_cases h : 40 < n
  · exact law07_writes_out S a n cap w hT (by omega) h
  · exact law07_writes_in S a n cap la w hT ha (by omega)
theorem law07_reads_out (S : DigitsSaid) (l : List UInt8) (w : World) (hT : Hid (Dec10 w)) (h1 : l.length ≤ 9223372036854775807) (h : 500 < l.length) :
    Calls Tryd.prog 4 #[.string (bs l)] w (Gives (.bool true) w) := by
  have hz := bs_size l
  have hbi : (500 : Int) < (l.length : Int) := by omega
  clear h
  go_enter Tryd.func4, Tryd.ntmps4
  go_wp2_with fail
  refine (law07_works S _ (Lib.hid hT.out)).mono ?_
  rintro e w1 ⟨rfl, b1⟩
  have hB1 := b1
  clear b1
  go_wp2
  go_ret
  exact ⟨rfl, hB1⟩
set_option maxRecDepth 4096 in
set_option maxHeartbeats 1000000 in
theorem law07_reads_bad (S : DigitsSaid) (l : List UInt8) (w : World) (hT : Hid (Dec10 w)) (h : l.length ≤ 500) (hw : Hid (0 ≤ wrongI l)) :
    Calls Tryd.prog 4 #[.string (bs l)] w (Gives (.bool true) w) := by
  have hz := bs_size l
  have hr := @wrongFrom_range l 0
  have hwi : wrongI l ≤ 1000 := by unfold wrongI; split <;> omega
  clear hr
  go_enter Tryd.func4, Tryd.ntmps4
  go_wp2_with fail
  refine (S.read_no l _ (by omega) hw).mono ?_
  rintro e w1 ⟨a1, n1, c1, rfl, h1, b1⟩
  obtain rfl : n1 = 0 := h1.len.symm
  have hB1 := b1
  unfold faultV
  clear h1 b1
  go_wp2_with fail
  refine (ref07_wrong_gives l _ (by omega)).mono ?_
  rintro e w2 ⟨rfl, b2⟩
  have hB2 := below_then hB1 (below_then (below_alloc _ _) b2)
  have Hf_2 := Lib.hid ((Box.new w1 1 0 0 (wrongI l) _).later b2)
  have hw0 := hw.out
  generalize wrongI l = wi at *
  clear b2 hB1
  obtain ⟨hf0, hf1, hf2, hf3⟩ := Hf_2.out
  go_wp2_with fail
  refine (law07_works S _ (Lib.hid (hT.out.later hB2))).mono ?_
  rintro e w3 ⟨rfl, b3⟩
  have hB3 := below_then hB2 b3
  clear b3 Hf_2 hB2
  go_wp2
  go_ret
  exact ⟨rfl, hB3⟩
set_option maxRecDepth 4096 in
set_option maxHeartbeats 1000000 in
theorem law07_reads_ok (S : DigitsSaid) (l : List UInt8) (w : World) (hT : Hid (Dec10 w)) (h : l.length ≤ 500) (hw : Hid (wrongI l < 0)) :
    Calls Tryd.prog 4 #[.string (bs l)] w (Gives (.bool true) w) := by
  have hz := bs_size l
  have hok := wrongI_none hw.out
  have HD := Lib.hid hok.1
  have hl60 := hok.2.2
  have hr := @wrongFrom_range l 0
  have hwi : -1 ≤ wrongI l := by unfold wrongI; split <;> omega
  clear hr hok
  go_enter Tryd.func4, Tryd.ntmps4
  go_wp2_with fail
  refine (S.read_ok l _ (by omega) hw).mono ?_
  rintro e w1 ⟨a1, n1, c1, rfl, h1, b1⟩
  have hB1 := b1
  have Ha_1 := Lib.hid h1
  unfold faultV
  clear h1 b1
  go_wp2_with fail
  refine (ref07_wrong_gives l _ (by omega)).mono ?_
  rintro e w2 ⟨rfl, b2⟩
  have hB2 := below_then hB1 (below_then (below_alloc _ _) b2)
  have Ha_2 := Lib.hid (Ha_1.out.later (below_then (below_alloc _ _) b2))
  have Hf_2 := Lib.hid ((Box.new w1 0 0 0 0 _).later b2)
  have hw0 := hw.out
  generalize wrongI l = wi at *
  clear b2 Ha_1 hB1
  go_wp2_with fail
  refine (ref07_read l _ (by omega) HD).mono ?_
  rintro e w3 ⟨a3, n3, c3, rfl, h3, b3⟩
  have hB3 := below_then hB2 b3
  have Ha_3 := Lib.hid (Ha_2.out.later b3)
  have Hf_3 := Lib.hid (Hf_2.out.later b3)
  have Hr_3 := Lib.hid h3
  clear h3 b3 Ha_2 Hf_2 hB2
  go_wp2_with fail
  refine (ref02_same_yes _ _ _ _ _ _ _ _ _ Ha_3.out Hr_3.out rfl).mono ?_
  rintro e w4 ⟨rfl, b4⟩
  have hB4 := below_then hB3 b4
  have Hf_4 := Lib.hid (Hf_3.out.later b4)
  clear b4 Ha_3 Hf_3 Hr_3 hB3
  obtain ⟨hf0, hf1, hf2, hf3⟩ := Hf_4.out
  go_wp2_with fail
  refine (law07_works S _ (Lib.hid (hT.out.later hB4))).mono ?_
  rintro e w5 ⟨rfl, b5⟩
  have hB5 := below_then hB4 b5
  clear b5 Hf_4 hB4
  go_wp2
  go_ret
  exact ⟨rfl, hB5⟩
theorem law07_reads (S : DigitsSaid) (l : List UInt8) (w : World) (hT : Hid (Dec10 w)) (h1 : l.length ≤ 9223372036854775807) :
    Calls Tryd.prog 4 #[.string (bs l)] w (Gives (.bool true) w) := by
  by_cases h : 500 < l.length
  · exact law07_reads_out S l w hT h1 h
  · by_cases hw : wrongI l < 0
    · exact law07_reads_ok S l w hT (by omega) (Lib.hid hw)
    · exact law07_reads_bad S l w hT (by omega) (Lib.hid (by omega))
end Go.Proofs.YtgncfkednfjbpaaDoor
