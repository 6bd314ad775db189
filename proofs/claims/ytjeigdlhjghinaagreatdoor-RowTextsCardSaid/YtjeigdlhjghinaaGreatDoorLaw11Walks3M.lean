/-
  The walks of the laws of layer 11: RowTexts.
-/
import Derived.Test.YtjeigdlhjghinaaGreatDoorG24
import Derived.Test.YtjeigdlhjghinaaGreatDoorFigLenM
import Derived.Test.YtjeigdlhjghinaaGreatDoorLaw11IsM
import Derived.Test.YtjeigdlhjghinaaGreatDoorRef11gM
import Derived.Test.YtjeigdlhjghinaaGreatDoorRef11dM
import Derived.Deep.RegionHeld3
namespace Go.Proofs.YtjeigdlhjghinaaGreatDoor
open Go.RowKit

theorem pieces_count (l : List UInt8) : (pieces l).length ≤ l.length + 1 := by
  by_cases h : commaAt l < l.length
  · have h1 : (l.drop (commaAt l + 1)).length < l.length := by rw [List.length_drop]; omega
    have h2 := pieces_count (l.drop (commaAt l + 1))
    rw [pieces_more h, List.length_cons]
    omega
  · rw [pieces_one (by have := commaAt_le l; omega)]
    simp only [List.length_cons, List.length_nil]; omega
termination_by l.length
theorem rowVals_count (l : List UInt8) : (rowVals l).length ≤ l.length + 1 := by
  unfold rowVals
  split
  · exact Nat.zero_le _
  · rw [List.length_map]; exact pieces_count l
theorem rowVals_len (l : List UInt8) : ∀ q ∈ rowVals l, qlen q ≤ 40 := fun q hq => by
  unfold rowVals at hq
  split at hq
  · simp at hq
  · obtain ⟨p, _, rfl⟩ := List.mem_map.1 hq
    exact figVal_len
set_option maxRecDepth 4096 in
set_option maxHeartbeats 16000000 in
theorem law11_texts_long (S : RowSaid) (FS : FracSaid) (a : Option Addr) (n c : Nat) (L : List Fx) (l : List UInt8) (w : World) (h : Fxs w a n c L) (hT : Hid (Dec10 w)) (_hl : l.length ≤ 9223372036854775807) (hb : ¬ ((n : Int) ≤ 12 ∧ thinI 6 L)) : Calls Tryz.prog 6 #[.slice a n c, .string (bs l)] w (Gives (.bool true) w) := by
  have HB : Hid (Below w.heap.size w w) := Lib.hid (Below.refl _ _)
  have HNB := Lib.hid hb
  have HF := Lib.hid h
  have hs := bs_size l
  clear h hb
  go_enter Tryz.func6, Tryz.ntmps6
  go_wp2_with fail
  refine (ref11_long a n c L 12 6 true _ HF.out (by decide) (Lib.hid ⟨fun _ => HNB.out, fun _ => rfl⟩)).mono ?_
  rintro e wv1 ⟨rfl, b⟩
  replace HB := Lib.hid (below_then HB.out b)
  replace HF := Lib.hid (HF.out.later b)
  clear b
  go_wp2_with fail
  refine (law11_works S FS _ (Lib.hid (hT.out.later HB.out))).mono ?_
  rintro e wv2 ⟨rfl, b⟩
  replace HB := Lib.hid (below_then HB.out b)
  replace HF := Lib.hid (HF.out.later b)
  clear b
  go_wp2
  go_ret
  exact ⟨rfl, HB.out⟩
set_option maxRecDepth 4096 in
set_option maxHeartbeats 16000000 in
theorem law11_texts_much (S : RowSaid) (FS : FracSaid) (a : Option Addr) (n c : Nat) (L : List Fx) (l : List UInt8) (w : World) (h : Fxs w a n c L) (hT : Hid (Dec10 w)) (hl : l.length ≤ 9223372036854775807) (hb : (n : Int) ≤ 12 ∧ thinI 6 L) (hm : 300 < l.length) : Calls Tryz.prog 6 #[.slice a n c, .string (bs l)] w (Gives (.bool true) w) := by
  have HB : Hid (Below w.heap.size w w) := Lib.hid (Below.refl _ _)
  have HNB := Lib.hid hb
  have HF := Lib.hid h
  have hs := bs_size l
  have h300 : (300 : Int) < (l.length : Int) := by omega
  clear h hb hm
  go_enter Tryz.func6, Tryz.ntmps6
  go_wp2_with fail
  refine (ref11_long a n c L 12 6 false _ HF.out (by decide) (Lib.hid ⟨fun h => absurd h (by decide), fun h => absurd HNB.out h⟩)).mono ?_
  rintro e wv1 ⟨rfl, b⟩
  replace HB := Lib.hid (below_then HB.out b)
  replace HF := Lib.hid (HF.out.later b)
  clear b
  go_wp2_with fail
  refine (law11_works S FS _ (Lib.hid (hT.out.later HB.out))).mono ?_
  rintro e wv2 ⟨rfl, b⟩
  replace HB := Lib.hid (below_then HB.out b)
  replace HF := Lib.hid (HF.out.later b)
  clear b
  go_wp2
  go_ret
  exact ⟨rfl, HB.out⟩
set_option maxRecDepth 4096 in
set_option maxHeartbeats 16000000 in
theorem law11_texts_short (S : RowSaid) (FS : FracSaid) (a : Option Addr) (n c : Nat) (L : List Fx) (l : List UInt8) (w : World) (h : Fxs w a n c L) (hT : Hid (Dec10 w)) (hl : l.length ≤ 9223372036854775807) (hb : (n : Int) ≤ 12 ∧ thinI 6 L) (hm : ¬ 300 < l.length) : Calls Tryz.prog 6 #[.slice a n c, .string (bs l)] w (Gives (.bool true) w) := by
  have HB : Hid (Below w.heap.size w w) := Lib.hid (Below.refl _ _)
  have HNB := Lib.hid hb
  have hn : n ≤ 12 := by have := hb.1; omega
  have hth : thin 6 L := thinI.out (N := 6) hb.2
  have hq : ∀ q ∈ fqs L, qlen q ≤ 7 := fun q hq => by
    obtain ⟨x, hx, rfl⟩ := List.mem_map.1 hq
    exact ((h.ok hx).fr (hth x hx).1 (hth x hx).2).len
  have hlq : (fqs L).length = n := (fqs_length L).trans h.len
  have HTH := Lib.hid hth
  have HQ := Lib.hid hq
  have HLQ := Lib.hid hlq
  have HF := Lib.hid h
  have hs := bs_size l
  have h300 : ¬ (300 : Int) < (l.length : Int) := by omega
  obtain ⟨V, hV⟩ : ∃ V, rowVals l = V := ⟨_, rfl⟩
  obtain ⟨kd, hkd⟩ : ∃ q, rowKind l = q := ⟨_, rfl⟩
  obtain ⟨pl, hpl⟩ : ∃ q, rowPlace l = q := ⟨_, rfl⟩
  have HVC : Hid (V.length ≤ 301) := Lib.hid (by have := rowVals_count l; rw [hV] at this; omega)
  have HVL : Hid (∀ q ∈ V, qlen q ≤ 40) := Lib.hid (by have := rowVals_len l; rw [hV] at this; exact this)
  have HR1 : ∀ w' : World, Calls Tryz.prog 38 #[.string (bs l)] w' (LstRwV V (faultV kd 0 0 pl) w') := fun w' => by
    have h := S.read l w' (by omega) (fun p hp => Nat.le_trans (pieces_le hp) (by omega))
    rw [hV, hkd, hpl] at h
    exact h
  have HR2 : ∀ w' : World, Calls Tryz.prog 39 #[.string (bs l)] w' (fun e w'' => ∃ (a : Option Addr) (n c : Nat), e = .returned (.tuple #[.slice a n c, .int .i64 kd, .int .i64 pl]) ∧ Rw w'' a n c V ∧ Below w'.heap.size w' w'') := fun w' => by
    have h := ref11_read l w' (by omega)
    rw [hV, hkd, hpl] at h
    exact h
  obtain ⟨qs, hqs⟩ : ∃ qs, fqs L = qs := ⟨_, rfl⟩
  have HTX : ∀ (w' : World) (a1 : Option Addr) (c1 : Nat), Fxs w' a1 n c1 L → Hid (Dec10 w') → Calls Tryz.prog 40 #[.slice a1 n c1] w' (Gives (.string (bs (rowTxt qs))) w') := fun w' a1 c1 h1 h2 => hqs ▸ S.text a1 n c1 L w' h1 (by omega) (HTH.out.mono (by decide)) h2
  have HNO : ∀ (w' : World) (a1 : Option Addr) (c1 : Nat), Fxs w' a1 n c1 L → Calls Tryz.prog 11 #[.slice a1 n c1] w' (LstRw qs w') := fun w' a1 c1 h1 => hqs ▸ ref11_norms a1 n c1 L w' h1 (by omega) (HTH.out.mono (by decide))
  have HTR : ∀ (w' : World) (a1 : Option Addr) (n1 c1 : Nat), Rw w' a1 n1 c1 qs → Calls Tryz.prog 41 #[.slice a1 n1 c1] w' (Gives (.string (bs (rowTxt qs))) w') := fun w' a1 n1 c1 h1 => ref11_text a1 n1 c1 qs w' h1 (by have := h1.len; have := HLQ.out; rw [hqs] at this; omega) (fun q hq => Nat.le_trans (HQ.out q (hqs ▸ hq)) (by decide))
  have HIS : ∀ (w' : World) (a1 : Option Addr) (n1 c1 : Nat) (a2 : Option Addr) (n2 c2 : Nat), Rw w' a1 n1 c1 V → Rw w' a2 n2 c2 V → Calls Tryz.prog 12 #[.slice a1 n1 c1, .slice a2 n2 c2] w' (Gives (.bool true) w') := fun w' a1 n1 c1 a2 n2 c2 h1 h2 => by
    have h := law11_is a1 n1 c1 V a2 n2 c2 V w' h1 h2 (by have := h1.len; have := HVC.out; omega) (fun q hq => Nat.le_trans (HVL.out q hq) (by decide)) (fun q hq => Nat.le_trans (HVL.out q hq) (by decide))
    rw [decide_eq_true rfl] at h
    exact h
  have q1 : ((bs (rowTxt qs)).toList == (bs (rowTxt qs)).toList) = true := by simp
  clear hV hkd hpl hqs hm
  clear h hb hlq hth hq
  unfold faultV at HR1
  go_enter Tryz.func6, Tryz.ntmps6
  go_wp2_with fail
  refine (ref11_long a n c L 12 6 false _ HF.out (by decide) (Lib.hid ⟨fun h => absurd h (by decide), fun h => absurd HNB.out h⟩)).mono ?_
  rintro e wv1 ⟨rfl, b⟩
  replace HB := Lib.hid (below_then HB.out b)
  replace HF := Lib.hid (HF.out.later b)
  clear b
  go_wp2_with fail
  refine (HR1 _).mono ?_
  rintro e wv2 ⟨a2, n2, c2, rfl, h2, b⟩
  replace HB := Lib.hid (below_then HB.out b)
  replace HF := Lib.hid (HF.out.later b)
  clear b
  have R2 := Lib.hid h2
  clear h2
  have G2 : Hid ((World.alloc wv2 (.cells #[.int .i64 kd, .int .i64 0, .int .i64 0, .int .i64 pl] 69)).heap[wv2.heap.size]? = some (.cells #[.int .i64 kd, .int .i64 0, .int .i64 0, .int .i64 pl] 69 (0, 0))) := Lib.hid (blk_new wv2 _ _)
  replace HB := Lib.hid (below_then HB.out (below_alloc wv2 (.cells #[.int .i64 kd, .int .i64 0, .int .i64 0, .int .i64 pl] 69)))
  replace HF := Lib.hid (HF.out.later (below_alloc wv2 (.cells #[.int .i64 kd, .int .i64 0, .int .i64 0, .int .i64 pl] 69)))
  replace R2 := Lib.hid (R2.out.later (below_alloc wv2 (.cells #[.int .i64 kd, .int .i64 0, .int .i64 0, .int .i64 pl] 69)))
  obtain ⟨vk0, vk1, vk2, vk3⟩ := fcells_4 G2.out
  go_wp2_with fail
  refine (HR2 _).mono ?_
  rintro e wv3 ⟨a3, n3, c3, rfl, h3, b⟩
  clear vk0 vk1 vk2 vk3
  replace HB := Lib.hid (below_then HB.out b)
  replace G2 := Lib.hid (blk_later G2.out b)
  replace HF := Lib.hid (HF.out.later b)
  replace R2 := Lib.hid (R2.out.later b)
  clear b
  have R3 := Lib.hid h3
  clear h3
  obtain ⟨vk0, vk1, vk2, vk3⟩ := fcells_4 G2.out
  go_wp2_with fail
  refine (law11_to a n c L _ HF.out (by omega)).mono ?_
  rintro e wv4 ⟨a4, c4, rfl, h4, b⟩
  clear vk0 vk1 vk2 vk3
  replace HB := Lib.hid (below_then HB.out b)
  replace G2 := Lib.hid (blk_later G2.out b)
  replace HF := Lib.hid (HF.out.later b)
  replace R2 := Lib.hid (R2.out.later b)
  replace R3 := Lib.hid (R3.out.later b)
  clear b
  have R4 := Lib.hid h4
  clear h4
  obtain ⟨vk0, vk1, vk2, vk3⟩ := fcells_4 G2.out
  go_wp2_with fail
  refine (HTX _ a4 c4 R4.out (Lib.hid (hT.out.later HB.out))).mono ?_
  rintro e wv5 ⟨rfl, b⟩
  clear vk0 vk1 vk2 vk3
  replace HB := Lib.hid (below_then HB.out b)
  replace G2 := Lib.hid (blk_later G2.out b)
  replace HF := Lib.hid (HF.out.later b)
  replace R2 := Lib.hid (R2.out.later b)
  replace R3 := Lib.hid (R3.out.later b)
  replace R4 := Lib.hid (R4.out.later b)
  clear b
  clear R4
  obtain ⟨vk0, vk1, vk2, vk3⟩ := fcells_4 G2.out
  go_wp2_with fail
  refine (HNO _ a c HF.out).mono ?_
  rintro e wv6 ⟨a6, n6, c6, rfl, h6, b⟩
  clear vk0 vk1 vk2 vk3
  replace HB := Lib.hid (below_then HB.out b)
  replace G2 := Lib.hid (blk_later G2.out b)
  replace HF := Lib.hid (HF.out.later b)
  replace R2 := Lib.hid (R2.out.later b)
  replace R3 := Lib.hid (R3.out.later b)
  clear b
  have R6 := Lib.hid h6
  clear h6
  obtain ⟨vk0, vk1, vk2, vk3⟩ := fcells_4 G2.out
  go_wp2_with fail
  refine (HTR _ a6 n6 c6 R6.out).mono ?_
  rintro e wv7 ⟨rfl, b⟩
  clear vk0 vk1 vk2 vk3
  replace HB := Lib.hid (below_then HB.out b)
  replace G2 := Lib.hid (blk_later G2.out b)
  replace HF := Lib.hid (HF.out.later b)
  replace R2 := Lib.hid (R2.out.later b)
  replace R3 := Lib.hid (R3.out.later b)
  replace R6 := Lib.hid (R6.out.later b)
  clear b
  clear R6
  obtain ⟨vk0, vk1, vk2, vk3⟩ := fcells_4 G2.out
  go_wp2_with fail
  refine (HIS _ a2 n2 c2 a3 n3 c3 R2.out R3.out).mono ?_
  rintro e wv8 ⟨rfl, b⟩
  clear vk0 vk1 vk2 vk3
  replace HB := Lib.hid (below_then HB.out b)
  replace G2 := Lib.hid (blk_later G2.out b)
  replace HF := Lib.hid (HF.out.later b)
  replace R2 := Lib.hid (R2.out.later b)
  replace R3 := Lib.hid (R3.out.later b)
  clear b
  obtain ⟨vk0, vk1, vk2, vk3⟩ := fcells_4 G2.out
  go_wp2_with fail
  refine (law11_works S FS _ (Lib.hid (hT.out.later HB.out))).mono ?_
  rintro e wv9 ⟨rfl, b⟩
  clear vk0 vk1 vk2 vk3
  replace HB := Lib.hid (below_then HB.out b)
  replace G2 := Lib.hid (blk_later G2.out b)
  replace HF := Lib.hid (HF.out.later b)
  replace R2 := Lib.hid (R2.out.later b)
  replace R3 := Lib.hid (R3.out.later b)
  clear b
  go_wp2
  go_ret
  exact ⟨rfl, HB.out⟩
theorem law11_texts (S : RowSaid) (FS : FracSaid) (a : Option Addr) (n c : Nat) (L : List Fx) (l : List UInt8) (w : World) (h : Fxs w a n c L) (hT : Hid (Dec10 w)) (hl : l.length ≤ 9223372036854775807) : Calls Tryz.prog 6 #[.slice a n c, .string (bs l)] w (Gives (.bool true) w) := by
  by_cases hb : (n : Int) ≤ 12 ∧ thinI 6 L
  · by_cases hm : 300 < l.length
    · exact law11_texts_much S FS a n c L l w h hT hl hb hm
    · exact law11_texts_short S FS a n c L l w h hT hl hb hm
  · exact law11_texts_long S FS a n c L l w h hT hl hb
end Go.Proofs.YtjeigdlhjghinaaGreatDoor
