/-
  The walks of the laws of layer 11: RowBack.
-/
import Derived.Test.YtjeigdlhjghinaaGreatDoorG24
import Derived.Test.YtjeigdlhjghinaaGreatDoorG15
import Derived.Deep.RegionHeld3
namespace Go.Proofs.YtjeigdlhjghinaaGreatDoor
open Go.RowKit

theorem txt_of_qlen {n N : Nat} (h : (dg n).length ≤ N) (hN : N ≤ 6) : (txt n).length ≤ 58 := by
  have h1 := val_lt (okw_dg n)
  rw [val_dg] at h1
  refine txt_length_ten (Nat.lt_of_lt_of_le h1 (Nat.le_trans (Nat.pow_le_pow_right (by decide) (show (dg n).length ≤ 6 by omega)) (by decide +kernel))) (by decide)
theorem ftxt_bound {q : Rat} (h : qlen q ≤ 6) : (ftxt q).length ≤ 150 := by
  have h1 := txt_of_qlen (Nat.le_trans (qlen_num q) h) (Nat.le_refl _)
  have h2 := txt_of_qlen (Nat.le_trans (qlen_den q) h) (Nat.le_refl _)
  have h3 : (ztxt q.num).length ≤ 59 := by unfold ztxt; split <;> (try rw [List.length_cons]) <;> omega
  unfold ftxt
  split <;> simp only [List.length_append, List.length_cons, List.length_nil] <;> omega
theorem rowTxt_bound : ∀ {qs : List Rat}, (∀ q ∈ qs, qlen q ≤ 6) → (rowTxt qs).length ≤ qs.length * 200
  | [], _ => by rw [rowTxt]; exact Nat.zero_le _
  | [q], h => by
    have h1 := ftxt_bound (h q (by simp))
    rw [rowTxt]
    simp only [List.length_cons, List.length_nil]; omega
  | q :: p :: r, h => by
    have h1 := ftxt_bound (h q (by simp))
    have h2 := rowTxt_bound (qs := p :: r) (fun x hx => h x (by simp only [List.mem_cons] at hx ⊢; exact .inr hx))
    show (ftxt q ++ 44 :: rowTxt (p :: r)).length ≤ _
    simp only [List.length_append, List.length_cons] at h2 ⊢; omega
set_option maxRecDepth 4096 in
set_option maxHeartbeats 16000000 in
theorem law11_back_long (S : RowSaid) (FS : FracSaid) (a : Option Addr) (n c : Nat) (L : List Fx) (w : World) (h : Fxs w a n c L) (hT : Hid (Dec10 w)) (hb : ¬ ((n : Int) ≤ 12 ∧ thinI 5 L)) : Calls Tryz.prog 8 #[.slice a n c] w (Gives (.bool true) w) := by
  have HB : Hid (Below w.heap.size w w) := Lib.hid (Below.refl _ _)
  have HNB := Lib.hid hb
  have HF := Lib.hid h
  clear h hb
  go_enter Tryz.func8, Tryz.ntmps8
  go_wp2_with fail
  refine (ref11_long a n c L 12 5 true _ HF.out (by decide) (Lib.hid ⟨fun _ => HNB.out, fun _ => rfl⟩)).mono ?_
  rintro e wv1 ⟨rfl, b⟩
  replace HB := Lib.hid (below_then HB.out b)
  replace HF := Lib.hid (HF.out.later b)
  clear b
  go_wp2_with fail
  refine (law11_works S FS _ (Lib.hid (hT.out.later HB.out))).mono ?_
  rintro e wv2 ⟨rfl, b⟩
  replace HB := Lib.hid (below_then HB.out b)
  replace HF := Lib.hid (HF.out.later b)
  clear b
  go_wp2
  go_ret
  exact ⟨rfl, HB.out⟩
set_option maxRecDepth 4096 in
set_option maxHeartbeats 16000000 in
theorem law11_back_short (S : RowSaid) (FS : FracSaid) (a : Option Addr) (n c : Nat) (L : List Fx) (w : World) (h : Fxs w a n c L) (hT : Hid (Dec10 w)) (hb : (n : Int) ≤ 12 ∧ thinI 5 L) : Calls Tryz.prog 8 #[.slice a n c] w (Gives (.bool true) w) := by
  have HB : Hid (Below w.heap.size w w) := Lib.hid (Below.refl _ _)
  have HNB := Lib.hid hb
  have hn : n ≤ 12 := by have := hb.1; omega
  have hth : thin 5 L := thinI.out (N := 5) hb.2
  have hq : ∀ q ∈ fqs L, qlen q ≤ 6 := fun q hq => by
    obtain ⟨x, hx, rfl⟩ := List.mem_map.1 hq
    exact ((h.ok hx).fr (hth x hx).1 (hth x hx).2).len
  have hlq : (fqs L).length = n := (fqs_length L).trans h.len
  have hbk := row_back (l := fqs L) (fun q hm => ⟨Nat.le_trans (txt_of_qlen (Nat.le_trans (qlen_num q) (hq q hm)) (Nat.le_refl _)) (by decide), Nat.le_trans (txt_of_qlen (Nat.le_trans (qlen_den q) (hq q hm)) (Nat.le_refl _)) (by decide)⟩)
  have hrl : (rowTxt (fqs L)).length ≤ 2400 := by have := rowTxt_bound hq; omega
  have hpc : ∀ p ∈ pieces (rowTxt (fqs L)), p.length ≤ 1000 := fun p hp => by
    by_cases h0 : fqs L = []
    · rw [h0] at hp
      exact Nat.le_trans (pieces_le hp) (by decide)
    · rw [pieces_txt h0] at hp
      obtain ⟨x, hx, rfl⟩ := List.mem_map.1 hp
      exact Nat.le_trans (ftxt_bound (hq x hx)) (by decide)
  have HR : ∀ w' : World, Calls Tryz.prog 38 #[.string (bs (rowTxt (fqs L)))] w' (LstRwV (fqs L) (faultV 0 0 0 0) w') := fun w' => by
    have h9 := S.read (rowTxt (fqs L)) w' (by omega) hpc
    rw [hbk.1, hbk.2.1, hbk.2.2] at h9
    exact h9
  have HT5 := Lib.hid (hth.mono (show 5 ≤ 100 by decide))
  have HQ := Lib.hid hq
  have HSM : ∀ (w' : World) (a1 : Option Addr) (n1 c1 : Nat) (a2 : Option Addr) (c2 : Nat), Rw w' a1 n1 c1 (fqs L) → Fxs w' a2 n c2 L → Calls Tryz.prog 17 #[.slice a1 n1 c1, .slice a2 n c2] w' (Gives (.bool true) w') := fun w' a1 n1 c1 a2 c2 h1 h2 => by
    obtain ⟨M, k1, k2, k3⟩ := h1.thin hq
    have h8 := S.same a1 n1 c1 M a2 n c2 L w' k1 h2 (by have := h1.len; omega) (by omega) (k3.mono (by decide)) (hth.mono (by decide))
    rw [k2, decide_eq_true rfl] at h8
    exact h8
  have HF := Lib.hid h
  obtain ⟨qs, hqs⟩ : ∃ qs, fqs L = qs := ⟨_, rfl⟩
  have HTX : ∀ (w' : World) (a1 : Option Addr) (c1 : Nat), Fxs w' a1 n c1 L → Hid (Dec10 w') → Calls Tryz.prog 40 #[.slice a1 n c1] w' (Gives (.string (bs (rowTxt qs))) w') := fun w' a1 c1 h1 h2 => hqs ▸ S.text a1 n c1 L w' h1 (by omega) HT5.out h2
  rw [hqs] at HR HSM
  unfold faultV at HR
  clear h hb hbk hrl hpc hq hlq hth hqs HQ
  go_enter Tryz.func8, Tryz.ntmps8
  go_wp2_with fail
  refine (ref11_long a n c L 12 5 false _ HF.out (by decide) (Lib.hid ⟨fun h => absurd h (by decide), fun h => absurd HNB.out h⟩)).mono ?_
  rintro e wv1 ⟨rfl, b⟩
  replace HB := Lib.hid (below_then HB.out b)
  replace HF := Lib.hid (HF.out.later b)
  clear b
  go_wp2_with fail
  refine (law11_to a n c L _ HF.out (by omega)).mono ?_
  rintro e wv2 ⟨a1, c1, rfl, h1, b⟩
  replace HB := Lib.hid (below_then HB.out b)
  replace HF := Lib.hid (HF.out.later b)
  clear b
  have R1 := Lib.hid h1
  clear h1
  go_wp2_with fail
  refine (HTX _ a1 c1 R1.out (Lib.hid (hT.out.later HB.out))).mono ?_
  rintro e wv3 ⟨rfl, b⟩
  replace HB := Lib.hid (below_then HB.out b)
  replace HF := Lib.hid (HF.out.later b)
  replace R1 := Lib.hid (R1.out.later b)
  clear b
  clear R1
  go_wp2_with fail
  refine (HR _).mono ?_
  rintro e wv4 ⟨a4, n4, c4, rfl, h4, b⟩
  replace HB := Lib.hid (below_then HB.out b)
  replace HF := Lib.hid (HF.out.later b)
  clear b
  have R4 := Lib.hid h4
  clear h4
  have G4 : Hid ((World.alloc wv4 (.cells #[.int .i64 0, .int .i64 0, .int .i64 0, .int .i64 0] 69)).heap[wv4.heap.size]? = some (.cells #[.int .i64 0, .int .i64 0, .int .i64 0, .int .i64 0] 69 (0, 0))) := Lib.hid (blk_new wv4 _ _)
  replace HB := Lib.hid (below_then HB.out (below_alloc wv4 (.cells #[.int .i64 0, .int .i64 0, .int .i64 0, .int .i64 0] 69)))
  replace HF := Lib.hid (HF.out.later (below_alloc wv4 (.cells #[.int .i64 0, .int .i64 0, .int .i64 0, .int .i64 0] 69)))
  replace R4 := Lib.hid (R4.out.later (below_alloc wv4 (.cells #[.int .i64 0, .int .i64 0, .int .i64 0, .int .i64 0] 69)))
  obtain ⟨vk0, vk1, vk2, vk3⟩ := fcells_4 G4.out
  go_wp2_with fail
  refine (law11_to a n c L _ HF.out (by omega)).mono ?_
  rintro e wv5 ⟨a5, c5, rfl, h5, b⟩
  clear vk0 vk1 vk2 vk3
  replace HB := Lib.hid (below_then HB.out b)
  replace G4 := Lib.hid (blk_later G4.out b)
  replace HF := Lib.hid (HF.out.later b)
  replace R4 := Lib.hid (R4.out.later b)
  clear b
  have R5 := Lib.hid h5
  clear h5
  obtain ⟨vk0, vk1, vk2, vk3⟩ := fcells_4 G4.out
  go_wp2_with fail
  refine (HSM _ a4 n4 c4 a5 c5 R4.out R5.out).mono ?_
  rintro e wv6 ⟨rfl, b⟩
  clear vk0 vk1 vk2 vk3
  replace HB := Lib.hid (below_then HB.out b)
  replace G4 := Lib.hid (blk_later G4.out b)
  replace HF := Lib.hid (HF.out.later b)
  replace R4 := Lib.hid (R4.out.later b)
  replace R5 := Lib.hid (R5.out.later b)
  clear b
  obtain ⟨vk0, vk1, vk2, vk3⟩ := fcells_4 G4.out
  go_wp2_with fail
  refine (law11_works S FS _ (Lib.hid (hT.out.later HB.out))).mono ?_
  rintro e wv7 ⟨rfl, b⟩
  clear vk0 vk1 vk2 vk3
  replace HB := Lib.hid (below_then HB.out b)
  replace G4 := Lib.hid (blk_later G4.out b)
  replace HF := Lib.hid (HF.out.later b)
  replace R4 := Lib.hid (R4.out.later b)
  replace R5 := Lib.hid (R5.out.later b)
  clear b
  go_wp2
  go_ret
  exact ⟨rfl, HB.out⟩
theorem law11_back (S : RowSaid) (FS : FracSaid) (a : Option Addr) (n c : Nat) (L : List Fx) (w : World) (h : Fxs w a n c L) (hT : Hid (Dec10 w)) : Calls Tryz.prog 8 #[.slice a n c] w (Gives (.bool true) w) := by
  by_cases hb : (n : Int) ≤ 12 ∧ thinI 5 L
  · exact law11_back_short S FS a n c L w h hT hb
  · exact law11_back_long S FS a n c L w h hT hb
end Go.Proofs.YtjeigdlhjghinaaGreatDoor
