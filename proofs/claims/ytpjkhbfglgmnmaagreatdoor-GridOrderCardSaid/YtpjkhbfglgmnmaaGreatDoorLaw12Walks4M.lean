/-
  The walks of the laws of layer 12: GridOrder.
-/
import Derived.Test.YtpjkhbfglgmnmaaGreatDoorLaw12Walks2M
import Derived.Test.YtpjkhbfglgmnmaaGreatDoorGridUse2M
import Derived.Test.YtpjkhbfglgmnmaaGreatDoorG18
namespace Go.Proofs.YtpjkhbfglgmnmaaGreatDoor
open Go.RowKit

theorem gwidth_fqs_of {LL : List (List Fx)} {P : List (List Rat)} {n : Nat} (hP : LL.map fqs = P) (hw : gwidth LL = n) : gwidth P = n := by rw [← hP, gwidth_fqs]; exact hw
theorem gapply_len13 {B C K w n : Nat} {m : List (List Rat)} {c : List Rat} (hm : mat n w m) (hw : w ≤ K) (hq : ∀ r ∈ m, ∀ q ∈ r, qlen q ≤ B) (hc : ∀ q ∈ c, qlen q ≤ C) : ∀ q ∈ gapply m c, qlen q ≤ 1 + K * (B + C + 3) := fun q hq' => by
  unfold gapply at hq'
  obtain ⟨r, hr, rfl⟩ := List.mem_map.1 hq'
  have h1 := qlen_rdot (hq r hr) hc
  rw [hm.2 r hr] at h1
  exact Nat.le_trans h1 (Nat.add_le_add_left (Nat.mul_le_mul_right _ hw) 1)
set_option maxRecDepth 4096 in
set_option maxHeartbeats 16000000 in
theorem law12_order_e0 (S : GridSaid) (RS : RowSaid) (FS : FracSaid) (a : Option Addr) (n c : Nat) (LL : List (List Fx)) (az : Option Addr) (nz cz : Nat) (LLz : List (List Fx)) (ar : Option Addr) (nr cr : Nat) (Lr : List Fx) (w : World) (h : Fxss w a n c LL) (hz : Fxss w az nz cz LLz) (hr : Fxs w ar nr cr Lr) (hT : Hid (Dec10 w))  (hb : ¬ ((n : Int) ≤ 4 ∧ ∀ M ∈ LL, (M.length : Int) ≤ 4 ∧ thinI 2 M)) : Calls Tryz.prog 6 #[.slice a n c, .slice az nz cz, .slice ar nr cr] w (Gives (.bool true) w) := by
  have HB : Hid (Below w.heap.size w w) := Lib.hid (Below.refl _ _)
  have HF := Lib.hid h
  have HFz := Lib.hid hz
  have HFr := Lib.hid hr
  have HNB := Lib.hid hb
  clear h hz hr hb
  go_enter Tryz.func6, Tryz.ntmps6
  go_wp2_with fail
  refine (ref12_long a n c LL 4 2 true _ HF.out (by decide) (Lib.hid ⟨fun _ => HNB.out, fun _ => rfl⟩)).mono ?_
  rintro e wv1 ⟨rfl, b⟩
  replace HB := Lib.hid (below_then HB.out b)
  replace HF := Lib.hid (HF.out.later b)
  replace HFz := Lib.hid (HFz.out.later b)
  replace HFr := Lib.hid (HFr.out.later b)
  clear b
  go_wp2_with fail
  refine (law12_works S RS FS _ (Lib.hid (hT.out.later HB.out))).mono ?_
  rintro e wv2 ⟨rfl, b⟩
  replace HB := Lib.hid (below_then HB.out b)
  replace HF := Lib.hid (HF.out.later b)
  replace HFz := Lib.hid (HFz.out.later b)
  replace HFr := Lib.hid (HFr.out.later b)
  clear b
  go_wp2
  go_ret
  exact ⟨rfl, HB.out⟩
set_option maxRecDepth 4096 in
set_option maxHeartbeats 16000000 in
theorem law12_order_e1 (S : GridSaid) (RS : RowSaid) (FS : FracSaid) (a : Option Addr) (n c : Nat) (LL : List (List Fx)) (az : Option Addr) (nz cz : Nat) (LLz : List (List Fx)) (ar : Option Addr) (nr cr : Nat) (Lr : List Fx) (w : World) (h : Fxss w a n c LL) (hz : Fxss w az nz cz LLz) (hr : Fxs w ar nr cr Lr) (hT : Hid (Dec10 w)) (hb : ((n : Int) ≤ 4 ∧ ∀ M ∈ LL, (M.length : Int) ≤ 4 ∧ thinI 2 M)) (hbz : ¬ ((nz : Int) ≤ 4 ∧ ∀ M ∈ LLz, (M.length : Int) ≤ 4 ∧ thinI 2 M)) : Calls Tryz.prog 6 #[.slice a n c, .slice az nz cz, .slice ar nr cr] w (Gives (.bool true) w) := by
  have HB : Hid (Below w.heap.size w w) := Lib.hid (Below.refl _ _)
  have HF := Lib.hid h
  have HFz := Lib.hid hz
  have HFr := Lib.hid hr
  have HNB := Lib.hid hb
  have HNBz := Lib.hid hbz
  clear h hz hr hb hbz
  go_enter Tryz.func6, Tryz.ntmps6
  go_wp2_with fail
  refine (ref12_long a n c LL 4 2 false _ HF.out (by decide) (Lib.hid ⟨fun h => absurd h (by decide), fun h => absurd HNB.out h⟩)).mono ?_
  rintro e wv1 ⟨rfl, b⟩
  replace HB := Lib.hid (below_then HB.out b)
  replace HF := Lib.hid (HF.out.later b)
  replace HFz := Lib.hid (HFz.out.later b)
  replace HFr := Lib.hid (HFr.out.later b)
  clear b
  go_wp2_with fail
  refine (ref12_long az nz cz LLz 4 2 true _ HFz.out (by decide) (Lib.hid ⟨fun _ => HNBz.out, fun _ => rfl⟩)).mono ?_
  rintro e wv2 ⟨rfl, b⟩
  replace HB := Lib.hid (below_then HB.out b)
  replace HF := Lib.hid (HF.out.later b)
  replace HFz := Lib.hid (HFz.out.later b)
  replace HFr := Lib.hid (HFr.out.later b)
  clear b
  go_wp2_with fail
  refine (law12_works S RS FS _ (Lib.hid (hT.out.later HB.out))).mono ?_
  rintro e wv3 ⟨rfl, b⟩
  replace HB := Lib.hid (below_then HB.out b)
  replace HF := Lib.hid (HF.out.later b)
  replace HFz := Lib.hid (HFz.out.later b)
  replace HFr := Lib.hid (HFr.out.later b)
  clear b
  go_wp2
  go_ret
  exact ⟨rfl, HB.out⟩
set_option maxRecDepth 4096 in
set_option maxHeartbeats 16000000 in
theorem law12_order_e2 (S : GridSaid) (RS : RowSaid) (FS : FracSaid) (a : Option Addr) (n c : Nat) (LL : List (List Fx)) (az : Option Addr) (nz cz : Nat) (LLz : List (List Fx)) (ar : Option Addr) (nr cr : Nat) (Lr : List Fx) (w : World) (h : Fxss w a n c LL) (hz : Fxss w az nz cz LLz) (hr : Fxs w ar nr cr Lr) (hT : Hid (Dec10 w)) (hb : ((n : Int) ≤ 4 ∧ ∀ M ∈ LL, (M.length : Int) ≤ 4 ∧ thinI 2 M)) (hbz : ((nz : Int) ≤ 4 ∧ ∀ M ∈ LLz, (M.length : Int) ≤ 4 ∧ thinI 2 M)) (hbr : ¬ ((nr : Int) ≤ 4 ∧ thinI 2 Lr)) : Calls Tryz.prog 6 #[.slice a n c, .slice az nz cz, .slice ar nr cr] w (Gives (.bool true) w) := by
  have HB : Hid (Below w.heap.size w w) := Lib.hid (Below.refl _ _)
  have HF := Lib.hid h
  have HFz := Lib.hid hz
  have HFr := Lib.hid hr
  have HNB := Lib.hid hb
  have HNBz := Lib.hid hbz
  have HNBr := Lib.hid hbr
  clear h hz hr hb hbz hbr
  go_enter Tryz.func6, Tryz.ntmps6
  go_wp2_with fail
  refine (ref12_long a n c LL 4 2 false _ HF.out (by decide) (Lib.hid ⟨fun h => absurd h (by decide), fun h => absurd HNB.out h⟩)).mono ?_
  rintro e wv1 ⟨rfl, b⟩
  replace HB := Lib.hid (below_then HB.out b)
  replace HF := Lib.hid (HF.out.later b)
  replace HFz := Lib.hid (HFz.out.later b)
  replace HFr := Lib.hid (HFr.out.later b)
  clear b
  go_wp2_with fail
  refine (ref12_long az nz cz LLz 4 2 false _ HFz.out (by decide) (Lib.hid ⟨fun h => absurd h (by decide), fun h => absurd HNBz.out h⟩)).mono ?_
  rintro e wv2 ⟨rfl, b⟩
  replace HB := Lib.hid (below_then HB.out b)
  replace HF := Lib.hid (HF.out.later b)
  replace HFz := Lib.hid (HFz.out.later b)
  replace HFr := Lib.hid (HFr.out.later b)
  clear b
  go_wp2_with fail
  refine (ref11_long ar nr cr Lr 4 2 true _ HFr.out (by decide) (Lib.hid ⟨fun _ => HNBr.out, fun _ => rfl⟩)).mono ?_
  rintro e wv3 ⟨rfl, b⟩
  replace HB := Lib.hid (below_then HB.out b)
  replace HF := Lib.hid (HF.out.later b)
  replace HFz := Lib.hid (HFz.out.later b)
  replace HFr := Lib.hid (HFr.out.later b)
  clear b
  go_wp2_with fail
  refine (law12_works S RS FS _ (Lib.hid (hT.out.later HB.out))).mono ?_
  rintro e wv4 ⟨rfl, b⟩
  replace HB := Lib.hid (below_then HB.out b)
  replace HF := Lib.hid (HF.out.later b)
  replace HFz := Lib.hid (HFz.out.later b)
  replace HFr := Lib.hid (HFr.out.later b)
  clear b
  go_wp2
  go_ret
  exact ⟨rfl, HB.out⟩
set_option maxRecDepth 4096 in
set_option maxHeartbeats 16000000 in
theorem law12_order_e3 (S : GridSaid) (RS : RowSaid) (FS : FracSaid) (a : Option Addr) (n c : Nat) (LL : List (List Fx)) (az : Option Addr) (nz cz : Nat) (LLz : List (List Fx)) (ar : Option Addr) (nr cr : Nat) (Lr : List Fx) (w : World) (h : Fxss w a n c LL) (hz : Fxss w az nz cz LLz) (hr : Fxs w ar nr cr Lr) (hT : Hid (Dec10 w)) (hb : ((n : Int) ≤ 4 ∧ ∀ M ∈ LL, (M.length : Int) ≤ 4 ∧ thinI 2 M)) (hbz : ((nz : Int) ≤ 4 ∧ ∀ M ∈ LLz, (M.length : Int) ≤ 4 ∧ thinI 2 M)) (hbr : ((nr : Int) ≤ 4 ∧ thinI 2 Lr)) (hrc : ¬ rect LL) : Calls Tryz.prog 6 #[.slice a n c, .slice az nz cz, .slice ar nr cr] w (Gives (.bool true) w) := by
  have HB : Hid (Below w.heap.size w w) := Lib.hid (Below.refl _ _)
  have HF := Lib.hid h
  have HFz := Lib.hid hz
  have HFr := Lib.hid hr
  have HNB := Lib.hid hb
  have HNBz := Lib.hid hbz
  have HNBr := Lib.hid hbr
  have HRA := Lib.hid hrc
  clear h hz hr hb hbz hbr hrc
  go_enter Tryz.func6, Tryz.ntmps6
  go_wp2_with fail
  refine (ref12_long a n c LL 4 2 false _ HF.out (by decide) (Lib.hid ⟨fun h => absurd h (by decide), fun h => absurd HNB.out h⟩)).mono ?_
  rintro e wv1 ⟨rfl, b⟩
  replace HB := Lib.hid (below_then HB.out b)
  replace HF := Lib.hid (HF.out.later b)
  replace HFz := Lib.hid (HFz.out.later b)
  replace HFr := Lib.hid (HFr.out.later b)
  clear b
  go_wp2_with fail
  refine (ref12_long az nz cz LLz 4 2 false _ HFz.out (by decide) (Lib.hid ⟨fun h => absurd h (by decide), fun h => absurd HNBz.out h⟩)).mono ?_
  rintro e wv2 ⟨rfl, b⟩
  replace HB := Lib.hid (below_then HB.out b)
  replace HF := Lib.hid (HF.out.later b)
  replace HFz := Lib.hid (HFz.out.later b)
  replace HFr := Lib.hid (HFr.out.later b)
  clear b
  go_wp2_with fail
  refine (ref11_long ar nr cr Lr 4 2 false _ HFr.out (by decide) (Lib.hid ⟨fun h => absurd h (by decide), fun h => absurd HNBr.out h⟩)).mono ?_
  rintro e wv3 ⟨rfl, b⟩
  replace HB := Lib.hid (below_then HB.out b)
  replace HF := Lib.hid (HF.out.later b)
  replace HFz := Lib.hid (HFz.out.later b)
  replace HFr := Lib.hid (HFr.out.later b)
  clear b
  go_wp2_with fail
  refine (ref12_right a n c LL false _ HF.out (Lib.hid ⟨fun h => absurd h (by decide), fun h => absurd h HRA.out⟩)).mono ?_
  rintro e wv4 ⟨rfl, b⟩
  replace HB := Lib.hid (below_then HB.out b)
  replace HF := Lib.hid (HF.out.later b)
  replace HFz := Lib.hid (HFz.out.later b)
  replace HFr := Lib.hid (HFr.out.later b)
  clear b
  go_wp2_with fail
  refine (law12_works S RS FS _ (Lib.hid (hT.out.later HB.out))).mono ?_
  rintro e wv5 ⟨rfl, b⟩
  replace HB := Lib.hid (below_then HB.out b)
  replace HF := Lib.hid (HF.out.later b)
  replace HFz := Lib.hid (HFz.out.later b)
  replace HFr := Lib.hid (HFr.out.later b)
  clear b
  go_wp2
  go_ret
  exact ⟨rfl, HB.out⟩
set_option maxRecDepth 4096 in
set_option maxHeartbeats 16000000 in
theorem law12_order_e4 (S : GridSaid) (RS : RowSaid) (FS : FracSaid) (a : Option Addr) (n c : Nat) (LL : List (List Fx)) (az : Option Addr) (nz cz : Nat) (LLz : List (List Fx)) (ar : Option Addr) (nr cr : Nat) (Lr : List Fx) (w : World) (h : Fxss w a n c LL) (hz : Fxss w az nz cz LLz) (hr : Fxs w ar nr cr Lr) (hT : Hid (Dec10 w)) (hb : ((n : Int) ≤ 4 ∧ ∀ M ∈ LL, (M.length : Int) ≤ 4 ∧ thinI 2 M)) (hbz : ((nz : Int) ≤ 4 ∧ ∀ M ∈ LLz, (M.length : Int) ≤ 4 ∧ thinI 2 M)) (hbr : ((nr : Int) ≤ 4 ∧ thinI 2 Lr)) (hrc : rect LL) (hrz : ¬ rect LLz) : Calls Tryz.prog 6 #[.slice a n c, .slice az nz cz, .slice ar nr cr] w (Gives (.bool true) w) := by
  have HB : Hid (Below w.heap.size w w) := Lib.hid (Below.refl _ _)
  have HF := Lib.hid h
  have HFz := Lib.hid hz
  have HFr := Lib.hid hr
  have HNB := Lib.hid hb
  have HNBz := Lib.hid hbz
  have HNBr := Lib.hid hbr
  have HRA := Lib.hid hrc
  have HRZ := Lib.hid hrz
  clear h hz hr hb hbz hbr hrc hrz
  go_enter Tryz.func6, Tryz.ntmps6
  go_wp2_with fail
  refine (ref12_long a n c LL 4 2 false _ HF.out (by decide) (Lib.hid ⟨fun h => absurd h (by decide), fun h => absurd HNB.out h⟩)).mono ?_
  rintro e wv1 ⟨rfl, b⟩
  replace HB := Lib.hid (below_then HB.out b)
  replace HF := Lib.hid (HF.out.later b)
  replace HFz := Lib.hid (HFz.out.later b)
  replace HFr := Lib.hid (HFr.out.later b)
  clear b
  go_wp2_with fail
  refine (ref12_long az nz cz LLz 4 2 false _ HFz.out (by decide) (Lib.hid ⟨fun h => absurd h (by decide), fun h => absurd HNBz.out h⟩)).mono ?_
  rintro e wv2 ⟨rfl, b⟩
  replace HB := Lib.hid (below_then HB.out b)
  replace HF := Lib.hid (HF.out.later b)
  replace HFz := Lib.hid (HFz.out.later b)
  replace HFr := Lib.hid (HFr.out.later b)
  clear b
  go_wp2_with fail
  refine (ref11_long ar nr cr Lr 4 2 false _ HFr.out (by decide) (Lib.hid ⟨fun h => absurd h (by decide), fun h => absurd HNBr.out h⟩)).mono ?_
  rintro e wv3 ⟨rfl, b⟩
  replace HB := Lib.hid (below_then HB.out b)
  replace HF := Lib.hid (HF.out.later b)
  replace HFz := Lib.hid (HFz.out.later b)
  replace HFr := Lib.hid (HFr.out.later b)
  clear b
  go_wp2_with fail
  refine (ref12_right a n c LL true _ HF.out (Lib.hid ⟨fun _ => HRA.out, fun _ => rfl⟩)).mono ?_
  rintro e wv4 ⟨rfl, b⟩
  replace HB := Lib.hid (below_then HB.out b)
  replace HF := Lib.hid (HF.out.later b)
  replace HFz := Lib.hid (HFz.out.later b)
  replace HFr := Lib.hid (HFr.out.later b)
  clear b
  go_wp2_with fail
  refine (ref12_right az nz cz LLz false _ HFz.out (Lib.hid ⟨fun h => absurd h (by decide), fun h => absurd h HRZ.out⟩)).mono ?_
  rintro e wv5 ⟨rfl, b⟩
  replace HB := Lib.hid (below_then HB.out b)
  replace HF := Lib.hid (HF.out.later b)
  replace HFz := Lib.hid (HFz.out.later b)
  replace HFr := Lib.hid (HFr.out.later b)
  clear b
  go_wp2_with fail
  refine (law12_works S RS FS _ (Lib.hid (hT.out.later HB.out))).mono ?_
  rintro e wv6 ⟨rfl, b⟩
  replace HB := Lib.hid (below_then HB.out b)
  replace HF := Lib.hid (HF.out.later b)
  replace HFz := Lib.hid (HFz.out.later b)
  replace HFr := Lib.hid (HFr.out.later b)
  clear b
  go_wp2
  go_ret
  exact ⟨rfl, HB.out⟩
set_option maxRecDepth 4096 in
set_option maxHeartbeats 16000000 in
theorem law12_order_e5 (S : GridSaid) (RS : RowSaid) (FS : FracSaid) (a : Option Addr) (n c : Nat) (LL : List (List Fx)) (az : Option Addr) (nz cz : Nat) (LLz : List (List Fx)) (ar : Option Addr) (nr cr : Nat) (Lr : List Fx) (w : World) (h : Fxss w a n c LL) (hz : Fxss w az nz cz LLz) (hr : Fxs w ar nr cr Lr) (hT : Hid (Dec10 w)) (hb : ((n : Int) ≤ 4 ∧ ∀ M ∈ LL, (M.length : Int) ≤ 4 ∧ thinI 2 M)) (hbz : ((nz : Int) ≤ 4 ∧ ∀ M ∈ LLz, (M.length : Int) ≤ 4 ∧ thinI 2 M)) (hbr : ((nr : Int) ≤ 4 ∧ thinI 2 Lr)) (hrc : rect LL) (hrz : rect LLz) (hna : ¬ n = nr) : Calls Tryz.prog 6 #[.slice a n c, .slice az nz cz, .slice ar nr cr] w (Gives (.bool true) w) := by
  have HB : Hid (Below w.heap.size w w) := Lib.hid (Below.refl _ _)
  have HF := Lib.hid h
  have HFz := Lib.hid hz
  have HFr := Lib.hid hr
  have HNB := Lib.hid hb
  have HNBz := Lib.hid hbz
  have HNBr := Lib.hid hbr
  have HRA := Lib.hid hrc
  have HRZ := Lib.hid hrz
  have q5 : ((n : Int) == (nr : Int)) = false := by simp; omega
  have q5b : ¬ (n : Int) = (nr : Int) := by omega
  clear h hz hr hb hbz hbr hrc hrz hna
  go_enter Tryz.func6, Tryz.ntmps6
  go_wp2_with fail
  refine (ref12_long a n c LL 4 2 false _ HF.out (by decide) (Lib.hid ⟨fun h => absurd h (by decide), fun h => absurd HNB.out h⟩)).mono ?_
  rintro e wv1 ⟨rfl, b⟩
  replace HB := Lib.hid (below_then HB.out b)
  replace HF := Lib.hid (HF.out.later b)
  replace HFz := Lib.hid (HFz.out.later b)
  replace HFr := Lib.hid (HFr.out.later b)
  clear b
  go_wp2_with fail
  refine (ref12_long az nz cz LLz 4 2 false _ HFz.out (by decide) (Lib.hid ⟨fun h => absurd h (by decide), fun h => absurd HNBz.out h⟩)).mono ?_
  rintro e wv2 ⟨rfl, b⟩
  replace HB := Lib.hid (below_then HB.out b)
  replace HF := Lib.hid (HF.out.later b)
  replace HFz := Lib.hid (HFz.out.later b)
  replace HFr := Lib.hid (HFr.out.later b)
  clear b
  go_wp2_with fail
  refine (ref11_long ar nr cr Lr 4 2 false _ HFr.out (by decide) (Lib.hid ⟨fun h => absurd h (by decide), fun h => absurd HNBr.out h⟩)).mono ?_
  rintro e wv3 ⟨rfl, b⟩
  replace HB := Lib.hid (below_then HB.out b)
  replace HF := Lib.hid (HF.out.later b)
  replace HFz := Lib.hid (HFz.out.later b)
  replace HFr := Lib.hid (HFr.out.later b)
  clear b
  go_wp2_with fail
  refine (ref12_right a n c LL true _ HF.out (Lib.hid ⟨fun _ => HRA.out, fun _ => rfl⟩)).mono ?_
  rintro e wv4 ⟨rfl, b⟩
  replace HB := Lib.hid (below_then HB.out b)
  replace HF := Lib.hid (HF.out.later b)
  replace HFz := Lib.hid (HFz.out.later b)
  replace HFr := Lib.hid (HFr.out.later b)
  clear b
  go_wp2_with fail
  refine (ref12_right az nz cz LLz true _ HFz.out (Lib.hid ⟨fun _ => HRZ.out, fun _ => rfl⟩)).mono ?_
  rintro e wv5 ⟨rfl, b⟩
  replace HB := Lib.hid (below_then HB.out b)
  replace HF := Lib.hid (HF.out.later b)
  replace HFz := Lib.hid (HFz.out.later b)
  replace HFr := Lib.hid (HFr.out.later b)
  clear b
  go_wp2_with fail
  refine (law12_works S RS FS _ (Lib.hid (hT.out.later HB.out))).mono ?_
  rintro e wv6 ⟨rfl, b⟩
  replace HB := Lib.hid (below_then HB.out b)
  replace HF := Lib.hid (HF.out.later b)
  replace HFz := Lib.hid (HFz.out.later b)
  replace HFr := Lib.hid (HFr.out.later b)
  clear b
  go_wp2
  go_ret
  exact ⟨rfl, HB.out⟩
set_option maxRecDepth 4096 in
set_option maxHeartbeats 16000000 in
theorem law12_order_e6 (S : GridSaid) (RS : RowSaid) (FS : FracSaid) (a : Option Addr) (n c : Nat) (LL : List (List Fx)) (az : Option Addr) (nz cz : Nat) (LLz : List (List Fx)) (ar : Option Addr) (nr cr : Nat) (Lr : List Fx) (w : World) (h : Fxss w a n c LL) (hz : Fxss w az nz cz LLz) (hr : Fxs w ar nr cr Lr) (hT : Hid (Dec10 w)) (hb : ((n : Int) ≤ 4 ∧ ∀ M ∈ LL, (M.length : Int) ≤ 4 ∧ thinI 2 M)) (hbz : ((nz : Int) ≤ 4 ∧ ∀ M ∈ LLz, (M.length : Int) ≤ 4 ∧ thinI 2 M)) (hbr : ((nr : Int) ≤ 4 ∧ thinI 2 Lr)) (hrc : rect LL) (hrz : rect LLz) (hna : n = nr) (hnz : ¬ nz = nr) : Calls Tryz.prog 6 #[.slice a n c, .slice az nz cz, .slice ar nr cr] w (Gives (.bool true) w) := by
  subst hna
  have HB : Hid (Below w.heap.size w w) := Lib.hid (Below.refl _ _)
  have HF := Lib.hid h
  have HFz := Lib.hid hz
  have HFr := Lib.hid hr
  have HNB := Lib.hid hb
  have HNBz := Lib.hid hbz
  have HNBr := Lib.hid hbr
  have HRA := Lib.hid hrc
  have HRZ := Lib.hid hrz
  have q6 : ((nz : Int) == (n : Int)) = false := by simp; omega
  have q6b : ¬ (nz : Int) = (n : Int) := by omega
  clear h hz hr hb hbz hbr hrc hrz hnz
  go_enter Tryz.func6, Tryz.ntmps6
  go_wp2_with fail
  refine (ref12_long a n c LL 4 2 false _ HF.out (by decide) (Lib.hid ⟨fun h => absurd h (by decide), fun h => absurd HNB.out h⟩)).mono ?_
  rintro e wv1 ⟨rfl, b⟩
  replace HB := Lib.hid (below_then HB.out b)
  replace HF := Lib.hid (HF.out.later b)
  replace HFz := Lib.hid (HFz.out.later b)
  replace HFr := Lib.hid (HFr.out.later b)
  clear b
  go_wp2_with fail
  refine (ref12_long az nz cz LLz 4 2 false _ HFz.out (by decide) (Lib.hid ⟨fun h => absurd h (by decide), fun h => absurd HNBz.out h⟩)).mono ?_
  rintro e wv2 ⟨rfl, b⟩
  replace HB := Lib.hid (below_then HB.out b)
  replace HF := Lib.hid (HF.out.later b)
  replace HFz := Lib.hid (HFz.out.later b)
  replace HFr := Lib.hid (HFr.out.later b)
  clear b
  go_wp2_with fail
  refine (ref11_long ar n cr Lr 4 2 false _ HFr.out (by decide) (Lib.hid ⟨fun h => absurd h (by decide), fun h => absurd HNBr.out h⟩)).mono ?_
  rintro e wv3 ⟨rfl, b⟩
  replace HB := Lib.hid (below_then HB.out b)
  replace HF := Lib.hid (HF.out.later b)
  replace HFz := Lib.hid (HFz.out.later b)
  replace HFr := Lib.hid (HFr.out.later b)
  clear b
  go_wp2_with fail
  refine (ref12_right a n c LL true _ HF.out (Lib.hid ⟨fun _ => HRA.out, fun _ => rfl⟩)).mono ?_
  rintro e wv4 ⟨rfl, b⟩
  replace HB := Lib.hid (below_then HB.out b)
  replace HF := Lib.hid (HF.out.later b)
  replace HFz := Lib.hid (HFz.out.later b)
  replace HFr := Lib.hid (HFr.out.later b)
  clear b
  go_wp2_with fail
  refine (ref12_right az nz cz LLz true _ HFz.out (Lib.hid ⟨fun _ => HRZ.out, fun _ => rfl⟩)).mono ?_
  rintro e wv5 ⟨rfl, b⟩
  replace HB := Lib.hid (below_then HB.out b)
  replace HF := Lib.hid (HF.out.later b)
  replace HFz := Lib.hid (HFz.out.later b)
  replace HFr := Lib.hid (HFr.out.later b)
  clear b
  go_wp2_with fail
  refine (law12_works S RS FS _ (Lib.hid (hT.out.later HB.out))).mono ?_
  rintro e wv6 ⟨rfl, b⟩
  replace HB := Lib.hid (below_then HB.out b)
  replace HF := Lib.hid (HF.out.later b)
  replace HFz := Lib.hid (HFz.out.later b)
  replace HFr := Lib.hid (HFr.out.later b)
  clear b
  go_wp2
  go_ret
  exact ⟨rfl, HB.out⟩
set_option maxRecDepth 4096 in
set_option maxHeartbeats 16000000 in
theorem law12_order_e7 (S : GridSaid) (RS : RowSaid) (FS : FracSaid) (a : Option Addr) (n c : Nat) (LL : List (List Fx)) (az : Option Addr) (nz cz : Nat) (LLz : List (List Fx)) (ar : Option Addr) (nr cr : Nat) (Lr : List Fx) (w : World) (h : Fxss w a n c LL) (hz : Fxss w az nz cz LLz) (hr : Fxs w ar nr cr Lr) (hT : Hid (Dec10 w)) (hb : ((n : Int) ≤ 4 ∧ ∀ M ∈ LL, (M.length : Int) ≤ 4 ∧ thinI 2 M)) (hbz : ((nz : Int) ≤ 4 ∧ ∀ M ∈ LLz, (M.length : Int) ≤ 4 ∧ thinI 2 M)) (hbr : ((nr : Int) ≤ 4 ∧ thinI 2 Lr)) (hrc : rect LL) (hrz : rect LLz) (hna : n = nr) (hnz : nz = nr) (hwa : ¬ gwidth LL = nr) : Calls Tryz.prog 6 #[.slice a n c, .slice az nz cz, .slice ar nr cr] w (Gives (.bool true) w) := by
  subst hna
  have hnz9 := hnz.symm
  clear hnz
  subst hnz9
  have HB : Hid (Below w.heap.size w w) := Lib.hid (Below.refl _ _)
  have HF := Lib.hid h
  have HFz := Lib.hid hz
  have HFr := Lib.hid hr
  have HNB := Lib.hid hb
  have HNBz := Lib.hid hbz
  have HNBr := Lib.hid hbr
  have HRA := Lib.hid hrc
  have HRZ := Lib.hid hrz
  obtain ⟨wa, hw9⟩ : ∃ wa, gwidth LL = wa := ⟨_, rfl⟩
  rw [hw9] at hwa
  have HWA : ∀ (w' : World), Fxss w' a n c LL → Calls Tryz.prog 17 #[.slice a n c] w' (Gives (.int .i64 (wa : Int)) w') := fun w' h1 => hw9 ▸ ref12_width a n c LL w' h1
  have q7 : ((wa : Int) == (n : Int)) = false := by simp; omega
  have q7b : ¬ (wa : Int) = (n : Int) := by omega
  clear h hz hr hb hbz hbr hrc hrz hwa hw9
  go_enter Tryz.func6, Tryz.ntmps6
  go_wp2_with fail
  refine (ref12_long a n c LL 4 2 false _ HF.out (by decide) (Lib.hid ⟨fun h => absurd h (by decide), fun h => absurd HNB.out h⟩)).mono ?_
  rintro e wv1 ⟨rfl, b⟩
  replace HB := Lib.hid (below_then HB.out b)
  replace HF := Lib.hid (HF.out.later b)
  replace HFz := Lib.hid (HFz.out.later b)
  replace HFr := Lib.hid (HFr.out.later b)
  clear b
  go_wp2_with fail
  refine (ref12_long az n cz LLz 4 2 false _ HFz.out (by decide) (Lib.hid ⟨fun h => absurd h (by decide), fun h => absurd HNBz.out h⟩)).mono ?_
  rintro e wv2 ⟨rfl, b⟩
  replace HB := Lib.hid (below_then HB.out b)
  replace HF := Lib.hid (HF.out.later b)
  replace HFz := Lib.hid (HFz.out.later b)
  replace HFr := Lib.hid (HFr.out.later b)
  clear b
  go_wp2_with fail
  refine (ref11_long ar n cr Lr 4 2 false _ HFr.out (by decide) (Lib.hid ⟨fun h => absurd h (by decide), fun h => absurd HNBr.out h⟩)).mono ?_
  rintro e wv3 ⟨rfl, b⟩
  replace HB := Lib.hid (below_then HB.out b)
  replace HF := Lib.hid (HF.out.later b)
  replace HFz := Lib.hid (HFz.out.later b)
  replace HFr := Lib.hid (HFr.out.later b)
  clear b
  go_wp2_with fail
  refine (ref12_right a n c LL true _ HF.out (Lib.hid ⟨fun _ => HRA.out, fun _ => rfl⟩)).mono ?_
  rintro e wv4 ⟨rfl, b⟩
  replace HB := Lib.hid (below_then HB.out b)
  replace HF := Lib.hid (HF.out.later b)
  replace HFz := Lib.hid (HFz.out.later b)
  replace HFr := Lib.hid (HFr.out.later b)
  clear b
  go_wp2_with fail
  refine (ref12_right az n cz LLz true _ HFz.out (Lib.hid ⟨fun _ => HRZ.out, fun _ => rfl⟩)).mono ?_
  rintro e wv5 ⟨rfl, b⟩
  replace HB := Lib.hid (below_then HB.out b)
  replace HF := Lib.hid (HF.out.later b)
  replace HFz := Lib.hid (HFz.out.later b)
  replace HFr := Lib.hid (HFr.out.later b)
  clear b
  go_wp2_with fail
  refine (HWA _ HF.out).mono ?_
  rintro e wv6 ⟨rfl, b⟩
  replace HB := Lib.hid (below_then HB.out b)
  replace HF := Lib.hid (HF.out.later b)
  replace HFz := Lib.hid (HFz.out.later b)
  replace HFr := Lib.hid (HFr.out.later b)
  clear b
  go_wp2_with fail
  refine (law12_works S RS FS _ (Lib.hid (hT.out.later HB.out))).mono ?_
  rintro e wv7 ⟨rfl, b⟩
  replace HB := Lib.hid (below_then HB.out b)
  replace HF := Lib.hid (HF.out.later b)
  replace HFz := Lib.hid (HFz.out.later b)
  replace HFr := Lib.hid (HFr.out.later b)
  clear b
  go_wp2
  go_ret
  exact ⟨rfl, HB.out⟩
set_option maxRecDepth 4096 in
set_option maxHeartbeats 16000000 in
theorem law12_order_e8 (S : GridSaid) (RS : RowSaid) (FS : FracSaid) (a : Option Addr) (n c : Nat) (LL : List (List Fx)) (az : Option Addr) (nz cz : Nat) (LLz : List (List Fx)) (ar : Option Addr) (nr cr : Nat) (Lr : List Fx) (w : World) (h : Fxss w a n c LL) (hz : Fxss w az nz cz LLz) (hr : Fxs w ar nr cr Lr) (hT : Hid (Dec10 w)) (hb : ((n : Int) ≤ 4 ∧ ∀ M ∈ LL, (M.length : Int) ≤ 4 ∧ thinI 2 M)) (hbz : ((nz : Int) ≤ 4 ∧ ∀ M ∈ LLz, (M.length : Int) ≤ 4 ∧ thinI 2 M)) (hbr : ((nr : Int) ≤ 4 ∧ thinI 2 Lr)) (hrc : rect LL) (hrz : rect LLz) (hna : n = nr) (hnz : nz = nr) (hwa : gwidth LL = nr) (hwz : ¬ gwidth LLz = nr) : Calls Tryz.prog 6 #[.slice a n c, .slice az nz cz, .slice ar nr cr] w (Gives (.bool true) w) := by
  subst hna
  have hnz9 := hnz.symm
  clear hnz
  subst hnz9
  have HB : Hid (Below w.heap.size w w) := Lib.hid (Below.refl _ _)
  have HF := Lib.hid h
  have HFz := Lib.hid hz
  have HFr := Lib.hid hr
  have HNB := Lib.hid hb
  have HNBz := Lib.hid hbz
  have HNBr := Lib.hid hbr
  have HRA := Lib.hid hrc
  have HRZ := Lib.hid hrz
  obtain ⟨wa, hw9⟩ : ∃ wa, gwidth LL = wa := ⟨_, rfl⟩
  rw [hw9] at hwa
  have HWA : ∀ (w' : World), Fxss w' a n c LL → Calls Tryz.prog 17 #[.slice a n c] w' (Gives (.int .i64 (wa : Int)) w') := fun w' h1 => hw9 ▸ ref12_width a n c LL w' h1
  obtain ⟨wz, hw8⟩ : ∃ wz, gwidth LLz = wz := ⟨_, rfl⟩
  rw [hw8] at hwz
  have q8 : ((wz : Int) == (n : Int)) = false := by simp; omega
  have q8b : ¬ (wz : Int) = (n : Int) := by omega
  have HWZ : ∀ (w' : World), Fxss w' az n cz LLz → Calls Tryz.prog 17 #[.slice az n cz] w' (Gives (.int .i64 (wz : Int)) w') := fun w' h1 => hw8 ▸ ref12_width az n cz LLz w' h1
  have hwa9 := hwa.symm
  clear hwa
  subst hwa9
  clear h hz hr hb hbz hbr hrc hrz hwz hw9 hw8
  go_enter Tryz.func6, Tryz.ntmps6
  go_wp2_with fail
  refine (ref12_long a n c LL 4 2 false _ HF.out (by decide) (Lib.hid ⟨fun h => absurd h (by decide), fun h => absurd HNB.out h⟩)).mono ?_
  rintro e wv1 ⟨rfl, b⟩
  replace HB := Lib.hid (below_then HB.out b)
  replace HF := Lib.hid (HF.out.later b)
  replace HFz := Lib.hid (HFz.out.later b)
  replace HFr := Lib.hid (HFr.out.later b)
  clear b
  go_wp2_with fail
  refine (ref12_long az n cz LLz 4 2 false _ HFz.out (by decide) (Lib.hid ⟨fun h => absurd h (by decide), fun h => absurd HNBz.out h⟩)).mono ?_
  rintro e wv2 ⟨rfl, b⟩
  replace HB := Lib.hid (below_then HB.out b)
  replace HF := Lib.hid (HF.out.later b)
  replace HFz := Lib.hid (HFz.out.later b)
  replace HFr := Lib.hid (HFr.out.later b)
  clear b
  go_wp2_with fail
  refine (ref11_long ar n cr Lr 4 2 false _ HFr.out (by decide) (Lib.hid ⟨fun h => absurd h (by decide), fun h => absurd HNBr.out h⟩)).mono ?_
  rintro e wv3 ⟨rfl, b⟩
  replace HB := Lib.hid (below_then HB.out b)
  replace HF := Lib.hid (HF.out.later b)
  replace HFz := Lib.hid (HFz.out.later b)
  replace HFr := Lib.hid (HFr.out.later b)
  clear b
  go_wp2_with fail
  refine (ref12_right a n c LL true _ HF.out (Lib.hid ⟨fun _ => HRA.out, fun _ => rfl⟩)).mono ?_
  rintro e wv4 ⟨rfl, b⟩
  replace HB := Lib.hid (below_then HB.out b)
  replace HF := Lib.hid (HF.out.later b)
  replace HFz := Lib.hid (HFz.out.later b)
  replace HFr := Lib.hid (HFr.out.later b)
  clear b
  go_wp2_with fail
  refine (ref12_right az n cz LLz true _ HFz.out (Lib.hid ⟨fun _ => HRZ.out, fun _ => rfl⟩)).mono ?_
  rintro e wv5 ⟨rfl, b⟩
  replace HB := Lib.hid (below_then HB.out b)
  replace HF := Lib.hid (HF.out.later b)
  replace HFz := Lib.hid (HFz.out.later b)
  replace HFr := Lib.hid (HFr.out.later b)
  clear b
  go_wp2_with fail
  refine (HWA _ HF.out).mono ?_
  rintro e wv6 ⟨rfl, b⟩
  replace HB := Lib.hid (below_then HB.out b)
  replace HF := Lib.hid (HF.out.later b)
  replace HFz := Lib.hid (HFz.out.later b)
  replace HFr := Lib.hid (HFr.out.later b)
  clear b
  go_wp2_with fail
  refine (HWZ _ HFz.out).mono ?_
  rintro e wv7 ⟨rfl, b⟩
  replace HB := Lib.hid (below_then HB.out b)
  replace HF := Lib.hid (HF.out.later b)
  replace HFz := Lib.hid (HFz.out.later b)
  replace HFr := Lib.hid (HFr.out.later b)
  clear b
  go_wp2_with fail
  refine (law12_works S RS FS _ (Lib.hid (hT.out.later HB.out))).mono ?_
  rintro e wv8 ⟨rfl, b⟩
  replace HB := Lib.hid (below_then HB.out b)
  replace HF := Lib.hid (HF.out.later b)
  replace HFz := Lib.hid (HFz.out.later b)
  replace HFr := Lib.hid (HFr.out.later b)
  clear b
  go_wp2
  go_ret
  exact ⟨rfl, HB.out⟩
set_option maxRecDepth 4096 in
set_option maxHeartbeats 16000000 in
theorem law12_order_main (S : GridSaid) (RS : RowSaid) (FS : FracSaid) (a : Option Addr) (n c : Nat) (LL : List (List Fx)) (az : Option Addr) (cz : Nat) (LLz : List (List Fx)) (ar : Option Addr) (cr : Nat) (Lr : List Fx) (w : World) (h : Fxss w a n c LL) (hz : Fxss w az n cz LLz) (hr : Fxs w ar n cr Lr) (hT : Hid (Dec10 w)) (hb : ((n : Int) ≤ 4 ∧ ∀ M ∈ LL, (M.length : Int) ≤ 4 ∧ thinI 2 M)) (hbz : ((n : Int) ≤ 4 ∧ ∀ M ∈ LLz, (M.length : Int) ≤ 4 ∧ thinI 2 M)) (hbr : ((n : Int) ≤ 4 ∧ thinI 2 Lr)) (hrc : rect LL) (hrz : rect LLz) (hwa : gwidth LL = n) (hwz : gwidth LLz = n) : Calls Tryz.prog 6 #[.slice a n c, .slice az n cz, .slice ar n cr] w (Gives (.bool true) w) := by
  have HB : Hid (Below w.heap.size w w) := Lib.hid (Below.refl _ _)
  have HNB := Lib.hid hb
  have hn : n ≤ 4 := by have := hb.1; omega
  have hsm : small 4 2 LL := fun M hM => ⟨by have := (hb.2 M hM).1; omega, thinI.out (N := 2) (hb.2 M hM).2⟩
  have hpq : ∀ r ∈ LL.map fqs, r.length ≤ 4 ∧ ∀ q ∈ r, qlen q ≤ 3 := fun r hr => by
    obtain ⟨M, hM, rfl⟩ := List.mem_map.1 hr
    refine ⟨by rw [fqs_length]; exact (hsm M hM).1, fun q hq => ?_⟩
    obtain ⟨x, hx, rfl⟩ := List.mem_map.1 hq
    obtain ⟨i, hi, rfl⟩ := List.getElem_of_mem hM
    obtain ⟨_, _, _, a5, n5, c5, _, h5⟩ := h.at (j := i) (by rw [← h.len]; exact hi)
    rw [List.getD_eq_getElem?_getD, List.getElem?_eq_getElem hi] at h5
    have ht := (hsm _ hM).2 x hx
    exact ((h5.ok hx).fr ht.1 ht.2).len
  have hlm : (LL.map fqs).length = n := by rw [List.length_map]; exact h.len
  have HSM := Lib.hid hsm
  have HPQ := Lib.hid hpq
  have HLM := Lib.hid hlm
  have HF := Lib.hid h
  have HNBz := Lib.hid hbz
  have hsmz : small 4 2 LLz := fun M hM => ⟨by have := (hbz.2 M hM).1; omega, thinI.out (N := 2) (hbz.2 M hM).2⟩
  have hpqz : ∀ r ∈ LLz.map fqs, r.length ≤ 4 ∧ ∀ q ∈ r, qlen q ≤ 3 := fun r hr => by
    obtain ⟨M, hM, rfl⟩ := List.mem_map.1 hr
    refine ⟨by rw [fqs_length]; exact (hsmz M hM).1, fun q hq => ?_⟩
    obtain ⟨x, hx, rfl⟩ := List.mem_map.1 hq
    obtain ⟨i, hi, rfl⟩ := List.getElem_of_mem hM
    obtain ⟨_, _, _, a5, n5, c5, _, h5⟩ := hz.at (j := i) (by rw [← hz.len]; exact hi)
    rw [List.getD_eq_getElem?_getD, List.getElem?_eq_getElem hi] at h5
    have ht := (hsmz _ hM).2 x hx
    exact ((h5.ok hx).fr ht.1 ht.2).len
  have hlmz : (LLz.map fqs).length = n := by rw [List.length_map]; exact hz.len
  have HSMz := Lib.hid hsmz
  have HPQz := Lib.hid hpqz
  have HLMz := Lib.hid hlmz
  have HFz := Lib.hid hz
  have HNBr := Lib.hid hbr
  have hthr : thin 2 Lr := thinI.out (N := 2) hbr.2
  have hqr : ∀ q ∈ fqs Lr, qlen q ≤ 3 := fun q hq => by
    obtain ⟨x, hx, rfl⟩ := List.mem_map.1 hq
    exact ((hr.ok hx).fr (hthr x hx).1 (hthr x hx).2).len
  have hlqr : (fqs Lr).length = n := (fqs_length Lr).trans hr.len
  have HTHr := Lib.hid hthr
  have HFr := Lib.hid hr
  have HRA := Lib.hid hrc
  have HRZ := Lib.hid hrz
  have HWa := Lib.hid hwa
  have HWz := Lib.hid hwz
  have HWA : ∀ (w' : World), Fxss w' a n c LL → Calls Tryz.prog 17 #[.slice a n c] w' (Gives (.int .i64 (n : Int)) w') := fun w' h1 => by
    have h9 := ref12_width a n c LL w' h1
    rw [HWa.out] at h9
    exact h9
  have HWZ : ∀ (w' : World), Fxss w' az n cz LLz → Calls Tryz.prog 17 #[.slice az n cz] w' (Gives (.int .i64 (n : Int)) w') := fun w' h1 => by
    have h9 := ref12_width az n cz LLz w' h1
    rw [HWz.out] at h9
    exact h9
  have q5 : ((n : Int) == (n : Int)) = true := by simp
  obtain ⟨P, hP⟩ : ∃ P, LL.map fqs = P := ⟨_, rfl⟩
  obtain ⟨Z, hZ⟩ : ∃ Z, LLz.map fqs = Z := ⟨_, rfl⟩
  obtain ⟨qs, hqs⟩ : ∃ qs, fqs Lr = qs := ⟨_, rfl⟩
  rw [hP] at hpq hlm
  rw [hZ] at hpqz hlmz
  rw [hqs] at hqr hlqr
  have mP : mat n n P := by
    have h9 := ((rect_fqs LL).2 hrc).mat
    rw [hP, hlm] at h9
    rw [gwidth_fqs_of hP hwa] at h9
    exact h9
  have mZ : mat n n Z := by
    have h9 := ((rect_fqs LLz).2 hrz).mat
    rw [hZ, hlmz, gwidth_fqs_of hZ hwz] at h9
    exact h9
  obtain ⟨LV, hLV⟩ : ∃ LV, gleft n qs P = LV := ⟨_, rfl⟩
  obtain ⟨AV, hAV⟩ : ∃ AV, gapply P qs = AV := ⟨_, rfl⟩
  obtain ⟨s, hs⟩ : ∃ s, rdot LV qs = s := ⟨_, rfl⟩
  obtain ⟨t, ht⟩ : ∃ t, rdot qs AV = t := ⟨_, rfl⟩
  have hst : s = t := by rw [← hs, ← ht, ← hLV, ← hAV]; exact left_apply mP hlqr hlqr
  obtain ⟨XY, hXY⟩ : ∃ XY, gmul n P Z = XY := ⟨_, rfl⟩
  obtain ⟨YX, hYX⟩ : ∃ YX, gmul n Z P = YX := ⟨_, rfl⟩
  obtain ⟨TX, hTX⟩ : ∃ TX, gturn n P = TX := ⟨_, rfl⟩
  obtain ⟨TY, hTY⟩ : ∃ TY, gturn n Z = TY := ⟨_, rfl⟩
  obtain ⟨TD, hTD⟩ : ∃ TD, gmul n TY TX = TD := ⟨_, rfl⟩
  obtain ⟨FI, hFI⟩ : ∃ FI, gmul n XY P = FI := ⟨_, rfl⟩
  have mXY : mat n n XY := hXY ▸ gmul_mat mP mZ
  have mYX : mat n n YX := hYX ▸ gmul_mat mZ mP
  have mTX : mat n n TX := hTX ▸ gturn_mat mP
  have mTY : mat n n TY := hTY ▸ gturn_mat mZ
  have mTD : mat n n TD := hTD ▸ gmul_mat mTY mTX
  have mFI : mat n n FI := hFI ▸ gmul_mat mXY mP
  have hse : gmul n P YX = FI := by rw [← hFI, ← hXY, ← hYX]; exact (mul_mul mP mZ mP).symm
  have htd : gturn n XY = TD := by rw [← hTD, ← hXY, ← hTX, ← hTY]; exact turn_mul mP mZ
  have n4 : n ≤ 4 := hn
  have lLV : ∀ q ∈ LV, qlen q ≤ 40 := fun q hq => by
    rw [← hLV] at hq
    exact Nat.le_trans (gleft_qlen mP hlqr n4 hqr (fun r hr => (hpq r hr).2) q hq) (by decide)
  have cLV : LV.length = n := by rw [← hLV]; exact gleft_length mP
  have lAV : ∀ q ∈ AV, qlen q ≤ 40 := fun q hq => by
    rw [← hAV] at hq
    exact Nat.le_trans (gapply_len13 mP n4 (fun r hr => (hpq r hr).2) hqr q hq) (by decide)
  have cAV : AV.length = n := by rw [← hAV, gapply_length]; exact hlm
  have ls : qlen s ≤ 300 := by have := qlen_rdot lLV hqr; rw [hs, cLV] at this; omega
  have lt : qlen t ≤ 300 := hst ▸ ls
  have lXY : ∀ r ∈ XY, r.length ≤ 300 ∧ ∀ q ∈ r, qlen q ≤ 40 := fun r hr => ⟨by rw [mXY.2 r hr]; omega, fun q hq => by
    rw [← hXY] at hr
    exact Nat.le_trans (gmul_qlen mP mZ n4 (fun r hr => (hpq r hr).2) (fun r hr => (hpqz r hr).2) r hr q hq) (by decide)⟩
  have lYX : ∀ r ∈ YX, r.length ≤ 300 ∧ ∀ q ∈ r, qlen q ≤ 40 := fun r hr => ⟨by rw [mYX.2 r hr]; omega, fun q hq => by
    rw [← hYX] at hr
    exact Nat.le_trans (gmul_qlen mZ mP n4 (fun r hr => (hpqz r hr).2) (fun r hr => (hpq r hr).2) r hr q hq) (by decide)⟩
  have lTX : ∀ r ∈ TX, r.length ≤ 300 ∧ ∀ q ∈ r, qlen q ≤ 3 := fun r hr => by
    rw [← hTX] at hr
    exact ⟨by have := (gturn_mat mP).2 r hr; omega, (gturn_rows mP n4 (fun r hr => (hpq r hr).2) r hr).2⟩
  have lTY : ∀ r ∈ TY, r.length ≤ 300 ∧ ∀ q ∈ r, qlen q ≤ 3 := fun r hr => by
    rw [← hTY] at hr
    exact ⟨by have := (gturn_mat mZ).2 r hr; omega, (gturn_rows mZ n4 (fun r hr => (hpqz r hr).2) r hr).2⟩
  have lTD : ∀ r ∈ TD, r.length ≤ 300 ∧ ∀ q ∈ r, qlen q ≤ 1000 := fun r hr => ⟨by rw [mTD.2 r hr]; omega, fun q hq => by
    rw [← hTD] at hr
    exact Nat.le_trans (gmul_qlen mTY mTX n4 (fun r hr => (lTY r hr).2) (fun r hr => (lTX r hr).2) r hr q hq) (by decide)⟩
  have lFI : ∀ r ∈ FI, r.length ≤ 300 ∧ ∀ q ∈ r, qlen q ≤ 1000 := fun r hr => ⟨by rw [mFI.2 r hr]; omega, fun q hq => by
    rw [← hFI] at hr
    exact Nat.le_trans (gmul_qlen mXY mP n4 (fun r hr => (lXY r hr).2) (fun r hr => (hpq r hr).2) r hr q hq) (by decide)⟩
  have smL : ∀ {K : Nat}, 2 ≤ K → small 300 K LL := fun hK M hM => ⟨Nat.le_trans (HSM.out M hM).1 (by decide), (HSM.out M hM).2.mono hK⟩
  have smZ : ∀ {K : Nat}, 2 ≤ K → small 300 K LLz := fun hK M hM => ⟨Nat.le_trans (HSMz.out M hM).1 (by decide), (HSMz.out M hM).2.mono hK⟩
  have HTO : ∀ (w' : World) , Fxss w' a n c LL → Calls Tryz.prog 11 #[.slice a n c] w' (fun e w'' => ∃ (a' : Option Addr) (c' : Nat), e = .returned (.slice a' n c') ∧ Fxss w'' a' n c' LL ∧ Below w'.heap.size w' w'') := fun w' h1 => law12_to a n c LL w' h1 (by omega) (fun M hM => by have := (HSM.out M hM).1; omega)
  have HTOz : ∀ (w' : World) , Fxss w' az n cz LLz → Calls Tryz.prog 11 #[.slice az n cz] w' (fun e w'' => ∃ (a' : Option Addr) (c' : Nat), e = .returned (.slice a' n c') ∧ Fxss w'' a' n c' LLz ∧ Below w'.heap.size w' w'') := fun w' h1 => law12_to az n cz LLz w' h1 (by omega) (fun M hM => by have := (HSMz.out M hM).1; omega)
  have HTOr : ∀ (w' : World) , Fxs w' ar n cr Lr → Calls Tryz.prog 24 #[.slice ar n cr] w' (fun e w'' => ∃ (a' : Option Addr) (c' : Nat), e = .returned (.slice a' n c') ∧ Fxs w'' a' n c' Lr ∧ Below w'.heap.size w' w'') := fun w' h1 => law11_to ar n cr Lr w' h1 (by omega)
  have HGL : ∀ (w' : World) (a1 : Option Addr) (c1 : Nat) (a2 : Option Addr) (c2 : Nat), Fxs w' a1 n c1 Lr → Fxss w' a2 n c2 LL → Calls Tryz.prog 23 #[.slice a1 n c1, .slice a2 n c2] w' (LstRwV LV (.bool true) w') := fun w' a1 c1 a2 c2 h1 h2 => by
    have h9 := S.left_yes a1 n c1 Lr a2 n c2 LL 2 w' h1 h2 HTHr.out (smL (by decide)) (by omega) (by omega) (by decide) (Lib.hid ⟨HRA.out, rfl⟩)
    rw [HWa.out, hqs, hP, hLV] at h9
    exact h9
  have HGA : ∀ (w' : World) (a2 : Option Addr) (c2 : Nat) (a1 : Option Addr) (c1 : Nat), Fxss w' a2 n c2 LL → Fxs w' a1 n c1 Lr → Calls Tryz.prog 25 #[.slice a2 n c2, .slice a1 n c1] w' (LstRwV AV (.bool true) w') := fun w' a2 c2 a1 c1 h2 h1 => by
    have h9 := S.apply_yes a2 n c2 LL a1 n c1 Lr 2 w' h2 h1 (smL (by decide)) HTHr.out (by omega) (by omega) (by omega) (by decide) (Lib.hid ⟨HRA.out, HWa.out.symm⟩)
    rw [hqs, hP, hAV] at h9
    exact h9
  have HD1 : ∀ (w' : World) (a1 : Option Addr) (n1 c1 : Nat) (a2 : Option Addr) (c2 : Nat), Rw w' a1 n1 c1 LV → Fxs w' a2 n c2 Lr → Calls Tryz.prog 33 #[.slice a1 n1 c1, .slice a2 n c2] w' (LstQV s (.bool true) w') := fun w' a1 n1 c1 a2 c2 h1 h2 => by
    have hl := h1.len
    have h9 := dot_rf2 RS a1 n1 c1 LV a2 n c2 Lr 40 w' h1 h2 (by omega) (by omega) lLV (HTHr.out.mono (by decide)) (by omega) (by decide)
    rw [hqs, hs] at h9
    exact h9
  have HD2 : ∀ (w' : World) (a2 : Option Addr) (c2 : Nat) (a1 : Option Addr) (n1 c1 : Nat), Fxs w' a2 n c2 Lr → Rw w' a1 n1 c1 AV → Calls Tryz.prog 33 #[.slice a2 n c2, .slice a1 n1 c1] w' (LstQV t (.bool true) w') := fun w' a2 c2 a1 n1 c1 h2 h1 => by
    have hl := h1.len
    have h9 := dot_fr2 RS a2 n c2 Lr a1 n1 c1 AV 40 w' h2 h1 (by omega) (by omega) (HTHr.out.mono (by decide)) lAV (by omega) (by decide)
    rw [hqs, ht] at h9
    exact h9
  have HXYC : ∀ (w' : World) (a1 : Option Addr) (c1 : Nat) (a2 : Option Addr) (c2 : Nat), Fxss w' a1 n c1 LL → Fxss w' a2 n c2 LLz → Calls Tryz.prog 30 #[.slice a1 n c1, .slice a2 n c2] w' (LstRwsV XY (.bool true) w') := fun w' a1 c1 a2 c2 h1 h2 => by
    have h9 := S.mul_yes a1 n c1 LL a2 n c2 LLz 2 w' h1 h2 (smL (by decide)) (smZ (by decide)) (by omega) (by omega) (by omega) (by decide) (Lib.hid ⟨HRA.out, HRZ.out, HWa.out⟩)
    rw [HWz.out, hP, hZ, hXY] at h9
    exact h9
  have HYXC : ∀ (w' : World) (a2 : Option Addr) (c2 : Nat) (a1 : Option Addr) (c1 : Nat), Fxss w' a2 n c2 LLz → Fxss w' a1 n c1 LL → Calls Tryz.prog 30 #[.slice a2 n c2, .slice a1 n c1] w' (LstRwsV YX (.bool true) w') := fun w' a2 c2 a1 c1 h2 h1 => by
    have h9 := S.mul_yes a2 n c2 LLz a1 n c1 LL 2 w' h2 h1 (smZ (by decide)) (smL (by decide)) (by omega) (by omega) (by omega) (by decide) (Lib.hid ⟨HRZ.out, HRA.out, HWz.out⟩)
    rw [HWa.out, hP, hZ, hYX] at h9
    exact h9
  have HTXC : ∀ (w' : World) (a1 : Option Addr) (c1 : Nat), Fxss w' a1 n c1 LL → Calls Tryz.prog 10 #[.slice a1 n c1] w' (LstRws TX w') := fun w' a1 c1 h1 => by
    have h9 := S.turn_yes a1 n c1 LL w' h1 (by omega) (smL (by decide)) HRA
    rw [HWa.out, hP, hTX] at h9
    exact h9
  have HTYC : ∀ (w' : World) (a1 : Option Addr) (c1 : Nat), Fxss w' a1 n c1 LLz → Calls Tryz.prog 10 #[.slice a1 n c1] w' (LstRws TY w') := fun w' a1 c1 h1 => by
    have h9 := S.turn_yes a1 n c1 LLz w' h1 (by omega) (smZ (by decide)) HRZ
    rw [HWz.out, hZ, hTY] at h9
    exact h9
  have HTDC : ∀ (w' : World) (a1 : Option Addr) (n1 c1 : Nat) (a2 : Option Addr) (n2 c2 : Nat), Rwss w' a1 n1 c1 TY → Rwss w' a2 n2 c2 TX → Calls Tryz.prog 30 #[.slice a1 n1 c1, .slice a2 n2 c2] w' (LstRwsV TD (.bool true) w') := fun w' a1 n1 c1 a2 n2 c2 h1 h2 => by
    have hl := h1.len
    have hl2 := h2.len
    rw [mTY.1] at hl
    rw [mTX.1] at hl2
    have h9 := mul_rw S a1 n1 c1 TY a2 n2 c2 TX 3 w' h1 h2 lTY lTX (by omega) (by omega) (by omega) (by decide) ⟨rect_mat mTY, rect_mat mTX, by rw [gwidth_mat mTY]; exact hl2⟩
    rw [gwidth_mat mTX, hTD] at h9
    exact h9
  have HFIC : ∀ (w' : World) (a1 : Option Addr) (n1 c1 : Nat) (a2 : Option Addr) (c2 : Nat), Rwss w' a1 n1 c1 XY → Fxss w' a2 n c2 LL → Calls Tryz.prog 30 #[.slice a1 n1 c1, .slice a2 n c2] w' (LstRwsV FI (.bool true) w') := fun w' a1 n1 c1 a2 c2 h1 h2 => by
    have hl := h1.len
    rw [mXY.1] at hl
    have h9 := mul_rf S a1 n1 c1 XY a2 n c2 LL 40 w' h1 h2 lXY (smL (by decide)) (by omega) (by omega) (by omega) (by decide) ⟨rect_mat mXY, HRA.out, gwidth_mat mXY⟩
    rw [HWa.out, hP, hFI] at h9
    exact h9
  have HSEC : ∀ (w' : World) (a2 : Option Addr) (c2 : Nat) (a1 : Option Addr) (n1 c1 : Nat), Fxss w' a2 n c2 LL → Rwss w' a1 n1 c1 YX → Calls Tryz.prog 30 #[.slice a2 n c2, .slice a1 n1 c1] w' (LstRwsV FI (.bool true) w') := fun w' a2 c2 a1 n1 c1 h2 h1 => by
    have hl := h1.len
    rw [mYX.1] at hl
    have h9 := mul_fr S a2 n c2 LL a1 n1 c1 YX 40 w' h2 h1 (smL (by decide)) lYX (by omega) (by omega) (by omega) (by decide) ⟨HRA.out, rect_mat mYX, by rw [HWa.out]; exact hl⟩
    rw [gwidth_mat mYX, hP, hse] at h9
    exact h9
  have HTXY : ∀ (w' : World) (a1 : Option Addr) (n1 c1 : Nat), Rwss w' a1 n1 c1 XY → Calls Tryz.prog 10 #[.slice a1 n1 c1] w' (LstRws TD w') := fun w' a1 n1 c1 h1 => by
    have hl := h1.len
    rw [mXY.1] at hl
    have h9 := turn_rw S a1 n1 c1 XY w' h1 (fun r hr => ⟨(lXY r hr).1, fun q hq => Nat.le_trans ((lXY r hr).2 q hq) (by decide)⟩) (by omega) (rect_mat mXY)
    rw [gwidth_mat mXY, htd] at h9
    exact h9
  have HS1 : ∀ (w' : World) (a1 : Option Addr) (n1 c1 : Nat) (a2 : Option Addr) (n2 c2 : Nat), Rwss w' a1 n1 c1 TD → Rwss w' a2 n2 c2 TD → Calls Tryz.prog 18 #[.slice a1 n1 c1, .slice a2 n2 c2] w' (Gives (.bool true) w') := fun w' a1 n1 c1 a2 n2 c2 h1 h2 => by
    have hl := h1.len
    have hl2 := h2.len
    rw [mTD.1] at hl hl2
    have h9 := same_rw S a1 n1 c1 TD a2 n2 c2 TD w' h1 h2 lTD lTD (by omega) (by omega)
    rw [decide_eq_true rfl] at h9
    exact h9
  have HS2 : ∀ (w' : World) (a1 : Option Addr) (n1 c1 : Nat) (a2 : Option Addr) (n2 c2 : Nat), Rwss w' a1 n1 c1 FI → Rwss w' a2 n2 c2 FI → Calls Tryz.prog 18 #[.slice a1 n1 c1, .slice a2 n2 c2] w' (Gives (.bool true) w') := fun w' a1 n1 c1 a2 n2 c2 h1 h2 => by
    have hl := h1.len
    have hl2 := h2.len
    rw [mFI.1] at hl hl2
    have h9 := same_rw S a1 n1 c1 FI a2 n2 c2 FI w' h1 h2 lFI lFI (by omega) (by omega)
    rw [decide_eq_true rfl] at h9
    exact h9
  have LS := Lib.hid ls
  have LT := Lib.hid lt
  have EST := Lib.hid hst
  clear hP hZ hqs hLV hAV hs ht hst hXY hYX hTX hTY hTD hFI mP mZ mXY mYX mTX mTY mTD mFI hse htd n4 lLV cLV lAV cAV ls lt lXY lYX lTX lTY lTD lFI h hz hr hb hbz hbr hrc hrz hwa hwz hsm hsmz hpq hpqz hlm hlmz hthr hqr hlqr
  go_enter Tryz.func6, Tryz.ntmps6
  go_wp2_with fail
  refine (ref12_long a n c LL 4 2 false _ HF.out (by decide) (Lib.hid ⟨fun h => absurd h (by decide), fun h => absurd HNB.out h⟩)).mono ?_
  rintro e wv1 ⟨rfl, b⟩
  replace HB := Lib.hid (below_then HB.out b)
  replace HF := Lib.hid (HF.out.later b)
  replace HFz := Lib.hid (HFz.out.later b)
  replace HFr := Lib.hid (HFr.out.later b)
  clear b
  go_wp2_with fail
  refine (ref12_long az n cz LLz 4 2 false _ HFz.out (by decide) (Lib.hid ⟨fun h => absurd h (by decide), fun h => absurd HNBz.out h⟩)).mono ?_
  rintro e wv2 ⟨rfl, b⟩
  replace HB := Lib.hid (below_then HB.out b)
  replace HF := Lib.hid (HF.out.later b)
  replace HFz := Lib.hid (HFz.out.later b)
  replace HFr := Lib.hid (HFr.out.later b)
  clear b
  go_wp2_with fail
  refine (ref11_long ar n cr Lr 4 2 false _ HFr.out (by decide) (Lib.hid ⟨fun h => absurd h (by decide), fun h => absurd HNBr.out h⟩)).mono ?_
  rintro e wv3 ⟨rfl, b⟩
  replace HB := Lib.hid (below_then HB.out b)
  replace HF := Lib.hid (HF.out.later b)
  replace HFz := Lib.hid (HFz.out.later b)
  replace HFr := Lib.hid (HFr.out.later b)
  clear b
  go_wp2_with fail
  refine (ref12_right a n c LL true _ HF.out (Lib.hid ⟨fun _ => HRA.out, fun _ => rfl⟩)).mono ?_
  rintro e wv4 ⟨rfl, b⟩
  replace HB := Lib.hid (below_then HB.out b)
  replace HF := Lib.hid (HF.out.later b)
  replace HFz := Lib.hid (HFz.out.later b)
  replace HFr := Lib.hid (HFr.out.later b)
  clear b
  go_wp2_with fail
  refine (ref12_right az n cz LLz true _ HFz.out (Lib.hid ⟨fun _ => HRZ.out, fun _ => rfl⟩)).mono ?_
  rintro e wv5 ⟨rfl, b⟩
  replace HB := Lib.hid (below_then HB.out b)
  replace HF := Lib.hid (HF.out.later b)
  replace HFz := Lib.hid (HFz.out.later b)
  replace HFr := Lib.hid (HFr.out.later b)
  clear b
  go_wp2_with fail
  refine (HWA _ HF.out).mono ?_
  rintro e wv6 ⟨rfl, b⟩
  replace HB := Lib.hid (below_then HB.out b)
  replace HF := Lib.hid (HF.out.later b)
  replace HFz := Lib.hid (HFz.out.later b)
  replace HFr := Lib.hid (HFr.out.later b)
  clear b
  go_wp2_with fail
  refine (HWZ _ HFz.out).mono ?_
  rintro e wv7 ⟨rfl, b⟩
  replace HB := Lib.hid (below_then HB.out b)
  replace HF := Lib.hid (HF.out.later b)
  replace HFz := Lib.hid (HFz.out.later b)
  replace HFr := Lib.hid (HFr.out.later b)
  clear b
  go_wp2_with fail
  refine (HTO _ HF.out).mono ?_
  rintro e wv8 ⟨a8, c8, rfl, h8, b⟩
  replace HB := Lib.hid (below_then HB.out b)
  replace HF := Lib.hid (HF.out.later b)
  replace HFz := Lib.hid (HFz.out.later b)
  replace HFr := Lib.hid (HFr.out.later b)
  clear b
  have R8 := Lib.hid h8
  clear h8
  go_wp2_with fail
  refine (HTOz _ HFz.out).mono ?_
  rintro e wv9 ⟨a9, c9, rfl, h9, b⟩
  replace HB := Lib.hid (below_then HB.out b)
  replace HF := Lib.hid (HF.out.later b)
  replace HFz := Lib.hid (HFz.out.later b)
  replace HFr := Lib.hid (HFr.out.later b)
  replace R8 := Lib.hid (R8.out.later b)
  clear b
  have R9 := Lib.hid h9
  clear h9
  go_wp2_with fail
  refine (HTOr _ HFr.out).mono ?_
  rintro e wv10 ⟨a10, c10, rfl, h10, b⟩
  replace HB := Lib.hid (below_then HB.out b)
  replace HF := Lib.hid (HF.out.later b)
  replace HFz := Lib.hid (HFz.out.later b)
  replace HFr := Lib.hid (HFr.out.later b)
  replace R8 := Lib.hid (R8.out.later b)
  replace R9 := Lib.hid (R9.out.later b)
  clear b
  have R10 := Lib.hid h10
  clear h10
  clear HF HFz HFr
  go_wp2_with fail
  refine (HGL _ a10 c10 a8 c8 R10.out R8.out).mono ?_
  rintro e wv11 ⟨a11, n11, c11, rfl, h11, b⟩
  replace HB := Lib.hid (below_then HB.out b)
  replace R8 := Lib.hid (R8.out.later b)
  replace R9 := Lib.hid (R9.out.later b)
  replace R10 := Lib.hid (R10.out.later b)
  clear b
  have R11 := Lib.hid h11
  clear h11
  go_wp2_with fail
  refine (HGA _ a8 c8 a10 c10 R8.out R10.out).mono ?_
  rintro e wv12 ⟨a12, n12, c12, rfl, h12, b⟩
  replace HB := Lib.hid (below_then HB.out b)
  replace R8 := Lib.hid (R8.out.later b)
  replace R9 := Lib.hid (R9.out.later b)
  replace R10 := Lib.hid (R10.out.later b)
  replace R11 := Lib.hid (R11.out.later b)
  clear b
  have R12 := Lib.hid h12
  clear h12
  go_wp2_with fail
  refine (HD1 _ a11 n11 c11 a10 c10 R11.out R10.out).mono ?_
  rintro e wv13 ⟨a13, n13, c13, b13, m13, d13, rfl, h13, g13, b⟩
  replace HB := Lib.hid (below_then HB.out b)
  replace R8 := Lib.hid (R8.out.later b)
  replace R9 := Lib.hid (R9.out.later b)
  replace R10 := Lib.hid (R10.out.later b)
  replace R11 := Lib.hid (R11.out.later b)
  replace R12 := Lib.hid (R12.out.later b)
  clear b
  have hN13 : n13 ≤ 300 := (by rw [← h13.len]; exact Nat.le_trans (qlen_num _) LS.out)
  have hM13 : m13 ≤ 300 := (by rw [← g13.len]; exact Nat.le_trans (qlen_den _) LS.out)
  have R13 := Lib.hid h13
  have T13 := Lib.hid g13
  clear h13 g13
  unfold frV
  have P13 : Hid ((World.alloc wv13 (.cells #[.bool (zneg s.num), .slice a13 n13 c13, .slice b13 m13 d13] 58)).heap[wv13.heap.size]? = some (.cells #[.bool (zneg s.num), .slice a13 n13 c13, .slice b13 m13 d13] 58 (0, 0))) := Lib.hid (blk_new wv13 _ _)
  replace HB := Lib.hid (below_then HB.out (below_alloc wv13 (.cells #[.bool (zneg s.num), .slice a13 n13 c13, .slice b13 m13 d13] 58)))
  replace R8 := Lib.hid (R8.out.later (below_alloc wv13 (.cells #[.bool (zneg s.num), .slice a13 n13 c13, .slice b13 m13 d13] 58)))
  replace R9 := Lib.hid (R9.out.later (below_alloc wv13 (.cells #[.bool (zneg s.num), .slice a13 n13 c13, .slice b13 m13 d13] 58)))
  replace R10 := Lib.hid (R10.out.later (below_alloc wv13 (.cells #[.bool (zneg s.num), .slice a13 n13 c13, .slice b13 m13 d13] 58)))
  replace R11 := Lib.hid (R11.out.later (below_alloc wv13 (.cells #[.bool (zneg s.num), .slice a13 n13 c13, .slice b13 m13 d13] 58)))
  replace R12 := Lib.hid (R12.out.later (below_alloc wv13 (.cells #[.bool (zneg s.num), .slice a13 n13 c13, .slice b13 m13 d13] 58)))
  replace R13 := Lib.hid (R13.out.later (below_alloc wv13 (.cells #[.bool (zneg s.num), .slice a13 n13 c13, .slice b13 m13 d13] 58)))
  replace T13 := Lib.hid (T13.out.later (below_alloc wv13 (.cells #[.bool (zneg s.num), .slice a13 n13 c13, .slice b13 m13 d13] 58)))
  obtain ⟨vk0, vk1, vk2⟩ := fcells_3 P13.out
  go_wp2_with fail
  refine (HD2 _ a10 c10 a12 n12 c12 R10.out R12.out).mono ?_
  rintro e wv14 ⟨a14, n14, c14, b14, m14, d14, rfl, h14, g14, b⟩
  clear vk0 vk1 vk2
  replace HB := Lib.hid (below_then HB.out b)
  replace P13 := Lib.hid (blk_later P13.out b)
  replace R8 := Lib.hid (R8.out.later b)
  replace R9 := Lib.hid (R9.out.later b)
  replace R10 := Lib.hid (R10.out.later b)
  replace R11 := Lib.hid (R11.out.later b)
  replace R12 := Lib.hid (R12.out.later b)
  replace R13 := Lib.hid (R13.out.later b)
  replace T13 := Lib.hid (T13.out.later b)
  clear b
  have hN14 : n14 ≤ 300 := (by rw [← h14.len]; exact Nat.le_trans (qlen_num _) LT.out)
  have hM14 : m14 ≤ 300 := (by rw [← g14.len]; exact Nat.le_trans (qlen_den _) LT.out)
  have R14 := Lib.hid h14
  have T14 := Lib.hid g14
  clear h14 g14
  unfold frV
  have P14 : Hid ((World.alloc wv14 (.cells #[.bool (zneg t.num), .slice a14 n14 c14, .slice b14 m14 d14] 58)).heap[wv14.heap.size]? = some (.cells #[.bool (zneg t.num), .slice a14 n14 c14, .slice b14 m14 d14] 58 (0, 0))) := Lib.hid (blk_new wv14 _ _)
  replace HB := Lib.hid (below_then HB.out (below_alloc wv14 (.cells #[.bool (zneg t.num), .slice a14 n14 c14, .slice b14 m14 d14] 58)))
  replace P13 := Lib.hid (blk_later P13.out (below_alloc wv14 (.cells #[.bool (zneg t.num), .slice a14 n14 c14, .slice b14 m14 d14] 58)))
  replace R8 := Lib.hid (R8.out.later (below_alloc wv14 (.cells #[.bool (zneg t.num), .slice a14 n14 c14, .slice b14 m14 d14] 58)))
  replace R9 := Lib.hid (R9.out.later (below_alloc wv14 (.cells #[.bool (zneg t.num), .slice a14 n14 c14, .slice b14 m14 d14] 58)))
  replace R10 := Lib.hid (R10.out.later (below_alloc wv14 (.cells #[.bool (zneg t.num), .slice a14 n14 c14, .slice b14 m14 d14] 58)))
  replace R11 := Lib.hid (R11.out.later (below_alloc wv14 (.cells #[.bool (zneg t.num), .slice a14 n14 c14, .slice b14 m14 d14] 58)))
  replace R12 := Lib.hid (R12.out.later (below_alloc wv14 (.cells #[.bool (zneg t.num), .slice a14 n14 c14, .slice b14 m14 d14] 58)))
  replace R13 := Lib.hid (R13.out.later (below_alloc wv14 (.cells #[.bool (zneg t.num), .slice a14 n14 c14, .slice b14 m14 d14] 58)))
  replace T13 := Lib.hid (T13.out.later (below_alloc wv14 (.cells #[.bool (zneg t.num), .slice a14 n14 c14, .slice b14 m14 d14] 58)))
  replace R14 := Lib.hid (R14.out.later (below_alloc wv14 (.cells #[.bool (zneg t.num), .slice a14 n14 c14, .slice b14 m14 d14] 58)))
  replace T14 := Lib.hid (T14.out.later (below_alloc wv14 (.cells #[.bool (zneg t.num), .slice a14 n14 c14, .slice b14 m14 d14] 58)))
  clear R11 R12 R10
  obtain ⟨vk0, vk1, vk2, vk3, vk4, vk5⟩ := fcells_3_3 P13.out P14.out
  go_wp2_with fail
  refine (FS.same (frV (zneg (s).num) a13 n13 c13 b13 m13 d13) (frV (zneg (t).num) a14 n14 c14 b14 m14 d14) s t _ (Fr.right R13.out T13.out (by omega) (by omega)) (Fr.right R14.out T14.out (by omega) (by omega))).mono ?_
  rintro e wv15 ⟨rfl, b⟩
  clear vk0 vk1 vk2 vk3 vk4 vk5
  replace HB := Lib.hid (below_then HB.out b)
  replace P13 := Lib.hid (blk_later P13.out b)
  replace P14 := Lib.hid (blk_later P14.out b)
  replace R8 := Lib.hid (R8.out.later b)
  replace R9 := Lib.hid (R9.out.later b)
  replace R13 := Lib.hid (R13.out.later b)
  replace T13 := Lib.hid (T13.out.later b)
  replace R14 := Lib.hid (R14.out.later b)
  replace T14 := Lib.hid (T14.out.later b)
  clear b
  rw [decide_eq_true EST.out]
  clear R13 T13 R14 T14
  clear P13 P14
  go_wp2_with fail
  refine (HXYC _ a8 c8 a9 c9 R8.out R9.out).mono ?_
  rintro e wv16 ⟨a16, n16, c16, rfl, h16, b⟩
  replace HB := Lib.hid (below_then HB.out b)
  replace R8 := Lib.hid (R8.out.later b)
  replace R9 := Lib.hid (R9.out.later b)
  clear b
  have R16 := Lib.hid h16
  clear h16
  go_wp2_with fail
  refine (HTYC _ a9 c9 R9.out).mono ?_
  rintro e wv17 ⟨a17, n17, c17, rfl, h17, b⟩
  replace HB := Lib.hid (below_then HB.out b)
  replace R8 := Lib.hid (R8.out.later b)
  replace R9 := Lib.hid (R9.out.later b)
  replace R16 := Lib.hid (R16.out.later b)
  clear b
  have R17 := Lib.hid h17
  clear h17
  go_wp2_with fail
  refine (HTXC _ a8 c8 R8.out).mono ?_
  rintro e wv18 ⟨a18, n18, c18, rfl, h18, b⟩
  replace HB := Lib.hid (below_then HB.out b)
  replace R8 := Lib.hid (R8.out.later b)
  replace R9 := Lib.hid (R9.out.later b)
  replace R16 := Lib.hid (R16.out.later b)
  replace R17 := Lib.hid (R17.out.later b)
  clear b
  have R18 := Lib.hid h18
  clear h18
  go_wp2_with fail
  refine (HTDC _ a17 n17 c17 a18 n18 c18 R17.out R18.out).mono ?_
  rintro e wv19 ⟨a19, n19, c19, rfl, h19, b⟩
  replace HB := Lib.hid (below_then HB.out b)
  replace R8 := Lib.hid (R8.out.later b)
  replace R9 := Lib.hid (R9.out.later b)
  replace R16 := Lib.hid (R16.out.later b)
  replace R17 := Lib.hid (R17.out.later b)
  replace R18 := Lib.hid (R18.out.later b)
  clear b
  have R19 := Lib.hid h19
  clear h19
  clear R17 R18
  go_wp2_with fail
  refine (HFIC _ a16 n16 c16 a8 c8 R16.out R8.out).mono ?_
  rintro e wv20 ⟨a20, n20, c20, rfl, h20, b⟩
  replace HB := Lib.hid (below_then HB.out b)
  replace R8 := Lib.hid (R8.out.later b)
  replace R9 := Lib.hid (R9.out.later b)
  replace R16 := Lib.hid (R16.out.later b)
  replace R19 := Lib.hid (R19.out.later b)
  clear b
  have R20 := Lib.hid h20
  clear h20
  go_wp2_with fail
  refine (HYXC _ a9 c9 a8 c8 R9.out R8.out).mono ?_
  rintro e wv21 ⟨a21, n21, c21, rfl, h21, b⟩
  replace HB := Lib.hid (below_then HB.out b)
  replace R8 := Lib.hid (R8.out.later b)
  replace R9 := Lib.hid (R9.out.later b)
  replace R16 := Lib.hid (R16.out.later b)
  replace R19 := Lib.hid (R19.out.later b)
  replace R20 := Lib.hid (R20.out.later b)
  clear b
  have R21 := Lib.hid h21
  clear h21
  go_wp2_with fail
  refine (HSEC _ a8 c8 a21 n21 c21 R8.out R21.out).mono ?_
  rintro e wv22 ⟨a22, n22, c22, rfl, h22, b⟩
  replace HB := Lib.hid (below_then HB.out b)
  replace R8 := Lib.hid (R8.out.later b)
  replace R9 := Lib.hid (R9.out.later b)
  replace R16 := Lib.hid (R16.out.later b)
  replace R19 := Lib.hid (R19.out.later b)
  replace R20 := Lib.hid (R20.out.later b)
  replace R21 := Lib.hid (R21.out.later b)
  clear b
  have R22 := Lib.hid h22
  clear h22
  clear R21 R8 R9
  go_wp2_with fail
  refine (HTXY _ a16 n16 c16 R16.out).mono ?_
  rintro e wv23 ⟨a23, n23, c23, rfl, h23, b⟩
  replace HB := Lib.hid (below_then HB.out b)
  replace R16 := Lib.hid (R16.out.later b)
  replace R19 := Lib.hid (R19.out.later b)
  replace R20 := Lib.hid (R20.out.later b)
  replace R22 := Lib.hid (R22.out.later b)
  clear b
  have R23 := Lib.hid h23
  clear h23
  go_wp2_with fail
  refine (HS1 _ a23 n23 c23 a19 n19 c19 R23.out R19.out).mono ?_
  rintro e wv24 ⟨rfl, b⟩
  replace HB := Lib.hid (below_then HB.out b)
  replace R16 := Lib.hid (R16.out.later b)
  replace R19 := Lib.hid (R19.out.later b)
  replace R20 := Lib.hid (R20.out.later b)
  replace R22 := Lib.hid (R22.out.later b)
  replace R23 := Lib.hid (R23.out.later b)
  clear b
  go_wp2_with fail
  refine (HS2 _ a20 n20 c20 a22 n22 c22 R20.out R22.out).mono ?_
  rintro e wv25 ⟨rfl, b⟩
  replace HB := Lib.hid (below_then HB.out b)
  replace R16 := Lib.hid (R16.out.later b)
  replace R19 := Lib.hid (R19.out.later b)
  replace R20 := Lib.hid (R20.out.later b)
  replace R22 := Lib.hid (R22.out.later b)
  replace R23 := Lib.hid (R23.out.later b)
  clear b
  go_wp2_with fail
  refine (law12_works S RS FS _ (Lib.hid (hT.out.later HB.out))).mono ?_
  rintro e wv26 ⟨rfl, b⟩
  replace HB := Lib.hid (below_then HB.out b)
  replace R16 := Lib.hid (R16.out.later b)
  replace R19 := Lib.hid (R19.out.later b)
  replace R20 := Lib.hid (R20.out.later b)
  replace R22 := Lib.hid (R22.out.later b)
  replace R23 := Lib.hid (R23.out.later b)
  clear b
  go_wp2
  go_ret
  exact ⟨rfl, HB.out⟩
theorem law12_order (S : GridSaid) (RS : RowSaid) (FS : FracSaid) (a : Option Addr) (n c : Nat) (LL : List (List Fx)) (az : Option Addr) (nz cz : Nat) (LLz : List (List Fx)) (ar : Option Addr) (nr cr : Nat) (Lr : List Fx) (w : World) (h : Fxss w a n c LL) (hz : Fxss w az nz cz LLz) (hr : Fxs w ar nr cr Lr) (hT : Hid (Dec10 w)) : Calls Tryz.prog 6 #[.slice a n c, .slice az nz cz, .slice ar nr cr] w (Gives (.bool true) w) := by
  by_cases hb : ((n : Int) ≤ 4 ∧ ∀ M ∈ LL, (M.length : Int) ≤ 4 ∧ thinI 2 M)
  case neg => exact law12_order_e0 S RS FS a n c LL az nz cz LLz ar nr cr Lr w h hz hr hT hb
  by_cases hbz : ((nz : Int) ≤ 4 ∧ ∀ M ∈ LLz, (M.length : Int) ≤ 4 ∧ thinI 2 M)
  case neg => exact law12_order_e1 S RS FS a n c LL az nz cz LLz ar nr cr Lr w h hz hr hT hb hbz
  by_cases hbr : ((nr : Int) ≤ 4 ∧ thinI 2 Lr)
  case neg => exact law12_order_e2 S RS FS a n c LL az nz cz LLz ar nr cr Lr w h hz hr hT hb hbz hbr
  by_cases hrc : rect LL
  case neg => exact law12_order_e3 S RS FS a n c LL az nz cz LLz ar nr cr Lr w h hz hr hT hb hbz hbr hrc
  by_cases hrz : rect LLz
  case neg => exact law12_order_e4 S RS FS a n c LL az nz cz LLz ar nr cr Lr w h hz hr hT hb hbz hbr hrc hrz
  by_cases hna : n = nr
  case neg => exact law12_order_e5 S RS FS a n c LL az nz cz LLz ar nr cr Lr w h hz hr hT hb hbz hbr hrc hrz hna
  by_cases hnz : nz = nr
  case neg => exact law12_order_e6 S RS FS a n c LL az nz cz LLz ar nr cr Lr w h hz hr hT hb hbz hbr hrc hrz hna hnz
  by_cases hwa : gwidth LL = nr
  case neg => exact law12_order_e7 S RS FS a n c LL az nz cz LLz ar nr cr Lr w h hz hr hT hb hbz hbr hrc hrz hna hnz hwa
  by_cases hwz : gwidth LLz = nr
  case neg => exact law12_order_e8 S RS FS a n c LL az nz cz LLz ar nr cr Lr w h hz hr hT hb hbz hbr hrc hrz hna hnz hwa hwz
  subst hna
  have hnz9 := hnz.symm
  clear hnz
  subst hnz9
  exact law12_order_main S RS FS a n c LL az cz LLz ar cr Lr w h hz hr hT hb hbz hbr hrc hrz hwa hwz
end Go.Proofs.YtpjkhbfglgmnmaaGreatDoor
