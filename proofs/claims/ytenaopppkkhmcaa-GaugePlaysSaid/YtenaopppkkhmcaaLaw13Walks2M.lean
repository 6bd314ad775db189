/-
  The walks of the laws of layer 13: GaugeMore.
-/
import Derived.Test.YtenaopppkkhmcaaG9
import Derived.Test.YtenaopppkkhmcaaRef11bM
namespace Go.Proofs.Ytenaopppkkhmcaa
open Go.RowKit

theorem gat_all {l : Nat} {K : List Fx} : gat l K = K.length ↔ ∀ x ∈ K, fsize x ≤ l := by
  constructor
  · intro h x hx
    obtain ⟨i, hi, rfl⟩ := List.getElem_of_mem hx
    have := gat_fits (l := l) (L := K) (k := i) (by omega)
    rwa [List.getD_eq_getElem?_getD, List.getElem?_eq_getElem hi] at this
  · intro h
    exact gat_is (Nat.le_refl _) (fun j hj => h _ (fx_mem hj)) (fun h9 => absurd h9 (Nat.lt_irrefl _))
theorem rsize_upto {l : Nat} : ∀ {L : List Fx} {m : Nat}, rsizeFrom m L ≤ l ↔ m ≤ l ∧ ∀ x ∈ L, fsize x ≤ l
  | [], m => by
    show m ≤ l ↔ _
    exact ⟨fun h => ⟨h, fun x hx => by simp at hx⟩, fun h => h.1⟩
  | x :: r, m => by
    show rsizeFrom (max m (fsize x)) r ≤ l ↔ _
    rw [rsize_upto (L := r)]
    constructor
    · rintro ⟨h1, h2⟩
      exact ⟨by omega, fun y hy => by
        rcases List.mem_cons.1 hy with rfl | hy
        · omega
        · exact h2 y hy⟩
    · rintro ⟨h1, h2⟩
      exact ⟨by have := h2 x (List.mem_cons_self ..); omega, fun y hy => h2 y (List.mem_cons_of_mem _ hy)⟩
theorem gshown_all {l : Nat} {K : List Fx} (h : gat l K = K.length) : gshown l K = K := List.take_of_length_le (by omega)
/-- A row goes through just if the longest that is shown fits. -/
theorem gpeak_iff {l : Nat} {K : List Fx} : gat l K = K.length ↔ rsizeFrom 0 (gshown l K) ≤ l := by
  constructor
  · intro h
    rw [gshown_all h]
    exact rsize_upto.2 ⟨Nat.zero_le _, gat_all.1 h⟩
  · intro h
    rcases Nat.lt_or_ge (gat l K) K.length with h1 | h1
    · exfalso
      refine gat_long h1 ((rsize_upto.1 h).2 _ ?_)
      unfold gshown
      rw [fx_more h1]
      exact List.mem_append_right _ (List.mem_singleton.2 rfl)
    · have := gat_le l K
      omega
theorem fsize_thin {w : World} {x : Fx} {N : Nat} (h : x.ok w) (hn : x.n ≤ N) (hm : x.m ≤ N) : fsize x ≤ 64 * N := by
  have h1 := blen_words h.1
  have h2 := blen_words h.2
  unfold fsize
  omega
theorem rsize_thin {w : World} {N p B : Nat} {L : List Fx} (h : ∀ x ∈ L, x.ok w) (ht : thin N L) (hp : p ≤ B) (hB : 64 * N ≤ B) : rsizeFrom p L ≤ B := rsize_upto.2 ⟨hp, fun x hx => Nat.le_trans (fsize_thin (h x hx) (ht x hx).1 (ht x hx).2) hB⟩
theorem gshown_mem {l : Nat} {K : List Fx} {x : Fx} (h : x ∈ gshown l K) : x ∈ K := List.mem_of_mem_take h
set_option maxRecDepth 4096 in
set_option maxHeartbeats 16000000 in
theorem law13_more_e0 {Is : World → Nat → Nat → Nat → Nat → Prop} (S : GaugeSaid Is) (FS : FracSaid) (z m : Int) (a : Option Addr) (n c : Nat) (K : List Fx) (w : World) (_hz : isInt z) (_hm : isInt m) (h : Fxs w a n c K)  (hb : ¬ ((n : Int) ≤ 20 ∧ thinI 200 K)) : Calls Try.prog 4 #[.int .i64 z, .int .i64 m, .slice a n c] w (Gives (.bool true) w) := by
  have HB : Hid (Below w.heap.size w w) := Lib.hid (Below.refl _ _)
  have HF := Lib.hid h
  have HNB := Lib.hid hb
  clear h hb
  go_enter Try.func4, Try.ntmps4
  go_wp2_with fail
  refine (ref11_long a n c K 20 200 true _ HF.out (by decide) (Lib.hid ⟨fun _ => HNB.out, fun _ => rfl⟩)).mono ?_
  rintro e w1 ⟨rfl, b⟩
  replace HB := Lib.hid (below_then HB.out b)
  clear b
  go_wp2_with fail
  refine (law13_works S FS _).mono ?_
  rintro e w2 ⟨rfl, b⟩
  replace HB := Lib.hid (below_then HB.out b)
  clear b
  go_wp2
  go_ret
  exact ⟨rfl, HB.out⟩
set_option maxRecDepth 4096 in
set_option maxHeartbeats 16000000 in
theorem law13_more_e1 {Is : World → Nat → Nat → Nat → Nat → Prop} (S : GaugeSaid Is) (FS : FracSaid) (z m : Int) (a : Option Addr) (n c : Nat) (K : List Fx) (w : World) (_hz : isInt z) (_hm : isInt m) (h : Fxs w a n c K) (hb : ((n : Int) ≤ 20 ∧ thinI 200 K)) (c1 : z < 0) : Calls Try.prog 4 #[.int .i64 z, .int .i64 m, .slice a n c] w (Gives (.bool true) w) := by
  have HB : Hid (Below w.heap.size w w) := Lib.hid (Below.refl _ _)
  have HF := Lib.hid h
  have HNB := Lib.hid hb
  clear h hb
  go_enter Try.func4, Try.ntmps4
  go_wp2_with fail
  refine (ref11_long a n c K 20 200 false _ HF.out (by decide) (Lib.hid ⟨fun h => absurd h (by decide), fun h => absurd HNB.out h⟩)).mono ?_
  rintro e w1 ⟨rfl, b⟩
  replace HB := Lib.hid (below_then HB.out b)
  clear b
  go_wp2_with fail
  refine (law13_works S FS _).mono ?_
  rintro e w2 ⟨rfl, b⟩
  replace HB := Lib.hid (below_then HB.out b)
  clear b
  go_wp2
  go_ret
  exact ⟨rfl, HB.out⟩
set_option maxRecDepth 4096 in
set_option maxHeartbeats 16000000 in
theorem law13_more_e2 {Is : World → Nat → Nat → Nat → Nat → Prop} (S : GaugeSaid Is) (FS : FracSaid) (z m : Int) (a : Option Addr) (n c : Nat) (K : List Fx) (w : World) (_hz : isInt z) (_hm : isInt m) (h : Fxs w a n c K) (hb : ((n : Int) ≤ 20 ∧ thinI 200 K)) (c1 : ¬ z < 0) (c2 : m < 0) : Calls Try.prog 4 #[.int .i64 z, .int .i64 m, .slice a n c] w (Gives (.bool true) w) := by
  have HB : Hid (Below w.heap.size w w) := Lib.hid (Below.refl _ _)
  have HF := Lib.hid h
  have HNB := Lib.hid hb
  clear h hb
  go_enter Try.func4, Try.ntmps4
  go_wp2_with fail
  refine (ref11_long a n c K 20 200 false _ HF.out (by decide) (Lib.hid ⟨fun h => absurd h (by decide), fun h => absurd HNB.out h⟩)).mono ?_
  rintro e w1 ⟨rfl, b⟩
  replace HB := Lib.hid (below_then HB.out b)
  clear b
  go_wp2_with fail
  refine (law13_works S FS _).mono ?_
  rintro e w2 ⟨rfl, b⟩
  replace HB := Lib.hid (below_then HB.out b)
  clear b
  go_wp2
  go_ret
  exact ⟨rfl, HB.out⟩
set_option maxRecDepth 4096 in
set_option maxHeartbeats 16000000 in
theorem law13_more_e3 {Is : World → Nat → Nat → Nat → Nat → Prop} (S : GaugeSaid Is) (FS : FracSaid) (z m : Int) (a : Option Addr) (n c : Nat) (K : List Fx) (w : World) (_hz : isInt z) (_hm : isInt m) (h : Fxs w a n c K) (hb : ((n : Int) ≤ 20 ∧ thinI 200 K)) (c1 : ¬ z < 0) (c2 : ¬ m < 0) (c3 : 4096 < z) : Calls Try.prog 4 #[.int .i64 z, .int .i64 m, .slice a n c] w (Gives (.bool true) w) := by
  have HB : Hid (Below w.heap.size w w) := Lib.hid (Below.refl _ _)
  have HF := Lib.hid h
  have HNB := Lib.hid hb
  clear h hb
  go_enter Try.func4, Try.ntmps4
  go_wp2_with fail
  refine (ref11_long a n c K 20 200 false _ HF.out (by decide) (Lib.hid ⟨fun h => absurd h (by decide), fun h => absurd HNB.out h⟩)).mono ?_
  rintro e w1 ⟨rfl, b⟩
  replace HB := Lib.hid (below_then HB.out b)
  clear b
  go_wp2_with fail
  refine (law13_works S FS _).mono ?_
  rintro e w2 ⟨rfl, b⟩
  replace HB := Lib.hid (below_then HB.out b)
  clear b
  go_wp2
  go_ret
  exact ⟨rfl, HB.out⟩
set_option maxRecDepth 4096 in
set_option maxHeartbeats 16000000 in
theorem law13_more_e4 {Is : World → Nat → Nat → Nat → Nat → Prop} (S : GaugeSaid Is) (FS : FracSaid) (z m : Int) (a : Option Addr) (n c : Nat) (K : List Fx) (w : World) (_hz : isInt z) (_hm : isInt m) (h : Fxs w a n c K) (hb : ((n : Int) ≤ 20 ∧ thinI 200 K)) (c1 : ¬ z < 0) (c2 : ¬ m < 0) (c3 : ¬ 4096 < z) (c4 : 4096 < m) : Calls Try.prog 4 #[.int .i64 z, .int .i64 m, .slice a n c] w (Gives (.bool true) w) := by
  have HB : Hid (Below w.heap.size w w) := Lib.hid (Below.refl _ _)
  have HF := Lib.hid h
  have HNB := Lib.hid hb
  clear h hb
  go_enter Try.func4, Try.ntmps4
  go_wp2_with fail
  refine (ref11_long a n c K 20 200 false _ HF.out (by decide) (Lib.hid ⟨fun h => absurd h (by decide), fun h => absurd HNB.out h⟩)).mono ?_
  rintro e w1 ⟨rfl, b⟩
  replace HB := Lib.hid (below_then HB.out b)
  clear b
  go_wp2_with fail
  refine (law13_works S FS _).mono ?_
  rintro e w2 ⟨rfl, b⟩
  replace HB := Lib.hid (below_then HB.out b)
  clear b
  go_wp2
  go_ret
  exact ⟨rfl, HB.out⟩
set_option maxRecDepth 4096 in
set_option maxHeartbeats 16000000 in
theorem law13_more_main {Is : World → Nat → Nat → Nat → Nat → Prop} (S : GaugeSaid Is) (FS : FracSaid) (l m : Nat) (a : Option Addr) (n c : Nat) (K : List Fx) (w : World) (h : Fxs w a n c K) (hb : ((n : Int) ≤ 20 ∧ thinI 200 K)) (hl : l ≤ 4096) (hm : m ≤ 4096) : Calls Try.prog 4 #[.int .i64 (l : Int), .int .i64 (m : Int), .slice a n c] w (Gives (.bool true) w) := by
  have HB : Hid (Below w.heap.size w w) := Lib.hid (Below.refl _ _)
  have HNB := Lib.hid hb
  have hn : n ≤ 20 := by have := hb.1; omega
  have hth : thin 200 K := thinI.out (N := 200) hb.2
  have HTH := Lib.hid hth
  have HF := Lib.hid h
  have hlen := h.len
  have hbd := h.bound
  have HSZ : ∀ (q : Nat), rsizeFrom 0 (gshown q K) ≤ 12800 := fun q => rsize_thin (fun x hx => h.ok (gshown_mem hx)) (fun x hx => HTH.out x (gshown_mem hx)) (Nat.zero_le _) (by decide)
  have hc1 : ¬ (l : Int) < 0 := by omega
  have hc2 : ¬ (m : Int) < 0 := by omega
  have hc3 : ¬ 4096 < (l : Int) := by omega
  have hc4 : ¬ 4096 < (m : Int) := by omega
  obtain ⟨lm, hlm⟩ : ∃ lm : Nat, l + m = lm := ⟨_, rfl⟩
  have hlz : (l : Int) + (m : Int) = (lm : Int) := by omega
  obtain ⟨l2, hl2⟩ : ∃ l2, glim (lm : Int) = l2 := ⟨_, rfl⟩
  have hl2a : l ≤ l2 ∧ l2 ≤ 4096 := by rw [← hl2]; unfold glim; omega
  have HNa : ∀ w' : World, Calls Try.prog 5 #[.int .i64 (l : Int)] w' (fun e w'' => ∃ g, e = .returned (.pointer (some ⟨g, 0, none⟩)) ∧ w'.heap.size ≤ g ∧ Is w'' g l 0 0 ∧ Below w'.heap.size w' w'') := fun w' => by
    have h9 := S.new (l : Int) w' (by unfold isInt; omega)
    rw [show glim (l : Int) = l by unfold glim; omega] at h9
    exact h9
  have HNb : ∀ w' : World, Calls Try.prog 5 #[.int .i64 (lm : Int)] w' (fun e w'' => ∃ g, e = .returned (.pointer (some ⟨g, 0, none⟩)) ∧ w'.heap.size ≤ g ∧ Is w'' g l2 0 0 ∧ Below w'.heap.size w' w'') := fun w' => by
    have h9 := S.new (lm : Int) w' (by unfold isInt; omega)
    rw [hl2] at h9
    exact h9
  have HNc : ∀ w' : World, Calls Try.prog 5 #[.int .i64 4096] w' (fun e w'' => ∃ g, e = .returned (.pointer (some ⟨g, 0, none⟩)) ∧ w'.heap.size ≤ g ∧ Is w'' g 4096 0 0 ∧ Below w'.heap.size w' w'') := fun w' => S.new 4096 w' (by decide)
  obtain ⟨oa, hoa⟩ : ∃ b, decide (gat l K = K.length) = b := ⟨_, rfl⟩
  obtain ⟨ob, hob⟩ : ∃ b, decide (gat l2 K = K.length) = b := ⟨_, rfl⟩
  obtain ⟨oc, hoc⟩ : ∃ b, decide (gat 4096 K = K.length) = b := ⟨_, rfl⟩
  obtain ⟨pa, hpa⟩ : ∃ p, rsizeFrom 0 (gshown l K) = p := ⟨_, rfl⟩
  obtain ⟨pb, hpb⟩ : ∃ p, rsizeFrom 0 (gshown l2 K) = p := ⟨_, rfl⟩
  obtain ⟨pc, hpc⟩ : ∃ p, rsizeFrom 0 (gshown 4096 K) = p := ⟨_, rfl⟩
  have hpa9 : pa ≤ 12800 := hpa ▸ HSZ l
  have hpc9 : pc ≤ 12800 := hpc ▸ HSZ 4096
  have HAB : Hid (oa = true → ob = true) := Lib.hid (fun h9 => by
    have h8 := gat_all.1 (of_decide_eq_true (hoa.trans h9))
    rw [← hob]; exact decide_eq_true (gat_all.2 (fun x hx => Nat.le_trans (h8 x hx) hl2a.1)))
  have HA1 : Hid (oa = true → ¬ l < pa) := Lib.hid (fun h9 => by
    have h8 := gpeak_iff.1 (of_decide_eq_true (hoa.trans h9))
    omega)
  have HA2 : Hid (oa = false → l < pa) := Lib.hid (fun h9 => by
    have h8 := of_decide_eq_false (hoa.trans h9)
    rcases Nat.lt_or_ge l pa with h7 | h7
    · exact h7
    · exact absurd (gpeak_iff.2 (by omega)) h8)
  have HC : Hid (oc = true → (pc ≤ l ↔ oa = true)) := Lib.hid (fun h9 => by
    have h8 := gshown_all (of_decide_eq_true (hoc.trans h9))
    rw [h8] at hpc
    rw [← hpc, rsize_upto, ← hoa, decide_eq_true_iff, gat_all]
    exact ⟨fun h7 => h7.2, fun h7 => ⟨Nat.zero_le _, h7⟩⟩)
  have HRW : ∀ (w' : World) (g q p9 : Nat) (o9 : Bool) (a' : Option Addr) (c' : Nat), decide (gat q K = K.length) = o9 → rsizeFrom 0 (gshown q K) = p9 → q ≤ 4096 → Is w' g q 0 0 → Fxs w' a' n c' K → Calls Try.prog 12 #[.pointer (some ⟨g, 0, none⟩), .slice a' n c'] w' (fun e w'' => ∃ (i9 s9 : Nat), e = .returned (.tuple #[.int .i64 (i9 : Int), .bool o9]) ∧ Is w'' g q s9 p9 ∧ w'.grownBy w'' (some g)) := fun w' g q p9 o9 a' c' h1 h2 h3 h4 h5 => by
    have h9 := S.row w' g q 0 0 a' n c' K h4 h5 (by omega) (HTH.out.mono (by decide)) h3 (by decide) (by decide)
    rw [h1, h2] at h9
    exact h9.mono fun e w'' h8 => ⟨_, _, h8⟩
  have HTO : ∀ w' : World, Fxs w' a n c K → Calls Try.prog 13 #[.slice a n c] w' (fun e w'' => ∃ (a' : Option Addr) (c' : Nat), e = .returned (.slice a' n c') ∧ Fxs w'' a' n c' K ∧ Below w'.heap.size w' w'') := fun w' h1 => law11_to a n c K w' h1 (by omega)
  have HOV : ∀ (w' : World) (g s9 : Nat) (r : Bool), decide (l < pa) = r → Is w' g l s9 pa → Calls Try.prog 8 #[.pointer (some ⟨g, 0, none⟩)] w' (Gives (.bool r) w') := fun w' g s9 r h1 h2 => h1 ▸ S.over w' g l s9 pa h2 hl (by omega)
  have HTL : ∀ (w' : World) (g s9 : Nat), Is w' g 4096 s9 pc → Calls Try.prog 9 #[.pointer (some ⟨g, 0, none⟩)] w' (Gives (.agg #[.int .i64 ((s9 : Nat) : Int), .int .i64 ((pc : Nat) : Int)]) w') := fun w' g s9 h2 => S.tells w' g 4096 s9 pc h2
  have HRa : ∀ (w' : World) (g : Nat) (a' : Option Addr) (c' : Nat), Is w' g l 0 0 → Fxs w' a' n c' K → Calls Try.prog 12 #[.pointer (some ⟨g, 0, none⟩), .slice a' n c'] w' (fun e w'' => ∃ (i9 s9 : Nat), e = .returned (.tuple #[.int .i64 (i9 : Int), .bool oa]) ∧ Is w'' g l s9 pa ∧ w'.grownBy w'' (some g)) := fun w' g a' c' h4 h5 => HRW w' g l pa oa a' c' hoa hpa hl h4 h5
  have HRb : ∀ (w' : World) (g : Nat) (a' : Option Addr) (c' : Nat), Is w' g l2 0 0 → Fxs w' a' n c' K → Calls Try.prog 12 #[.pointer (some ⟨g, 0, none⟩), .slice a' n c'] w' (fun e w'' => ∃ (i9 s9 : Nat), e = .returned (.tuple #[.int .i64 (i9 : Int), .bool ob]) ∧ Is w'' g l2 s9 pb ∧ w'.grownBy w'' (some g)) := fun w' g a' c' h4 h5 => HRW w' g l2 pb ob a' c' hob hpb hl2a.2 h4 h5
  have HRc : ∀ (w' : World) (g : Nat) (a' : Option Addr) (c' : Nat), Is w' g 4096 0 0 → Fxs w' a' n c' K → Calls Try.prog 12 #[.pointer (some ⟨g, 0, none⟩), .slice a' n c'] w' (fun e w'' => ∃ (i9 s9 : Nat), e = .returned (.tuple #[.int .i64 (i9 : Int), .bool oc]) ∧ Is w'' g 4096 s9 pc ∧ w'.grownBy w'' (some g)) := fun w' g a' c' h4 h5 => HRW w' g 4096 pc oc a' c' hoc hpc (by decide) h4 h5
  have hpl : (pc ≤ l) = (pc ≤ l) := rfl
  clear HRW HSZ hoa hob hoc hpa hpb hpc hlm hl2 hl2a hpl h hb hth hpa9 hpc9
  go_enter Try.func4, Try.ntmps4
  go_wp2_with fail
  refine (ref11_long a n c K 20 200 false _ HF.out (by decide) (Lib.hid ⟨fun h => absurd h (by decide), fun h => absurd HNB.out h⟩)).mono ?_
  rintro e w1 ⟨rfl, b⟩
  replace HB := Lib.hid (below_then HB.out b)
  replace HF := Lib.hid (HF.out.later b)
  clear b
  go_wp2_with fail
  refine (HNa _).mono ?_
  rintro e w2 ⟨ga, rfl, hg9, hI, b⟩
  have hga : w.heap.size ≤ ga := Nat.le_trans HB.out.size hg9
  have IA := Lib.hid hI
  replace HB := Lib.hid (below_then HB.out b)
  replace HF := Lib.hid (HF.out.later b)
  have hs2 : ga < w2.heap.size := S.lt IA.out
  clear hI hg9 b
  go_wp2_with fail
  refine (HNb _).mono ?_
  rintro e w3 ⟨gb, rfl, hg9, hI, b⟩
  replace IA := Lib.hid (S.keep IA.out (b.block _ (S.lt IA.out)))
  have hgb : ga < gb := by omega
  have IB := Lib.hid hI
  replace HB := Lib.hid (below_then HB.out b)
  replace HF := Lib.hid (HF.out.later b)
  have hs3 : gb < w3.heap.size := S.lt IB.out
  clear hI hg9 b
  go_wp2_with fail
  refine (HNc _).mono ?_
  rintro e w4 ⟨gc, rfl, hg9, hI, b⟩
  replace IA := Lib.hid (S.keep IA.out (b.block _ (S.lt IA.out)))
  replace IB := Lib.hid (S.keep IB.out (b.block _ (S.lt IB.out)))
  have hgc : gb < gc := by omega
  have IC := Lib.hid hI
  replace HB := Lib.hid (below_then HB.out b)
  replace HF := Lib.hid (HF.out.later b)
  clear hI hg9 b
  go_wp2_with fail
  refine (HTO _ HF.out).mono ?_
  rintro e w5 ⟨a5, c5, rfl, h5, b⟩
  replace IA := Lib.hid (S.keep IA.out (b.block _ (S.lt IA.out)))
  replace IB := Lib.hid (S.keep IB.out (b.block _ (S.lt IB.out)))
  replace IC := Lib.hid (S.keep IC.out (b.block _ (S.lt IC.out)))
  replace HB := Lib.hid (below_then HB.out b)
  have HX := Lib.hid h5
  clear b h5 HF
  go_wp2_with fail
  refine (HRa _ ga a5 c5 IA.out HX.out).mono ?_
  rintro e w6 ⟨ia, sa, rfl, hI, hgr⟩
  replace HX := Lib.hid (HX.out.beyond (S.bare IA.out) hgr)
  replace IB := Lib.hid (S.keep IB.out (grown_at hgr (S.lt IB.out) (by omega)))
  replace IC := Lib.hid (S.keep IC.out (grown_at hgr (S.lt IC.out) (by omega)))
  replace HB := Lib.hid (HB.out.grown hgr HB.out.size (fun k hk => by have := Option.some.inj hk; omega))
  replace IA := Lib.hid hI
  clear hI hgr
  go_wp2_with fail
  refine (HRb _ gb a5 c5 IB.out HX.out).mono ?_
  rintro e w7 ⟨ib, sb, rfl, hI, hgr⟩
  replace HX := Lib.hid (HX.out.beyond (S.bare IB.out) hgr)
  replace IA := Lib.hid (S.keep IA.out (grown_at hgr (S.lt IA.out) (by omega)))
  replace IC := Lib.hid (S.keep IC.out (grown_at hgr (S.lt IC.out) (by omega)))
  replace HB := Lib.hid (HB.out.grown hgr HB.out.size (fun k hk => by have := Option.some.inj hk; omega))
  replace IB := Lib.hid hI
  clear hI hgr
  go_wp2_with fail
  refine (HRc _ gc a5 c5 IC.out HX.out).mono ?_
  rintro e w8 ⟨ic, sc, rfl, hI, hgr⟩
  replace HX := Lib.hid (HX.out.beyond (S.bare IC.out) hgr)
  replace IA := Lib.hid (S.keep IA.out (grown_at hgr (S.lt IA.out) (by omega)))
  replace IB := Lib.hid (S.keep IB.out (grown_at hgr (S.lt IB.out) (by omega)))
  replace HB := Lib.hid (HB.out.grown hgr HB.out.size (fun k hk => by have := Option.some.inj hk; omega))
  replace IC := Lib.hid hI
  clear hI hgr
  cases oa with
  | true =>
    obtain rfl := HAB.out rfl
    cases oc with
    | true =>
      have hpl : pc ≤ l := (HC.out (by trivial)).2 (by trivial)
      have hplz : (pc : Int) ≤ (l : Int) := by omega
      have hfd : ∀ w9 : World, (Instr.field 28 (.agg #[.int .i64 ((sc : Nat) : Int), .int .i64 ((pc : Nat) : Int)]) 1).run Try.prog w9 = .ok (.int .i64 ((pc : Nat) : Int)) w9 := fun _ => by kernel_rfl
      go_wp2_with fail
      refine (HTL _ gc sc IC.out).mono ?_
      rintro e w9 ⟨rfl, b⟩
      replace IA := Lib.hid (S.keep IA.out (b.block _ (S.lt IA.out)))
      replace HB := Lib.hid (below_then HB.out b)
      clear b
      go_wp2_with fail
      refine (HOV _ ga sa false (decide_eq_false (HA1.out (by trivial))) IA.out).mono ?_
      rintro e w10 ⟨rfl, b⟩
      replace HB := Lib.hid (below_then HB.out b)
      clear b
      go_wp2_with fail
      refine (law13_works S FS _).mono ?_
      rintro e w11 ⟨rfl, b⟩
      replace HB := Lib.hid (below_then HB.out b)
      clear b
      go_wp2
      go_ret
      exact ⟨rfl, HB.out⟩
    | false =>
      go_wp2_with fail
      refine (HOV _ ga sa false (decide_eq_false (HA1.out (by trivial))) IA.out).mono ?_
      rintro e w10 ⟨rfl, b⟩
      replace HB := Lib.hid (below_then HB.out b)
      clear b
      go_wp2_with fail
      refine (law13_works S FS _).mono ?_
      rintro e w11 ⟨rfl, b⟩
      replace HB := Lib.hid (below_then HB.out b)
      clear b
      go_wp2
      go_ret
      exact ⟨rfl, HB.out⟩
  | false =>
    cases ob with
    | true =>
      cases oc with
      | true =>
        have hpl : ¬ pc ≤ l := fun h9 => absurd ((HC.out (by trivial)).1 h9) (by simp)
        have hplz : ¬ (pc : Int) ≤ (l : Int) := by omega
        have hfd : ∀ w9 : World, (Instr.field 28 (.agg #[.int .i64 ((sc : Nat) : Int), .int .i64 ((pc : Nat) : Int)]) 1).run Try.prog w9 = .ok (.int .i64 ((pc : Nat) : Int)) w9 := fun _ => by kernel_rfl
        go_wp2_with fail
        refine (HTL _ gc sc IC.out).mono ?_
        rintro e w9 ⟨rfl, b⟩
        replace IA := Lib.hid (S.keep IA.out (b.block _ (S.lt IA.out)))
        replace HB := Lib.hid (below_then HB.out b)
        clear b
        go_wp2_with fail
        refine (HOV _ ga sa true (decide_eq_true (HA2.out (by trivial))) IA.out).mono ?_
        rintro e w10 ⟨rfl, b⟩
        replace HB := Lib.hid (below_then HB.out b)
        clear b
        go_wp2_with fail
        refine (law13_works S FS _).mono ?_
        rintro e w11 ⟨rfl, b⟩
        replace HB := Lib.hid (below_then HB.out b)
        clear b
        go_wp2
        go_ret
        exact ⟨rfl, HB.out⟩
      | false =>
        go_wp2_with fail
        refine (HOV _ ga sa true (decide_eq_true (HA2.out (by trivial))) IA.out).mono ?_
        rintro e w10 ⟨rfl, b⟩
        replace HB := Lib.hid (below_then HB.out b)
        clear b
        go_wp2_with fail
        refine (law13_works S FS _).mono ?_
        rintro e w11 ⟨rfl, b⟩
        replace HB := Lib.hid (below_then HB.out b)
        clear b
        go_wp2
        go_ret
        exact ⟨rfl, HB.out⟩
    | false =>
      cases oc with
      | true =>
        have hpl : ¬ pc ≤ l := fun h9 => absurd ((HC.out (by trivial)).1 h9) (by simp)
        have hplz : ¬ (pc : Int) ≤ (l : Int) := by omega
        have hfd : ∀ w9 : World, (Instr.field 28 (.agg #[.int .i64 ((sc : Nat) : Int), .int .i64 ((pc : Nat) : Int)]) 1).run Try.prog w9 = .ok (.int .i64 ((pc : Nat) : Int)) w9 := fun _ => by kernel_rfl
        go_wp2_with fail
        refine (HTL _ gc sc IC.out).mono ?_
        rintro e w9 ⟨rfl, b⟩
        replace IA := Lib.hid (S.keep IA.out (b.block _ (S.lt IA.out)))
        replace HB := Lib.hid (below_then HB.out b)
        clear b
        go_wp2_with fail
        refine (HOV _ ga sa true (decide_eq_true (HA2.out (by trivial))) IA.out).mono ?_
        rintro e w10 ⟨rfl, b⟩
        replace HB := Lib.hid (below_then HB.out b)
        clear b
        go_wp2_with fail
        refine (law13_works S FS _).mono ?_
        rintro e w11 ⟨rfl, b⟩
        replace HB := Lib.hid (below_then HB.out b)
        clear b
        go_wp2
        go_ret
        exact ⟨rfl, HB.out⟩
      | false =>
        go_wp2_with fail
        refine (HOV _ ga sa true (decide_eq_true (HA2.out (by trivial))) IA.out).mono ?_
        rintro e w10 ⟨rfl, b⟩
        replace HB := Lib.hid (below_then HB.out b)
        clear b
        go_wp2_with fail
        refine (law13_works S FS _).mono ?_
        rintro e w11 ⟨rfl, b⟩
        replace HB := Lib.hid (below_then HB.out b)
        clear b
        go_wp2
        go_ret
        exact ⟨rfl, HB.out⟩
theorem law13_more {Is : World → Nat → Nat → Nat → Nat → Prop} (S : GaugeSaid Is) (FS : FracSaid) (z m : Int) (a : Option Addr) (n c : Nat) (K : List Fx) (w : World) (hz : isInt z) (hm : isInt m) (h : Fxs w a n c K) : Calls Try.prog 4 #[.int .i64 z, .int .i64 m, .slice a n c] w (Gives (.bool true) w) := by
  by_cases hb : ((n : Int) ≤ 20 ∧ thinI 200 K)
  case neg => exact law13_more_e0 S FS z m a n c K w hz hm h hb
  by_cases c1 : z < 0
  case pos => exact law13_more_e1 S FS z m a n c K w hz hm h hb c1
  by_cases c2 : m < 0
  case pos => exact law13_more_e2 S FS z m a n c K w hz hm h hb c1 c2
  by_cases c3 : 4096 < z
  case pos => exact law13_more_e3 S FS z m a n c K w hz hm h hb c1 c2 c3
  by_cases c4 : 4096 < m
  case pos => exact law13_more_e4 S FS z m a n c K w hz hm h hb c1 c2 c3 c4
  obtain ⟨l, rfl⟩ : ∃ l : Nat, z = (l : Int) := ⟨z.toNat, by omega⟩
  obtain ⟨k, rfl⟩ : ∃ k : Nat, m = (k : Int) := ⟨m.toNat, by omega⟩
  exact law13_more_main S FS l k a n c K w h hb (by omega) (by omega)
end Go.Proofs.Ytenaopppkkhmcaa
