/-
  Several texts of this claim as one, group 9.
-/
import Derived.Test.YtenaopppkkhmcaaG8
import Derived.Test.YtenaopppkkhmcaaG7
/-
  The walks of the laws of layer 13: works.
-/
namespace Go.Proofs.Ytenaopppkkhmcaa
open Go.RowKit

/-- How long a right fraction is. -/
def qsize (q : Rat) : Nat := blen q.num.natAbs + blen q.den
theorem fsize_rx (q : Rat) (a : Option Addr) (n c : Nat) (b : Option Addr) (m d : Nat) : fsize (rx q a n c b m d) = qsize q := by
  unfold fsize qsize rx
  rw [val_dg, val_dg]
theorem grown_at {w w' : World} {g k : Nat} (h : w.grownBy w' (some g)) (hk : k < w.heap.size) (hne : k ≠ g) : w'.heap[k]? = w.heap[k]? := h.block k hk (fun e => hne (Option.some.inj e))
theorem take_q {Is : World → Nat → Nat → Nat → Nat → Prop} (S : GaugeSaid Is) (w : World) (g l s p : Nat) (q : Rat) (a : Option Addr) (n c : Nat) (b : Option Addr) (m d : Nat) (z : Nat) (hI : Is w g l s p) (ha : Wd w a n c (dg q.num.natAbs)) (hb : Wd w b m d (dg q.den)) (hq : qlen q ≤ 2) (hl : l ≤ 4096) (hs : s ≤ 1000000) (hp : p ≤ 1000000) (hz : qsize q = z) :
    Calls Try.prog 16 #[ptr g, frV (zneg q.num) a n c b m d] w (fun e w' => e = .returned (.bool (decide (z ≤ l))) ∧ Is w' g l (s + 1) (max p z) ∧ w.grownBy w' (some g)) := by
  have h := S.take w g l s p (rx q a n c b m d) hI ⟨ha, hb⟩ (by have := ha.len; have := qlen_num q; show n ≤ 2000; omega) (by have := hb.len; have := qlen_den q; show m ≤ 2000; omega) hl hs hp
  rw [fsize_rx, hz] at h
  exact h
set_option maxRecDepth 4096 in
set_option maxHeartbeats 16000000 in
theorem law13_works {Is : World → Nat → Nat → Nat → Nat → Prop} (S : GaugeSaid Is) (FS : FracSaid) (w : World) : Calls Try.prog 6 #[] w (Gives (.bool true) w) := by
  obtain ⟨q1, hq1⟩ : ∃ q : Rat, ((1 : Int) : Rat) / ((2 : Int) : Rat) = q := ⟨_, rfl⟩
  obtain ⟨q2, hq2⟩ : ∃ q : Rat, ((2 : Int) : Rat) = q := ⟨_, rfl⟩
  obtain ⟨q4, hq4⟩ : ∃ q : Rat, ((4 : Int) : Rat) = q := ⟨_, rfl⟩
  have HZ1 : Hid (qsize q1 = 3 ∧ qlen q1 ≤ 2) := Lib.hid (by rw [← hq1]; exact ⟨by decide +kernel, by decide +kernel⟩)
  have HZ2 : Hid (qsize q2 = 3 ∧ qlen q2 ≤ 2) := Lib.hid (by rw [← hq2]; exact ⟨by decide +kernel, by decide +kernel⟩)
  have HZ4 : Hid (qsize q4 = 4 ∧ qlen q4 ≤ 2) := Lib.hid (by rw [← hq4]; exact ⟨by decide +kernel, by decide +kernel⟩)
  have HR : ∀ w' : World, Calls Try.prog 15 #[.int .i64 1, .int .i64 2] w' (LstQV q1 (.bool true) w') := fun w' => hq1 ▸ FS.ratio 1 2 w' (by decide) (by decide)
  have HO2 : ∀ w' : World, Calls Try.prog 17 #[.int .i64 2] w' (LstQ q2 w') := fun w' => hq2 ▸ FS.of 2 w' (by decide)
  have HO4 : ∀ w' : World, Calls Try.prog 17 #[.int .i64 4] w' (LstQ q4 w') := fun w' => hq4 ▸ FS.of 4 w' (by decide)
  have HNW : ∀ w' : World, Calls Try.prog 5 #[.int .i64 3] w' (fun e w'' => ∃ g, e = .returned (ptr g) ∧ w'.heap.size ≤ g ∧ Is w'' g 3 0 0 ∧ Below w'.heap.size w' w'') := fun w' => S.new 3 w' (by decide)
  clear hq1 hq2 hq4
  go_enter Try.func6, Try.ntmps6
  go_wp2_with fail
  refine (HNW _).mono ?_
  rintro e w1 ⟨g, rfl, hg, hI, b⟩
  have HI := Lib.hid hI
  have HB := Lib.hid b
  unfold ptr
  clear hI b
  go_wp2_with fail
  refine (HR _).mono ?_
  rintro e w2 ⟨a2, n2, c2, b2, m2, d2, rfl, h2, k2, b⟩
  have hg1 : g < w1.heap.size := S.lt HI.out
  replace HI := Lib.hid (S.keep HI.out (b.block g hg1))
  have HA0 := Lib.hid (h2.later (below_alloc w2 (.cells #[.bool (zneg q1.num), .slice a2 n2 c2, .slice b2 m2 d2] 48)))
  have HC0 := Lib.hid (k2.later (below_alloc w2 (.cells #[.bool (zneg q1.num), .slice a2 n2 c2, .slice b2 m2 d2] 48)))
  have hg2 : g < w2.heap.size := S.lt HI.out
  replace HI := Lib.hid (S.keep HI.out ((below_alloc w2 (.cells #[.bool (zneg q1.num), .slice a2 n2 c2, .slice b2 m2 d2] 48)).block g hg2))
  replace HB := Lib.hid (below_then (below_then HB.out b) (below_alloc w2 (.cells #[.bool (zneg q1.num), .slice a2 n2 c2, .slice b2 m2 d2] 48)))
  have hx := blk_new w2 #[.bool (zneg q1.num), .slice a2 n2 c2, .slice b2 m2 d2] 48
  obtain ⟨x0, x1, x2⟩ := fcells_3 hx
  unfold frV
  clear b h2 k2 hx
  go_wp2_with fail
  refine (take_q S _ g 3 0 0 q1 a2 n2 c2 b2 m2 d2 3 HI.out HA0.out HC0.out HZ1.out.2 (by decide) (by decide) (by decide) HZ1.out.1).mono ?_
  rintro e w3 ⟨rfl, hI, hgr⟩
  replace HB := Lib.hid (HB.out.grown hgr HB.out.size (fun k hk => by have := Option.some.inj hk; omega))
  replace HI := Lib.hid hI
  clear hI hgr x0 x1 x2 HA0 HC0
  rw [show decide (3 ≤ 3) = true from rfl]
  go_wp2_with fail
  refine (HO2 _).mono ?_
  rintro e w4 ⟨a4, n4, c4, b4, m4, d4, rfl, h4, k4, b⟩
  replace HI := Lib.hid (S.keep HI.out (b.block g (S.lt HI.out)))
  replace HB := Lib.hid (below_then HB.out b)
  have HA0 := Lib.hid h4
  have HC0 := Lib.hid k4
  clear b h4 k4
  go_wp2_with fail
  refine (take_q S _ g 3 (0 + 1) (max 0 3) q2 a4 n4 c4 b4 m4 d4 3 HI.out HA0.out HC0.out HZ2.out.2 (by decide) (by decide) (by decide) HZ2.out.1).mono ?_
  rintro e w5 ⟨rfl, hI, hgr⟩
  replace HB := Lib.hid (HB.out.grown hgr HB.out.size (fun k hk => by have := Option.some.inj hk; omega))
  replace HI := Lib.hid hI
  clear hI hgr HA0 HC0
  rw [show decide (3 ≤ 3) = true from rfl]
  go_wp2_with fail
  refine (HO4 _).mono ?_
  rintro e w6 ⟨a6, n6, c6, b6, m6, d6, rfl, h6, k6, b⟩
  replace HI := Lib.hid (S.keep HI.out (b.block g (S.lt HI.out)))
  replace HB := Lib.hid (below_then HB.out b)
  have HA0 := Lib.hid h6
  have HC0 := Lib.hid k6
  clear b h6 k6
  go_wp2_with fail
  refine (take_q S _ g 3 (0 + 1 + 1) (max (max 0 3) 3) q4 a6 n6 c6 b6 m6 d6 4 HI.out HA0.out HC0.out HZ4.out.2 (by decide) (by decide) (by decide) HZ4.out.1).mono ?_
  rintro e w7 ⟨rfl, hI, hgr⟩
  replace HB := Lib.hid (HB.out.grown hgr HB.out.size (fun k hk => by have := Option.some.inj hk; omega))
  replace HI : Hid (Is w7 g 3 3 4) := Lib.hid hI
  clear hI hgr HA0 HC0
  rw [show decide (4 ≤ 3) = false from rfl]
  have HTL : ∀ w' : World, Is w' g 3 3 4 → Calls Try.prog 9 #[.pointer (some ⟨g, 0, none⟩)] w' (Gives (.agg #[.int .i64 3, .int .i64 4]) w') := fun w' h => S.tells w' g 3 3 4 h
  have HOV : ∀ w' : World, Is w' g 3 3 4 → Calls Try.prog 8 #[.pointer (some ⟨g, 0, none⟩)] w' (Gives (.bool true) w') := fun w' h => S.over w' g 3 3 4 h (by decide) (by decide)
  go_wp2_with fail
  refine (HTL _ HI.out).mono ?_
  rintro e w8 ⟨rfl, b⟩
  replace HI := Lib.hid (S.keep HI.out (b.block g (S.lt HI.out)))
  replace HB := Lib.hid (below_then HB.out b)
  clear b
  go_wp2_with fail
  refine (HOV _ HI.out).mono ?_
  rintro e w9 ⟨rfl, b⟩
  replace HB := Lib.hid (below_then HB.out b)
  clear b
  go_wp2
  go_ret
  exact ⟨rfl, HB.out⟩
end Go.Proofs.Ytenaopppkkhmcaa
