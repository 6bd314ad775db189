/-
  The walks of the laws of layer 10: FigureReads.
-/
import Derived.Test.YteoeicfbaffjcaaGreatDoorG22
import Derived.Deep.RegionHeld3
namespace Go.Proofs.YteoeicfbaffjcaaGreatDoor
open Go.RowKit

set_option maxRecDepth 4096 in
set_option maxHeartbeats 16000000 in
theorem law10_reads (S : FigureSaid) (l : List UInt8) (w : World) (hT : Hid (Dec10 w)) (hl : l.length ≤ 9223372036854775807) :
    Calls Tryz.prog 4 #[.string (bs l)] w (Gives (.bool true) w) := by
  have HB : Hid (Below w.heap.size w w) := Lib.hid (Below.refl _ _)
  have hs := bs_size l
  by_cases hlt : 300 < l.length
  · have h300 : (300 : Int) < (l.length : Int) := by omega
    clear hlt
    go_enter Tryz.func4, Tryz.ntmps4
    go_wp2_with fail
    refine (law10_works S _ (Lib.hid (hT.out.later HB.out))).mono ?_
    rintro e wv1 ⟨rfl, b⟩
    replace HB := Lib.hid (below_then HB.out b)
    clear b
    go_wp2
    go_ret
    exact ⟨rfl, HB.out⟩
  · have h300 : ¬ (300 : Int) < (l.length : Int) := by omega
    obtain ⟨q, hq⟩ : ∃ q, figVal l = q := ⟨_, rfl⟩
    obtain ⟨kd, hkd⟩ : ∃ q, figKind l = q := ⟨_, rfl⟩
    obtain ⟨pl, hpl⟩ : ∃ q, figPlace l = q := ⟨_, rfl⟩
    have HR1 : ∀ w' : World, Calls Tryz.prog 15 #[.string (bs l)] w' (LstQV q (faultV kd 0 0 pl) w') := fun w' => by
      have h := S.read l w' (by omega)
      rw [hq, hkd, hpl] at h
      exact h
    have HR2 : ∀ w' : World, Calls Tryz.prog 16 #[.string (bs l)] w' (LstQVV q (.int .i64 kd) (.int .i64 pl) w') := fun w' => by
      have h := ref10_read l w' (by omega)
      rw [hq, hkd, hpl] at h
      exact h
    clear hq hkd hpl hlt
    unfold faultV at HR1
    go_enter Tryz.func4, Tryz.ntmps4
    go_wp2_with fail
    refine (HR1 _).mono ?_
    rintro e wv1 ⟨a1, n1, c1, b1, m1, d1, rfl, h1, g1, b⟩
    replace HB := Lib.hid (below_then HB.out b)
    clear b
    have R1 := Lib.hid h1
    have T1 := Lib.hid g1
    clear h1 g1
    unfold frV
    have P1 : Hid ((World.alloc wv1 (.cells #[.bool (zneg q.num), .slice a1 n1 c1, .slice b1 m1 d1] 30)).heap[wv1.heap.size]? = some (.cells #[.bool (zneg q.num), .slice a1 n1 c1, .slice b1 m1 d1] 30 (0, 0))) := Lib.hid (blk_new wv1 _ _)
    replace HB := Lib.hid (below_then HB.out (below_alloc wv1 (.cells #[.bool (zneg q.num), .slice a1 n1 c1, .slice b1 m1 d1] 30)))
    replace R1 := Lib.hid (R1.out.later (below_alloc wv1 (.cells #[.bool (zneg q.num), .slice a1 n1 c1, .slice b1 m1 d1] 30)))
    replace T1 := Lib.hid (T1.out.later (below_alloc wv1 (.cells #[.bool (zneg q.num), .slice a1 n1 c1, .slice b1 m1 d1] 30)))
    have G1 : Hid ((World.alloc (wv1.alloc (.cells #[.bool (zneg q.num), .slice a1 n1 c1, .slice b1 m1 d1] 30)) (.cells #[.int .i64 kd, .int .i64 0, .int .i64 0, .int .i64 pl] 38)).heap[wv1.heap.size + 1]? = some (.cells #[.int .i64 kd, .int .i64 0, .int .i64 0, .int .i64 pl] 38 (0, 0))) := Lib.hid (by have h := blk_new (wv1.alloc (.cells #[.bool (zneg q.num), .slice a1 n1 c1, .slice b1 m1 d1] 30)) #[.int .i64 kd, .int .i64 0, .int .i64 0, .int .i64 pl] 38; rw [blk_size] at h; exact h)
    replace HB := Lib.hid (below_then HB.out (below_alloc (wv1.alloc (.cells #[.bool (zneg q.num), .slice a1 n1 c1, .slice b1 m1 d1] 30)) (.cells #[.int .i64 kd, .int .i64 0, .int .i64 0, .int .i64 pl] 38)))
    replace P1 := Lib.hid (blk_later P1.out (below_alloc (wv1.alloc (.cells #[.bool (zneg q.num), .slice a1 n1 c1, .slice b1 m1 d1] 30)) (.cells #[.int .i64 kd, .int .i64 0, .int .i64 0, .int .i64 pl] 38)))
    replace R1 := Lib.hid (R1.out.later (below_alloc (wv1.alloc (.cells #[.bool (zneg q.num), .slice a1 n1 c1, .slice b1 m1 d1] 30)) (.cells #[.int .i64 kd, .int .i64 0, .int .i64 0, .int .i64 pl] 38)))
    replace T1 := Lib.hid (T1.out.later (below_alloc (wv1.alloc (.cells #[.bool (zneg q.num), .slice a1 n1 c1, .slice b1 m1 d1] 30)) (.cells #[.int .i64 kd, .int .i64 0, .int .i64 0, .int .i64 pl] 38)))
    obtain ⟨vk0, vk1, vk2, vk3, vk4, vk5, vk6⟩ := fcells_3_4 P1.out G1.out
    go_wp2_with fail
    refine (HR2 _).mono ?_
    rintro e wv2 ⟨a2, n2, c2, b2, m2, d2, rfl, h2, g2, b⟩
    clear vk0 vk1 vk2 vk3 vk4 vk5 vk6
    replace HB := Lib.hid (below_then HB.out b)
    replace P1 := Lib.hid (blk_later P1.out b)
    replace G1 := Lib.hid (blk_later G1.out b)
    replace R1 := Lib.hid (R1.out.later b)
    replace T1 := Lib.hid (T1.out.later b)
    clear b
    have R2 := Lib.hid h2
    have T2 := Lib.hid g2
    clear h2 g2
    unfold frV
    have N2 : Hid ((World.alloc wv2 (.cells #[.bool (zneg q.num), .slice a2 n2 c2, .slice b2 m2 d2] 24)).heap[wv2.heap.size]? = some (.cells #[.bool (zneg q.num), .slice a2 n2 c2, .slice b2 m2 d2] 24 (0, 0))) := Lib.hid (blk_new wv2 _ _)
    replace HB := Lib.hid (below_then HB.out (below_alloc wv2 (.cells #[.bool (zneg q.num), .slice a2 n2 c2, .slice b2 m2 d2] 24)))
    replace P1 := Lib.hid (blk_later P1.out (below_alloc wv2 (.cells #[.bool (zneg q.num), .slice a2 n2 c2, .slice b2 m2 d2] 24)))
    replace G1 := Lib.hid (blk_later G1.out (below_alloc wv2 (.cells #[.bool (zneg q.num), .slice a2 n2 c2, .slice b2 m2 d2] 24)))
    replace R1 := Lib.hid (R1.out.later (below_alloc wv2 (.cells #[.bool (zneg q.num), .slice a2 n2 c2, .slice b2 m2 d2] 24)))
    replace T1 := Lib.hid (T1.out.later (below_alloc wv2 (.cells #[.bool (zneg q.num), .slice a2 n2 c2, .slice b2 m2 d2] 24)))
    replace R2 := Lib.hid (R2.out.later (below_alloc wv2 (.cells #[.bool (zneg q.num), .slice a2 n2 c2, .slice b2 m2 d2] 24)))
    replace T2 := Lib.hid (T2.out.later (below_alloc wv2 (.cells #[.bool (zneg q.num), .slice a2 n2 c2, .slice b2 m2 d2] 24)))
    obtain ⟨vk0, vk1, vk2, vk3, vk4, vk5, vk6, vk7, vk8, vk9⟩ := fcells_3_4_3 P1.out G1.out N2.out
    go_wp2_with fail
    refine (law09_is_yes (zneg q.num) a1 n1 c1 b1 m1 d1 (dg q.num.natAbs) (dg q.den) a2 n2 c2 b2 m2 d2 _ R1.out T1.out R2.out T2.out).mono ?_
    rintro e wv3 ⟨rfl, b⟩
    clear vk0 vk1 vk2 vk3 vk4 vk5 vk6 vk7 vk8 vk9
    replace HB := Lib.hid (below_then HB.out b)
    replace P1 := Lib.hid (blk_later P1.out b)
    replace G1 := Lib.hid (blk_later G1.out b)
    replace N2 := Lib.hid (blk_later N2.out b)
    replace R1 := Lib.hid (R1.out.later b)
    replace T1 := Lib.hid (T1.out.later b)
    replace R2 := Lib.hid (R2.out.later b)
    replace T2 := Lib.hid (T2.out.later b)
    clear b
    obtain ⟨vk0, vk1, vk2, vk3, vk4, vk5, vk6, vk7, vk8, vk9⟩ := fcells_3_4_3 P1.out G1.out N2.out
    go_wp2_with fail
    refine (law10_works S _ (Lib.hid (hT.out.later HB.out))).mono ?_
    rintro e wv4 ⟨rfl, b⟩
    clear vk0 vk1 vk2 vk3 vk4 vk5 vk6 vk7 vk8 vk9
    replace HB := Lib.hid (below_then HB.out b)
    replace P1 := Lib.hid (blk_later P1.out b)
    replace G1 := Lib.hid (blk_later G1.out b)
    replace N2 := Lib.hid (blk_later N2.out b)
    replace R1 := Lib.hid (R1.out.later b)
    replace T1 := Lib.hid (T1.out.later b)
    replace R2 := Lib.hid (R2.out.later b)
    replace T2 := Lib.hid (T2.out.later b)
    clear b
    go_wp2
    go_ret
    exact ⟨rfl, HB.out⟩
end Go.Proofs.YteoeicfbaffjcaaGreatDoor
