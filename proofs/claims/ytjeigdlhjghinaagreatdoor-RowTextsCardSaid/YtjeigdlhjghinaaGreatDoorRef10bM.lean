/-
  The contract of the document's answer for layer 10: Read: what stands ahead is wrong; a whole number.
-/
import Derived.Test.YtjeigdlhjghinaaGreatDoorRef10M
import Derived.Test.YtjeigdlhjghinaaGreatDoorG13
import Derived.Test.YtjeigdlhjghinaaGreatDoorG15
import Derived.Deep.RegionHeld3
namespace Go.Proofs.YtjeigdlhjghinaaGreatDoor
open Go.RowKit

theorem results_row_tmps {P : Program} {fn : Func} {p u v : Tmp} {ty : TypeId} (h : fn.results = #[.cell p ty, .tmp u, .tmp v]) (tmps : Array Value) (w : World) (g : Nat) (t : TypeId) (cs : Array Value) (fr : Nat × Nat) (d : TypeDesc)
    (hp : tmps.getD p undef = .pointer (some ⟨g, 0, none⟩)) (hg : w.heap[g]? = some (.cells cs t fr))
    (hu : P.underlying ty = some d) (hd : (match d with | .struct _ | .array _ _ => true | _ => false) = true) (hi : (P.info? ty).map (·.size) = some cs.size) :
    (results fn tmps).run P w = .ok (.tuple #[.agg cs, tmps.getD u undef, tmps.getD v undef]) w := by
  have hp' : tmps[p]?.getD undef = .pointer (some ⟨g, 0, none⟩) := by simpa using hp
  simp [results, h, hp', asAddr, Result.andThen, run_loadVar_row w g t ty cs fr d hg hu hd hi]
/-- A right fraction and two more results. -/
def LstQVV (q : Rat) (v u : Value) (w : World) (e : Ending) (w' : World) : Prop :=
  ∃ (a : Option Addr) (n cap : Nat) (b : Option Addr) (m cap' : Nat), e = .returned (.tuple #[frV (zneg q.num) a n cap b m cap', v, u]) ∧ Wd w' a n cap (dg q.num.natAbs) ∧ Wd w' b m cap' (dg q.den) ∧ Below w.heap.size w w'
theorem cutAt_not {l : List UInt8} {k : Nat} (hk : k < cutAt l) (hl : k < l.length) : ¬ ((l.getD k 0).toNat = 47 ∨ (l.getD k 0).toNat = 46) := fun h => by
  have := cutAt_here (Nat.le_of_lt hk) hl h
  omega
theorem ref09_norm_one (neg : Bool) (a : Option Addr) (n cap : Nat) (la : List Nat) (w : World) (g : Nat) (hg : w.heap.size = g) (ha : Wd w a n cap la) (hn : n ≤ 1000) :
    Calls Tryz.prog 26 #[frV neg a n cap (some ⟨g, 0, none⟩) 1 1] (w.alloc (.cells #[.int .u32 1] 91)) (LstQ (mkRat (zval neg (val la)) 1) w) := by
  subst hg
  exact (ref09_norm neg a n cap la _ 1 1 [1] _ (ha.later (below_alloc _ _)) (Wd.lit1 w 91 (x := 1) (by omega)) (by omega) (by omega)).mono fun _ _ ⟨a', n', c', b', m', d', he, h1, h2, hb⟩ => ⟨a', n', c', b', m', d', he, h1, h2, below_then (below_alloc _ _) hb⟩
set_option maxRecDepth 4096 in
set_option maxHeartbeats 8000000 in
theorem ref10_head (l : List UInt8) (w : World) (hl : l.length ≤ 1000) (K : Nat) (hc : cutAt l = K) (hlt : K = l.length) (z p : Int) (hp : 0 ≤ p) (hR : ∀ w' : World, Calls Tryz.prog 112 #[.string (bs (l.take K))] w' (ReadZ z p w')) : Calls Tryz.prog 73 #[.string (bs l)] w (LstQVV ((0 : Int) : Rat) (.int .i64 1) (.int .i64 p) w) := by
  have hs0 := bs_size l
  have HR := Lib.hid (blk_new w #[.bool false, .slice none 0 0, .slice none 0 0] 44)
  have HB := Lib.hid (below_alloc w (.cells #[.bool false, .slice none 0 0, .slice none 0 0] 44))
  have e1 := bs_take l K
  have heq : ((K : Int) == (l.length : Int)) = true := by simp; omega
  have hend : ¬ (K : Int) < (l.length : Int) := by omega
  have HKL := Lib.hid hlt
  clear hlt
  have HC := Lib.hid hc
  have hkc : K ≤ l.length := by have := cutAt_le l; omega
  clear hc
  have HO : ∀ w' : World, Calls Tryz.prog 35 #[.int .i64 0] w' (LstQ ((0 : Int) : Rat) w') := fun w' => ref09_int 0 w' isInt_nought
  generalize ((0 : Int) : Rat) = q at *
  go_enter Tryz.func73, Tryz.ntmps73
  go_wp2
  generalize (w.alloc (.cells #[.bool false, .slice none 0 0, .slice none 0 0] 44)) = W at *
  go_loopw [5] (fun iv wr => ∃ k : Nat, iv = .int .i64 (k : Int) ∧ k ≤ K ∧ wr = W) (fun iv _ => K - (intOf iv).toNat)
  case atStart => exact ⟨0, by go_num, by omega, rfl⟩
  case round =>
    obtain ⟨k, rfl, hk, rfl⟩ := hrel
    by_cases hlt : k < K
    · have hki2 : (k : Int) < (l.length : Int) := by omega
      have hget := bs_get l k (by omega) (by rw [bs_size]; omega)
      have hx := cutAt_not (l := l) (k := k) (by rw [HC.out]; exact hlt) (by omega)
      obtain ⟨x, hxx⟩ : ∃ x, (l.getD k 0).toNat = x := ⟨_, rfl⟩
      rw [hxx] at hget hx
      have e47 : ((x : Int) != 47) = true := by simp; omega
      have e46 : ((x : Int) != 46) = true := by simp; omega
      clear hxx hx
      go_wp2
      go_roundw
      case rel => exact ⟨k + 1, by go_num, by omega, trivial⟩
      case measure => simp [intOf]; omega
    · obtain rfl : k = K := by omega
      clear hlt hk
      obtain ⟨vk0, vk1, vk2⟩ := fcells_3 HR.out
      go_wp2_with fail
      refine (hR _).mono ?_
      rintro e wv1 ⟨a1, n1, c1, rfl, h1, b⟩
      clear vk0 vk1 vk2
      replace HB := Lib.hid (below_then HB.out b)
      replace HR := Lib.hid (blk_later HR.out b)
      clear b
      generalize hs1 : zneg z = s1 at *
      clear hs1
      clear h1
      unfold whV
      have HN : Hid ((World.alloc wv1 (.cells #[.bool s1, .slice a1 n1 c1] 126)).heap[wv1.heap.size]? = some (.cells #[.bool s1, .slice a1 n1 c1] 126 (0, 0))) := Lib.hid (blk_new wv1 _ _)
      replace HB := Lib.hid (below_then HB.out (below_alloc wv1 (.cells #[.bool s1, .slice a1 n1 c1] 126)))
      replace HR := Lib.hid (blk_later HR.out (below_alloc wv1 (.cells #[.bool s1, .slice a1 n1 c1] 126)))
      obtain ⟨vk0, vk1, vk2⟩ := fcells_3 HR.out
      go_wp2_with fail
      refine (HO _).mono ?_
      rintro e wv2 ⟨a2, n2, c2, b2, m2, d2, rfl, h2, g2, b⟩
      clear vk0 vk1 vk2
      replace HB := Lib.hid (below_then HB.out b)
      replace HR := Lib.hid (blk_later HR.out b)
      clear b
      have R2 := Lib.hid h2
      have T2 := Lib.hid g2
      clear h2 g2
      unfold frV
      have q0 := blk_cell HR.out 0
      have q1 := blk_cell HR.out 1
      have q2 := blk_cell HR.out 2
      simp only [List.getElem?_toArray, List.getElem?_cons_zero, List.getElem?_cons_succ] at q0 q1 q2
      have f0 := blk_free HR.out 0
      have f1 := blk_free HR.out 1
      have f2 := blk_free HR.out 2
      replace R2 := Lib.hid (R2.out.stored3 HR.out ((zneg q.num)) a2 n2 c2 (.slice b2 m2 d2))
      replace T2 := Lib.hid (T2.out.stored3 HR.out ((zneg q.num)) a2 n2 c2 (.slice b2 m2 d2))
      replace HB := Lib.hid (below_set3 HB.out (show w.heap.size ≤ w.heap.size by omega) (.bool (zneg q.num)) (.slice a2 n2 c2) (.slice b2 m2 d2))
      replace HR := Lib.hid (blk_set3 HR.out (.bool (zneg q.num)) (.slice a2 n2 c2) (.slice b2 m2 d2))
      go_wp2
      refine bodyPost_ret (results_row_tmps Tryz.results73 _ _ (w.heap.size) 44 #[.bool (zneg q.num), .slice a2 n2 c2, .slice b2 m2 d2] (0, 0) _ rfl HR.out Tryz.underlying44 rfl (by kernel_rfl)) rfl ?_
      exact ⟨a2, n2, c2, b2, m2, d2, rfl, R2.out, T2.out, HB.out⟩
set_option maxRecDepth 4096 in
set_option maxHeartbeats 8000000 in
theorem ref10_head_47 (l : List UInt8) (w : World) (hl : l.length ≤ 1000) (K : Nat) (hc : cutAt l = K) (hlt : K < l.length) (hx : (l.getD K 0).toNat = 47) (z p : Int) (hp : 0 ≤ p) (hR : ∀ w' : World, Calls Tryz.prog 112 #[.string (bs (l.take K))] w' (ReadZ z p w')) : Calls Tryz.prog 73 #[.string (bs l)] w (LstQVV ((0 : Int) : Rat) (.int .i64 1) (.int .i64 p) w) := by
  have hs0 := bs_size l
  have HR := Lib.hid (blk_new w #[.bool false, .slice none 0 0, .slice none 0 0] 44)
  have HB := Lib.hid (below_alloc w (.cells #[.bool false, .slice none 0 0, .slice none 0 0] 44))
  have e1 := bs_take l K
  obtain ⟨j, hj⟩ : ∃ j, K + 1 = j := ⟨_, rfl⟩
  have e2 := bs_drop l j
  have hkj : (K : Int) + 1 = (j : Int) := by omega
  have hjl : (j : Int) ≤ (l.length : Int) := by omega
  have hne : ((K : Int) == (l.length : Int)) = false := by simp; omega
  have hki : (K : Int) < (l.length : Int) := by omega
  have HC := Lib.hid hc
  have hkc : K ≤ l.length := by have := cutAt_le l; omega
  clear hc hj
  have hgetk := bs_get l K hlt (by rw [bs_size]; exact hlt)
  rw [hx] at hgetk
  have HO : ∀ w' : World, Calls Tryz.prog 35 #[.int .i64 0] w' (LstQ ((0 : Int) : Rat) w') := fun w' => ref09_int 0 w' isInt_nought
  generalize ((0 : Int) : Rat) = q at *
  clear hx
  go_enter Tryz.func73, Tryz.ntmps73
  go_wp2
  generalize (w.alloc (.cells #[.bool false, .slice none 0 0, .slice none 0 0] 44)) = W at *
  go_loopw [5] (fun iv wr => ∃ k : Nat, iv = .int .i64 (k : Int) ∧ k ≤ K ∧ wr = W) (fun iv _ => K - (intOf iv).toNat)
  case atStart => exact ⟨0, by go_num, by omega, rfl⟩
  case round =>
    obtain ⟨k, rfl, hk, rfl⟩ := hrel
    by_cases hlt : k < K
    · have hki2 : (k : Int) < (l.length : Int) := by omega
      have hget := bs_get l k (by omega) (by rw [bs_size]; omega)
      have hx := cutAt_not (l := l) (k := k) (by rw [HC.out]; exact hlt) (by omega)
      obtain ⟨x, hxx⟩ : ∃ x, (l.getD k 0).toNat = x := ⟨_, rfl⟩
      rw [hxx] at hget hx
      have e47 : ((x : Int) != 47) = true := by simp; omega
      have e46 : ((x : Int) != 46) = true := by simp; omega
      clear hxx hx
      go_wp2
      go_roundw
      case rel => exact ⟨k + 1, by go_num, by omega, trivial⟩
      case measure => simp [intOf]; omega
    · obtain rfl : k = K := by omega
      clear hlt hk
      obtain ⟨vk0, vk1, vk2⟩ := fcells_3 HR.out
      go_wp2_with fail
      refine (hR _).mono ?_
      rintro e wv1 ⟨a1, n1, c1, rfl, h1, b⟩
      clear vk0 vk1 vk2
      replace HB := Lib.hid (below_then HB.out b)
      replace HR := Lib.hid (blk_later HR.out b)
      clear b
      generalize hs1 : zneg z = s1 at *
      clear hs1
      clear h1
      unfold whV
      have HN : Hid ((World.alloc wv1 (.cells #[.bool s1, .slice a1 n1 c1] 126)).heap[wv1.heap.size]? = some (.cells #[.bool s1, .slice a1 n1 c1] 126 (0, 0))) := Lib.hid (blk_new wv1 _ _)
      replace HB := Lib.hid (below_then HB.out (below_alloc wv1 (.cells #[.bool s1, .slice a1 n1 c1] 126)))
      replace HR := Lib.hid (blk_later HR.out (below_alloc wv1 (.cells #[.bool s1, .slice a1 n1 c1] 126)))
      obtain ⟨vk0, vk1, vk2⟩ := fcells_3 HR.out
      go_wp2_with fail
      refine (HO _).mono ?_
      rintro e wv2 ⟨a2, n2, c2, b2, m2, d2, rfl, h2, g2, b⟩
      clear vk0 vk1 vk2
      replace HB := Lib.hid (below_then HB.out b)
      replace HR := Lib.hid (blk_later HR.out b)
      clear b
      have R2 := Lib.hid h2
      have T2 := Lib.hid g2
      clear h2 g2
      unfold frV
      have q0 := blk_cell HR.out 0
      have q1 := blk_cell HR.out 1
      have q2 := blk_cell HR.out 2
      simp only [List.getElem?_toArray, List.getElem?_cons_zero, List.getElem?_cons_succ] at q0 q1 q2
      have f0 := blk_free HR.out 0
      have f1 := blk_free HR.out 1
      have f2 := blk_free HR.out 2
      replace R2 := Lib.hid (R2.out.stored3 HR.out ((zneg q.num)) a2 n2 c2 (.slice b2 m2 d2))
      replace T2 := Lib.hid (T2.out.stored3 HR.out ((zneg q.num)) a2 n2 c2 (.slice b2 m2 d2))
      replace HB := Lib.hid (below_set3 HB.out (show w.heap.size ≤ w.heap.size by omega) (.bool (zneg q.num)) (.slice a2 n2 c2) (.slice b2 m2 d2))
      replace HR := Lib.hid (blk_set3 HR.out (.bool (zneg q.num)) (.slice a2 n2 c2) (.slice b2 m2 d2))
      go_wp2
      refine bodyPost_ret (results_row_tmps Tryz.results73 _ _ (w.heap.size) 44 #[.bool (zneg q.num), .slice a2 n2 c2, .slice b2 m2 d2] (0, 0) _ rfl HR.out Tryz.underlying44 rfl (by kernel_rfl)) rfl ?_
      exact ⟨a2, n2, c2, b2, m2, d2, rfl, R2.out, T2.out, HB.out⟩
set_option maxRecDepth 4096 in
set_option maxHeartbeats 8000000 in
theorem ref10_head_46 (l : List UInt8) (w : World) (hl : l.length ≤ 1000) (K : Nat) (hc : cutAt l = K) (hlt : K < l.length) (hx : (l.getD K 0).toNat = 46) (z p : Int) (hp : 0 ≤ p) (hR : ∀ w' : World, Calls Tryz.prog 112 #[.string (bs (l.take K))] w' (ReadZ z p w')) : Calls Tryz.prog 73 #[.string (bs l)] w (LstQVV ((0 : Int) : Rat) (.int .i64 1) (.int .i64 p) w) := by
  have hs0 := bs_size l
  have HR := Lib.hid (blk_new w #[.bool false, .slice none 0 0, .slice none 0 0] 44)
  have HB := Lib.hid (below_alloc w (.cells #[.bool false, .slice none 0 0, .slice none 0 0] 44))
  have e1 := bs_take l K
  obtain ⟨j, hj⟩ : ∃ j, K + 1 = j := ⟨_, rfl⟩
  have e2 := bs_drop l j
  have hkj : (K : Int) + 1 = (j : Int) := by omega
  have hjl : (j : Int) ≤ (l.length : Int) := by omega
  have hne : ((K : Int) == (l.length : Int)) = false := by simp; omega
  have hki : (K : Int) < (l.length : Int) := by omega
  have HC := Lib.hid hc
  have hkc : K ≤ l.length := by have := cutAt_le l; omega
  clear hc hj
  have hgetk := bs_get l K hlt (by rw [bs_size]; exact hlt)
  rw [hx] at hgetk
  have HO : ∀ w' : World, Calls Tryz.prog 35 #[.int .i64 0] w' (LstQ ((0 : Int) : Rat) w') := fun w' => ref09_int 0 w' isInt_nought
  generalize ((0 : Int) : Rat) = q at *
  clear hx
  go_enter Tryz.func73, Tryz.ntmps73
  go_wp2
  generalize (w.alloc (.cells #[.bool false, .slice none 0 0, .slice none 0 0] 44)) = W at *
  go_loopw [5] (fun iv wr => ∃ k : Nat, iv = .int .i64 (k : Int) ∧ k ≤ K ∧ wr = W) (fun iv _ => K - (intOf iv).toNat)
  case atStart => exact ⟨0, by go_num, by omega, rfl⟩
  case round =>
    obtain ⟨k, rfl, hk, rfl⟩ := hrel
    by_cases hlt : k < K
    · have hki2 : (k : Int) < (l.length : Int) := by omega
      have hget := bs_get l k (by omega) (by rw [bs_size]; omega)
      have hx := cutAt_not (l := l) (k := k) (by rw [HC.out]; exact hlt) (by omega)
      obtain ⟨x, hxx⟩ : ∃ x, (l.getD k 0).toNat = x := ⟨_, rfl⟩
      rw [hxx] at hget hx
      have e47 : ((x : Int) != 47) = true := by simp; omega
      have e46 : ((x : Int) != 46) = true := by simp; omega
      clear hxx hx
      go_wp2
      go_roundw
      case rel => exact ⟨k + 1, by go_num, by omega, trivial⟩
      case measure => simp [intOf]; omega
    · obtain rfl : k = K := by omega
      clear hlt hk
      obtain ⟨vk0, vk1, vk2⟩ := fcells_3 HR.out
      go_wp2_with fail
      refine (hR _).mono ?_
      rintro e wv1 ⟨a1, n1, c1, rfl, h1, b⟩
      clear vk0 vk1 vk2
      replace HB := Lib.hid (below_then HB.out b)
      replace HR := Lib.hid (blk_later HR.out b)
      clear b
      generalize hs1 : zneg z = s1 at *
      clear hs1
      clear h1
      unfold whV
      have HN : Hid ((World.alloc wv1 (.cells #[.bool s1, .slice a1 n1 c1] 126)).heap[wv1.heap.size]? = some (.cells #[.bool s1, .slice a1 n1 c1] 126 (0, 0))) := Lib.hid (blk_new wv1 _ _)
      replace HB := Lib.hid (below_then HB.out (below_alloc wv1 (.cells #[.bool s1, .slice a1 n1 c1] 126)))
      replace HR := Lib.hid (blk_later HR.out (below_alloc wv1 (.cells #[.bool s1, .slice a1 n1 c1] 126)))
      obtain ⟨vk0, vk1, vk2⟩ := fcells_3 HR.out
      go_wp2_with fail
      refine (HO _).mono ?_
      rintro e wv2 ⟨a2, n2, c2, b2, m2, d2, rfl, h2, g2, b⟩
      clear vk0 vk1 vk2
      replace HB := Lib.hid (below_then HB.out b)
      replace HR := Lib.hid (blk_later HR.out b)
      clear b
      have R2 := Lib.hid h2
      have T2 := Lib.hid g2
      clear h2 g2
      unfold frV
      have q0 := blk_cell HR.out 0
      have q1 := blk_cell HR.out 1
      have q2 := blk_cell HR.out 2
      simp only [List.getElem?_toArray, List.getElem?_cons_zero, List.getElem?_cons_succ] at q0 q1 q2
      have f0 := blk_free HR.out 0
      have f1 := blk_free HR.out 1
      have f2 := blk_free HR.out 2
      replace R2 := Lib.hid (R2.out.stored3 HR.out ((zneg q.num)) a2 n2 c2 (.slice b2 m2 d2))
      replace T2 := Lib.hid (T2.out.stored3 HR.out ((zneg q.num)) a2 n2 c2 (.slice b2 m2 d2))
      replace HB := Lib.hid (below_set3 HB.out (show w.heap.size ≤ w.heap.size by omega) (.bool (zneg q.num)) (.slice a2 n2 c2) (.slice b2 m2 d2))
      replace HR := Lib.hid (blk_set3 HR.out (.bool (zneg q.num)) (.slice a2 n2 c2) (.slice b2 m2 d2))
      go_wp2
      refine bodyPost_ret (results_row_tmps Tryz.results73 _ _ (w.heap.size) 44 #[.bool (zneg q.num), .slice a2 n2 c2, .slice b2 m2 d2] (0, 0) _ rfl HR.out Tryz.underlying44 rfl (by kernel_rfl)) rfl ?_
      exact ⟨a2, n2, c2, b2, m2, d2, rfl, R2.out, T2.out, HB.out⟩
set_option maxRecDepth 4096 in
set_option maxHeartbeats 8000000 in
theorem ref10_whole (l : List UInt8) (w : World) (hl : l.length ≤ 1000) (K : Nat) (hc : cutAt l = K) (hlt : K = l.length) (z : Int) (hz : (dg z.natAbs).length ≤ 20) (hR : ∀ w' : World, Calls Tryz.prog 112 #[.string (bs (l.take K))] w' (ReadZ z (-1) w')) : Calls Tryz.prog 73 #[.string (bs l)] w (LstQVV ((z : Int) : Rat) (.int .i64 0) (.int .i64 0) w) := by
  have hs0 := bs_size l
  have HR := Lib.hid (blk_new w #[.bool false, .slice none 0 0, .slice none 0 0] 44)
  have HB := Lib.hid (below_alloc w (.cells #[.bool false, .slice none 0 0, .slice none 0 0] 44))
  have e1 := bs_take l K
  have heq : ((K : Int) == (l.length : Int)) = true := by simp; omega
  have hend : ¬ (K : Int) < (l.length : Int) := by omega
  have HKL := Lib.hid hlt
  clear hlt
  have HC := Lib.hid hc
  have hkc : K ≤ l.length := by have := cutAt_le l; omega
  clear hc
  have HQ : Hid (mkRat (zval (zneg z) (val (dg z.natAbs))) 1 = (z : Rat)) := Lib.hid (by rw [val_dg, zval_of, Rat.mkRat_one])
  generalize (z : Rat) = q at *
  go_enter Tryz.func73, Tryz.ntmps73
  go_wp2
  generalize (w.alloc (.cells #[.bool false, .slice none 0 0, .slice none 0 0] 44)) = W at *
  go_loopw [5] (fun iv wr => ∃ k : Nat, iv = .int .i64 (k : Int) ∧ k ≤ K ∧ wr = W) (fun iv _ => K - (intOf iv).toNat)
  case atStart => exact ⟨0, by go_num, by omega, rfl⟩
  case round =>
    obtain ⟨k, rfl, hk, rfl⟩ := hrel
    by_cases hlt : k < K
    · have hki2 : (k : Int) < (l.length : Int) := by omega
      have hget := bs_get l k (by omega) (by rw [bs_size]; omega)
      have hx := cutAt_not (l := l) (k := k) (by rw [HC.out]; exact hlt) (by omega)
      obtain ⟨x, hxx⟩ : ∃ x, (l.getD k 0).toNat = x := ⟨_, rfl⟩
      rw [hxx] at hget hx
      have e47 : ((x : Int) != 47) = true := by simp; omega
      have e46 : ((x : Int) != 46) = true := by simp; omega
      clear hxx hx
      go_wp2
      go_roundw
      case rel => exact ⟨k + 1, by go_num, by omega, trivial⟩
      case measure => simp [intOf]; omega
    · obtain rfl : k = K := by omega
      clear hlt hk
      obtain ⟨vk0, vk1, vk2⟩ := fcells_3 HR.out
      go_wp2_with fail
      refine (hR _).mono ?_
      rintro e wv1 ⟨a1, n1, c1, rfl, h1, b⟩
      clear vk0 vk1 vk2
      replace HB := Lib.hid (below_then HB.out b)
      replace HR := Lib.hid (blk_later HR.out b)
      clear b
      have ln1 := h1.len
      have R1 := Lib.hid h1
      clear h1
      unfold whV
      have HN : Hid ((World.alloc wv1 (.cells #[.bool (zneg z), .slice a1 n1 c1] 126)).heap[wv1.heap.size]? = some (.cells #[.bool (zneg z), .slice a1 n1 c1] 126 (0, 0))) := Lib.hid (blk_new wv1 _ _)
      replace HB := Lib.hid (below_then HB.out (below_alloc wv1 (.cells #[.bool (zneg z), .slice a1 n1 c1] 126)))
      replace HR := Lib.hid (blk_later HR.out (below_alloc wv1 (.cells #[.bool (zneg z), .slice a1 n1 c1] 126)))
      replace R1 := Lib.hid (R1.out.later (below_alloc wv1 (.cells #[.bool (zneg z), .slice a1 n1 c1] 126)))
      obtain ⟨vk0, vk1, vk2, vk3, vk4⟩ := fcells_3_2 HR.out HN.out
      go_wp2_with fail
      refine (ref09_norm_one (zneg z) a1 n1 c1 _ _ (wv1.heap.size + 1) (blk_size _ _) R1.out (by omega)).mono ?_
      rintro e wv2 ⟨a2, n2, c2, b2, m2, d2, rfl, h2, g2, b⟩
      clear vk0 vk1 vk2 vk3 vk4
      replace HB := Lib.hid (below_then HB.out b)
      replace HR := Lib.hid (blk_later HR.out b)
      replace HN := Lib.hid (blk_later HN.out b)
      clear R1
      clear b
      rw [HQ.out] at h2 g2 ⊢
      have R2 := Lib.hid h2
      have T2 := Lib.hid g2
      clear h2 g2
      unfold frV
      have q0 := blk_cell HR.out 0
      have q1 := blk_cell HR.out 1
      have q2 := blk_cell HR.out 2
      simp only [List.getElem?_toArray, List.getElem?_cons_zero, List.getElem?_cons_succ] at q0 q1 q2
      have f0 := blk_free HR.out 0
      have f1 := blk_free HR.out 1
      have f2 := blk_free HR.out 2
      replace R2 := Lib.hid (R2.out.stored3 HR.out ((zneg q.num)) a2 n2 c2 (.slice b2 m2 d2))
      replace T2 := Lib.hid (T2.out.stored3 HR.out ((zneg q.num)) a2 n2 c2 (.slice b2 m2 d2))
      replace HB := Lib.hid (below_set3 HB.out (show w.heap.size ≤ w.heap.size by omega) (.bool (zneg q.num)) (.slice a2 n2 c2) (.slice b2 m2 d2))
      replace HR := Lib.hid (blk_set3 HR.out (.bool (zneg q.num)) (.slice a2 n2 c2) (.slice b2 m2 d2))
      go_wp2
      refine bodyPost_ret (results_row_tmps Tryz.results73 _ _ (w.heap.size) 44 #[.bool (zneg q.num), .slice a2 n2 c2, .slice b2 m2 d2] (0, 0) _ rfl HR.out Tryz.underlying44 rfl (by kernel_rfl)) rfl ?_
      exact ⟨a2, n2, c2, b2, m2, d2, rfl, R2.out, T2.out, HB.out⟩
end Go.Proofs.YtjeigdlhjghinaaGreatDoor
