/-
  Several texts of this claim as one, group 20.
-/
import Derived.Test.YtjeigdlhjghinaaGreatDoorG19
import Derived.Deep.RegionHeld3
/-
  Package row at this seat: total.
-/
namespace Go.Proofs.YtjeigdlhjghinaaGreatDoor
open Go.RowKit

def rsum : List Rat → Rat
  | [] => 0
  | q :: l => q + rsum l
theorem rsum_append : ∀ l m : List Rat, rsum (l ++ m) = rsum l + rsum m
  | [], m => by
    show rsum m = 0 + rsum m
    grind
  | q :: l, m => by
    show q + rsum (l ++ m) = (q + rsum l) + rsum m
    rw [rsum_append l m]; grind
theorem qlen_rsum {K : Nat} : ∀ {l : List Rat}, (∀ q ∈ l, qlen q ≤ K) → qlen (rsum l) ≤ 1 + l.length * (K + 2)
  | [], _ => by
    show qlen 0 ≤ 1 + 0 * (K + 2)
    rw [qlen_nought]; omega
  | q :: l, h => by
    have h1 := qlen_rsum (l := l) (fun x hx => h x (List.mem_cons_of_mem _ hx))
    have h2 := h q (List.mem_cons_self ..)
    have h3 := qlen_add q (rsum l)
    have h4 : (q :: l).length * (K + 2) = l.length * (K + 2) + (K + 2) := by rw [List.length_cons, Nat.add_mul, Nat.one_mul]
    show qlen (q + rsum l) ≤ _
    omega
theorem Fxs.take {w : World} {a : Option Addr} {n cap : Nat} {L : List Fx} (h : Fxs w a n cap L) {k : Nat} (hk : k ≤ n) : Fxs w a k cap (L.take k) := by
  obtain ⟨h1, h2, h3, h4, h6, h5⟩ := h
  refine ⟨by rw [List.length_take]; omega, by omega, h3, h4, fun x hx => h6 x (List.mem_of_mem_take hx), ?_⟩
  rcases h5 with h0 | ⟨b, off, e, hc⟩
  · exact .inl (by omega)
  · refine .inr ⟨b, off, e, fun j hj => ?_⟩
    have h7 := hc j (by omega)
    have e2 : (L.take k).getD j Fx.zero = L.getD j Fx.zero := by
      rw [List.getD_eq_getElem?_getD, List.getElem?_take, if_pos hj, ← List.getD_eq_getElem?_getD]
    rw [e2]
    exact h7
theorem Fxs.drop {w : World} {b off m cap q : Nat} {L : List Fx} (h : Fxs w (some ⟨b, off, none⟩) (q + m) cap L) : Fxs w (some ⟨b, off + q * 3, none⟩) m (cap - q) (L.drop q) := by
  have h1 := h.bound
  have h2 := h.len
  refine ⟨by rw [List.length_drop]; omega, by omega, by omega, fun e => (by cases e), fun x hx => h.ok (List.mem_of_mem_drop hx), ?_⟩
  rcases h.2.2.2.2.2 with h0 | ⟨b', off', e, hc⟩
  · exact .inl (by omega)
  · simp only [Option.some.injEq, Addr.mk.injEq, and_true] at e
    obtain ⟨rfl, rfl⟩ := e
    refine .inr ⟨b, off + q * 3, rfl, fun j hj => ?_⟩
    have h7 := hc (q + j) (by omega)
    have e2 : (L.drop q).getD j Fx.zero = L.getD (q + j) Fx.zero := by
      rw [List.getD_eq_getElem?_getD, List.getElem?_drop, ← List.getD_eq_getElem?_getD]
    have e3 : off + q * 3 + j * 3 = off + (q + j) * 3 := by omega
    rw [e2, e3]
    exact h7
theorem thin.qs {N : Nat} {L : List Fx} {w : World} (h : thin N L) (hok : ∀ x ∈ L, x.ok w) : ∀ q ∈ fqs L, qlen q ≤ N + 1 := fun q hq => by
  obtain ⟨x, hx, rfl⟩ := List.mem_map.1 hq
  exact ((hok x hx).fr (h x hx).1 (h x hx).2).len
theorem Fxs.oks {w : World} {a : Option Addr} {n cap : Nat} {L : List Fx} (h : Fxs w a n cap L) : ∀ x ∈ L, x.ok w := h.2.2.2.2.1
/-- What total hands back: a fraction of the sum's value; a right one, but where it is the row's only one. -/
def LstT (L : List Fx) (w : World) (e : Ending) (w' : World) : Prop := ∃ (s : Bool) (a : Option Addr) (n c : Nat) (la : List Nat) (b : Option Addr) (m d : Nat) (lb : List Nat), e = .returned (frV s a n c b m d) ∧ Wd w' a n c la ∧ Wd w' b m d lb ∧ qval s (val la) (val lb) = rsum (fqs L) ∧
  ((⟨s, a, n, c, la, b, m, d, lb⟩ : Fx) ∈ L ∨ (⟨s, a, n, c, la, b, m, d, lb⟩ : Fx).right) ∧ (L.length ≠ 1 → (⟨s, a, n, c, la, b, m, d, lb⟩ : Fx).right) ∧ Below w.heap.size w w'
theorem right_len {w : World} {x : Fx} (h : x.ok w) (hr : x.right) {K : Nat} (hK : qlen x.q ≤ K) : x.n ≤ K ∧ x.m ≤ K := by
  obtain ⟨h1, h2⟩ := h
  obtain ⟨-, h4, h5⟩ := hr
  have e1 := h1.len
  have e2 := h2.len
  rw [h4] at e1
  rw [h5] at e2
  have := qlen_num x.q
  have := qlen_den x.q
  omega
theorem lstT_bound {w : World} {x : Fx} {L : List Fx} {N : Nat} (hx : x.ok w) (hq : x.q = rsum (fqs L)) (hm : x ∈ L ∨ x.right) (ht : thin N L) (hl : qlen (rsum (fqs L)) ≤ 2000) (hN : N ≤ 2000) : x.n ≤ 2000 ∧ x.m ≤ 2000 := by
  rcases hm with hm | hm
  · have := ht x hm
    omega
  · exact right_len hx hm (by rw [hq]; exact hl)
set_option maxRecDepth 4096 in
set_option maxHeartbeats 4000000 in
theorem row_total (n : Nat) : ∀ (a : Option Addr) (cap : Nat) (L : List Fx) (N : Nat) (w : World), Fxs w a n cap L → thin N L → 1 + n * (N + 3) ≤ 2000 → N ≤ 2000 → Calls Tryz.prog 62 #[.slice a n cap] w (LstT L w) := by
  induction n using Nat.strongRecOn with
  | _ n ih =>
  intro a cap L N w h ht hb hN
  obtain ⟨hb1, hb2⟩ := h.bound
  have HQ : Hid (qlen (rsum (fqs L)) ≤ 2000) := Lib.hid (by
    have h1 := qlen_rsum (ht.qs h.oks)
    rw [fqs_length, h.len] at h1
    exact Nat.le_trans h1 hb)
  have HTh := Lib.hid ht
  have HBd := Lib.hid hb
  have HB := Lib.hid (below_alloc w (.cells #[.bool false, .slice none 0 0, .slice none 0 0] 41))
  have HR := Lib.hid (blk_new w #[.bool false, .slice none 0 0, .slice none 0 0] 41)
  have HKw := Lib.hid h
  have HK := Lib.hid (h.later HB.out)
  have HLl := Lib.hid h.len
  clear h ht hb
  by_cases h0 : n = 0
  · subst h0
    have hQ0 : ((0 : Int) : Rat) = rsum (fqs L) := by rw [List.eq_nil_of_length_eq_zero HLl.out]; rfl
    obtain ⟨q, htq⟩ : ∃ q, rsum (fqs L) = q := ⟨_, rfl⟩
    have HTQ := Lib.hid htq
    have HQ0 : Hid (((0 : Int) : Rat) = q) := Lib.hid (hQ0.trans htq)
    clear ih HK HQ HKw hQ0 htq
    go_enter Tryz.func62, Tryz.ntmps62
    obtain ⟨vk0, vk1, vk2⟩ := fcells_3 HR.out
    go_wp2_with fail
    refine (frac_of 0 _ isInt_nought).mono ?_
    rintro e wv1 ⟨a1, n1, c1, b1, m1, d1, rfl, h1, g1, b⟩
    clear vk0 vk1 vk2
    replace HB := Lib.hid (below_then HB.out b)
    replace HR := Lib.hid (blk_later HR.out b)
    clear b
    rw [HQ0.out] at h1 g1 ⊢
    have R1 := Lib.hid h1
    have T1 := Lib.hid g1
    clear h1 g1
    unfold frV
    have q0 := blk_cell HR.out 0
    have q1 := blk_cell HR.out 1
    have q2 := blk_cell HR.out 2
    simp only [List.getElem?_toArray, List.getElem?_cons_zero, List.getElem?_cons_succ] at q0 q1 q2
    have f0 := blk_free HR.out 0
    have f1 := blk_free HR.out 1
    have f2 := blk_free HR.out 2
    replace R1 := Lib.hid (R1.out.stored3 HR.out ((zneg q.num)) a1 n1 c1 (.slice b1 m1 d1))
    replace T1 := Lib.hid (T1.out.stored3 HR.out ((zneg q.num)) a1 n1 c1 (.slice b1 m1 d1))
    replace HB := Lib.hid (below_set3 HB.out (show w.heap.size ≤ w.heap.size by omega) (.bool (zneg q.num)) (.slice a1 n1 c1) (.slice b1 m1 d1))
    replace HR := Lib.hid (blk_set3 HR.out (.bool (zneg q.num)) (.slice a1 n1 c1) (.slice b1 m1 d1))
    go_wp2
    refine bodyPost_ret (results_cell_row Tryz.results62 _ _ (w.heap.size) 41 #[.bool (zneg q.num), .slice a1 n1 c1, .slice b1 m1 d1] (0, 0) _ rfl HR.out Tryz.underlying41 rfl (by kernel_rfl)) rfl ?_
    exact ⟨_, a1, n1, c1, _, b1, m1, d1, _, rfl, R1.out, T1.out, (qval_dg q).trans HTQ.out.symm, .inr (rx_right q a1 n1 c1 b1 m1 d1), fun _ => rx_right q a1 n1 c1 b1 m1 d1, HB.out⟩
  · by_cases h1 : n = 1
    · subst h1
      obtain ⟨bb, off, rfl, e0, e1, e2, hok⟩ := HK.out.at (j := 0) (by omega)
      have hm0 : L.getD 0 Fx.zero ∈ L := fx_mem (by rw [HLl.out]; omega)
      have hs0 : rsum (fqs L) = (L.getD 0 Fx.zero).q := by
        match L, HLl.out with
        | [x], _ =>
          show x.q + 0 = x.q
          grind
      have HN1 : Hid (L.length = 1) := Lib.hid HLl.out
      have hok9 := HKw.out.oks _ hm0
      generalize L.getD 0 Fx.zero = x at *
      obtain ⟨sx, ax, nx, cx, lax, bx, mx, dx, lbx⟩ := x
      simp only [Nat.zero_mul, Nat.add_zero] at e0 e1 e2
      replace HR := Lib.hid (blk_new w #[.bool sx, .slice ax nx cx, .slice bx mx dx] 41)
      replace HB := Lib.hid (below_alloc w (.cells #[.bool sx, .slice ax nx cx, .slice bx mx dx] 41))
      have R1 := Lib.hid (hok9.1.later HB.out)
      have T1 := Lib.hid (hok9.2.later HB.out)
      have HM := Lib.hid hm0
      have HS := Lib.hid hs0
      simp only at R1 T1
      clear ih hok hok9 hm0 hs0 HK HQ HKw
      go_enter Tryz.func62, Tryz.ntmps62
      go_wp2
      refine bodyPost_ret (results_cell_row Tryz.results62 _ _ (w.heap.size) 41 #[.bool sx, .slice ax nx cx, .slice bx mx dx] (0, 0) _ rfl HR.out Tryz.underlying41 rfl (by kernel_rfl)) rfl ?_
      exact ⟨_, ax, nx, cx, lax, bx, mx, dx, lbx, rfl, R1.out, T1.out, HS.out.symm, .inl HM.out, fun h => absurd HN1.out h, HB.out⟩
    · obtain ⟨hh, hhh⟩ : ∃ hh, hh = n / 2 := ⟨_, rfl⟩
      obtain ⟨m, rfl⟩ : ∃ m, n = hh + m := ⟨n - hh, by omega⟩
      have hhp : 0 < hh := by omega
      have hmp : 0 < m := by omega
      have hq : ((hh : Int) + (m : Int)) / 2 = (hh : Int) := by omega
      obtain ⟨b, off, rfl, -, -, -, -⟩ := HK.out.at (j := 0) (by omega)
      have HA := Lib.hid (HKw.out.take (k := hh) (by omega))
      have HC := Lib.hid HKw.out.drop
      have HtA : Hid (thin N (L.take hh)) := Lib.hid (fun x hx => HTh.out x (List.mem_of_mem_take hx))
      have HtC : Hid (thin N (L.drop hh)) := Lib.hid (fun x hx => HTh.out x (List.mem_of_mem_drop hx))
      have hbA : 1 + hh * (N + 3) ≤ 2000 := Nat.le_trans (Nat.add_le_add_left (Nat.mul_le_mul_right _ (by omega)) 1) HBd.out
      have hbC : 1 + m * (N + 3) ≤ 2000 := Nat.le_trans (Nat.add_le_add_left (Nat.mul_le_mul_right _ (by omega)) 1) HBd.out
      have HsA : Hid (qlen (rsum (fqs (L.take hh))) ≤ 2000) := Lib.hid (by
        have h9 := qlen_rsum (HtA.out.qs HA.out.oks)
        rw [fqs_length, HA.out.len] at h9
        exact Nat.le_trans h9 hbA)
      have HsC : Hid (qlen (rsum (fqs (L.drop hh))) ≤ 2000) := Lib.hid (by
        have h9 := qlen_rsum (HtC.out.qs HC.out.oks)
        rw [fqs_length, HC.out.len] at h9
        exact Nat.le_trans h9 hbC)
      obtain ⟨tq, htq⟩ : ∃ tq, rsum (fqs L) = tq := ⟨_, rfl⟩
      have HS : Hid (rsum (fqs (L.take hh)) + rsum (fqs (L.drop hh)) = tq) := Lib.hid (by
        rw [← htq, ← rsum_append]
        unfold fqs
        rw [← List.map_append, List.take_append_drop])
      have HTQ := Lib.hid htq
      have ihA := Lib.hid (fun wz (hz : Below w.heap.size w wz) => ih hh (by omega) (some ⟨b, off, none⟩) cap (L.take hh) N wz (HA.out.later hz) HtA.out hbA hN)
      have ihC := Lib.hid (fun wz (hz : Below w.heap.size w wz) => ih m (by omega) (some ⟨b, off + hh * 3, none⟩) (cap - hh) (L.drop hh) N wz (HC.out.later hz) HtC.out hbC hN)
      have hi2 : (hh : Int) ≤ (cap : Int) := by omega
      have hi3 : (hh : Int) ≤ (hh : Int) + (m : Int) := by omega
      have hi4 : (2 : Int) ≤ (hh : Int) + (m : Int) := by omega
      have hne : ¬ cap = hh := by omega
      have HN1 : Hid (L.length ≠ 1) := Lib.hid (by rw [HLl.out]; omega)
      clear ih hhh HK HKw HQ hbA hbC htq HA HC
      go_enter Tryz.func62, Tryz.ntmps62
      go_wp2
      have HB0 : Hid (Below w.heap.size w (w.alloc (.cells #[.bool false, .slice none 0 0, .slice none 0 0] 41)).drew) := Lib.hid (below_then HB.out (Below.refl _ _).drew)
      have HR0 : Hid ((w.alloc (.cells #[.bool false, .slice none 0 0, .slice none 0 0] 41)).drew.heap[w.heap.size]? = some (.cells #[.bool false, .slice none 0 0, .slice none 0 0] 41 (0, 0))) := Lib.hid HR.out
      clear HB HR
      first | go_region_with (first
        | (go_at_call 62; (first
          | ((with_reducible refine (ihA.out _ ?hz).mono ?_); (case hz => exact HB0.out); rintro e w1 ⟨s1, a1, n1, c1, la1, b1, m1, d1, lb1, rfl, h1, g1, q1, o1, -, bw1⟩; have HB1 := Lib.hid (below_then HB0.out bw1); have HR1 := Lib.hid (blk_later HR0.out bw1); have R1 := Lib.hid h1; have T1 := Lib.hid g1; have Q1 := Lib.hid q1; have O1 := Lib.hid o1; clear h1 g1 q1 o1 bw1 HB0 HR0)
          | ((refine (ihC.out _ ?hz).mono ?_); (case hz => exact HB1.out); rintro e w2 ⟨s2, a2, n2, c2, la2, b2, m2, d2, lb2, rfl, h2, g2, q2, o2, -, bw2⟩; have HB2 := Lib.hid (below_then HB1.out bw2); have HR2 := Lib.hid (blk_later HR1.out bw2); replace R1 := Lib.hid (R1.out.later bw2); replace T1 := Lib.hid (T1.out.later bw2); have R2 := Lib.hid h2; have T2 := Lib.hid g2; have Q2 := Lib.hid q2; have O2 := Lib.hid o2; clear h2 g2 q2 o2 bw2 HB1 HR1; obtain ⟨lx1, ly1⟩ := lstT_bound (x := ⟨s1, a1, n1, c1, la1, b1, m1, d1, lb1⟩) ⟨R1.out, T1.out⟩ Q1.out O1.out HtA.out HsA.out hN; obtain ⟨lx2, ly2⟩ := lstT_bound (x := ⟨s2, a2, n2, c2, la2, b2, m2, d2, lb2⟩) ⟨R2.out, T2.out⟩ Q2.out O2.out HtC.out HsC.out hN; simp only at lx1 ly1 lx2 ly2)))
        | (go_at_call 43; (refine (fracSaid.add (frV s1 a1 n1 c1 b1 m1 d1) (frV s2 a2 n2 c2 b2 m2 d2) (qval s1 (val la1) (val lb1)) (qval s2 (val la2) (val lb2)) _ (Fr.of R1.out T1.out lx1 ly1 rfl) (Fr.of R2.out T2.out lx2 ly2 rfl)).mono ?_); rintro e w3 ⟨a3, n3, c3, b3, m3, d3, rfl, h3, g3, bw3⟩; rw [Q1.out, Q2.out, HS.out] at h3 g3 ⊢; have HB := Lib.hid (below_then HB2.out bw3); have HR := Lib.hid (blk_later HR2.out bw3); have R3 := Lib.hid h3; have T3 := Lib.hid g3; clear bw3 h3 g3 HB2 HR2 R1 T1 R2 T2; unfold frV; have q0 := blk_cell HR.out 0; have q1 := blk_cell HR.out 1; have q2 := blk_cell HR.out 2; simp only [List.getElem?_toArray, List.getElem?_cons_zero, List.getElem?_cons_succ] at q0 q1 q2; have f0 := blk_free HR.out 0; have f1 := blk_free HR.out 1; have f2 := blk_free HR.out 2; replace R3 := Lib.hid (R3.out.stored3 HR.out ((zneg tq.num)) a3 n3 c3 (.slice b3 m3 d3)); replace T3 := Lib.hid (T3.out.stored3 HR.out ((zneg tq.num)) a3 n3 c3 (.slice b3 m3 d3)); replace HB := Lib.hid (below_set3 HB.out (show w.heap.size ≤ w.heap.size by omega) (.bool (zneg tq.num)) (.slice a3 n3 c3) (.slice b3 m3 d3)); replace HR := Lib.hid (blk_set3 HR.out (.bool (zneg tq.num)) (.slice a3 n3 c3) (.slice b3 m3 d3)))) | fail
      all_goals (
        go_wp2
        refine bodyPost_ret (results_cell_row Tryz.results62 _ _ (w.heap.size) 41 #[.bool (zneg tq.num), .slice a3 n3 c3, .slice b3 m3 d3] (0, 0) _ rfl HR.out Tryz.underlying41 rfl (by kernel_rfl)) rfl ?_
        exact ⟨_, a3, n3, c3, _, b3, m3, d3, _, rfl, R3.out, T3.out, (qval_dg tq).trans HTQ.out.symm, .inr (rx_right tq a3 n3 c3 b3 m3 d3), fun _ => rx_right tq a3 n3 c3 b3 m3 d3, HB.out⟩)
end Go.Proofs.YtjeigdlhjghinaaGreatDoor

/-
  Package row at this seat: Dot, Norm, Size.
-/
namespace Go.Proofs.YtjeigdlhjghinaaGreatDoor
open Go.RowKit

theorem rdot_eq_rsum : ∀ l m : List Rat, rdot l m = rsum (List.zipWith (fun x y => x * y) l m)
  | [], [] => rfl
  | [], _ :: _ => rfl
  | _ :: _, [] => rfl
  | x :: l, y :: m => by
    show x * y + rdot l m = x * y + rsum (List.zipWith (fun x y => x * y) l m)
    rw [rdot_eq_rsum l m]
def rprods (l m : List Rat) : List Rat := List.zipWith (fun x y => x * y) l m
theorem rprods_length {l m : List Rat} (h : l.length = m.length) : (rprods l m).length = l.length := by
  unfold rprods
  rw [List.length_zipWith, ← h, Nat.min_self]
theorem rprods_getD {l m : List Rat} {k : Nat} (h : k < l.length) (h' : k < m.length) : (rprods l m).getD k 0 = l.getD k 0 * m.getD k 0 := by
  unfold rprods
  rw [List.getD_eq_getElem?_getD, List.getElem?_zipWith, List.getElem?_eq_getElem h, List.getElem?_eq_getElem h', List.getD_eq_getElem?_getD, List.getD_eq_getElem?_getD, List.getElem?_eq_getElem h, List.getElem?_eq_getElem h']; rfl
theorem rprods_qlen {N : Nat} {l m : List Rat} (hl : ∀ q ∈ l, qlen q ≤ N) (hm : ∀ q ∈ m, qlen q ≤ N) : ∀ q ∈ rprods l m, qlen q ≤ N + N + 1 := fun q hq => by
  obtain ⟨i, hi, rfl⟩ := List.getElem_of_mem hq
  unfold rprods at hi
  rw [List.length_zipWith] at hi
  have h1 := hl _ (List.getElem_mem (show i < l.length by omega))
  have h2 := hm _ (List.getElem_mem (show i < m.length by omega))
  have h3 := qlen_mul (l[i]'(by omega)) (m[i]'(by omega))
  unfold rprods
  rw [List.getElem_zipWith]
  omega
/-- A sum of right fractions handed back by total. -/
theorem LstT.right {L : List Fx} {w w' : World} {e : Ending} (h : LstT L w e w') (hr : ∀ x ∈ L, x.right) : LstQ (rsum (fqs L)) w e w' := by
  obtain ⟨s, a, n, c, la, b, m, d, lb, rfl, h1, h2, h3, h4, -, h6⟩ := h
  have h5 : (⟨s, a, n, c, la, b, m, d, lb⟩ : Fx).right := h4.elim (hr _) id
  obtain ⟨r1, r2, r3⟩ := h5
  have h3' : (⟨s, a, n, c, la, b, m, d, lb⟩ : Fx).q = rsum (fqs L) := h3
  rw [h3'] at r1 r2 r3
  simp only at r1 r2 r3
  rw [r2] at h1
  rw [r3] at h2
  rw [r1]
  exact ⟨a, n, c, b, m, d, rfl, h1, h2, h6⟩
theorem LstT.many {L : List Fx} {w w' : World} {e : Ending} (h : LstT L w e w') (hr : L.length ≠ 1) : LstQ (rsum (fqs L)) w e w' := by
  obtain ⟨s, a, n, c, la, b, m, d, lb, rfl, h1, h2, h3, -, h4, h6⟩ := h
  obtain ⟨r1, r2, r3⟩ := h4 hr
  have h3' : (⟨s, a, n, c, la, b, m, d, lb⟩ : Fx).q = rsum (fqs L) := h3
  rw [h3'] at r1 r2 r3
  simp only at r1 r2 r3
  rw [r2] at h1
  rw [r3] at h2
  rw [r1]
  exact ⟨a, n, c, b, m, d, rfl, h1, h2, h6⟩
theorem total_rw {a : Option Addr} {n cap : Nat} {qs : List Rat} {N : Nat} (w : World) (h : Rw w a n cap qs) (hq : ∀ q ∈ qs, qlen q ≤ N) (hb : 1 + n * (N + 3) ≤ 2000) (hN : N ≤ 2000) : Calls Tryz.prog 62 #[.slice a n cap] w (LstQ (rsum qs) w) := by
  obtain ⟨L, h1, h2, h3⟩ := h
  have ht : thin N L := fun x hx => by
    obtain ⟨h4, h5, h6⟩ := h3 x hx
    exact right_len (h1.ok hx) ⟨h4, h5, h6⟩ (hq _ (h2 ▸ List.mem_map.2 ⟨x, hx, rfl⟩))
  refine (row_total n a cap L N w h1 ht hb hN).mono fun e w' h9 => ?_
  have h8 := h9.right h3
  unfold fqs at h8
  rwa [h2] at h8
set_option maxRecDepth 4096 in
set_option maxHeartbeats 4000000 in
theorem row_dot_yes (a0 : Option Addr) (n0 c0 : Nat) (L0 : List Fx) (a1 : Option Addr) (n1 c1 : Nat) (L1 : List Fx) (w : World) (h0 : Fxs w a0 n0 c0 L0) (h1 : Fxs w a1 n1 c1 L1) (hn : n0 ≤ 20) (ht0 : thin 30 L0) (ht1 : thin 30 L1) (hs : Hid (n0 = n1)) : Calls Tryz.prog 29 #[.slice a0 n0 c0, .slice a1 n1 c1] w (LstQV (rdot (fqs L0) (fqs L1)) (.bool true) w) := by
  have HQ9 : Hid (∀ q ∈ rprods (fqs L0) (fqs L1), qlen q ≤ 63) := Lib.hid (rprods_qlen (ht0.qs h0.oks) (ht1.qs h1.oks))
  have HK0 := Lib.hid h0
  have HLl0 := Lib.hid h0.len
  have hbd0 := h0.bound
  have HTh0 := Lib.hid ht0
  clear h0 ht0
  have HK1 := Lib.hid h1
  have HLl1 := Lib.hid h1.len
  have hbd1 := h1.bound
  have HTh1 := Lib.hid ht1
  clear h1 ht1
  obtain rfl := hs.out
  clear hs
  obtain ⟨q, hq9⟩ : ∃ q, rdot (fqs L0) (fqs L1) = q := ⟨_, rfl⟩
  rw [hq9]
  have HSM0 : Hid (rsum (rprods (fqs L0) (fqs L1)) = q) := Lib.hid (by rw [← hq9, rdot_eq_rsum]; rfl)
  clear hq9
  have HTL : Hid ((rprods (fqs L0) (fqs L1)).length = n0) := Lib.hid (by rw [rprods_length (by rw [fqs_length, fqs_length, HLl0.out, HLl1.out]), fqs_length, HLl0.out])
  obtain ⟨T, hTe⟩ : ∃ T, rprods (fqs L0) (fqs L1) = T := ⟨_, rfl⟩
  have ET := Lib.hid hTe
  have HQL : Hid (∀ q ∈ T, qlen q ≤ 63) := Lib.hid (hTe ▸ HQ9.out)
  have HSM : Hid (rsum T = q) := Lib.hid (hTe ▸ HSM0.out)
  clear HQ9 HSM0
  rw [hTe] at HTL
  try rw [hTe]
  clear hTe
  obtain ⟨i0, hi, hz0, hz1, hz2⟩ := info_parts infoFracR
  go_enter Tryz.func29, Tryz.ntmps29
  try unfold frV
  go_wp2_with (at_make; refine wpList_make_fracs _ rfl _ _ 28 rfl (w.heap.size + 1) 41 i0 Tryz.underlying28 hi hz0 hz1 hz2 _ _ _ _ n0 rfl rfl (by omega) (by omega) (by omega) (by simp) ?_; intro wm hmade hgm hszm)
  have HO0 := Lib.hid (Half.start hmade)
  have HB0 : Hid (Below w.heap.size w wm) := Lib.hid (below_then (below_alloc _ _) ((Below.refl _ _).grown hgm (Nat.le_refl _) (fun k hk => by cases hk)))
  have X00 : Hid (wm.heap[w.heap.size]? = some (.cells #[.bool false, .slice none 0 0, .slice none 0 0] 41 (0, 0))) := Lib.hid (blk_later (blk_new _ _ _) ((Below.refl _ _).grown hgm (Nat.le_refl _) (fun k hk => by cases hk)))
  clear hmade hgm
  try simp only [World.size_alloc] at hszm HO0
  go_loopw [19] (fun iv wr => ∃ k r : Nat, k + r = n0 ∧ iv = .int .i64 (k : Int) ∧ Hid (Half wr (w.heap.size + 1) 41 (.slice (some ⟨w.heap.size + 1, 0, none⟩) n0 n0) (T.take k) r) ∧ Hid (Below w.heap.size w wr) ∧ w.heap.size + 1 < wr.heap.size ∧ Hid (wr.heap[w.heap.size]? = some (.cells #[.bool false, .slice none 0 0, .slice none 0 0] 41 (0, 0)))) (fun iv _ => n0 - (intOf iv).toNat)
  case atStart => exact ⟨0, n0, by omega, rfl, HO0, HB0, by omega, X00⟩
  case round =>
    clear HO0 HB0 X00
    obtain ⟨k, r, hk, rfl, HO, HB, hsz, X0⟩ := hrel
    by_cases hlt : k < n0
    · have hkT : k < T.length := by rw [HTL.out]; exact hlt
      obtain ⟨r, rfl⟩ : ∃ r', r = r' + 1 := ⟨r - 1, by omega⟩
      have HT : Hid (T.take (k + 1) = T.take k ++ [T.getD k 0]) := Lib.hid (q_more hkT)
      have HTv : Hid (T.getD k 0 = (L0.getD k Fx.zero).q * (L1.getD k Fx.zero).q) := Lib.hid (by rw [← ET.out]; rw [rprods_getD (by rw [fqs_length, HLl0.out]; exact hlt) (by rw [fqs_length, HLl1.out]; exact hlt), fqs_getD (by rw [HLl0.out]; exact hlt), fqs_getD (by rw [HLl1.out]; exact hlt)])
      obtain ⟨bb0, off0, rfl, e00, e10, e20, hok0⟩ := HK0.out.at hlt
      have hth0 := HTh0.out _ (fx_mem (L := L0) (k := k) (by rw [HLl0.out]; exact hlt))
      generalize L0.getD k Fx.zero = xk0 at *
      obtain ⟨sk0, ak0, nk0, ck0, lak0, bk0, mk0, dk0, lbk0⟩ := xk0
      obtain ⟨hA0, hB0⟩ := hok0
      simp only at e00 e10 e20 hA0 hB0 hth0
      obtain ⟨hth0, htj0⟩ := hth0
      have HE0 : Hid (w.cell? ⟨bb0, off0 + k * 3, none⟩ = some (.bool sk0) ∧ w.cell? ⟨bb0, off0 + k * 3 + 1, none⟩ = some (.slice ak0 nk0 ck0) ∧ w.cell? ⟨bb0, off0 + k * 3 + 2, none⟩ = some (.slice bk0 mk0 dk0)) := Lib.hid ⟨e00, e10, e20⟩
      have AK0 := Lib.hid hA0
      have BK0 := Lib.hid hB0
      clear hA0 hB0 e00 e10 e20
      obtain ⟨bb1, off1, rfl, e01, e11, e21, hok1⟩ := HK1.out.at hlt
      have hth1 := HTh1.out _ (fx_mem (L := L1) (k := k) (by rw [HLl1.out]; exact hlt))
      generalize L1.getD k Fx.zero = xk1 at *
      obtain ⟨sk1, ak1, nk1, ck1, lak1, bk1, mk1, dk1, lbk1⟩ := xk1
      obtain ⟨hA1, hB1⟩ := hok1
      simp only at e01 e11 e21 hA1 hB1 hth1
      obtain ⟨hth1, htj1⟩ := hth1
      have HE1 : Hid (w.cell? ⟨bb1, off1 + k * 3, none⟩ = some (.bool sk1) ∧ w.cell? ⟨bb1, off1 + k * 3 + 1, none⟩ = some (.slice ak1 nk1 ck1) ∧ w.cell? ⟨bb1, off1 + k * 3 + 2, none⟩ = some (.slice bk1 mk1 dk1)) := Lib.hid ⟨e01, e11, e21⟩
      have AK1 := Lib.hid hA1
      have BK1 := Lib.hid hB1
      clear hA1 hB1 e01 e11 e21
      generalize T.getD k 0 = tk at *
      replace HTv : Hid (tk = qval sk0 (val lak0) (val lbk0) * qval sk1 (val lak1) (val lbk1)) := HTv
      have hki : (k : Int) < (n0 : Int) := by omega
      have hk0 : (0 : Int) ≤ (k : Int) := by omega
      obtain ⟨e00, e10, e20⟩ := three_on HE0.out HB.out
      obtain ⟨e01, e11, e21⟩ := three_on HE1.out HB.out
      obtain ⟨x0, x1, x2⟩ := fcells_3 X0.out
      go_wp2
      have b0 : Below wr.heap.size wr wr.drew := (Below.refl _ _).drew
      replace HB := Lib.hid (below_then HB.out b0)
      replace HO := Lib.hid (HO.out.later b0)
      replace X0 := Lib.hid (blk_later X0.out b0)
      replace hsz := Nat.lt_of_lt_of_le hsz b0.size
      clear e00 e10 e20 e01 e11 e21 x0 x1 x2 b0
      obtain ⟨e00, e10, e20⟩ := three_on HE0.out HB.out
      obtain ⟨e01, e11, e21⟩ := three_on HE1.out HB.out
      obtain ⟨x0, x1, x2⟩ := fcells_3 X0.out
      first | go_region_with (first
        | (go_at_call 44; refine (fracSaid.mul _ _ (qval sk0 (val lak0) (val lbk0)) (qval sk1 (val lak1) (val lbk1)) _ (Fr.of (AK0.out.later HB.out) (BK0.out.later HB.out) (by omega) (by omega) rfl) (Fr.of (AK1.out.later HB.out) (BK1.out.later HB.out) (by omega) (by omega) rfl)).mono ?_; rintro e w4 ⟨a4, n4, c4, b4, m4, d4, rfl, h4, g4, bw⟩; rw [← HTv.out] at h4 g4 ⊢; clear e00 e10 e20 e01 e11 e21 x0 x1 x2; replace HB := Lib.hid (below_then HB.out bw); replace HO := Lib.hid (HO.out.later bw); replace X0 := Lib.hid (blk_later X0.out bw); have hsz4 : w.heap.size + 1 < w4.heap.size := Nat.lt_of_lt_of_le hsz bw.size; have HA4 := Lib.hid h4; have HB4 := Lib.hid g4; clear bw hsz h4 g4; unfold frV; obtain ⟨⟨p0, p1, p2⟩, f0, f1, f2⟩ := HO.out.cell (k := k) (by rw [take_len (Nat.le_of_lt hkT)]))) | fail
      all_goals (
        obtain ⟨hst, hgr⟩ := HO.out.stored (k := k) (by rw [take_len (Nat.le_of_lt hkT)]) tk a4 n4 c4 b4 m4 d4 HA4.out HB4.out
        rw [← HT.out] at hst
        have HS := Lib.hid hst
        have HB5 := Lib.hid (HB.out.grown hgr HB.out.size (fun g' hg' => by simp at hg'; omega))
        have hsz5 := Nat.lt_of_lt_of_le hsz4 hgr.size
        have X5 := Lib.hid ((hgr.block w.heap.size (by omega) (fun e2 => by simp at e2)).trans X0.out)
        clear X0
        clear hst hgr HA4 HB4 HO HB HT HTv p0 p1 p2 f0 f1 f2
        go_wp2
        go_roundw
        case rel => exact ⟨k + 1, r, by omega, by go_num, HS, HB5, hsz5, X5⟩
        case measure => simp [intOf]; omega)
    · obtain rfl : k = n0 := by omega
      have HF := Lib.hid (HO.out.whole HTL.out (by omega))
      obtain ⟨a9, c9, e9, h9⟩ := HF.out.out
      rw [HTL.out] at e9 h9
      cases e9
      have HF9 := Lib.hid h9
      clear HO h9 HF
      have hqn : 1 + k * (63 + 3) ≤ 2000 := by omega
      go_wp2_with fail
      refine (total_rw _ HF9.out HQL.out hqn (by omega)).mono ?_
      rintro e w5 ⟨a1, n1, c1, b1, m1, d1, rfl, h1, g1, bw⟩
      replace HB := Lib.hid (below_then HB.out bw)
      have HR := Lib.hid (blk_later X0.out bw)
      clear bw HF9 X0
      rw [HSM.out] at h1 g1 ⊢
      have R1 := Lib.hid h1
      have T1 := Lib.hid g1
      clear h1 g1
      unfold frV
      have q0 := blk_cell HR.out 0
      have q1 := blk_cell HR.out 1
      have q2 := blk_cell HR.out 2
      simp only [List.getElem?_toArray, List.getElem?_cons_zero, List.getElem?_cons_succ] at q0 q1 q2
      have f0 := blk_free HR.out 0
      have f1 := blk_free HR.out 1
      have f2 := blk_free HR.out 2
      replace R1 := Lib.hid (R1.out.stored3 HR.out ((zneg q.num)) a1 n1 c1 (.slice b1 m1 d1))
      replace T1 := Lib.hid (T1.out.stored3 HR.out ((zneg q.num)) a1 n1 c1 (.slice b1 m1 d1))
      replace HB := Lib.hid (below_set3 HB.out (show w.heap.size ≤ w.heap.size by omega) (.bool (zneg q.num)) (.slice a1 n1 c1) (.slice b1 m1 d1))
      replace HR := Lib.hid (blk_set3 HR.out (.bool (zneg q.num)) (.slice a1 n1 c1) (.slice b1 m1 d1))
      go_wp2
      refine bodyPost_ret (results_row_tmp Tryz.results29 _ _ (w.heap.size) 41 #[.bool (zneg q.num), .slice a1 n1 c1, .slice b1 m1 d1] (0, 0) _ rfl HR.out Tryz.underlying41 rfl (by kernel_rfl)) rfl ?_
      exact ⟨a1, n1, c1, b1, m1, d1, rfl, R1.out, T1.out, HB.out⟩
set_option maxRecDepth 4096 in
set_option maxHeartbeats 4000000 in
theorem row_dot_no (a0 : Option Addr) (n0 c0 : Nat) (a1 : Option Addr) (n1 c1 : Nat) (w : World) (hs : Hid (n0 ≠ n1)) : Calls Tryz.prog 29 #[.slice a0 n0 c0, .slice a1 n1 c1] w (LstQV 0 (.bool false) w) := by
  have hq : ((n0 : Int) == (n1 : Int)) = false := by
    have := hs.out
    simp; omega
  have HB := Lib.hid (below_alloc w (.cells #[.bool false, .slice none 0 0, .slice none 0 0] 41))
  have HR := Lib.hid (blk_new w #[.bool false, .slice none 0 0, .slice none 0 0] 41)
  obtain ⟨q, hq0⟩ : ∃ q : Rat, ((0 : Int) : Rat) = q := ⟨_, rfl⟩
  have hq1 : (0 : Rat) = q := by rw [← hq0]; rfl
  rw [hq1]
  have HQ0 := Lib.hid hq0
  clear hs hq0 hq1
  go_enter Tryz.func29, Tryz.ntmps29
  obtain ⟨vk0, vk1, vk2⟩ := fcells_3 HR.out
  go_wp2_with fail
  refine (frac_of 0 _ isInt_nought).mono ?_
  rintro e wv1 ⟨a1, n1, c1, b1, m1, d1, rfl, h1, g1, b⟩
  clear vk0 vk1 vk2
  replace HB := Lib.hid (below_then HB.out b)
  replace HR := Lib.hid (blk_later HR.out b)
  clear b
  rw [HQ0.out] at h1 g1 ⊢
  have R1 := Lib.hid h1
  have T1 := Lib.hid g1
  clear h1 g1
  unfold frV
  have q0 := blk_cell HR.out 0
  have q1 := blk_cell HR.out 1
  have q2 := blk_cell HR.out 2
  simp only [List.getElem?_toArray, List.getElem?_cons_zero, List.getElem?_cons_succ] at q0 q1 q2
  have f0 := blk_free HR.out 0
  have f1 := blk_free HR.out 1
  have f2 := blk_free HR.out 2
  replace R1 := Lib.hid (R1.out.stored3 HR.out ((zneg q.num)) a1 n1 c1 (.slice b1 m1 d1))
  replace T1 := Lib.hid (T1.out.stored3 HR.out ((zneg q.num)) a1 n1 c1 (.slice b1 m1 d1))
  replace HB := Lib.hid (below_set3 HB.out (show w.heap.size ≤ w.heap.size by omega) (.bool (zneg q.num)) (.slice a1 n1 c1) (.slice b1 m1 d1))
  replace HR := Lib.hid (blk_set3 HR.out (.bool (zneg q.num)) (.slice a1 n1 c1) (.slice b1 m1 d1))
  go_wp2
  refine bodyPost_ret (results_row_tmp Tryz.results29 _ _ (w.heap.size) 41 #[.bool (zneg q.num), .slice a1 n1 c1, .slice b1 m1 d1] (0, 0) _ rfl HR.out Tryz.underlying41 rfl (by kernel_rfl)) rfl ?_
  exact ⟨a1, n1, c1, b1, m1, d1, rfl, R1.out, T1.out, HB.out⟩
end Go.Proofs.YtjeigdlhjghinaaGreatDoor

/-
  Package row at this seat: Add, Mix.
-/
namespace Go.Proofs.YtjeigdlhjghinaaGreatDoor
open Go.RowKit

theorem foldl_radd {i N : Nat} (hi : i < N) : ∀ (r : List (List Rat)) (l : List Rat), l.length = N → (∀ x ∈ r, x.length = N) → (r.foldl radd l).length = N ∧ (r.foldl radd l).getD i 0 = l.getD i 0 + rsum (r.map (fun x => x.getD i 0))
  | [], l, hl, _ => ⟨hl, by show l.getD i 0 = l.getD i 0 + 0; grind⟩
  | x :: r, l, hl, h => by
    have hx := h x (List.mem_cons_self ..)
    have h1 : (radd l x).length = N := by rw [radd_length l x (hl.trans hx.symm)]; exact hl
    obtain ⟨h2, h3⟩ := foldl_radd hi r (radd l x) h1 (fun y hy => h y (List.mem_cons_of_mem _ hy))
    refine ⟨h2, ?_⟩
    show (r.foldl radd (radd l x)).getD i 0 = l.getD i 0 + (x.getD i 0 + rsum (r.map (fun x => x.getD i 0)))
    rw [h3, radd_getD (by omega) (by omega)]
    grind
theorem foldl_radd_length {N : Nat} : ∀ (r : List (List Rat)) (l : List Rat), l.length = N → (∀ x ∈ r, x.length = N) → (r.foldl radd l).length = N
  | [], _, hl, _ => hl
  | x :: r, l, hl, h => by
    have hx := h x (List.mem_cons_self ..)
    exact foldl_radd_length r (radd l x) (by rw [radd_length l x (hl.trans hx.symm)]; exact hl) (fun y hy => h y (List.mem_cons_of_mem _ hy))
theorem col_vals {LL : List (List Fx)} {i : Nat} (h : ∀ L ∈ LL, i < L.length) : (LL.map fqs).map (fun x => x.getD i 0) = fqs (colF LL i) := by
  unfold colF fqs
  rw [List.map_map, List.map_map]
  exact List.map_congr_left (fun L hL => fqs_getD (h L hL))
theorem radd_col {LL : List (List Fx)} {i N : Nat} (hi : i < N) (hN : ∀ L ∈ LL, L.length = N) (h0 : 0 < LL.length) : (raddAll (LL.map fqs)).getD i 0 = rsum (fqs (colF LL i)) := by
  match LL, h0 with
  | l :: r, _ =>
    show ((r.map fqs).foldl radd (fqs l)).getD i 0 = (l.getD i Fx.zero).q + rsum (fqs (colF r i))
    rw [(foldl_radd hi (r.map fqs) (fqs l) (by rw [fqs_length]; exact hN l (List.mem_cons_self ..)) (fun x hx => by
      obtain ⟨y, hy, rfl⟩ := List.mem_map.1 hx
      rw [fqs_length]; exact hN y (List.mem_cons_of_mem _ hy))).2, col_vals (fun L hL => by rw [hN L (List.mem_cons_of_mem _ hL)]; exact hi), fqs_getD (by rw [hN l (List.mem_cons_self ..)]; exact hi)]
theorem raddAll_length {LL : List (List Fx)} {N : Nat} (hN : ∀ L ∈ LL, L.length = N) (h0 : 0 < LL.length) : (raddAll (LL.map fqs)).length = N := by
  match LL, h0 with
  | l :: r, _ =>
    exact foldl_radd_length (r.map fqs) (fqs l) (by rw [fqs_length]; exact hN l (List.mem_cons_self ..)) (fun x hx => by
      obtain ⟨y, hy, rfl⟩ := List.mem_map.1 hx
      rw [fqs_length]; exact hN y (List.mem_cons_of_mem _ hy))
theorem colF_thin {LL : List (List Fx)} {i K : Nat} (h : ∀ L ∈ LL, thin K L) (hi : ∀ L ∈ LL, i < L.length) : thin K (colF LL i) := fun x hx => by
  obtain ⟨L, hL, rfl⟩ := List.mem_map.1 hx
  exact h L hL _ (fx_mem (hi L hL))
theorem even_all {LL : List (List Fx)} {L0 : List Fx} (h0 : L0 ∈ LL) : (∀ M ∈ LL, (M.length : Int) = (L0.length : Int)) ↔ even (LL.map fqs) := by
  unfold even
  constructor
  · intro h x hx y hy
    obtain ⟨x', hx', rfl⟩ := List.mem_map.1 hx
    obtain ⟨y', hy', rfl⟩ := List.mem_map.1 hy
    have h1 := h x' hx'
    have h2 := h y' hy'
    rw [fqs_length, fqs_length]
    omega
  · intro h M hM
    have h1 := h (fqs M) (List.mem_map.2 ⟨M, hM, rfl⟩) (fqs L0) (List.mem_map.2 ⟨L0, h0, rfl⟩)
    rw [fqs_length, fqs_length] at h1
    omega
theorem rscale_one (l : List Rat) : rscale 1 l = l := by
  unfold rscale
  have h : (fun x : Rat => 1 * x) = id := by funext x; exact Rat.one_mul x
  rw [h, List.map_id]
set_option maxRecDepth 4096 in
set_option maxHeartbeats 4000000 in
theorem row_add_none (a : Option Addr) (c : Nat) (w : World) : Calls Tryz.prog 27 #[.slice a 0 c] w (LstRwV [] (.bool true) w) := by
  go_enter Tryz.func27, Tryz.ntmps27
  go_wp2
  go_ret2
  exact ⟨none, 0, 0, rfl, Rw.nil _, Below.refl _ _⟩
set_option maxRecDepth 4096 in
set_option maxHeartbeats 4000000 in
theorem row_add_one (a : Option Addr) (c : Nat) (LL : List (List Fx)) (w : World) (h : Fxss w a 1 c LL) (hl : ∀ L ∈ LL, L.length ≤ 300 ∧ thin 100 L) : Calls Tryz.prog 27 #[.slice a 1 c] w (LstRwV (raddAll (LL.map fqs)) (.bool true) w) := by
  obtain ⟨bb, off, rfl, a1, n1, c1, e0, h1⟩ := h.at (j := 0) (by omega)
  have hbd := h.bound
  obtain ⟨L0, rfl⟩ : ∃ L0, LL = [L0] := by
    match LL, h.len with
    | [x], _ => exact ⟨x, rfl⟩
  have hl0 := hl L0 (List.mem_singleton.2 rfl)
  have HL0 : Hid (Fxs w a1 n1 c1 L0) := Lib.hid h1
  have hn1 : n1 ≤ 300 := by rw [← HL0.out.len]; exact hl0.1
  have HT0 := Lib.hid (hl0.2.mono (show 100 ≤ 300 by decide))
  have e0' : w.cell? ⟨bb, off, none⟩ = some (.slice a1 n1 c1) := e0
  obtain ⟨q, hq⟩ : ∃ q : Rat, ((1 : Int) : Rat) = q := ⟨_, rfl⟩
  have hq1 : q = 1 := by rw [← hq]; rfl
  have HQ := Lib.hid hq
  have hql : qlen q ≤ 2 := by rw [← hq]; exact qlen_int (by decide)
  obtain ⟨T, hT⟩ : ∃ T, raddAll ([L0].map fqs) = T := ⟨_, rfl⟩
  have HTT : Hid (rscale q (fqs L0) = T) := Lib.hid (by rw [← hT, hq1, rscale_one]; rfl)
  rw [hT]
  clear hT hq hq1 h h1 hl hl0 e0
  go_enter Tryz.func27, Tryz.ntmps27
  go_wp2
  have HB0 : Hid (Below w.heap.size w w.drew) := Lib.hid (Below.refl _ _).drew
  have e1 := cell_later HB0.out e0'
  first | go_region_with (first
    | (go_at_call 46; refine (frac_of 1 _ (by decide)).mono ?_; rintro e w1 ⟨a2, n2, c2, b2, m2, d2, rfl, h2, g2, bw⟩; rw [HQ.out] at h2 g2 ⊢; have ln2 : n2 ≤ 300 := Nat.le_trans (Nat.le_of_eq h2.len.symm) (Nat.le_trans (qlen_num _) (Nat.le_trans hql (by decide))); have lm2 : m2 ≤ 300 := Nat.le_trans (Nat.le_of_eq g2.len.symm) (Nat.le_trans (qlen_den _) (Nat.le_trans hql (by decide))); have HB1 := Lib.hid (below_then HB0.out bw); have e2 := cell_later HB1.out e0'; have R2 := Lib.hid h2; have T2 := Lib.hid g2; clear bw h2 g2)
    | (go_at_call 30; refine (row_scale (frV (zneg q.num) a2 n2 c2 b2 m2 d2) q a1 n1 c1 L0 _ (Fr.right R2.out T2.out ln2 lm2) (HL0.out.later HB1.out) hn1 HT0.out).mono ?_; rintro e w2 ⟨a3, n3, c3, rfl, h3, bw⟩; rw [HTT.out] at h3; have HB2 := Lib.hid (below_then HB1.out bw); have R3 := Lib.hid h3; clear bw h3)) | fail
  all_goals (
    go_wp2
    go_ret2
    exact ⟨a3, n3, c3, rfl, R3.out, HB2.out⟩)
set_option maxRecDepth 4096 in
set_option maxHeartbeats 4000000 in
theorem row_add_uneven (a : Option Addr) (n c : Nat) (LL : List (List Fx)) (w : World) (h : Fxss w a n c LL) (h2 : 2 ≤ n) (hb : ¬ even (LL.map fqs)) : Calls Tryz.prog 27 #[.slice a n c] w (LstRwV [] (.bool false) w) := by
  obtain ⟨bb, off, rfl, a1, n1, c1, e0, h1⟩ := h.at (j := 0) (by omega)
  have hbd := h.bound
  have hm0 : LL.getD 0 [] ∈ LL := ll_mem (by rw [h.len]; omega)
  have e0' : w.cell? ⟨bb, off, none⟩ = some (.slice a1 n1 c1) := by simpa using e0
  have HALL := even_all hm0
  rw [h1.len] at HALL
  have hz0 : ((n : Int) == 0) = false := by simp; omega
  have hz1 : ((n : Int) == 1) = false := by simp; omega
  have hi0 : (0 : Int) < (n : Int) := by omega
  have hbd1 := h1.bound
  have HK := Lib.hid h
  have HNO := Lib.hid (show ∀ w' : World, Below w.heap.size w w' → Calls Tryz.prog 61 #[.slice (some ⟨bb, off, none⟩) n c, .int .i64 (n1 : Int)] w' (fun e w'' => e = .returned (.bool false) ∧ w' = w'') from fun w' hw => row_allOf _ n c LL (n1 : Int) false w' (h.later hw) (Lib.hid ⟨fun h9 => absurd h9 (by decide), fun h9 => absurd (HALL.1 h9) hb⟩))
  clear h h1 hm0 HALL hb HK e0
  go_enter Tryz.func27, Tryz.ntmps27
  go_wp2_with fail
  refine (HNO.out _ (Below.refl _ _)).mono ?_
  rintro e w' ⟨rfl, rfl⟩
  go_wp2
  go_ret2
  exact ⟨none, 0, 0, rfl, Rw.nil _, Below.refl _ _⟩
set_option maxRecDepth 4096 in
set_option maxHeartbeats 4000000 in
theorem row_add_even (a : Option Addr) (n c : Nat) (LL : List (List Fx)) (w : World) (h : Fxss w a n c LL) (hn : n ≤ 10) (hl : ∀ L ∈ LL, L.length ≤ 300 ∧ thin 100 L) (h2 : 2 ≤ n) (hb : even (LL.map fqs)) : Calls Tryz.prog 27 #[.slice a n c] w (LstRwV (raddAll (LL.map fqs)) (.bool true) w) := by
  obtain ⟨bb, off, rfl, a1, n1, c1, e0, h1⟩ := h.at (j := 0) (by omega)
  have hbd := h.bound
  have hm0 : LL.getD 0 [] ∈ LL := ll_mem (by rw [h.len]; omega)
  have e0' : w.cell? ⟨bb, off, none⟩ = some (.slice a1 n1 c1) := by simpa using e0
  have HALL := even_all hm0
  rw [h1.len] at HALL
  have hz0 : ((n : Int) == 0) = false := by simp; omega
  have hz1 : ((n : Int) == 1) = false := by simp; omega
  have hi0 : (0 : Int) < (n : Int) := by omega
  have hbd1 := h1.bound
  have HK := Lib.hid h
  have hN : ∀ L ∈ LL, L.length = n1 := fun L hL => by have := HALL.2 hb L hL; omega
  have hn1 : n1 ≤ 300 := by rw [← hN _ hm0]; exact (hl _ hm0).1
  have HYES := Lib.hid (show ∀ w' : World, Below w.heap.size w w' → Calls Tryz.prog 61 #[.slice (some ⟨bb, off, none⟩) n c, .int .i64 (n1 : Int)] w' (fun e w'' => e = .returned (.bool true) ∧ w' = w'') from fun w' hw => row_allOf _ n c LL (n1 : Int) true w' (h.later hw) (Lib.hid ⟨fun _ => HALL.2 hb, fun _ => rfl⟩))
  have HCOL := Lib.hid (show ∀ (k : Nat) (w' : World), k < n1 → Below w.heap.size w w' → Calls Tryz.prog 63 #[.slice (some ⟨bb, off, none⟩) n c, .int .i64 (k : Int)] w' (fun e w'' => ∃ (a' : Option Addr) (c' : Nat), e = .returned (.slice a' n c') ∧ Fxs w'' a' n c' (colF LL k) ∧ Below w'.heap.size w' w'') from fun k w' hk hw => row_column _ n c LL k w' (h.later hw) (by omega) (fun M hM => by rw [hN M hM]; exact hk))
  have HTOT := Lib.hid (show ∀ (k : Nat) (a' : Option Addr) (c' : Nat) (w' : World), k < n1 → Fxs w' a' n c' (colF LL k) → Calls Tryz.prog 62 #[.slice a' n c'] w' (LstQ (rsum (fqs (colF LL k))) w') from fun k a' c' w' hk hf => (row_total n a' c' (colF LL k) 100 w' hf (colF_thin (fun L hL => (hl L hL).2) (fun L hL => by rw [hN L hL]; exact hk)) (by omega) (by omega)).mono fun e w'' h9 => h9.many (by rw [colF_length, h.len]; omega))
  have HTL0 : (raddAll (LL.map fqs)).length = n1 := raddAll_length hN (by rw [h.len]; omega)
  have HTV0 : ∀ k, k < n1 → (raddAll (LL.map fqs)).getD k 0 = rsum (fqs (colF LL k)) := fun k hk => radd_col hk hN (by rw [h.len]; omega)
  obtain ⟨T, hTe⟩ : ∃ T, raddAll (LL.map fqs) = T := ⟨_, rfl⟩
  rw [hTe] at HTL0 HTV0 ⊢
  have HTL := Lib.hid HTL0
  have HTV := Lib.hid HTV0
  have HB00 : Hid (Below w.heap.size w w) := Lib.hid (Below.refl _ _)
  clear h h1 hm0 HALL hb HK e0 hl hN HTL0 HTV0 hTe
  obtain ⟨i0, hi, hy0, hy1, hy2⟩ := info_parts infoFracR
  go_enter Tryz.func27, Tryz.ntmps27
  go_wp2_with fail
  refine (HYES.out _ (Below.refl _ _)).mono ?_
  rintro e w' ⟨rfl, rfl⟩
  go_wp2_with (at_make; refine wpList_make_fracs _ rfl _ _ 28 rfl (w.heap.size) 41 i0 Tryz.underlying28 hi hy0 hy1 hy2 _ _ _ _ n1 rfl rfl (by omega) (by omega) (by omega) (by simp) ?_; intro wm hmade hgm hszm)
  have HO0 := Lib.hid (Half.start hmade)
  have HB0 : Hid (Below w.heap.size w wm) := Lib.hid ((Below.refl _ _).grown hgm (Nat.le_refl _) (fun k hk => by cases hk))
  clear hmade hgm HB00
  go_loopw [29] (fun iv wr => ∃ k r : Nat, k + r = n1 ∧ iv = .int .i64 (k : Int) ∧ Hid (Half wr w.heap.size 41 (.slice (some ⟨w.heap.size, 0, none⟩) n1 n1) (T.take k) r) ∧ Hid (Below w.heap.size w wr) ∧ w.heap.size < wr.heap.size) (fun iv _ => n1 - (intOf iv).toNat)
  case atStart => exact ⟨0, n1, by omega, rfl, HO0, HB0, by omega⟩
  case round =>
    clear HO0 HB0
    obtain ⟨k, r, hk, rfl, HO, HB, hsz⟩ := hrel
    by_cases hlt : k < n1
    · have hkT : k < T.length := by rw [HTL.out]; exact hlt
      obtain ⟨r, rfl⟩ : ∃ r', r = r' + 1 := ⟨r - 1, by omega⟩
      have HT : Hid (T.take (k + 1) = T.take k ++ [T.getD k 0]) := Lib.hid (q_more hkT)
      have HTv := Lib.hid (HTV.out k hlt)
      generalize T.getD k 0 = tk at *
      have hki : (k : Int) < (n1 : Int) := by omega
      have hk0 : (0 : Int) ≤ (k : Int) := by omega
      go_wp2_with fail
      refine (HCOL.out k _ hlt HB.out).mono ?_
      rintro e w3 ⟨a3, c3, rfl, h3, bw⟩
      replace HB := Lib.hid (below_then HB.out bw)
      replace HO := Lib.hid (HO.out.later bw)
      replace hsz := Nat.lt_of_lt_of_le hsz bw.size
      have H3 := Lib.hid h3
      clear bw h3
      go_wp2_with fail
      refine (HTOT.out k a3 c3 _ hlt H3.out).mono ?_
      rintro e w4 ⟨a4, n4, c4, b4, m4, d4, rfl, h4, g4, bw⟩
      rw [← HTv.out] at h4 g4 ⊢
      replace HB := Lib.hid (below_then HB.out bw)
      replace HO := Lib.hid (HO.out.later bw)
      have hsz4 : w.heap.size < w4.heap.size := Nat.lt_of_lt_of_le hsz bw.size
      clear bw hsz H3
      obtain ⟨⟨p0, p1, p2⟩, f0, f1, f2⟩ := HO.out.cell (k := k) (by rw [take_len (Nat.le_of_lt hkT)])
      obtain ⟨hst, hgr⟩ := HO.out.stored (k := k) (by rw [take_len (Nat.le_of_lt hkT)]) tk a4 n4 c4 b4 m4 d4 h4 g4
      rw [← HT.out] at hst
      have HS := Lib.hid hst
      have HB5 := Lib.hid (HB.out.grown hgr HB.out.size (fun g' hg' => by simp at hg'; omega))
      have hsz5 := Nat.lt_of_lt_of_le hsz4 hgr.size
      clear hst hgr h4 g4 HO HB HT HTv
      unfold frV
      go_wp2
      go_roundw
      case rel => exact ⟨k + 1, r, by omega, by go_num, HS, HB5, hsz5⟩
      case measure => simp [intOf]; omega
    · obtain rfl : k = n1 := by omega
      have HF := Lib.hid (HO.out.whole HTL.out (by omega))
      obtain ⟨a9, c9, e9, h9⟩ := HF.out.out
      rw [HTL.out] at e9 h9
      cases e9
      have HF9 := Lib.hid h9
      clear HO h9 HF
      go_wp2
      go_ret2
      exact ⟨_, _, _, rfl, HF9.out, HB.out⟩
end Go.Proofs.YtjeigdlhjghinaaGreatDoor

/-
  Package row at this seat: Mix.
-/
namespace Go.Proofs.YtjeigdlhjghinaaGreatDoor
open Go.RowKit

theorem rmix_getD {i N : Nat} (hi : i < N) : ∀ (cs : List Rat) (ls : List (List Rat)) (s : List Rat), s.length = N → (∀ x ∈ ls, x.length = N) → cs.length = ls.length → (rmix s cs ls).getD i 0 = s.getD i 0 + rdot cs (ls.map (fun x => x.getD i 0))
  | [], [], s, _, _, _ => by
    show s.getD i 0 = s.getD i 0 + 0
    grind
  | c :: cs, l :: ls, s, hs, h, hc => by
    have hl := h l (List.mem_cons_self ..)
    have h1 : (radd s (rscale c l)).length = N := by rw [radd_length _ _ (by rw [rscale_length]; exact hs.trans hl.symm)]; exact hs
    have h2 := rmix_getD hi cs ls (radd s (rscale c l)) h1 (fun x hx => h x (List.mem_cons_of_mem _ hx)) (by simpa using hc)
    show (rmix (radd s (rscale c l)) cs ls).getD i 0 = s.getD i 0 + (c * l.getD i 0 + rdot cs (ls.map (fun x => x.getD i 0)))
    rw [h2, radd_getD (by omega) (by rw [rscale_length]; omega), rscale_getD (by omega)]
    grind
  | [], _ :: _, _, _, _, hc => by simp at hc
  | _ :: _, [], _, _, _, hc => by simp at hc
theorem rmix_length {N : Nat} : ∀ (cs : List Rat) (ls : List (List Rat)) (s : List Rat), s.length = N → (∀ x ∈ ls, x.length = N) → cs.length = ls.length → (rmix s cs ls).length = N
  | [], [], _, hs, _, _ => hs
  | c :: cs, l :: ls, s, hs, h, hc => by
    have hl := h l (List.mem_cons_self ..)
    exact rmix_length cs ls (radd s (rscale c l)) (by rw [radd_length _ _ (by rw [rscale_length]; exact hs.trans hl.symm)]; exact hs) (fun x hx => h x (List.mem_cons_of_mem _ hx)) (by simpa using hc)
  | [], _ :: _, _, _, _, hc => by simp at hc
  | _ :: _, [], _, _, _, hc => by simp at hc
theorem mix_len {LL : List (List Fx)} {L : List Fx} {k : Nat} (hN : ∀ M ∈ LL, M.length = k) (hc : L.length = LL.length) : (rmix (List.replicate k 0) (fqs L) (LL.map fqs)).length = k :=
  rmix_length _ _ _ List.length_replicate (fun x hx => by
    obtain ⟨M, hM, rfl⟩ := List.mem_map.1 hx
    rw [fqs_length]; exact hN M hM) (by rw [fqs_length, List.length_map]; exact hc)
theorem mix_at {LL : List (List Fx)} {L : List Fx} {k i : Nat} (hi : i < k) (hN : ∀ M ∈ LL, M.length = k) (hc : L.length = LL.length) : (rmix (List.replicate k 0) (fqs L) (LL.map fqs)).getD i 0 = rdot (fqs L) (fqs (colF LL i)) := by
  rw [rmix_getD hi _ _ _ List.length_replicate (fun x hx => by
    obtain ⟨M, hM, rfl⟩ := List.mem_map.1 hx
    rw [fqs_length]; exact hN M hM) (by rw [fqs_length, List.length_map]; exact hc), col_vals (fun M hM => by rw [hN M hM]; exact hi)]
  have h0 : (List.replicate k (0 : Rat)).getD i 0 = 0 := by
    rw [List.getD_eq_getElem?_getD, List.getElem?_replicate]; split <;> rfl
  rw [h0]; grind
set_option maxRecDepth 4096 in
set_option maxHeartbeats 4000000 in
theorem row_mix_no1 (a : Option Addr) (n c : Nat) (b : Option Addr) (m d : Nat) (z : Int) (w : World) (hs : n ≠ m) : Calls Tryz.prog 37 #[.slice a n c, .slice b m d, .int .i64 z] w (LstRwV [] (.bool false) w) := by
  have hq : ((n : Int) == (m : Int)) = false := by simp; omega
  have hq2 : ((n : Int) != (m : Int)) = true := by simp; omega
  clear hs
  go_enter Tryz.func37, Tryz.ntmps37
  go_wp2
  go_ret2
  exact ⟨none, 0, 0, rfl, Rw.nil _, Below.refl _ _⟩
set_option maxRecDepth 4096 in
set_option maxHeartbeats 4000000 in
theorem row_mix_no2 (a : Option Addr) (n c : Nat) (b : Option Addr) (m d : Nat) (z : Int) (w : World) (hs : n = m) (hz : z < 0) : Calls Tryz.prog 37 #[.slice a n c, .slice b m d, .int .i64 z] w (LstRwV [] (.bool false) w) := by
  subst hs
  go_enter Tryz.func37, Tryz.ntmps37
  go_wp2
  go_ret2
  exact ⟨none, 0, 0, rfl, Rw.nil _, Below.refl _ _⟩
set_option maxRecDepth 4096 in
set_option maxHeartbeats 4000000 in
theorem row_mix_no3 (a : Option Addr) (n c : Nat) (b : Option Addr) (m d : Nat) (z : Int) (w : World) (hs : n = m) (hz : 300 < z) : Calls Tryz.prog 37 #[.slice a n c, .slice b m d, .int .i64 z] w (LstRwV [] (.bool false) w) := by
  subst hs
  have hz1 : ¬ z < 0 := by omega
  go_enter Tryz.func37, Tryz.ntmps37
  go_wp2
  go_ret2
  exact ⟨none, 0, 0, rfl, Rw.nil _, Below.refl _ _⟩
set_option maxRecDepth 4096 in
set_option maxHeartbeats 4000000 in
theorem row_mix_no4 (a : Option Addr) (n c : Nat) (b : Option Addr) (m d : Nat) (z : Int) (w : World) (hs : n = m) (hz0 : 0 ≤ z) (hz : z ≤ 300) (LL : List (List Fx)) (h : Fxss w b m d LL) (hb : ¬ ∀ M ∈ LL, (M.length : Int) = z) : Calls Tryz.prog 37 #[.slice a n c, .slice b m d, .int .i64 z] w (LstRwV [] (.bool false) w) := by
  subst hs
  have hz1 : ¬ z < 0 := by omega
  have hz2 : ¬ 300 < z := by omega
  have HNO := Lib.hid (show ∀ w' : World, Below w.heap.size w w' → Calls Tryz.prog 61 #[.slice b n d, .int .i64 z] w' (fun e w'' => e = .returned (.bool false) ∧ w' = w'') from fun w' hw => row_allOf _ n d LL z false w' (h.later hw) (Lib.hid ⟨fun h9 => absurd h9 (by decide), fun h9 => absurd h9 hb⟩))
  clear h hb
  go_enter Tryz.func37, Tryz.ntmps37
  go_wp2_with fail
  refine (HNO.out _ (Below.refl _ _)).mono ?_
  rintro e w' ⟨rfl, rfl⟩
  go_wp2
  go_ret2
  exact ⟨none, 0, 0, rfl, Rw.nil _, Below.refl _ _⟩
set_option maxRecDepth 4096 in
set_option maxHeartbeats 4000000 in
theorem row_mix_yes (a : Option Addr) (n c : Nat) (L : List Fx) (b : Option Addr) (d : Nat) (LL : List (List Fx)) (nz : Nat) (w : World) (h : Fxs w a n c L) (h8 : Fxss w b n d LL) (hn : n ≤ 10) (ht : thin 4 L) (hl : ∀ M ∈ LL, M.length ≤ 10 ∧ thin 4 M) (hz : nz ≤ 300) (hN : ∀ M ∈ LL, M.length = nz) : Calls Tryz.prog 37 #[.slice a n c, .slice b n d, .int .i64 (nz : Int)] w (LstRwV (rmix (List.replicate nz 0) (fqs L) (LL.map fqs)) (.bool true) w) := by
  have hz1 : ¬ (nz : Int) < 0 := by omega
  have hz2 : ¬ 300 < (nz : Int) := by omega
  have hbd := h.bound
  have hbd8 := h8.bound
  have hcc : L.length = LL.length := by rw [h.len, h8.len]
  have HYES := Lib.hid (show ∀ w' : World, Below w.heap.size w w' → Calls Tryz.prog 61 #[.slice b n d, .int .i64 (nz : Int)] w' (fun e w'' => e = .returned (.bool true) ∧ w' = w'') from fun w' hw => row_allOf _ n d LL (nz : Int) true w' (h8.later hw) (Lib.hid ⟨fun _ M hM => by rw [hN M hM], fun _ => rfl⟩))
  have HCOL := Lib.hid (show ∀ (k : Nat) (w' : World), k < nz → Below w.heap.size w w' → Calls Tryz.prog 63 #[.slice b n d, .int .i64 (k : Int)] w' (fun e w'' => ∃ (a' : Option Addr) (c' : Nat), e = .returned (.slice a' n c') ∧ Fxs w'' a' n c' (colF LL k) ∧ Below w'.heap.size w' w'') from fun k w' hk hw => row_column _ n d LL k w' (h8.later hw) (by omega) (fun M hM => by rw [hN M hM]; exact hk))
  have HDOT := Lib.hid (show ∀ (k : Nat) (a' : Option Addr) (c' : Nat) (w' : World), k < nz → Below w.heap.size w w' → Fxs w' a' n c' (colF LL k) → Calls Tryz.prog 29 #[.slice a n c, .slice a' n c'] w' (LstQV (rdot (fqs L) (fqs (colF LL k))) (.bool true) w') from fun k a' c' w' hk hw hf => row_dot_yes a n c L a' n c' (colF LL k) w' (h.later hw) hf (by omega) (ht.mono (by decide)) ((colF_thin (fun M hM => (hl M hM).2) (fun M hM => by rw [hN M hM]; exact hk)).mono (by decide)) (Lib.hid rfl))
  have HTL0 := mix_len hN hcc
  have HTV0 : ∀ k, k < nz → (rmix (List.replicate nz 0) (fqs L) (LL.map fqs)).getD k 0 = rdot (fqs L) (fqs (colF LL k)) := fun k hk => mix_at hk hN hcc
  obtain ⟨T, hTe⟩ : ∃ T, rmix (List.replicate nz 0) (fqs L) (LL.map fqs) = T := ⟨_, rfl⟩
  rw [hTe] at HTL0 HTV0 ⊢
  have HTL := Lib.hid HTL0
  have HTV := Lib.hid HTV0
  clear h h8 ht hl hN HTL0 HTV0 hTe hcc
  obtain ⟨i0, hi, hy0, hy1, hy2⟩ := info_parts infoFracR
  go_enter Tryz.func37, Tryz.ntmps37
  go_wp2_with fail
  refine (HYES.out _ (Below.refl _ _)).mono ?_
  rintro e w' ⟨rfl, rfl⟩
  go_wp2_with (at_make; refine wpList_make_fracs _ rfl _ _ 28 rfl (w.heap.size) 41 i0 Tryz.underlying28 hi hy0 hy1 hy2 _ _ _ _ nz rfl rfl (by omega) (by omega) (by omega) (by simp) ?_; intro wm hmade hgm hszm)
  have HO0 := Lib.hid (Half.start hmade)
  have HB0 : Hid (Below w.heap.size w wm) := Lib.hid ((Below.refl _ _).grown hgm (Nat.le_refl _) (fun k hk => by cases hk))
  clear hmade hgm
  go_loopw [32] (fun iv wr => ∃ k r : Nat, k + r = nz ∧ iv = .int .i64 (k : Int) ∧ Hid (Half wr w.heap.size 41 (.slice (some ⟨w.heap.size, 0, none⟩) nz nz) (T.take k) r) ∧ Hid (Below w.heap.size w wr) ∧ w.heap.size < wr.heap.size) (fun iv _ => nz - (intOf iv).toNat)
  case atStart => exact ⟨0, nz, by omega, rfl, HO0, HB0, by omega⟩
  case round =>
    clear HO0 HB0
    obtain ⟨k, r, hk, rfl, HO, HB, hsz⟩ := hrel
    by_cases hlt : k < nz
    · have hkT : k < T.length := by rw [HTL.out]; exact hlt
      obtain ⟨r, rfl⟩ : ∃ r', r = r' + 1 := ⟨r - 1, by omega⟩
      have HT : Hid (T.take (k + 1) = T.take k ++ [T.getD k 0]) := Lib.hid (q_more hkT)
      have HTv := Lib.hid (HTV.out k hlt)
      generalize T.getD k 0 = tk at *
      have hki : (k : Int) < (nz : Int) := by omega
      have hk0 : (0 : Int) ≤ (k : Int) := by omega
      go_wp2_with fail
      refine (HCOL.out k _ hlt HB.out).mono ?_
      rintro e w3 ⟨a3, c3, rfl, h3, bw⟩
      replace HB := Lib.hid (below_then HB.out bw)
      replace HO := Lib.hid (HO.out.later bw)
      replace hsz := Nat.lt_of_lt_of_le hsz bw.size
      have H3 := Lib.hid h3
      clear bw h3
      go_wp2_with fail
      refine (HDOT.out k a3 c3 _ hlt HB.out H3.out).mono ?_
      rintro e w4 ⟨a4, n4, c4, b4, m4, d4, rfl, h4, g4, bw⟩
      rw [← HTv.out] at h4 g4 ⊢
      replace HB := Lib.hid (below_then HB.out bw)
      replace HO := Lib.hid (HO.out.later bw)
      have hsz4 : w.heap.size < w4.heap.size := Nat.lt_of_lt_of_le hsz bw.size
      clear bw hsz H3
      obtain ⟨⟨p0, p1, p2⟩, f0, f1, f2⟩ := HO.out.cell (k := k) (by rw [take_len (Nat.le_of_lt hkT)])
      obtain ⟨hst, hgr⟩ := HO.out.stored (k := k) (by rw [take_len (Nat.le_of_lt hkT)]) tk a4 n4 c4 b4 m4 d4 h4 g4
      rw [← HT.out] at hst
      have HS := Lib.hid hst
      have HB5 := Lib.hid (HB.out.grown hgr HB.out.size (fun g' hg' => by simp at hg'; omega))
      have hsz5 := Nat.lt_of_lt_of_le hsz4 hgr.size
      clear hst hgr h4 g4 HO HB HT HTv
      unfold frV
      go_wp2
      go_roundw
      case rel => exact ⟨k + 1, r, by omega, by go_num, HS, HB5, hsz5⟩
      case measure => simp [intOf]; omega
    · obtain rfl : k = nz := by omega
      have HF := Lib.hid (HO.out.whole HTL.out (by omega))
      obtain ⟨a9, c9, e9, h9⟩ := HF.out.out
      rw [HTL.out] at e9 h9
      cases e9
      have HF9 := Lib.hid h9
      clear HO h9 HF
      go_wp2
      go_ret2
      exact ⟨_, _, _, rfl, HF9.out, HB.out⟩
end Go.Proofs.YtjeigdlhjghinaaGreatDoor
