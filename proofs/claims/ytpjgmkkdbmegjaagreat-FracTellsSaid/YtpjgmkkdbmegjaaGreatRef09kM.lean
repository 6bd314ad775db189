/-
  The document's answer of layer 9: Floor.
-/
import Derived.Test.YtpjgmkkdbmegjaaGreatRef09jM
import Derived.Deep.CutRange
namespace Go.Proofs.YtpjgmkkdbmegjaaGreat
open Go.RowKit

theorem pair_cells {w : World} {A : Nat} {x y : Value} {t : TypeId} (h1 : w.heap[A]? = some (.cells #[x, y] t (0, 0))) : w.cell? ⟨A, 0, none⟩ = some x ∧ w.cell? ⟨A, 1, none⟩ = some y := ⟨blk_cell h1 0, blk_cell h1 1⟩
theorem blk_drawn {w : World} {g : Nat} {o : Obj} (h : w.heap[g]? = some o) : w.drew.heap[g]? = some o := h
theorem new_at {w : World} {g : Nat} (x : Array Value) (t : TypeId) (h : w.heap.size = g) : (w.alloc (.cells x t)).heap[g]? = some (.cells x t (0, 0)) := by
  subst h
  exact blk_new w x t
theorem second_new (w : World) (o : Obj) (x : Array Value) {t : TypeId} : ((w.alloc o).alloc (.cells x t)).heap[w.heap.size + 1]? = some (.cells x t (0, 0)) := by
  have h := blk_new (w.alloc o) x t
  rw [blk_size] at h
  exact h
theorem later_gives {P : Program} {f : FuncId} {args : Array Value} {v0 v : World} {u : Value} (hv : Below v0.heap.size v0 v) (h : Calls P f args v (Gives u v)) :
    Calls P f args v (fun e w' => e = .returned u ∧ Below v0.heap.size v0 w' ∧ ∀ (g : Nat) (o : Obj), v.heap[g]? = some o → w'.heap[g]? = some o) :=
  h.mono fun _ _ ⟨he, hb⟩ => ⟨he, below_then hv hb, fun _ _ hg => blk_later hg hb⟩
theorem later_lstZZ {P : Program} {f : FuncId} {args : Array Value} {v0 v : World} {x y : Int} (hv : Below v0.heap.size v0 v) (h : Calls P f args v (LstZZ x y v)) :
    Calls P f args v (fun e w' => ∃ (a : Option Addr) (n cap : Nat) (b : Option Addr) (m cap' : Nat), e = .returned (.tuple #[whV (zneg x) a n cap, whV (zneg y) b m cap']) ∧ Wd w' a n cap (dg x.natAbs) ∧ Wd w' b m cap' (dg y.natAbs) ∧ Below v0.heap.size v0 w' ∧ ∀ (g : Nat) (o : Obj), v.heap[g]? = some o → w'.heap[g]? = some o) :=
  h.mono fun _ _ ⟨a, n, c, b, m, d, he, h1, h2, hb⟩ => ⟨a, n, c, b, m, d, he, h1, h2, below_then hv hb, fun _ _ hg => blk_later hg hb⟩
set_option maxRecDepth 4096 in
set_option maxHeartbeats 8000000 in
theorem ref09_floor_q (q : Rat) (a0 : Option Addr) (n0 c0 : Nat) (b0 : Option Addr) (m0 d0 : Nat) (w : World) (ha : Wd w a0 n0 c0 (dg q.num.natAbs)) (hb : Wd w b0 m0 d0 (dg q.den)) (hn : n0 ≤ 15000) (hm : m0 ≤ 15000) :
    Calls Tryz.prog 10 #[frV (zneg q.num) a0 n0 c0 b0 m0 d0] w (LstZ q.floor w) := by
  obtain ⟨z, hz⟩ : ∃ z, q.floor = z := ⟨_, rfl⟩
  obtain ⟨y, hy⟩ : ∃ y, Int.fmod q.num (q.den : Int) = y := ⟨_, rfl⟩
  obtain ⟨s0, hs⟩ : ∃ s, zneg q.num = s := ⟨_, rfl⟩
  rw [hz, hs]
  have HZ : Hid (Int.fdiv q.num (q.den : Int) = z) := Lib.hid ((floor_fdiv q).trans hz)
  have HY := Lib.hid hy
  have HS := Lib.hid hs
  clear hz hy hs
  have HB := Lib.hid (below_then (below_alloc w (.cells #[.bool s0, .slice a0 n0 c0, .slice b0 m0 d0] 24)) (below_alloc _ (.cells #[.bool false, .slice none 0 0] 35)))
  have A0 := Lib.hid (ha.later HB.out)
  have B0 := Lib.hid (hb.later HB.out)
  obtain ⟨hx0, hx1⟩ := boxes_at w ((w.alloc (.cells #[.bool s0, .slice a0 n0 c0, .slice b0 m0 d0] 24)).alloc (.cells #[.bool false, .slice none 0 0] 35)) #[.bool s0, .slice a0 n0 c0, .slice b0 m0 d0] #[.bool false, .slice none 0 0] 24 35 (Below.refl _ _)
  have X0 := Lib.hid hx0
  have X1 := Lib.hid hx1
  clear ha hb hx0 hx1
  go_enter Tryz.func10, Tryz.ntmps10
  unfold frV
  obtain ⟨k0, k1, k2⟩ := cells_3 X0.out
  go_wp2
  generalize ((w.alloc (.cells #[.bool s0, .slice a0 n0 c0, .slice b0 m0 d0] 24)).alloc (.cells #[.bool false, .slice none 0 0] 35)) = W at *
  clear k0 k1 k2
  have HBd : Hid (Below W.heap.size W W.drew) := Lib.hid (Below.refl _ _).drew
  have K0 : Hid (W.drew.heap[w.heap.size]? = _) := Lib.hid X0.out
  have hW1 : w.heap.size + 1 < W.heap.size := (Array.getElem?_eq_some_iff.1 X1.out).1
  go_cut [3] from 4 to 14 (fun s wx => ∃ (g : Nat) (a2 : Option Addr) (n2 c2 : Nat), s = .pointer (some ⟨g, 0, none⟩) ∧ Hid (wx.heap[g]? = some (.cells #[.bool (zneg z), .slice a2 n2 c2] 35 (0, 0))) ∧ Hid (Wd wx a2 n2 c2 (dg z.natAbs)) ∧ Hid (Below w.heap.size w wx) ∧ Hid (wx.heap[w.heap.size + 1]? = some (.cells #[.bool false, .slice none 0 0] 35 (0, 0))) ∧ w.heap.size + 1 < g)
  case first =>
    go_region_held3 (fun w' => w'.cell? ⟨w.heap.size, 0, none⟩ = some (.bool s0) ∧ w'.cell? ⟨w.heap.size, 1, none⟩ = some (.slice a0 n0 c0) ∧ w'.cell? ⟨w.heap.size, 2, none⟩ = some (.slice b0 m0 d0)) (with_reducible refine cells_3 (t0 := 24) ?_; repeat (first | with_reducible exact K2.out | with_reducible exact K1.out | with_reducible exact K0.out | with_reducible exact X0.out | with_reducible refine blk_drawn ?_ | with_reducible refine blk_apart ?_ (by omega) _ _ | with_reducible refine blk_later ?_ (below_alloc _ _)))
      (first
      | (go_at_call 32; refine (later_gives (v0 := W) ?q0 (ref09_up s0 a0 n0 c0 b0 m0 d0 _)).mono ?_; (case q0 => first | exact HBd.out | exact (below_alloc _ _).drew | exact (below_then (below_alloc _ _) (below_alloc _ _)).drew); rintro e w1 ⟨rfl, hb1, kk1⟩; have HB1 := Lib.hid hb1; have lW1 : W.heap.size ≤ w1.heap.size := hb1.size; have K1 := Lib.hid (blk_later X0.out hb1); have J1 := Lib.hid (blk_later X1.out hb1); (try have P0 : Hid (w1.heap[W.heap.size]? = some (.cells #[.bool false, .slice none 0 0] 35 (0, 0))) := Lib.hid (by first | exact kk1 _ _ (blk_drawn (blk_new W _ _)) | exact kk1 _ _ (blk_drawn (blk_later (blk_new W _ _) (below_alloc _ _))))); (try have P1 : Hid (w1.heap[W.heap.size + 1]? = some (.cells #[.bool false, .slice none 0 0] 35 (0, 0))) := Lib.hid (by exact kk1 _ _ (blk_drawn (second_new W _ _)))); (try have lP0 : W.heap.size < w1.heap.size := (Array.getElem?_eq_some_iff.1 P0.out).1); (try have lP1 : W.heap.size + 1 < w1.heap.size := (Array.getElem?_eq_some_iff.1 P1.out).1); clear hb1 kk1; unfold whV)
      | (go_at_call 31; refine (later_lstZZ (v0 := W) ?q4 (ref08_floor_z s0 a0 n0 c0 _ q.num false b0 m0 d0 _ (q.den : Int) _ (A0.out.later ?q2) (B0.out.later ?q3) (by omega) (by omega) (by rw [← HS.out]; exact zval_up q) (zval_den q) (zden_nz q))).mono ?_; (case q2 => first | exact HB1.out | exact below_then HB1.out (below_alloc _ _) | exact below_then (below_then HB1.out (below_alloc _ _)) (below_alloc _ _)); (case q3 => first | exact HB1.out | exact below_then HB1.out (below_alloc _ _) | exact below_then (below_then HB1.out (below_alloc _ _)) (below_alloc _ _)); (case q4 => first | exact HB1.out | exact below_then HB1.out (below_alloc _ _) | exact below_then (below_then HB1.out (below_alloc _ _)) (below_alloc _ _)); rintro e w2 ⟨a2, n2, c2, a3, n3, c3, rfl, h2, h3, hb2, kk2⟩; rw [HZ.out, HY.out]; rw [HZ.out] at h2; have R2 := Lib.hid h2; have HB2 := Lib.hid hb2; have lW2 : W.heap.size ≤ w2.heap.size := hb2.size; have K2 := Lib.hid (blk_later X0.out hb2); have J2 := Lib.hid (blk_later X1.out hb2); (try have Q0 : Hid (w2.heap[w1.heap.size]? = some (.cells #[.bool false, .slice none 0 0] 35 (0, 0))) := Lib.hid (by first | exact kk2 _ _ (blk_new w1 _ _) | exact kk2 _ _ (blk_later (blk_new w1 _ _) (below_alloc _ _)))); (try have Q1 : Hid (w2.heap[w1.heap.size + 1]? = some (.cells #[.bool false, .slice none 0 0] 35 (0, 0))) := Lib.hid (by first | exact kk2 _ _ (second_new w1 _ _))); (try replace P0 := Lib.hid (by first | exact kk2 _ _ P0.out | exact kk2 _ _ (blk_later P0.out (below_alloc _ _)))); (try replace P1 := Lib.hid (by first | exact kk2 _ _ P1.out | exact kk2 _ _ (blk_later P1.out (below_alloc _ _)))); (try have l2P0 : W.heap.size < w2.heap.size := (Array.getElem?_eq_some_iff.1 P0.out).1); (try (have eP0 := P0.out; obtain ⟨eP0x, eP0y⟩ := pair_cells eP0; have eP0u := blk_free eP0 0; have eP0v := blk_free eP0 1; clear eP0)); (try (have fP0 := (blk_later P0.out (below_alloc w2 (.cells #[.bool false, .slice none 0 0] 35))); obtain ⟨fP0x, fP0y⟩ := pair_cells fP0; have fP0u := blk_free fP0 0; have fP0v := blk_free fP0 1; clear fP0)); (try have l2P1 : W.heap.size + 1 < w2.heap.size := (Array.getElem?_eq_some_iff.1 P1.out).1); (try (have eP1 := P1.out; obtain ⟨eP1x, eP1y⟩ := pair_cells eP1; have eP1u := blk_free eP1 0; have eP1v := blk_free eP1 1; clear eP1)); (try (have fP1 := (blk_later P1.out (below_alloc w2 (.cells #[.bool false, .slice none 0 0] 35))); obtain ⟨fP1x, fP1y⟩ := pair_cells fP1; have fP1u := blk_free fP1 0; have fP1v := blk_free fP1 1; clear fP1)); (try have l2Q0 : w1.heap.size < w2.heap.size := (Array.getElem?_eq_some_iff.1 Q0.out).1); (try (have eQ0 := Q0.out; obtain ⟨eQ0x, eQ0y⟩ := pair_cells eQ0; have eQ0u := blk_free eQ0 0; have eQ0v := blk_free eQ0 1; clear eQ0)); (try (have fQ0 := (blk_later Q0.out (below_alloc w2 (.cells #[.bool false, .slice none 0 0] 35))); obtain ⟨fQ0x, fQ0y⟩ := pair_cells fQ0; have fQ0u := blk_free fQ0 0; have fQ0v := blk_free fQ0 1; clear fQ0)); (try have l2Q1 : w1.heap.size + 1 < w2.heap.size := (Array.getElem?_eq_some_iff.1 Q1.out).1); (try (have eQ1 := Q1.out; obtain ⟨eQ1x, eQ1y⟩ := pair_cells eQ1; have eQ1u := blk_free eQ1 0; have eQ1v := blk_free eQ1 1; clear eQ1)); (try (have fQ1 := (blk_later Q1.out (below_alloc w2 (.cells #[.bool false, .slice none 0 0] 35))); obtain ⟨fQ1x, fQ1y⟩ := pair_cells fQ1; have fQ1u := blk_free fQ1 0; have fQ1v := blk_free fQ1 1; clear fQ1)); (try (have gR0 := blk_new w2 #[.bool false, .slice none 0 0] 35; obtain ⟨gR0x, gR0y⟩ := pair_cells gR0; have gR0u := blk_free gR0 0; have gR0v := blk_free gR0 1; clear gR0)); (try (have hR0 := blk_later (blk_new w2 #[.bool false, .slice none 0 0] 35) (below_alloc (w2.alloc (.cells #[.bool false, .slice none 0 0] 35)) (.cells #[.bool false, .slice none 0 0] 35)); obtain ⟨hR0x, hR0y⟩ := pair_cells hR0; have hR0u := blk_free hR0 0; have hR0v := blk_free hR0 1; clear hR0)); (try (have hR1 := (second_new w2 (.cells #[.bool false, .slice none 0 0] 35) #[.bool false, .slice none 0 0] (t := 35)); obtain ⟨hR1x, hR1y⟩ := pair_cells hR1; have hR1u := blk_free hR1 0; have hR1v := blk_free hR1 1; clear hR1)); clear h2 h3 hb2 kk2; unfold whV))
    all_goals (
      try clear eP0x; try clear eP0y; try clear eP0u; try clear eP0v; try clear eP1x; try clear eP1y; try clear eP1u; try clear eP1v; try clear eQ0x; try clear eQ0y; try clear eQ0u; try clear eQ0v; try clear eQ1x; try clear eQ1y; try clear eQ1u; try clear eQ1v; try clear fP0x; try clear fP0y; try clear fP0u; try clear fP0v; try clear fP1x; try clear fP1y; try clear fP1u; try clear fP1v; try clear fQ0x; try clear fQ0y; try clear fQ0u; try clear fQ0v; try clear fQ1x; try clear fQ1y; try clear fQ1u; try clear fQ1v; try clear gR0x; try clear gR0y; try clear gR0u; try clear gR0v; try clear hR0x; try clear hR0y; try clear hR0u; try clear hR0v; try clear hR1x; try clear hR1y; try clear hR1u; try clear hR1v
      clear HBd K0 K1 K2 J1 HB1 A0 B0 HZ HY HS X0 X1
      go_wp2
      go_meet
      refine ⟨_, a2, n2, c2, rfl, Lib.hid ?_, Lib.hid ?_, Lib.hid ?_, Lib.hid ?_, by omega⟩
      · repeat (first | with_reducible exact blk_new _ _ _ | with_reducible exact second_new _ _ _ | (with_reducible refine new_at _ _ ?_; simp; done) | with_reducible refine blk_apart2 ?_ (by omega) _ _ | with_reducible exact blk_set2 P0.out _ _ | with_reducible exact blk_set2 (blk_later P0.out (below_alloc _ _)) _ _ | with_reducible exact blk_set2 P1.out _ _ | with_reducible exact blk_set2 (blk_later P1.out (below_alloc _ _)) _ _ | with_reducible exact blk_set2 Q0.out _ _ | with_reducible exact blk_set2 (blk_later Q0.out (below_alloc _ _)) _ _ | with_reducible exact blk_set2 Q1.out _ _ | with_reducible exact blk_set2 (blk_later Q1.out (below_alloc _ _)) _ _ | with_reducible exact blk_set2 (blk_new _ _ _) _ _ | with_reducible exact blk_set2 (blk_later (blk_new _ _ _) (below_alloc _ _)) _ _ | with_reducible refine blk_later ?_ (below_alloc _ _))
      · repeat (first | with_reducible exact R2.out | with_reducible refine Wd.stored2 ?_ P0.out _ _ | with_reducible refine Wd.stored2 ?_ (blk_later P0.out (below_alloc _ _)) _ _ | with_reducible refine Wd.stored2 ?_ P1.out _ _ | with_reducible refine Wd.stored2 ?_ (blk_later P1.out (below_alloc _ _)) _ _ | with_reducible refine Wd.stored2 ?_ Q0.out _ _ | with_reducible refine Wd.stored2 ?_ (blk_later Q0.out (below_alloc _ _)) _ _ | with_reducible refine Wd.stored2 ?_ Q1.out _ _ | with_reducible refine Wd.stored2 ?_ (blk_later Q1.out (below_alloc _ _)) _ _ | with_reducible refine Wd.stored2 ?_ (blk_new _ _ _) _ _ | with_reducible refine Wd.stored2 ?_ (blk_later (blk_new _ _ _) (below_alloc _ _)) _ _ | with_reducible refine Wd.stored2 ?_ (blk_apart2 P0.out (by omega) _ _) _ _ | with_reducible refine Wd.stored2 ?_ (blk_apart2 (blk_later P0.out (below_alloc _ _)) (by omega) _ _) _ _ | with_reducible refine Wd.stored2 ?_ (blk_apart2 P1.out (by omega) _ _) _ _ | with_reducible refine Wd.stored2 ?_ (blk_apart2 (blk_later P1.out (below_alloc _ _)) (by omega) _ _) _ _ | with_reducible refine Wd.stored2 ?_ (blk_apart2 Q0.out (by omega) _ _) _ _ | with_reducible refine Wd.stored2 ?_ (blk_apart2 (blk_later Q0.out (below_alloc _ _)) (by omega) _ _) _ _ | with_reducible refine Wd.stored2 ?_ (blk_apart2 Q1.out (by omega) _ _) _ _ | with_reducible refine Wd.stored2 ?_ (blk_apart2 (blk_later Q1.out (below_alloc _ _)) (by omega) _ _) _ _ | with_reducible refine Wd.stored2 ?_ (blk_apart2 (blk_new _ _ _) (by omega) _ _) _ _ | with_reducible refine Wd.stored2 ?_ (blk_apart2 (blk_later (blk_new _ _ _) (below_alloc _ _)) (by omega) _ _) _ _ | with_reducible refine Wd.later ?_ (below_alloc _ _))
      · repeat (first | exact below_then HB.out HB2.out | with_reducible refine below_set2 ?_ (by omega) _ _ | with_reducible refine below_then ?_ (below_alloc _ _))
      · repeat (first | with_reducible exact J2.out | with_reducible refine blk_apart2 ?_ (by omega) _ _ | with_reducible refine blk_later ?_ (below_alloc _ _)))
  case rest =>
    obtain ⟨g, a2, n2, c2, rfl, HG, HL, HBz, HR, hg⟩ := hcut
    obtain ⟨q0, q1⟩ := pair_cells HG.out
    obtain ⟨r0, r1⟩ := pair_cells HR.out
    have f0 := blk_free HR.out 0
    have f1 := blk_free HR.out 1
    have HG1 := Lib.hid (blk_set2 HR.out (.bool (zneg z)) (.slice a2 n2 c2))
    have HL1 := Lib.hid (HL.out.stored2 HR.out (zneg z) (.slice a2 n2 c2))
    have HB1 := Lib.hid (below_set2 HBz.out (show w.heap.size ≤ w.heap.size + 1 by omega) (.bool (zneg z)) (.slice a2 n2 c2))
    go_wp2
    refine bodyPost_ret (results_cell_row Tryz.results10 _ _ (w.heap.size + 1) 35 #[.bool (zneg z), .slice a2 n2 c2] (0, 0) _ rfl HG1.out Tryz.underlying35 rfl (by kernel_rfl)) rfl ?_
    exact ⟨a2, n2, c2, rfl, HL1.out, HB1.out⟩
end Go.Proofs.YtpjgmkkdbmegjaaGreat
