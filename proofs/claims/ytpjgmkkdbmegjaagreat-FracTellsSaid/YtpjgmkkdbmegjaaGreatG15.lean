/-
  Several texts of this claim as one, group 15.
-/
import Derived.Test.YtpjgmkkdbmegjaaGreatG14
import Derived.Deep.RegionHeld3
import Derived.Test.YtpjgmkkdbmegjaaGreatG11
import Derived.WalkKit
import Derived.ProofKit
import Derived.OpenShut
import Derived.Test.YtpjgmkkdbmegjaaGreatG13
/-
  Package frac at this seat: Floor.
-/
namespace Go.Proofs.YtpjgmkkdbmegjaaGreat
open Go.RowKit

set_option maxRecDepth 4096 in
set_option maxHeartbeats 4000000 in
theorem frac_floor (neg : Bool) (a : Option Addr) (n cap : Nat) (la : List Nat) (b : Option Addr) (m cap' : Nat) (lb : List Nat) (w : World) (ha : Wd w a n cap la) (hb : Wd w b m cap' lb) (hn : n ≤ 40000) (hm : m ≤ 40000) :
    Calls Tryz.prog 8 #[frV neg a n cap b m cap'] w (LstZ (qval neg (val la) (val lb)).floor w) := by
  have HB := Lib.hid (below_then (below_alloc w (.cells #[.bool neg, .slice a n cap, .slice b m cap'] 30)) (below_alloc _ (.cells #[.bool false, .slice none 0 0] 28)))
  have HA := Lib.hid (ha.later HB.out)
  have HC := Lib.hid (hb.later HB.out)
  obtain ⟨hx1, hx2⟩ := boxes_at w ((w.alloc (.cells #[.bool neg, .slice a n cap, .slice b m cap'] 30)).alloc (.cells #[.bool false, .slice none 0 0] 28)) #[.bool neg, .slice a n cap, .slice b m cap'] #[.bool false, .slice none 0 0] 30 28 (Below.refl _ _)
  have HX := Lib.hid hx1
  have HR := Lib.hid hx2
  clear hx1 hx2 ha hb
  obtain ⟨r, ok, hF⟩ : ∃ (r : Int) (ok : Bool), ∀ w' : World, Wd w' a n cap la → Wd w' b m cap' lb → Calls Tryz.prog 29 #[whV neg a n cap, whV false b m cap'] w' (LstZZB (qval neg (val la) (val lb)).floor r ok w') := by
    by_cases h0 : val lb = 0
    · have e : (qval neg (val la) (val lb)).floor = 0 := by rw [qval_none neg (.inl h0)]; rfl
      refine ⟨0, false, fun w' h1 h2 => ?_⟩
      rw [e]
      exact whole_floor_no neg a n cap la false b m cap' lb w' h1 h2 (by omega) (by rw [h0]; rfl)
    · refine ⟨Int.fmod (zval neg (val la)) (val lb : Int), true, fun w' h1 h2 => ?_⟩
      rw [fc_qfloor neg (val la) h0]
      exact whole_floor_yes neg a n cap la false b m cap' lb w' h1 h2 (by omega) (by omega) (by rw [zval_false]; omega)
  generalize (qval neg (val la) (val lb)).floor = z at *
  go_enter Tryz.func8, Tryz.ntmps8
  unfold frV
  obtain ⟨vk0, vk1, vk2, vk3, vk4⟩ := fcells_3_2 HX.out HR.out
  go_wp2_with fail
  refine (hF _ HA.out HC.out).mono ?_
  rintro e wv1 ⟨a1, n1, c1, a2, n2, c2, rfl, h1, h2, b⟩
  clear vk0 vk1 vk2 vk3 vk4
  replace HB := Lib.hid (below_then HB.out b)
  replace HX := Lib.hid (blk_later HX.out b)
  replace HR := Lib.hid (blk_later HR.out b)
  clear HA
  clear HC
  clear b
  have R1 := Lib.hid h1
  clear h1 h2
  unfold whV
  have HP : Hid ((World.alloc wv1 (.cells #[.bool (zneg z), .slice a1 n1 c1] 28)).heap[wv1.heap.size]? = some (.cells #[.bool (zneg z), .slice a1 n1 c1] 28 (0, 0))) := Lib.hid (blk_new wv1 _ _)
  replace HB := Lib.hid (below_then HB.out (below_alloc wv1 (.cells #[.bool (zneg z), .slice a1 n1 c1] 28)))
  replace HX := Lib.hid (blk_later HX.out (below_alloc wv1 (.cells #[.bool (zneg z), .slice a1 n1 c1] 28)))
  replace HR := Lib.hid (blk_later HR.out (below_alloc wv1 (.cells #[.bool (zneg z), .slice a1 n1 c1] 28)))
  replace R1 := Lib.hid (R1.out.later (below_alloc wv1 (.cells #[.bool (zneg z), .slice a1 n1 c1] 28)))
  have HP2 : Hid ((World.alloc (wv1.alloc (.cells #[.bool (zneg z), .slice a1 n1 c1] 28)) (.cells #[.bool (zneg r), .slice a2 n2 c2] 28)).heap[wv1.heap.size + 1]? = some (.cells #[.bool (zneg r), .slice a2 n2 c2] 28 (0, 0))) := Lib.hid (by have h := blk_new (wv1.alloc (.cells #[.bool (zneg z), .slice a1 n1 c1] 28)) #[.bool (zneg r), .slice a2 n2 c2] 28; rw [blk_size] at h; exact h)
  replace HB := Lib.hid (below_then HB.out (below_alloc (wv1.alloc (.cells #[.bool (zneg z), .slice a1 n1 c1] 28)) (.cells #[.bool (zneg r), .slice a2 n2 c2] 28)))
  replace HX := Lib.hid (blk_later HX.out (below_alloc (wv1.alloc (.cells #[.bool (zneg z), .slice a1 n1 c1] 28)) (.cells #[.bool (zneg r), .slice a2 n2 c2] 28)))
  replace HR := Lib.hid (blk_later HR.out (below_alloc (wv1.alloc (.cells #[.bool (zneg z), .slice a1 n1 c1] 28)) (.cells #[.bool (zneg r), .slice a2 n2 c2] 28)))
  replace HP := Lib.hid (blk_later HP.out (below_alloc (wv1.alloc (.cells #[.bool (zneg z), .slice a1 n1 c1] 28)) (.cells #[.bool (zneg r), .slice a2 n2 c2] 28)))
  replace R1 := Lib.hid (R1.out.later (below_alloc (wv1.alloc (.cells #[.bool (zneg z), .slice a1 n1 c1] 28)) (.cells #[.bool (zneg r), .slice a2 n2 c2] 28)))
  obtain ⟨vk0, vk1⟩ := fcells_2 HP.out
  obtain ⟨r0, r1⟩ := fcells_2 HR.out
  have f0 := blk_free HR.out 0
  have f1 := blk_free HR.out 1
  have HG := Lib.hid (blk_set2 HR.out (.bool (zneg z)) (.slice a1 n1 c1))
  have HF := Lib.hid (R1.out.stored2 HR.out (zneg z) (.slice a1 n1 c1))
  have HL := Lib.hid (below_set2 HB.out (show w.heap.size ≤ w.heap.size + 1 by omega) (.bool (zneg z)) (.slice a1 n1 c1))
  go_wp2
  refine bodyPost_ret (results_cell_row Tryz.results8 _ _ (w.heap.size + 1) 28 #[.bool (zneg z), .slice a1 n1 c1] (0, 0) _ rfl HG.out Tryz.underlying28 rfl (by kernel_rfl)) rfl ?_
  exact ⟨a1, n1, c1, rfl, HF.out, HL.out⟩
end Go.Proofs.YtpjgmkkdbmegjaaGreat

/-
  What package frac's functions owe, proved.
-/
namespace Go.Proofs.YtpjgmkkdbmegjaaGreat
open Go.RowKit

theorem fracSaid : FracSaid where
  new := fun neg a n cap la b m cap' lb q w ha hb hn hm hq => by subst hq; exact frac_new neg a n cap la b m cap' lb w ha hb (by omega) (by omega)
  of := fun z w hz => frac_of z w hz
  ratio := fun x y w hx hy => frac_ratio x y w hx hy
  norm := fun v q w h => by
    obtain ⟨neg, a, n, cap, la, b, m, cap', lb, rfl, ha, hb, hn, hm, rfl⟩ := h
    exact frac_norm neg a n cap la b m cap' lb w ha hb (by omega) (by omega)
  right := fun neg a n cap la b m cap' lb q w ha hb hn hm hq => by subst hq; exact frac_right neg a n cap la b m cap' lb w ha hb (by omega) (by omega)
  sign := fun v q w h => by
    obtain ⟨neg, a, n, cap, la, b, m, cap', lb, rfl, ha, hb, hn, hm, rfl⟩ := h
    exact frac_sign neg a n cap la b m cap' lb w ha hb (by omega) (by omega)
  cmp := fun v u p q w h k => by
    obtain ⟨na, a, n, cap, la, b, m, cap', lb, rfl, ha, hb, hn, hm, rfl⟩ := h
    obtain ⟨nb, a', n', c', la', b', m', d', lb', rfl, ha', hb', hn', hm', rfl⟩ := k
    exact frac_cmp na a n cap la b m cap' lb nb a' n' c' la' b' m' d' lb' w ha hb ha' hb' (by omega) (by omega) (by omega) (by omega)
  same := fun v u p q w h k => by
    obtain ⟨na, a, n, cap, la, b, m, cap', lb, rfl, ha, hb, hn, hm, rfl⟩ := h
    obtain ⟨nb, a', n', c', la', b', m', d', lb', rfl, ha', hb', hn', hm', rfl⟩ := k
    exact frac_same na a n cap la b m cap' lb nb a' n' c' la' b' m' d' lb' w ha hb ha' hb' (by omega) (by omega) (by omega) (by omega)
  mul := fun v u p q w h k => by
    obtain ⟨na, a, n, cap, la, b, m, cap', lb, rfl, ha, hb, hn, hm, rfl⟩ := h
    obtain ⟨nb, a', n', c', la', b', m', d', lb', rfl, ha', hb', hn', hm', rfl⟩ := k
    exact frac_mul na a n cap la b m cap' lb nb a' n' c' la' b' m' d' lb' w ha hb ha' hb' (by omega) (by omega) (by omega) (by omega)
  quo := fun v u p q w h k => by
    obtain ⟨na, a, n, cap, la, b, m, cap', lb, rfl, ha, hb, hn, hm, rfl⟩ := h
    obtain ⟨nb, a', n', c', la', b', m', d', lb', rfl, ha', hb', hn', hm', rfl⟩ := k
    exact frac_quo na a n cap la b m cap' lb nb a' n' c' la' b' m' d' lb' w ha hb ha' hb' (by omega) (by omega) (by omega) (by omega)
  floor := fun v q w h => by
    obtain ⟨neg, a, n, cap, la, b, m, cap', lb, rfl, ha, hb, hn, hm, rfl⟩ := h
    exact frac_floor neg a n cap la b m cap' lb w ha hb (by omega) (by omega)
  size := fun neg a n cap la b m cap' lb w ha hb hn hm => frac_size neg a n cap la b m cap' lb w ha hb (by omega) (by omega)
end Go.Proofs.YtpjgmkkdbmegjaaGreat

/-
  What every law's row asks behind its walk, said once: a law that returned true and left all that was there as it was meets its specification. Of no program.
-/
namespace Go.Proofs.YtpjgmkkdbmegjaaGreat
open Go.ChangeShapes Go.WideShapes Go.ChangeAt Go.RowKit

theorem below_of_same {w w' : World} (h : w = w') : Below w.heap.size w w' := by subst h; exact Below.refl _ _
/-- A law's walk that leaves the world as it was, in the form that leaves what was there. -/
theorem same_below {P : Program} {f : FuncId} {args : Array Value} {w : World} (h : Calls P f args w fun e w' => e = .returned (.bool true) ∧ w = w') : Calls P f args w fun e w' => e = .returned (.bool true) ∧ Below w.heap.size w w' :=
  h.mono fun _ _ ⟨he, hw⟩ => ⟨he, below_of_same hw⟩

/-- The arguments read again as they read before. -/
theorem stays_all {H : Type} {enc : TypeId × Value → H} {P : Program} (hl : laidOutB P = true) {W W' : World} (hb : Below W.heap.size W W') :
    ∀ (ts : List TypeId) (vs : List Value) (ds : List (DataW H)) (ps : List MemPlace), (ts.all fun t => P.readableRec t && decide (t < P.types.size)) = true →
      DataW.TrodAll enc P W 0 (fun _ => true) true ts vs ds ps → (∀ x ∈ ps, x.block < W.heap.size) →
      DataW.TrodAll enc P W' 0 (fun b => decide (b < W.heap.size)) true ts vs ds ps
  | [], [], [], _, _, h, _ => h
  | t :: ts, v :: vs, d :: ds, ps, hr, h, hlt => by
    obtain ⟨p, q, h1, h2, rfl⟩ := h
    simp only [List.all_cons, Bool.and_eq_true, decide_eq_true_eq] at hr
    exact ⟨p, q, Below.trod hl hr.1.1 hr.1.2 h1 hb (fun x hx => hlt x (by simp [hx])), stays_all hl hb ts vs ds q hr.2 h2 (fun x hx => hlt x (by simp [hx])), rfl⟩
  | [], [], _ :: _, _, _, h, _ => h.elim
  | [], _ :: _, _, _, _, h, _ => h.elim
  | _ :: _, [], _, _, _, h, _ => h.elim
  | _ :: _, _ :: _, [], _, _, h, _ => h.elim

theorem law_post {H : Type} {enc : TypeId × Value → H} {P : Program} {f : Func} {s : ChangeSpec} {apart fresh handsOn : Bool} {W W' : World} {args : Array Value} {ds gs : List (DataW H)} {before : List MemPlace} {tb : TypeId}
    (hl : laidOutB P = true) (hr : (f.params.toList.all fun t => P.readableRec t && decide (t < P.types.size)) = true) (hrt : f.resultTypes = #[tb]) (htb : P.underlying tb = some .bool) (hvars : s.vars = [])
    (hs : s.fn H ds = { results := [.lit (.bool true)], args := ds })
    (hW : DataW.Whole enc P f.params.toList s.vars apart W args.toList ds gs before) (hb : Below W.heap.size W W') :
    s.post enc P f apart fresh handsOn false W args (.bool true) W' := by
  have hW0 := hW
  obtain ⟨p, q, hA, hV, rfl, _, _⟩ := hW
  rw [hvars] at hV
  obtain ⟨rfl, rfl⟩ := trodVars_none hV
  have hlt : ∀ x ∈ p, x.block < W.heap.size := fun x hx => hW0.lt x (by simp [hx])
  refine ⟨ds, [], p ++ [], [], p, [], hW0, ?_, ?_, ?_, hb.frame _, fun h => by cases h⟩
  · rw [List.append_nil, hs, hrt]
    exact trodAll_mk1 (shut_bool htb true)
  · rw [List.append_nil, hs]
    exact stays_all hl hb _ _ _ _ hr hA hlt
  · rw [List.append_nil, hs, hvars]
    rfl
end Go.Proofs.YtpjgmkkdbmegjaaGreat

/-
  The walks of the laws of layer 9: To, Of, Is, alike.
-/
namespace Go.Proofs.YtpjgmkkdbmegjaaGreat
open Go.RowKit

set_option maxHeartbeats 1000000 in
theorem law09_to (neg : Bool) (a : Option Addr) (n cap : Nat) (b : Option Addr) (m cap' : Nat) (w : World) : Calls Tryz.prog 6 #[frV neg a n cap b m cap'] w (Gives (frV neg a n cap b m cap') w) := by
  have HG : Hid (((w.alloc (.cells #[.bool neg, .slice a n cap, .slice b m cap'] 24)).alloc (.cells #[.bool neg, .slice a n cap, .slice b m cap'] 30)).heap[w.heap.size + 1]? = some (.cells #[.bool neg, .slice a n cap, .slice b m cap'] 30 (0, 0))) := Lib.hid (boxes_at w ((w.alloc (.cells #[.bool neg, .slice a n cap, .slice b m cap'] 24)).alloc (.cells #[.bool neg, .slice a n cap, .slice b m cap'] 30)) _ _ _ _ (Below.refl _ _)).2
  have HB := Lib.hid (below_then (below_alloc w (.cells #[.bool neg, .slice a n cap, .slice b m cap'] 24)) (below_alloc _ (.cells #[.bool neg, .slice a n cap, .slice b m cap'] 30)))
  go_enter Tryz.func6, Tryz.ntmps6
  unfold frV
  go_wp2
  refine bodyPost_ret (results_cell_row Tryz.results6 _ _ (w.heap.size + 1) 30 #[.bool neg, .slice a n cap, .slice b m cap'] (0, 0) _ rfl HG.out Tryz.underlying30 rfl (by kernel_rfl)) rfl ?_
  exact ⟨rfl, HB.out⟩
set_option maxHeartbeats 1000000 in
theorem law09_of (neg : Bool) (a : Option Addr) (n cap : Nat) (b : Option Addr) (m cap' : Nat) (w : World) : Calls Tryz.prog 36 #[frV neg a n cap b m cap'] w (Gives (frV neg a n cap b m cap') w) := by
  have HG : Hid (((w.alloc (.cells #[.bool neg, .slice a n cap, .slice b m cap'] 30)).alloc (.cells #[.bool neg, .slice a n cap, .slice b m cap'] 24)).heap[w.heap.size + 1]? = some (.cells #[.bool neg, .slice a n cap, .slice b m cap'] 24 (0, 0))) := Lib.hid (boxes_at w ((w.alloc (.cells #[.bool neg, .slice a n cap, .slice b m cap'] 30)).alloc (.cells #[.bool neg, .slice a n cap, .slice b m cap'] 24)) _ _ _ _ (Below.refl _ _)).2
  have HB := Lib.hid (below_then (below_alloc w (.cells #[.bool neg, .slice a n cap, .slice b m cap'] 30)) (below_alloc _ (.cells #[.bool neg, .slice a n cap, .slice b m cap'] 24)))
  go_enter Tryz.func36, Tryz.ntmps36
  unfold frV
  go_wp2
  refine bodyPost_ret (results_cell_row Tryz.results36 _ _ (w.heap.size + 1) 24 #[.bool neg, .slice a n cap, .slice b m cap'] (0, 0) _ rfl HG.out Tryz.underlying24 rfl (by kernel_rfl)) rfl ?_
  exact ⟨rfl, HB.out⟩
set_option maxRecDepth 4096 in
set_option maxHeartbeats 4000000 in
theorem law09_is_yes (neg : Bool) (a : Option Addr) (n cap : Nat) (b : Option Addr) (m cap' : Nat) (l k : List Nat) (a' : Option Addr) (n' c' : Nat) (b' : Option Addr) (m' d' : Nat) (w : World) (ha : Wd w a n cap l) (hb : Wd w b m cap' k) (ha' : Wd w a' n' c' l) (hb' : Wd w b' m' d' k) :
    Calls Tryz.prog 15 #[frV neg a n cap b m cap', frV neg a' n' c' b' m' d'] w (Gives (.bool true) w) := by
  have HB := Lib.hid (below_then (below_alloc w (.cells #[.bool neg, .slice a n cap, .slice b m cap'] 30)) (below_alloc _ (.cells #[.bool neg, .slice a' n' c', .slice b' m' d'] 24)))
  have HA := Lib.hid (ha.later HB.out)
  have HC := Lib.hid (hb.later HB.out)
  have HA' := Lib.hid (ha'.later HB.out)
  have HC' := Lib.hid (hb'.later HB.out)
  obtain ⟨hx1, hx2⟩ := boxes_at w ((w.alloc (.cells #[.bool neg, .slice a n cap, .slice b m cap'] 30)).alloc (.cells #[.bool neg, .slice a' n' c', .slice b' m' d'] 24)) #[.bool neg, .slice a n cap, .slice b m cap'] #[.bool neg, .slice a' n' c', .slice b' m' d'] 30 24 (Below.refl _ _)
  have HX := Lib.hid hx1
  have HY := Lib.hid hx2
  clear ha hb ha' hb' hx1 hx2
  go_enter Tryz.func15, Tryz.ntmps15
  unfold frV
  go_wp2
  generalize ((w.alloc (.cells #[.bool neg, .slice a n cap, .slice b m cap'] 30)).alloc (.cells #[.bool neg, .slice a' n' c', .slice b' m' d'] 24)) = W at *
  replace HB := Lib.hid (below_then HB.out ((Below.refl _ _).drew : Below W.heap.size W W.drew))
  replace HX : Hid (W.drew.heap[w.heap.size]? = _) := Lib.hid HX.out
  replace HY : Hid (W.drew.heap[w.heap.size + 1]? = _) := Lib.hid HY.out
  replace HA := Lib.hid (HA.out.later ((Below.refl _ _).drew : Below W.heap.size W W.drew))
  replace HC := Lib.hid (HC.out.later ((Below.refl _ _).drew : Below W.heap.size W W.drew))
  replace HA' := Lib.hid (HA'.out.later ((Below.refl _ _).drew : Below W.heap.size W W.drew))
  replace HC' := Lib.hid (HC'.out.later ((Below.refl _ _).drew : Below W.heap.size W W.drew))
  have pSn := cells_3_3 HX.out HY.out
  go_region_held3 (fun w' => w'.cell? ⟨w.heap.size, 0, none⟩ = some (.bool neg) ∧ w'.cell? ⟨w.heap.size, 1, none⟩ = some (.slice a n cap) ∧ w'.cell? ⟨w.heap.size, 2, none⟩ = some (.slice b m cap') ∧ w'.cell? ⟨w.heap.size + 1, 0, none⟩ = some (.bool neg) ∧ w'.cell? ⟨w.heap.size + 1, 1, none⟩ = some (.slice a' n' c') ∧ w'.cell? ⟨w.heap.size + 1, 2, none⟩ = some (.slice b' m' d')) (exact pSn)
    (first
    | (go_at_call 36; (first
      | (refine (law09_of neg a n cap b m cap' _).mono ?_; rintro e wp1 ⟨rfl, b⟩; replace HB := Lib.hid (below_then HB.out b); replace HX := Lib.hid (blk_later HX.out b); replace HY := Lib.hid (blk_later HY.out b); replace HA := Lib.hid (HA.out.later b); replace HC := Lib.hid (HC.out.later b); replace HA' := Lib.hid (HA'.out.later b); replace HC' := Lib.hid (HC'.out.later b); clear b; clear pSn; have pSn := cells_3_3 HX.out HY.out; have pM1 := True.intro)))
    | (go_at_call 14; (first
      | (have pm1 := pM1; refine (ref09_same_yes neg a n cap b m cap' l k a' n' c' b' m' d' _ HA.out HC.out HA'.out HC'.out).mono ?_; rintro e wp2 ⟨rfl, b⟩; replace HB := Lib.hid (below_then HB.out b); replace HX := Lib.hid (blk_later HX.out b); replace HY := Lib.hid (blk_later HY.out b); replace HA := Lib.hid (HA.out.later b); replace HC := Lib.hid (HC.out.later b); replace HA' := Lib.hid (HA'.out.later b); replace HC' := Lib.hid (HC'.out.later b); clear b; clear pSn; have pSn := cells_3_3 HX.out HY.out; clear pM1 pm1; have pM2 := True.intro))))
  go_wp2
  go_ret
  exact ⟨rfl, HB.out⟩
end Go.Proofs.YtpjgmkkdbmegjaaGreat

/-
  The walks of the laws of layer 9: works.
-/
namespace Go.Proofs.YtpjgmkkdbmegjaaGreat
open Go.RowKit

theorem cells_3_3_3 {w : World} {A0 A1 A2 : Nat} {c0_0 c0_1 c0_2 c1_0 c1_1 c1_2 c2_0 c2_1 c2_2 : Value} {t0 t1 t2 : TypeId} (h0 : w.heap[A0]? = some (.cells #[c0_0, c0_1, c0_2] t0 (0, 0))) (h1 : w.heap[A1]? = some (.cells #[c1_0, c1_1, c1_2] t1 (0, 0))) (h2 : w.heap[A2]? = some (.cells #[c2_0, c2_1, c2_2] t2 (0, 0))) : w.cell? ⟨A0, 0, none⟩ = some c0_0 ∧ w.cell? ⟨A0, 1, none⟩ = some c0_1 ∧ w.cell? ⟨A0, 2, none⟩ = some c0_2 ∧ w.cell? ⟨A1, 0, none⟩ = some c1_0 ∧ w.cell? ⟨A1, 1, none⟩ = some c1_1 ∧ w.cell? ⟨A1, 2, none⟩ = some c1_2 ∧ w.cell? ⟨A2, 0, none⟩ = some c2_0 ∧ w.cell? ⟨A2, 1, none⟩ = some c2_1 ∧ w.cell? ⟨A2, 2, none⟩ = some c2_2 := ⟨blk_cell h0 0, blk_cell h0 1, blk_cell h0 2, blk_cell h1 0, blk_cell h1 1, blk_cell h1 2, blk_cell h2 0, blk_cell h2 1, blk_cell h2 2⟩
theorem cells_3_3_3_3 {w : World} {A0 A1 A2 A3 : Nat} {c0_0 c0_1 c0_2 c1_0 c1_1 c1_2 c2_0 c2_1 c2_2 c3_0 c3_1 c3_2 : Value} {t0 t1 t2 t3 : TypeId} (h0 : w.heap[A0]? = some (.cells #[c0_0, c0_1, c0_2] t0 (0, 0))) (h1 : w.heap[A1]? = some (.cells #[c1_0, c1_1, c1_2] t1 (0, 0))) (h2 : w.heap[A2]? = some (.cells #[c2_0, c2_1, c2_2] t2 (0, 0))) (h3 : w.heap[A3]? = some (.cells #[c3_0, c3_1, c3_2] t3 (0, 0))) : w.cell? ⟨A0, 0, none⟩ = some c0_0 ∧ w.cell? ⟨A0, 1, none⟩ = some c0_1 ∧ w.cell? ⟨A0, 2, none⟩ = some c0_2 ∧ w.cell? ⟨A1, 0, none⟩ = some c1_0 ∧ w.cell? ⟨A1, 1, none⟩ = some c1_1 ∧ w.cell? ⟨A1, 2, none⟩ = some c1_2 ∧ w.cell? ⟨A2, 0, none⟩ = some c2_0 ∧ w.cell? ⟨A2, 1, none⟩ = some c2_1 ∧ w.cell? ⟨A2, 2, none⟩ = some c2_2 ∧ w.cell? ⟨A3, 0, none⟩ = some c3_0 ∧ w.cell? ⟨A3, 1, none⟩ = some c3_1 ∧ w.cell? ⟨A3, 2, none⟩ = some c3_2 := ⟨blk_cell h0 0, blk_cell h0 1, blk_cell h0 2, blk_cell h1 0, blk_cell h1 1, blk_cell h1 2, blk_cell h2 0, blk_cell h2 1, blk_cell h2 2, blk_cell h3 0, blk_cell h3 1, blk_cell h3 2⟩
theorem cells_3_3_3_3_3 {w : World} {A0 A1 A2 A3 A4 : Nat} {c0_0 c0_1 c0_2 c1_0 c1_1 c1_2 c2_0 c2_1 c2_2 c3_0 c3_1 c3_2 c4_0 c4_1 c4_2 : Value} {t0 t1 t2 t3 t4 : TypeId} (h0 : w.heap[A0]? = some (.cells #[c0_0, c0_1, c0_2] t0 (0, 0))) (h1 : w.heap[A1]? = some (.cells #[c1_0, c1_1, c1_2] t1 (0, 0))) (h2 : w.heap[A2]? = some (.cells #[c2_0, c2_1, c2_2] t2 (0, 0))) (h3 : w.heap[A3]? = some (.cells #[c3_0, c3_1, c3_2] t3 (0, 0))) (h4 : w.heap[A4]? = some (.cells #[c4_0, c4_1, c4_2] t4 (0, 0))) : w.cell? ⟨A0, 0, none⟩ = some c0_0 ∧ w.cell? ⟨A0, 1, none⟩ = some c0_1 ∧ w.cell? ⟨A0, 2, none⟩ = some c0_2 ∧ w.cell? ⟨A1, 0, none⟩ = some c1_0 ∧ w.cell? ⟨A1, 1, none⟩ = some c1_1 ∧ w.cell? ⟨A1, 2, none⟩ = some c1_2 ∧ w.cell? ⟨A2, 0, none⟩ = some c2_0 ∧ w.cell? ⟨A2, 1, none⟩ = some c2_1 ∧ w.cell? ⟨A2, 2, none⟩ = some c2_2 ∧ w.cell? ⟨A3, 0, none⟩ = some c3_0 ∧ w.cell? ⟨A3, 1, none⟩ = some c3_1 ∧ w.cell? ⟨A3, 2, none⟩ = some c3_2 ∧ w.cell? ⟨A4, 0, none⟩ = some c4_0 ∧ w.cell? ⟨A4, 1, none⟩ = some c4_1 ∧ w.cell? ⟨A4, 2, none⟩ = some c4_2 := ⟨blk_cell h0 0, blk_cell h0 1, blk_cell h0 2, blk_cell h1 0, blk_cell h1 1, blk_cell h1 2, blk_cell h2 0, blk_cell h2 1, blk_cell h2 2, blk_cell h3 0, blk_cell h3 1, blk_cell h3 2, blk_cell h4 0, blk_cell h4 1, blk_cell h4 2⟩
theorem cells_3_3_3_3_3_3 {w : World} {A0 A1 A2 A3 A4 A5 : Nat} {c0_0 c0_1 c0_2 c1_0 c1_1 c1_2 c2_0 c2_1 c2_2 c3_0 c3_1 c3_2 c4_0 c4_1 c4_2 c5_0 c5_1 c5_2 : Value} {t0 t1 t2 t3 t4 t5 : TypeId} (h0 : w.heap[A0]? = some (.cells #[c0_0, c0_1, c0_2] t0 (0, 0))) (h1 : w.heap[A1]? = some (.cells #[c1_0, c1_1, c1_2] t1 (0, 0))) (h2 : w.heap[A2]? = some (.cells #[c2_0, c2_1, c2_2] t2 (0, 0))) (h3 : w.heap[A3]? = some (.cells #[c3_0, c3_1, c3_2] t3 (0, 0))) (h4 : w.heap[A4]? = some (.cells #[c4_0, c4_1, c4_2] t4 (0, 0))) (h5 : w.heap[A5]? = some (.cells #[c5_0, c5_1, c5_2] t5 (0, 0))) : w.cell? ⟨A0, 0, none⟩ = some c0_0 ∧ w.cell? ⟨A0, 1, none⟩ = some c0_1 ∧ w.cell? ⟨A0, 2, none⟩ = some c0_2 ∧ w.cell? ⟨A1, 0, none⟩ = some c1_0 ∧ w.cell? ⟨A1, 1, none⟩ = some c1_1 ∧ w.cell? ⟨A1, 2, none⟩ = some c1_2 ∧ w.cell? ⟨A2, 0, none⟩ = some c2_0 ∧ w.cell? ⟨A2, 1, none⟩ = some c2_1 ∧ w.cell? ⟨A2, 2, none⟩ = some c2_2 ∧ w.cell? ⟨A3, 0, none⟩ = some c3_0 ∧ w.cell? ⟨A3, 1, none⟩ = some c3_1 ∧ w.cell? ⟨A3, 2, none⟩ = some c3_2 ∧ w.cell? ⟨A4, 0, none⟩ = some c4_0 ∧ w.cell? ⟨A4, 1, none⟩ = some c4_1 ∧ w.cell? ⟨A4, 2, none⟩ = some c4_2 ∧ w.cell? ⟨A5, 0, none⟩ = some c5_0 ∧ w.cell? ⟨A5, 1, none⟩ = some c5_1 ∧ w.cell? ⟨A5, 2, none⟩ = some c5_2 := ⟨blk_cell h0 0, blk_cell h0 1, blk_cell h0 2, blk_cell h1 0, blk_cell h1 1, blk_cell h1 2, blk_cell h2 0, blk_cell h2 1, blk_cell h2 2, blk_cell h3 0, blk_cell h3 1, blk_cell h3 2, blk_cell h4 0, blk_cell h4 1, blk_cell h4 2, blk_cell h5 0, blk_cell h5 1, blk_cell h5 2⟩
theorem cells_3_3_3_3_3_3_3 {w : World} {A0 A1 A2 A3 A4 A5 A6 : Nat} {c0_0 c0_1 c0_2 c1_0 c1_1 c1_2 c2_0 c2_1 c2_2 c3_0 c3_1 c3_2 c4_0 c4_1 c4_2 c5_0 c5_1 c5_2 c6_0 c6_1 c6_2 : Value} {t0 t1 t2 t3 t4 t5 t6 : TypeId} (h0 : w.heap[A0]? = some (.cells #[c0_0, c0_1, c0_2] t0 (0, 0))) (h1 : w.heap[A1]? = some (.cells #[c1_0, c1_1, c1_2] t1 (0, 0))) (h2 : w.heap[A2]? = some (.cells #[c2_0, c2_1, c2_2] t2 (0, 0))) (h3 : w.heap[A3]? = some (.cells #[c3_0, c3_1, c3_2] t3 (0, 0))) (h4 : w.heap[A4]? = some (.cells #[c4_0, c4_1, c4_2] t4 (0, 0))) (h5 : w.heap[A5]? = some (.cells #[c5_0, c5_1, c5_2] t5 (0, 0))) (h6 : w.heap[A6]? = some (.cells #[c6_0, c6_1, c6_2] t6 (0, 0))) : w.cell? ⟨A0, 0, none⟩ = some c0_0 ∧ w.cell? ⟨A0, 1, none⟩ = some c0_1 ∧ w.cell? ⟨A0, 2, none⟩ = some c0_2 ∧ w.cell? ⟨A1, 0, none⟩ = some c1_0 ∧ w.cell? ⟨A1, 1, none⟩ = some c1_1 ∧ w.cell? ⟨A1, 2, none⟩ = some c1_2 ∧ w.cell? ⟨A2, 0, none⟩ = some c2_0 ∧ w.cell? ⟨A2, 1, none⟩ = some c2_1 ∧ w.cell? ⟨A2, 2, none⟩ = some c2_2 ∧ w.cell? ⟨A3, 0, none⟩ = some c3_0 ∧ w.cell? ⟨A3, 1, none⟩ = some c3_1 ∧ w.cell? ⟨A3, 2, none⟩ = some c3_2 ∧ w.cell? ⟨A4, 0, none⟩ = some c4_0 ∧ w.cell? ⟨A4, 1, none⟩ = some c4_1 ∧ w.cell? ⟨A4, 2, none⟩ = some c4_2 ∧ w.cell? ⟨A5, 0, none⟩ = some c5_0 ∧ w.cell? ⟨A5, 1, none⟩ = some c5_1 ∧ w.cell? ⟨A5, 2, none⟩ = some c5_2 ∧ w.cell? ⟨A6, 0, none⟩ = some c6_0 ∧ w.cell? ⟨A6, 1, none⟩ = some c6_1 ∧ w.cell? ⟨A6, 2, none⟩ = some c6_2 := ⟨blk_cell h0 0, blk_cell h0 1, blk_cell h0 2, blk_cell h1 0, blk_cell h1 1, blk_cell h1 2, blk_cell h2 0, blk_cell h2 1, blk_cell h2 2, blk_cell h3 0, blk_cell h3 1, blk_cell h3 2, blk_cell h4 0, blk_cell h4 1, blk_cell h4 2, blk_cell h5 0, blk_cell h5 1, blk_cell h5 2, blk_cell h6 0, blk_cell h6 1, blk_cell h6 2⟩
theorem cells_3_3_3_3_3_3_3_3 {w : World} {A0 A1 A2 A3 A4 A5 A6 A7 : Nat} {c0_0 c0_1 c0_2 c1_0 c1_1 c1_2 c2_0 c2_1 c2_2 c3_0 c3_1 c3_2 c4_0 c4_1 c4_2 c5_0 c5_1 c5_2 c6_0 c6_1 c6_2 c7_0 c7_1 c7_2 : Value} {t0 t1 t2 t3 t4 t5 t6 t7 : TypeId} (h0 : w.heap[A0]? = some (.cells #[c0_0, c0_1, c0_2] t0 (0, 0))) (h1 : w.heap[A1]? = some (.cells #[c1_0, c1_1, c1_2] t1 (0, 0))) (h2 : w.heap[A2]? = some (.cells #[c2_0, c2_1, c2_2] t2 (0, 0))) (h3 : w.heap[A3]? = some (.cells #[c3_0, c3_1, c3_2] t3 (0, 0))) (h4 : w.heap[A4]? = some (.cells #[c4_0, c4_1, c4_2] t4 (0, 0))) (h5 : w.heap[A5]? = some (.cells #[c5_0, c5_1, c5_2] t5 (0, 0))) (h6 : w.heap[A6]? = some (.cells #[c6_0, c6_1, c6_2] t6 (0, 0))) (h7 : w.heap[A7]? = some (.cells #[c7_0, c7_1, c7_2] t7 (0, 0))) : w.cell? ⟨A0, 0, none⟩ = some c0_0 ∧ w.cell? ⟨A0, 1, none⟩ = some c0_1 ∧ w.cell? ⟨A0, 2, none⟩ = some c0_2 ∧ w.cell? ⟨A1, 0, none⟩ = some c1_0 ∧ w.cell? ⟨A1, 1, none⟩ = some c1_1 ∧ w.cell? ⟨A1, 2, none⟩ = some c1_2 ∧ w.cell? ⟨A2, 0, none⟩ = some c2_0 ∧ w.cell? ⟨A2, 1, none⟩ = some c2_1 ∧ w.cell? ⟨A2, 2, none⟩ = some c2_2 ∧ w.cell? ⟨A3, 0, none⟩ = some c3_0 ∧ w.cell? ⟨A3, 1, none⟩ = some c3_1 ∧ w.cell? ⟨A3, 2, none⟩ = some c3_2 ∧ w.cell? ⟨A4, 0, none⟩ = some c4_0 ∧ w.cell? ⟨A4, 1, none⟩ = some c4_1 ∧ w.cell? ⟨A4, 2, none⟩ = some c4_2 ∧ w.cell? ⟨A5, 0, none⟩ = some c5_0 ∧ w.cell? ⟨A5, 1, none⟩ = some c5_1 ∧ w.cell? ⟨A5, 2, none⟩ = some c5_2 ∧ w.cell? ⟨A6, 0, none⟩ = some c6_0 ∧ w.cell? ⟨A6, 1, none⟩ = some c6_1 ∧ w.cell? ⟨A6, 2, none⟩ = some c6_2 ∧ w.cell? ⟨A7, 0, none⟩ = some c7_0 ∧ w.cell? ⟨A7, 1, none⟩ = some c7_1 ∧ w.cell? ⟨A7, 2, none⟩ = some c7_2 := ⟨blk_cell h0 0, blk_cell h0 1, blk_cell h0 2, blk_cell h1 0, blk_cell h1 1, blk_cell h1 2, blk_cell h2 0, blk_cell h2 1, blk_cell h2 2, blk_cell h3 0, blk_cell h3 1, blk_cell h3 2, blk_cell h4 0, blk_cell h4 1, blk_cell h4 2, blk_cell h5 0, blk_cell h5 1, blk_cell h5 2, blk_cell h6 0, blk_cell h6 1, blk_cell h6 2, blk_cell h7 0, blk_cell h7 1, blk_cell h7 2⟩
theorem cells_3_3_3_3_3_3_3_3_3 {w : World} {A0 A1 A2 A3 A4 A5 A6 A7 A8 : Nat} {c0_0 c0_1 c0_2 c1_0 c1_1 c1_2 c2_0 c2_1 c2_2 c3_0 c3_1 c3_2 c4_0 c4_1 c4_2 c5_0 c5_1 c5_2 c6_0 c6_1 c6_2 c7_0 c7_1 c7_2 c8_0 c8_1 c8_2 : Value} {t0 t1 t2 t3 t4 t5 t6 t7 t8 : TypeId} (h0 : w.heap[A0]? = some (.cells #[c0_0, c0_1, c0_2] t0 (0, 0))) (h1 : w.heap[A1]? = some (.cells #[c1_0, c1_1, c1_2] t1 (0, 0))) (h2 : w.heap[A2]? = some (.cells #[c2_0, c2_1, c2_2] t2 (0, 0))) (h3 : w.heap[A3]? = some (.cells #[c3_0, c3_1, c3_2] t3 (0, 0))) (h4 : w.heap[A4]? = some (.cells #[c4_0, c4_1, c4_2] t4 (0, 0))) (h5 : w.heap[A5]? = some (.cells #[c5_0, c5_1, c5_2] t5 (0, 0))) (h6 : w.heap[A6]? = some (.cells #[c6_0, c6_1, c6_2] t6 (0, 0))) (h7 : w.heap[A7]? = some (.cells #[c7_0, c7_1, c7_2] t7 (0, 0))) (h8 : w.heap[A8]? = some (.cells #[c8_0, c8_1, c8_2] t8 (0, 0))) : w.cell? ⟨A0, 0, none⟩ = some c0_0 ∧ w.cell? ⟨A0, 1, none⟩ = some c0_1 ∧ w.cell? ⟨A0, 2, none⟩ = some c0_2 ∧ w.cell? ⟨A1, 0, none⟩ = some c1_0 ∧ w.cell? ⟨A1, 1, none⟩ = some c1_1 ∧ w.cell? ⟨A1, 2, none⟩ = some c1_2 ∧ w.cell? ⟨A2, 0, none⟩ = some c2_0 ∧ w.cell? ⟨A2, 1, none⟩ = some c2_1 ∧ w.cell? ⟨A2, 2, none⟩ = some c2_2 ∧ w.cell? ⟨A3, 0, none⟩ = some c3_0 ∧ w.cell? ⟨A3, 1, none⟩ = some c3_1 ∧ w.cell? ⟨A3, 2, none⟩ = some c3_2 ∧ w.cell? ⟨A4, 0, none⟩ = some c4_0 ∧ w.cell? ⟨A4, 1, none⟩ = some c4_1 ∧ w.cell? ⟨A4, 2, none⟩ = some c4_2 ∧ w.cell? ⟨A5, 0, none⟩ = some c5_0 ∧ w.cell? ⟨A5, 1, none⟩ = some c5_1 ∧ w.cell? ⟨A5, 2, none⟩ = some c5_2 ∧ w.cell? ⟨A6, 0, none⟩ = some c6_0 ∧ w.cell? ⟨A6, 1, none⟩ = some c6_1 ∧ w.cell? ⟨A6, 2, none⟩ = some c6_2 ∧ w.cell? ⟨A7, 0, none⟩ = some c7_0 ∧ w.cell? ⟨A7, 1, none⟩ = some c7_1 ∧ w.cell? ⟨A7, 2, none⟩ = some c7_2 ∧ w.cell? ⟨A8, 0, none⟩ = some c8_0 ∧ w.cell? ⟨A8, 1, none⟩ = some c8_1 ∧ w.cell? ⟨A8, 2, none⟩ = some c8_2 := ⟨blk_cell h0 0, blk_cell h0 1, blk_cell h0 2, blk_cell h1 0, blk_cell h1 1, blk_cell h1 2, blk_cell h2 0, blk_cell h2 1, blk_cell h2 2, blk_cell h3 0, blk_cell h3 1, blk_cell h3 2, blk_cell h4 0, blk_cell h4 1, blk_cell h4 2, blk_cell h5 0, blk_cell h5 1, blk_cell h5 2, blk_cell h6 0, blk_cell h6 1, blk_cell h6 2, blk_cell h7 0, blk_cell h7 1, blk_cell h7 2, blk_cell h8 0, blk_cell h8 1, blk_cell h8 2⟩
theorem isInt_small {z : Int} (h1 : -1000 ≤ z) (h2 : z ≤ 1000) : isInt z := by unfold isInt; omega
theorem rat_6_4 : ((6 : Int) : Rat) / ((-4 : Int) : Rat) = mkRat (-3) 2 := by decide +kernel
theorem rat_1_2 : ((1 : Int) : Rat) / ((2 : Int) : Rat) = mkRat 1 2 := by decide +kernel
theorem num_32 : (mkRat (-3) 2).num = -3 ∧ (mkRat (-3) 2).den = 2 := by decide +kernel
theorem num_12 : (mkRat 1 2).num = 1 ∧ (mkRat 1 2).den = 2 := by decide +kernel
set_option maxRecDepth 4096 in
set_option maxHeartbeats 16000000 in
theorem law09_works (S : FracSaid) (w : World) : Calls Tryz.prog 5 #[] w (Gives (.bool true) w) := by
  have HB : Hid (Below w.heap.size w w) := Lib.hid (Below.refl _ _)
  obtain ⟨x, hx⟩ : ∃ x, mkRat (-3) 2 = x := ⟨_, rfl⟩
  obtain ⟨y, hy⟩ : ∃ y, mkRat 1 2 = y := ⟨_, rfl⟩
  obtain ⟨u, hu⟩ : ∃ u, ((1 : Int) : Rat) = u := ⟨_, rfl⟩
  obtain ⟨v, hv⟩ : ∃ v, ((0 : Int) : Rat) = v := ⟨_, rfl⟩
  have EX : Hid (((6 : Int) : Rat) / ((-4 : Int) : Rat) = x) := Lib.hid (rat_6_4.trans hx)
  have EY : Hid (((1 : Int) : Rat) / ((2 : Int) : Rat) = y) := Lib.hid (rat_1_2.trans hy)
  have EU := Lib.hid hu
  have EV := Lib.hid hv
  have HV0 : Hid (v = 0) := Lib.hid (by rw [← hv]; rfl)
  have lu : qlen u ≤ 2 := by rw [← hu]; exact qlen_int isInt_one
  have lv : qlen v ≤ 2 := by rw [← hv]; exact qlen_int isInt_nought
  have NX : Hid (x.num = -3 ∧ x.den = 2) := Lib.hid (by rw [← hx]; exact num_32)
  have NY : Hid (y.num = 1 ∧ y.den = 2) := Lib.hid (by rw [← hy]; exact num_12)
  obtain ⟨z, hz⟩ : ∃ z, u / v = z := ⟨_, rfl⟩
  have EZ := Lib.hid hz
  clear hx hy hu hv hz
  go_enter Tryz.func5, Tryz.ntmps5
  go_wp2_with fail
  refine (S.ratio 6 (-4) _ (isInt_small (by omega) (by omega)) (isInt_small (by omega) (by omega))).mono ?_
  rintro e w1 ⟨a1, n1, c1, b1, m1, d1, rfl, h1, g1, b⟩
  replace HB := Lib.hid (below_then HB.out b)
  clear b
  rw [EX.out] at h1 g1 ⊢
  rw [show decide ((-4 : Int) ≠ 0) = true from rfl]
  rw [NX.out.1] at h1 ⊢
  rw [NX.out.2] at g1
  rw [show dg (-3 : Int).natAbs = [3] from dg_word (by decide) (by decide)] at h1
  rw [show dg 2 = [2] from dg_word (by decide) (by decide)] at g1
  rw [show zneg (-3) = true from rfl]
  have R1 := Lib.hid h1
  have T1 := Lib.hid g1
  clear h1 g1
  unfold frV
  have H1 : Hid ((World.alloc w1 (.cells #[.bool true, .slice a1 n1 c1, .slice b1 m1 d1] 30)).heap[w1.heap.size]? = some (.cells #[.bool true, .slice a1 n1 c1, .slice b1 m1 d1] 30 (0, 0))) := Lib.hid (blk_new w1 _ _)
  replace HB := Lib.hid (below_then HB.out (below_alloc w1 (.cells #[.bool true, .slice a1 n1 c1, .slice b1 m1 d1] 30)))
  replace R1 := Lib.hid (R1.out.later (below_alloc w1 (.cells #[.bool true, .slice a1 n1 c1, .slice b1 m1 d1] 30)))
  replace T1 := Lib.hid (T1.out.later (below_alloc w1 (.cells #[.bool true, .slice a1 n1 c1, .slice b1 m1 d1] 30)))
  obtain ⟨k0, k1, k2⟩ := cells_3 H1.out
  go_wp2_with fail
  refine (S.of 1 _ (isInt_small (by omega) (by omega))).mono ?_
  rintro e w2 ⟨a2, n2, c2, b2, m2, d2, rfl, h2, g2, b⟩
  clear k0 k1 k2
  replace HB := Lib.hid (below_then HB.out b)
  replace H1 := Lib.hid (blk_later H1.out b)
  replace R1 := Lib.hid (R1.out.later b)
  replace T1 := Lib.hid (T1.out.later b)
  clear b
  rw [EU.out] at h2 g2 ⊢
  have hN2 : n2 ≤ qlen u := (by rw [← h2.len]; exact qlen_num _)
  have hM2 : m2 ≤ qlen u := (by rw [← g2.len]; exact qlen_den _)
  have R2 := Lib.hid h2
  have T2 := Lib.hid g2
  clear h2 g2
  obtain ⟨k0, k1, k2⟩ := cells_3 H1.out
  go_wp2_with fail
  refine (S.of 0 _ (isInt_small (by omega) (by omega))).mono ?_
  rintro e w3 ⟨a3, n3, c3, b3, m3, d3, rfl, h3, g3, b⟩
  clear k0 k1 k2
  replace HB := Lib.hid (below_then HB.out b)
  replace H1 := Lib.hid (blk_later H1.out b)
  replace R1 := Lib.hid (R1.out.later b)
  replace T1 := Lib.hid (T1.out.later b)
  replace R2 := Lib.hid (R2.out.later b)
  replace T2 := Lib.hid (T2.out.later b)
  clear b
  rw [EV.out] at h3 g3 ⊢
  have hN3 : n3 ≤ qlen v := (by rw [← h3.len]; exact qlen_num _)
  have hM3 : m3 ≤ qlen v := (by rw [← g3.len]; exact qlen_den _)
  have R3 := Lib.hid h3
  have T3 := Lib.hid g3
  clear h3 g3
  obtain ⟨k0, k1, k2⟩ := cells_3 H1.out
  go_wp2_with fail
  refine (S.quo _ _ u v _ (Fr.right R2.out T2.out (by omega) (by omega)) (Fr.right R3.out T3.out (by omega) (by omega))).mono ?_
  rintro e w4 ⟨a4, n4, c4, b4, m4, d4, rfl, h4, g4, b⟩
  clear k0 k1 k2
  replace HB := Lib.hid (below_then HB.out b)
  replace H1 := Lib.hid (blk_later H1.out b)
  clear R2
  clear T2
  clear R3
  clear T3
  replace R1 := Lib.hid (R1.out.later b)
  replace T1 := Lib.hid (T1.out.later b)
  clear b
  rw [EZ.out]
  rw [show decide (v ≠ 0) = false from decide_eq_false (fun h => h HV0.out)]
  clear h4 g4
  unfold frV
  have H2 : Hid ((World.alloc w4 (.cells #[.bool (zneg z.num), .slice a4 n4 c4, .slice b4 m4 d4] 30)).heap[w4.heap.size]? = some (.cells #[.bool (zneg z.num), .slice a4 n4 c4, .slice b4 m4 d4] 30 (0, 0))) := Lib.hid (blk_new w4 _ _)
  replace HB := Lib.hid (below_then HB.out (below_alloc w4 (.cells #[.bool (zneg z.num), .slice a4 n4 c4, .slice b4 m4 d4] 30)))
  replace H1 := Lib.hid (blk_later H1.out (below_alloc w4 (.cells #[.bool (zneg z.num), .slice a4 n4 c4, .slice b4 m4 d4] 30)))
  replace R1 := Lib.hid (R1.out.later (below_alloc w4 (.cells #[.bool (zneg z.num), .slice a4 n4 c4, .slice b4 m4 d4] 30)))
  replace T1 := Lib.hid (T1.out.later (below_alloc w4 (.cells #[.bool (zneg z.num), .slice a4 n4 c4, .slice b4 m4 d4] 30)))
  obtain ⟨k0, k1, k2⟩ := cells_3 H1.out
  go_wp2_with fail
  refine (S.ratio 1 2 _ (isInt_small (by omega) (by omega)) (isInt_small (by omega) (by omega))).mono ?_
  rintro e w5 ⟨a5, n5, c5, b5, m5, d5, rfl, h5, g5, b⟩
  clear k0 k1 k2
  replace HB := Lib.hid (below_then HB.out b)
  replace H1 := Lib.hid (blk_later H1.out b)
  replace R1 := Lib.hid (R1.out.later b)
  replace T1 := Lib.hid (T1.out.later b)
  clear b
  rw [EY.out] at h5 g5 ⊢
  rw [show decide ((2 : Int) ≠ 0) = true from rfl]
  rw [NY.out.1] at h5 ⊢
  rw [NY.out.2] at g5
  rw [show dg (1 : Int).natAbs = [1] from dg_word (by decide) (by decide)] at h5
  rw [show dg 2 = [2] from dg_word (by decide) (by decide)] at g5
  rw [show zneg 1 = false from rfl]
  have R5 := Lib.hid h5
  have T5 := Lib.hid g5
  have hN5 : n5 ≤ 1 := by have := R5.out.len; simp only [List.length_cons, List.length_nil] at this; omega
  have hM5 : m5 ≤ 1 := by have := T5.out.len; simp only [List.length_cons, List.length_nil] at this; omega
  clear h5 g5
  unfold frV
  have H3 : Hid ((World.alloc w5 (.cells #[.bool false, .slice a5 n5 c5, .slice b5 m5 d5] 30)).heap[w5.heap.size]? = some (.cells #[.bool false, .slice a5 n5 c5, .slice b5 m5 d5] 30 (0, 0))) := Lib.hid (blk_new w5 _ _)
  replace HB := Lib.hid (below_then HB.out (below_alloc w5 (.cells #[.bool false, .slice a5 n5 c5, .slice b5 m5 d5] 30)))
  replace H1 := Lib.hid (blk_later H1.out (below_alloc w5 (.cells #[.bool false, .slice a5 n5 c5, .slice b5 m5 d5] 30)))
  replace R1 := Lib.hid (R1.out.later (below_alloc w5 (.cells #[.bool false, .slice a5 n5 c5, .slice b5 m5 d5] 30)))
  replace T1 := Lib.hid (T1.out.later (below_alloc w5 (.cells #[.bool false, .slice a5 n5 c5, .slice b5 m5 d5] 30)))
  replace R5 := Lib.hid (R5.out.later (below_alloc w5 (.cells #[.bool false, .slice a5 n5 c5, .slice b5 m5 d5] 30)))
  replace T5 := Lib.hid (T5.out.later (below_alloc w5 (.cells #[.bool false, .slice a5 n5 c5, .slice b5 m5 d5] 30)))
  obtain ⟨k0, k1, k2, k3, k4, k5⟩ := cells_3_3 H1.out H3.out
  go_wp2_with fail
  clear k0 k1 k2 k3 k4 k5
  have hW := blk_size w5 (.cells #[.bool false, .slice a5 n5 c5, .slice b5 m5 d5] 30)
  have HW := Lib.hid hW
  clear hW
  generalize (w5.alloc (.cells #[.bool false, .slice a5 n5 c5, .slice b5 m5 d5] 30)) = W at *
  have W3 : Hid (Wd (W.alloc (.cells #[.int .u32 3] 50)) (some ⟨w5.heap.size + 1, 0, none⟩) 1 1 [3]) := Lib.hid (by
    have h := Wd.lit1 W 50 (x := 3) (by omega)
    rwa [HW.out] at h)
  have W2 : Hid (Wd ((W.alloc (.cells #[.int .u32 3] 50)).alloc (.cells #[.int .u32 2] 50)) (some ⟨w5.heap.size + 1 + 1, 0, none⟩) 1 1 [2]) := Lib.hid (by
    have h := Wd.lit1 (W.alloc (.cells #[.int .u32 3] 50)) 50 (x := 2) (by omega)
    rwa [blk_size, HW.out] at h)
  have HBB := Lib.hid (below_then (below_alloc W (.cells #[.int .u32 3] 50)) (below_alloc _ (.cells #[.int .u32 2] 50)))
  have h32 : blen (val [1]) + blen (val [2]) = 3 := by decide
  refine (law09_is_yes true a1 n1 c1 b1 m1 d1 [3] [2] _ 1 1 _ 1 1 _ (R1.out.later HBB.out) (T1.out.later HBB.out) (W3.out.later (below_alloc _ _)) W2.out).mono ?_
  rintro e w6 ⟨rfl, b⟩
  have hbb := below_then HBB.out b
  replace HB := Lib.hid (below_then HB.out hbb)
  replace H3 := Lib.hid (blk_later H3.out hbb)
  replace R5 := Lib.hid (R5.out.later hbb)
  replace T5 := Lib.hid (T5.out.later hbb)
  clear hbb b HBB W2 W3 H1 R1 T1
  obtain ⟨k0, k1, k2⟩ := cells_3 H3.out
  go_wp2_with fail
  refine (S.size false a5 n5 c5 [1] b5 m5 d5 [2] _ R5.out T5.out (by omega) (by omega)).mono ?_
  rintro e w7 ⟨rfl, b⟩
  rw [h32]
  go_wp2
  go_ret
  exact ⟨rfl, below_then HB.out b⟩
end Go.Proofs.YtpjgmkkdbmegjaaGreat
