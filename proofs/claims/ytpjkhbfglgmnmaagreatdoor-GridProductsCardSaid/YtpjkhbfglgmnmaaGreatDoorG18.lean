/-
  Several texts of this claim as one, group 18.
-/
import Derived.WalkKit
import Derived.ProofKit
import Derived.OpenShut
import Derived.Test.YtpjkhbfglgmnmaaGreatDoorG13
import Derived.Test.YtpjkhbfglgmnmaaGreatDoorG12
import Derived.Test.YtpjkhbfglgmnmaaGreatDoorG15
import Derived.Test.YtpjkhbfglgmnmaaGreatDoorG16
import Derived.Test.YtpjkhbfglgmnmaaGreatDoorG11
import Derived.Deep.RegionHeld3
import Derived.Deep.RegionWith
import Derived.Deep.CutRange
import Derived.Test.YtpjkhbfglgmnmaaGreatDoorG14
/-
  What every law's row asks behind its walk, said once: a law that returned true and left all that was there as it was meets its specification. Of no program.
-/
namespace Go.Proofs.YtpjkhbfglgmnmaaGreatDoor
open Go.ChangeShapes Go.WideShapes Go.ChangeAt Go.RowKit

/-- The arguments read again as they read before. -/
theorem stays_all {H : Type} {enc : TypeId × Value → H} {P : Program} (hl : laidOutB P = true) {W W' : World} (hb : Below W.heap.size W W') :
    ∀ (ts : List TypeId) (vs : List Value) (ds : List (DataW H)) (ps : List MemPlace), (ts.all fun t => P.readableRec t && decide (t < P.types.size)) = true →
      DataW.TrodAll enc P W 0 (fun _ => true) true ts vs ds ps → (∀ x ∈ ps, x.block < W.heap.size) →
      DataW.TrodAll enc P W' 0 (fun b => decide (b < W.heap.size)) true ts vs ds ps
  | [], [], [], _, _, h, _ => h
  | t :: ts, v :: vs, d :: ds, ps, hr, h, hlt => by
    obtain ⟨p, q, h1, h2, rfl⟩ := h
    simp only [List.all_cons, Bool.and_eq_true, decide_eq_true_eq] at hr
    exact ⟨p, q, Below.trod hl hr.1.1 hr.1.2 h1 hb (fun x hx => hlt x (by simp [hx])), stays_all hl hb ts vs ds q hr.2 h2 (fun x hx => hlt x (by simp [hx])), rfl⟩
  | [], [], _ :: _, _, _, h, _ => h.elim
  | [], _ :: _, _, _, _, h, _ => h.elim
  | _ :: _, [], _, _, _, h, _ => h.elim
  | _ :: _, _ :: _, [], _, _, h, _ => h.elim

theorem law_post {H : Type} {enc : TypeId × Value → H} {P : Program} {f : Func} {s : ChangeSpec} {apart fresh handsOn : Bool} {W W' : World} {args : Array Value} {ds gs : List (DataW H)} {before : List MemPlace} {tb : TypeId}
    (hl : laidOutB P = true) (hr : (f.params.toList.all fun t => P.readableRec t && decide (t < P.types.size)) = true) (hrt : f.resultTypes = #[tb]) (htb : P.underlying tb = some .bool) (hvars : s.vars = [])
    (hs : s.fn H ds = { results := [.lit (.bool true)], args := ds })
    (hW : DataW.Whole enc P f.params.toList s.vars apart W args.toList ds gs before) (hb : Below W.heap.size W W') :
    s.post enc P f apart fresh handsOn false W args (.bool true) W' := by
  have hW0 := hW
  obtain ⟨p, q, hA, hV, rfl, _, _⟩ := hW
  rw [hvars] at hV
  obtain ⟨rfl, rfl⟩ := trodVars_none hV
  have hlt : ∀ x ∈ p, x.block < W.heap.size := fun x hx => hW0.lt x (by simp [hx])
  refine ⟨ds, [], p ++ [], [], p, [], hW0, ?_, ?_, ?_, hb.frame _, fun h => by cases h⟩
  · rw [List.append_nil, hs, hrt]
    exact trodAll_mk1 (shut_bool htb true)
  · rw [List.append_nil, hs]
    exact stays_all hl hb _ _ _ _ hr hA hlt
  · rw [List.append_nil, hs, hvars]
    rfl
end Go.Proofs.YtpjkhbfglgmnmaaGreatDoor

/-
  A row read piece by piece: what is so far read, at a place of the text. Of no program.
-/
namespace Go.Proofs.YtpjkhbfglgmnmaaGreatDoor
open Go.RowKit

/-- At the place i of the text l, behind the last comma at f, with the values V so far read. -/
def ReadAt (l : List UInt8) (f i : Nat) (V : List Rat) : Prop :=
  (f ≤ i ∧ i ≤ l.length ∧ i - f ≤ commaAt (l.drop f) ∧ kindOf (pieces l) = kindOf (pieces (l.drop f)) ∧ placeOf 0 (pieces l) = placeOf f (pieces (l.drop f)) ∧ (pieces l).map figVal = V ++ (pieces (l.drop f)).map figVal) ∨
  (i = l.length + 1 ∧ f = i ∧ kindOf (pieces l) = 0 ∧ (pieces l).map figVal = V)
theorem place_none : ∀ (P : List (List UInt8)) (off : Nat), kindOf P = 0 → placeOf off P = 0
  | [], _, _ => rfl
  | p :: P, off, h => by
    rw [kindOf] at h
    split at h
    · rename_i h2; exact absurd h h2
    · rename_i h2
      rw [placeOf, if_neg h2]
      exact place_none P _ h
theorem ReadAt.start (l : List UInt8) : ReadAt l 0 0 [] := .inl ⟨Nat.le_refl _, Nat.zero_le _, Nat.zero_le _, rfl, rfl, rfl⟩
theorem ReadAt.bound {l : List UInt8} {f i : Nat} {V : List Rat} (h : ReadAt l f i V) : f ≤ i ∧ i ≤ l.length + 1 := by
  rcases h with h | h
  · exact ⟨h.1, Nat.le_succ_of_le h.2.1⟩
  · exact ⟨Nat.le_of_eq h.2.1, Nat.le_of_eq h.1⟩
theorem ReadAt.done {l : List UInt8} {f i : Nat} {V : List Rat} (h : ReadAt l f i V) (hl : l ≠ []) (hi : l.length < i) : rowKind l = 0 ∧ rowPlace l = 0 ∧ rowVals l = V := by
  rcases h with h | ⟨_, _, h1, h2⟩
  · omega
  · refine ⟨?_, ?_, ?_⟩
    · unfold rowKind; rw [if_neg hl]; exact h1
    · unfold rowPlace; rw [if_neg hl]; exact place_none _ _ h1
    · unfold rowVals; rw [if_neg (by rintro (h | h); exact hl h; exact h h1)]; exact h2
end Go.Proofs.YtpjkhbfglgmnmaaGreatDoor

/-
  What package row owes, for rows of right fractions; examples of rows.
-/
namespace Go.Proofs.YtpjkhbfglgmnmaaGreatDoor
open Go.RowKit

theorem text_rw (S : RowSaid) (a : Option Addr) (n c : Nat) (qs : List Rat) (w : World) (h : Rw w a n c qs) (hn : n ≤ 300) (hq : ∀ q ∈ qs, qlen q ≤ 100) (hT : Hid (Dec10 w)) : Calls Tryz.prog 38 #[.slice a n c] w (Gives (.string (bs (rowTxt qs))) w) := by
  obtain ⟨L, h1, rfl, h3⟩ := h.thin hq
  exact S.text a n c L w h1 hn h3 hT
theorem qlen_nat {q : Rat} (z : Int) (h : q = (z : Rat)) (hz : isInt z) : qlen q ≤ 2 := h ▸ qlen_int hz
theorem small_qs {x y : Rat} {A : List Rat} (u v : Int) (hu : isInt u) (hv : isInt v) (h1 : x = (u : Rat)) (h2 : y = (v : Rat)) (hA : A = [x, y]) : (∀ q ∈ A, qlen q ≤ 2) ∧ A.length = 2 := by
  subst hA
  refine ⟨fun q hq => ?_, rfl⟩
  simp only [List.mem_cons, List.not_mem_nil, or_false] at hq
  rcases hq with rfl | rfl
  · exact qlen_nat u h1 hu
  · exact qlen_nat v h2 hv
end Go.Proofs.YtpjkhbfglgmnmaaGreatDoor

/-
  What package row owes, said of rows that are right and rows that need not be, mixed; contracts said of a world that is later than another one.
-/
namespace Go.Proofs.YtpjkhbfglgmnmaaGreatDoor
open Go.RowKit

end Go.Proofs.YtpjkhbfglgmnmaaGreatDoor

/-
  What package grid owes, said of right matrices; literals; the chapter's examples of layer 12.
-/
namespace Go.Proofs.YtpjkhbfglgmnmaaGreatDoor
open Go.RowKit

theorem Rw.lit2 (w : World) (e : TypeId) {q p : Rat} {a b a' b' : Option Addr} {n c m d n' c' m' d' : Nat} (h1 : Wd w a n c (dg q.num.natAbs)) (h2 : Wd w b m d (dg q.den)) (h3 : Wd w a' n' c' (dg p.num.natAbs)) (h4 : Wd w b' m' d' (dg p.den)) :
    Rw (w.alloc (.cells #[.bool (zneg q.num), .slice a n c, .slice b m d, .bool (zneg p.num), .slice a' n' c', .slice b' m' d'] e)) (some ⟨w.heap.size, 0, none⟩) 2 2 [q, p] := by
  have hb : Below w.heap.size w (w.alloc (.cells #[.bool (zneg q.num), .slice a n c, .slice b m d, .bool (zneg p.num), .slice a' n' c', .slice b' m' d'] e)) := below_alloc _ _
  have hx := blk_new w #[.bool (zneg q.num), .slice a n c, .slice b m d, .bool (zneg p.num), .slice a' n' c', .slice b' m' d'] e
  refine ⟨[rx q a n c b m d, rx p a' n' c' b' m' d'], ⟨rfl, Nat.le_refl _, by omega, fun h => (by cases h), fun x hx => ?_, .inr ⟨w.heap.size, 0, rfl, fun j hj => ?_⟩⟩, by simp [rx_q], fun x hx => ?_⟩
  · simp only [List.mem_cons, List.not_mem_nil, or_false] at hx
    rcases hx with rfl | rfl
    · exact ⟨h1.later hb, h2.later hb⟩
    · exact ⟨h3.later hb, h4.later hb⟩
  · match j, hj with
    | 0, _ => exact ⟨blk_cell hx 0, blk_cell hx 1, blk_cell hx 2⟩
    | 1, _ => exact ⟨blk_cell hx 3, blk_cell hx 4, blk_cell hx 5⟩
  · simp only [List.mem_cons, List.not_mem_nil, or_false] at hx
    rcases hx with rfl | rfl
    · exact rx_right ..
    · exact rx_right ..
theorem Rwss.lit2 (w : World) (e : TypeId) {a1 a2 : Option Addr} {n1 n2 c1 c2 : Nat} {p q : List Rat} (h1 : Rw w a1 n1 c1 p) (h2 : Rw w a2 n2 c2 q) : Rwss (w.alloc (.cells #[.slice a1 n1 c1, .slice a2 n2 c2] e)) (some ⟨w.heap.size, 0, none⟩) 2 2 [p, q] := by
  obtain ⟨L, g1, g2, g3⟩ := h1
  obtain ⟨M, k1, k2, k3⟩ := h2
  refine ⟨[L, M], Fxss.lit2 w e g1 k1, by simp only [List.map_cons, List.map_nil]; rw [show fqs L = p from g2, show fqs M = q from k2], fun X hX => ?_⟩
  simp only [List.mem_cons, List.not_mem_nil, or_false] at hX
  rcases hX with rfl | rfl
  · exact g3
  · exact k3
theorem small_of {K N : Nat} {Q : List (List Rat)} {LL : List (List Fx)} (h1 : LL.map fqs = Q) (hQ : ∀ r ∈ Q, r.length ≤ K) (h2 : ∀ L ∈ LL, thin N L) : small K N LL := fun L hL => ⟨by
  have := hQ (fqs L) (h1 ▸ List.mem_map.2 ⟨L, hL, rfl⟩)
  rwa [fqs_length] at this, h2 L hL⟩
theorem mul_rw (S : GridSaid) (a : Option Addr) (n c : Nat) (P : List (List Rat)) (b : Option Addr) (m d : Nat) (Q : List (List Rat)) (N : Nat) (w : World) (h : Rwss w a n c P) (k : Rwss w b m d Q) (hP : ∀ r ∈ P, r.length ≤ 300 ∧ ∀ q ∈ r, qlen q ≤ N) (hQ : ∀ r ∈ Q, r.length ≤ 300 ∧ ∀ q ∈ r, qlen q ≤ N) (hn : n ≤ 300) (hm : m ≤ 300) (hb : 1 + m * (N + N + 6) ≤ 2000) (hN : N ≤ 900) (hr : rect P ∧ rect Q ∧ gwidth P = m) :
    Calls Tryz.prog 30 #[.slice a n c, .slice b m d] w (LstRwsV (gmul (gwidth Q) P Q) (.bool true) w) := by
  obtain ⟨LL, h1, h2, h3⟩ := h.thin (fun r hr => (hP r hr).2)
  obtain ⟨MM, k1, k2, k3⟩ := k.thin (fun r hr => (hQ r hr).2)
  have h9 := S.mul_yes a n c LL b m d MM N w h1 k1 (small_of h2 (fun r hr => (hP r hr).1) h3) (small_of k2 (fun r hr => (hQ r hr).1) k3) hn hm hb hN (Lib.hid ⟨(rect_fqs LL).1 (h2 ▸ hr.1), (rect_fqs MM).1 (k2 ▸ hr.2.1), by rw [← gwidth_fqs, h2]; exact hr.2.2⟩)
  rw [← gwidth_fqs MM, h2, k2] at h9
  exact h9
theorem left_rw (S : GridSaid) (a : Option Addr) (n c : Nat) (p : List Rat) (b : Option Addr) (m d : Nat) (Q : List (List Rat)) (N : Nat) (w : World) (h : Rw w a n c p) (k : Rwss w b m d Q) (hp : ∀ q ∈ p, qlen q ≤ N) (hQ : ∀ r ∈ Q, r.length ≤ 300 ∧ ∀ q ∈ r, qlen q ≤ N) (hn : n ≤ 300) (hb : 1 + n * (N + N + 6) ≤ 2000) (hN : N ≤ 900) (hr : rect Q ∧ n = m) :
    Calls Tryz.prog 23 #[.slice a n c, .slice b m d] w (LstRwV (gleft (gwidth Q) p Q) (.bool true) w) := by
  obtain ⟨L, h1, h2, h3⟩ := h.thin hp
  obtain ⟨MM, k1, k2, k3⟩ := k.thin (fun r hr => (hQ r hr).2)
  have h9 := S.left_yes a n c L b m d MM N w h1 k1 h3 (small_of k2 (fun r hr => (hQ r hr).1) k3) hn hb hN (Lib.hid ⟨(rect_fqs MM).1 (k2 ▸ hr.1), hr.2⟩)
  rw [← gwidth_fqs MM, h2, k2] at h9
  exact h9
theorem same_rw (S : GridSaid) (a : Option Addr) (n c : Nat) (P : List (List Rat)) (b : Option Addr) (m d : Nat) (Q : List (List Rat)) (w : World) (h : Rwss w a n c P) (k : Rwss w b m d Q) (hP : ∀ r ∈ P, r.length ≤ 300 ∧ ∀ q ∈ r, qlen q ≤ 1000) (hQ : ∀ r ∈ Q, r.length ≤ 300 ∧ ∀ q ∈ r, qlen q ≤ 1000) (hn : n ≤ 300) (hm : m ≤ 300) :
    Calls Tryz.prog 18 #[.slice a n c, .slice b m d] w (Gives (.bool (decide (P = Q))) w) := by
  obtain ⟨LL, h1, h2, h3⟩ := h.thin (fun r hr => (hP r hr).2)
  obtain ⟨MM, k1, k2, k3⟩ := k.thin (fun r hr => (hQ r hr).2)
  have h9 := S.same a n c LL b m d MM w h1 k1 hn hm (small_of h2 (fun r hr => (hP r hr).1) h3) (small_of k2 (fun r hr => (hQ r hr).1) k3)
  rw [h2, k2] at h9
  exact h9
theorem scale_rw (S : RowSaid) (v : Value) (q : Rat) (a : Option Addr) (n c : Nat) (p : List Rat) (w : World) (hv : Fr w v q 300) (h : Rw w a n c p) (hn : n ≤ 300) (hp : ∀ x ∈ p, qlen x ≤ 300) : Calls Tryz.prog 36 #[v, .slice a n c] w (LstRw (rscale q p) w) := by
  obtain ⟨L, h1, h2, h3⟩ := h.thin hp
  have h9 := S.scale v q a n c L w hv h1 hn h3
  rw [h2] at h9
  exact h9
theorem ex_unit : runit (rcut 2) 0 = [1, 0] := by decide +kernel
theorem ex_scale : rscale ((3 : Int) : Rat) [1, 0] = [3, 0] := by decide +kernel
theorem ex_mul : gmul (gwidth [[(1 : Rat), 0], [3, 0]]) (gident (gcut 2)) [[1, 0], [3, 0]] = [[1, 0], [3, 0]] := by decide +kernel
theorem ex_left : gleft (gwidth [[(1 : Rat), 0], [3, 0]]) [((1 : Int) : Rat), ((1 : Int) : Rat)] [[1, 0], [3, 0]] = [4, 0] := by decide +kernel
theorem ex_rect : rect [[(1 : Rat), 0], [3, 0]] ∧ rect (gident (gcut 2)) ∧ gwidth (gident (gcut 2)) = 2 := by decide +kernel
end Go.Proofs.YtpjkhbfglgmnmaaGreatDoor

/-
  The walks of the laws of layer 12: works.
-/
namespace Go.Proofs.YtpjkhbfglgmnmaaGreatDoor
open Go.RowKit

theorem row_40 : rowTxt [4, 0] = [52, 44, 48] := by
  show ftxt 4 ++ 44 :: ftxt 0 = _
  unfold ftxt ztxt
  rw [show (4 : Rat).num = 4 from rfl, show (4 : Rat).den = 1 from rfl, show (0 : Rat).num = 0 from rfl, show (0 : Rat).den = 1 from rfl, if_pos rfl, if_neg (by decide), if_neg (by decide), show (4 : Int).natAbs = 4 from rfl, show (0 : Int).natAbs = 0 from rfl, txt_small (by decide), txt_small (by decide)]; rfl
set_option maxRecDepth 4096 in
set_option maxHeartbeats 16000000 in
theorem law12_works (S : GridSaid) (RS : RowSaid) (FS : FracSaid) (w : World) (hT : Hid (Dec10 w)) : Calls Tryz.prog 8 #[] w (Gives (.bool true) w) := by
  have HB : Hid (Below w.heap.size w w) := Lib.hid (Below.refl _ _)
  obtain ⟨A, hA⟩ : ∃ A : List Rat, [1, 0] = A := ⟨_, rfl⟩
  obtain ⟨B, hBB⟩ : ∃ B : List Rat, [3, 0] = B := ⟨_, rfl⟩
  obtain ⟨D, hD⟩ : ∃ D : List Rat, [4, 0] = D := ⟨_, rfl⟩
  obtain ⟨q1, hq1⟩ : ∃ q : Rat, ((1 : Int) : Rat) = q := ⟨_, rfl⟩
  obtain ⟨q3, hq3⟩ : ∃ q : Rat, ((3 : Int) : Rat) = q := ⟨_, rfl⟩
  obtain ⟨I, hI⟩ : ∃ I, gident (gcut 2) = I := ⟨_, rfl⟩
  have lq1 : qlen q1 ≤ 2 := by rw [← hq1]; exact qlen_int (by decide)
  have lq3 : qlen q3 ≤ 2 := by rw [← hq3]; exact qlen_int (by decide)
  obtain ⟨qA, lA⟩ := small_qs (A := A) 1 0 (by decide) (by decide) rfl rfl hA.symm
  obtain ⟨qB, lB⟩ := small_qs (A := B) 3 0 (by decide) (by decide) rfl rfl hBB.symm
  obtain ⟨qD, lD⟩ := small_qs (A := D) 4 0 (by decide) (by decide) rfl rfl hD.symm
  have hM : ∀ r ∈ [A, B], r.length ≤ 300 ∧ ∀ q ∈ r, qlen q ≤ 2 := fun r hr => by
    simp only [List.mem_cons, List.not_mem_nil, or_false] at hr
    rcases hr with rfl | rfl
    · exact ⟨by omega, qA⟩
    · exact ⟨by omega, qB⟩
  have hII : ∀ r ∈ I, r.length ≤ 300 ∧ ∀ q ∈ r, qlen q ≤ 2 := fun r hr => by
    rw [← hI] at hr
    unfold gident at hr
    obtain ⟨i, _, rfl⟩ := List.mem_map.1 hr
    exact ⟨by rw [runit_length]; decide, qlen_runit _ _⟩
  have HM9 := Lib.hid hM
  have HI9 := Lib.hid hII
  have hIl : I.length = 2 := by rw [← hI]; unfold gident; rw [List.length_map, List.length_range]; rfl
  have HU : ∀ w' : World, Calls Tryz.prog 35 #[.int .i64 2, .int .i64 0] w' (LstRw A w') := fun w' => by
    have h := RS.unit 2 0 w' (by decide) (by decide)
    rw [ex_unit, hA] at h
    exact h
  have HO3 : ∀ w' : World, Calls Tryz.prog 37 #[.int .i64 3] w' (LstQ q3 w') := fun w' => hq3 ▸ FS.of 3 w' (by decide)
  have HO1 : ∀ w' : World, Calls Tryz.prog 37 #[.int .i64 1] w' (LstQ q1 w') := fun w' => hq1 ▸ FS.of 1 w' (by decide)
  have HQA := Lib.hid qA
  have LA := Lib.hid lA
  have HSC : ∀ (w' : World) (v : Value) (a1 : Option Addr) (n1 c1 : Nat), Fr w' v q3 300 → Rw w' a1 n1 c1 A → Calls Tryz.prog 36 #[v, .slice a1 n1 c1] w' (LstRw B w') := fun w' v a1 n1 c1 h1 h2 => by
    have h := scale_rw RS v q3 a1 n1 c1 A w' h1 h2 (by have := h2.len; have := LA.out; omega) (fun x hx => Nat.le_trans (HQA.out x hx) (by decide))
    rw [← hq3, ← hA, ex_scale, hBB] at h
    exact h
  have HID : ∀ w' : World, Calls Tryz.prog 20 #[.int .i64 2] w' (LstRws I w') := fun w' => hI ▸ S.ident 2 w' (by decide)
  have HMU : ∀ (w' : World) (a1 : Option Addr) (n1 c1 : Nat) (b1 : Option Addr), Rwss w' a1 n1 c1 I → Rwss w' b1 2 2 [A, B] → Calls Tryz.prog 30 #[.slice a1 n1 c1, .slice b1 2 2] w' (LstRwsV [A, B] (.bool true) w') := fun w' a1 n1 c1 b1 h1 h2 => by
    have h := mul_rw S a1 n1 c1 I b1 2 2 [A, B] 2 w' h1 h2 HI9.out HM9.out (by have := h1.len; omega) (by decide) (by decide) (by decide) (by rw [← hI, ← hA, ← hBB]; exact ⟨ex_rect.2.1, ex_rect.1, ex_rect.2.2⟩)
    rw [← hI, ← hA, ← hBB, ex_mul] at h
    rw [← hA, ← hBB]
    exact h
  have HLE : ∀ (w' : World) (a1 b1 : Option Addr), Rw w' a1 2 2 [q1, q1] → Rwss w' b1 2 2 [A, B] → Calls Tryz.prog 23 #[.slice a1 2 2, .slice b1 2 2] w' (LstRwV D (.bool true) w') := fun w' a1 b1 h1 h2 => by
    have h := left_rw S a1 2 2 [q1, q1] b1 2 2 [A, B] 2 w' h1 h2 (fun q hq => by simp only [List.mem_cons, List.not_mem_nil, or_false, or_self] at hq; rw [hq]; exact lq1) HM9.out (by decide) (by decide) (by decide) (by rw [← hA, ← hBB]; exact ⟨ex_rect.1, rfl⟩)
    rw [← hq1, ← hA, ← hBB, ex_left, hD] at h
    exact h
  have HSM : ∀ (w' : World) (a1 : Option Addr) (n1 c1 : Nat) (b1 : Option Addr), Rwss w' a1 n1 c1 [A, B] → Rwss w' b1 2 2 [A, B] → Calls Tryz.prog 18 #[.slice a1 n1 c1, .slice b1 2 2] w' (Gives (.bool true) w') := fun w' a1 n1 c1 b1 h1 h2 => by
    have h := same_rw S a1 n1 c1 [A, B] b1 2 2 [A, B] w' h1 h2 (fun r hr => ⟨(HM9.out r hr).1, fun q hq => Nat.le_trans ((HM9.out r hr).2 q hq) (by decide)⟩) (fun r hr => ⟨(HM9.out r hr).1, fun q hq => Nat.le_trans ((HM9.out r hr).2 q hq) (by decide)⟩) (by have := h1.len; simp at this; omega) (by decide)
    rw [decide_eq_true rfl] at h
    exact h
  have EDT : rowTxt D = [52, 44, 48] := by rw [← hD]; exact row_40
  have HTX : ∀ (w' : World) (a1 : Option Addr) (n1 c1 : Nat), Rw w' a1 n1 c1 D → Hid (Dec10 w') → Calls Tryz.prog 38 #[.slice a1 n1 c1] w' (Gives (.string (bs [52, 44, 48])) w') := fun w' a1 n1 c1 h1 h2 => by
    have h := text_rw RS a1 n1 c1 D w' h1 (by have := h1.len; omega) (fun x hx => Nat.le_trans (qD x hx) (by decide)) h2
    rw [EDT] at h
    exact h
  have q9 : ((bs [52, 44, 48]).toList == [52, 44, 48]) = true := by rw [bs_list]; rfl
  have LQ3 := Lib.hid lq3
  clear hA hBB hD hq1 hq3 hI lq1 lq3 qA lA qB lB qD lD hM hII hIl EDT HQA LA
  go_enter Tryz.func8, Tryz.ntmps8
  go_wp2_with fail
  refine (HU _).mono ?_
  rintro e wv1 ⟨a1, n1, c1, rfl, h1, b⟩
  replace HB := Lib.hid (below_then HB.out b)
  clear b
  have R1 := Lib.hid h1
  clear h1
  go_wp2_with fail
  refine (HO3 _).mono ?_
  rintro e wv2 ⟨a2, n2, c2, b2, m2, d2, rfl, h2, g2, b⟩
  replace HB := Lib.hid (below_then HB.out b)
  replace R1 := Lib.hid (R1.out.later b)
  clear b
  have R2 := Lib.hid h2
  have T2 := Lib.hid g2
  have hN2 : n2 ≤ 300 := (by rw [← h2.len]; exact Nat.le_trans (qlen_num _) (Nat.le_trans LQ3.out (by decide)))
  have hM2 : m2 ≤ 300 := (by rw [← g2.len]; exact Nat.le_trans (qlen_den _) (Nat.le_trans LQ3.out (by decide)))
  clear h2 g2
  go_wp2_with fail
  refine (HSC _ (frV (zneg (q3).num) a2 n2 c2 b2 m2 d2) a1 n1 c1 (Fr.right R2.out T2.out (by omega) (by omega)) R1.out).mono ?_
  rintro e wv3 ⟨a3, n3, c3, rfl, h3, b⟩
  replace HB := Lib.hid (below_then HB.out b)
  replace R1 := Lib.hid (R1.out.later b)
  replace R2 := Lib.hid (R2.out.later b)
  replace T2 := Lib.hid (T2.out.later b)
  clear b
  have RM := Lib.hid (Rwss.lit2 wv3 41 R1.out h3)
  clear h3
  have GM : Hid ((World.alloc wv3 (.cells #[.slice a1 n1 c1, .slice a3 n3 c3] 41)).heap[wv3.heap.size]? = some (.cells #[.slice a1 n1 c1, .slice a3 n3 c3] 41 (0, 0))) := Lib.hid (blk_new wv3 _ _)
  replace HB := Lib.hid (below_then HB.out (below_alloc wv3 (.cells #[.slice a1 n1 c1, .slice a3 n3 c3] 41)))
  replace R1 := Lib.hid (R1.out.later (below_alloc wv3 (.cells #[.slice a1 n1 c1, .slice a3 n3 c3] 41)))
  replace R2 := Lib.hid (R2.out.later (below_alloc wv3 (.cells #[.slice a1 n1 c1, .slice a3 n3 c3] 41)))
  replace T2 := Lib.hid (T2.out.later (below_alloc wv3 (.cells #[.slice a1 n1 c1, .slice a3 n3 c3] 41)))
  clear R1 R2 T2 GM
  go_wp2_with fail
  refine (HID _).mono ?_
  rintro e wv4 ⟨a4, n4, c4, rfl, h4, b⟩
  replace HB := Lib.hid (below_then HB.out b)
  replace RM := Lib.hid (RM.out.later b)
  clear b
  have R4 := Lib.hid h4
  clear h4
  go_wp2_with fail
  refine (HMU _ a4 n4 c4 _ R4.out RM.out).mono ?_
  rintro e wv5 ⟨a5, n5, c5, rfl, h5, b⟩
  replace HB := Lib.hid (below_then HB.out b)
  replace RM := Lib.hid (RM.out.later b)
  replace R4 := Lib.hid (R4.out.later b)
  clear b
  have R5 := Lib.hid h5
  clear h5
  clear R4
  go_wp2_with fail
  refine (HO1 _).mono ?_
  rintro e wv6 ⟨a6, n6, c6, b6, m6, d6, rfl, h6, g6, b⟩
  replace HB := Lib.hid (below_then HB.out b)
  replace RM := Lib.hid (RM.out.later b)
  replace R5 := Lib.hid (R5.out.later b)
  clear b
  have R6 := Lib.hid h6
  have T6 := Lib.hid g6
  clear h6 g6
  go_wp2_with fail
  refine (HO1 _).mono ?_
  rintro e wv7 ⟨a7, n7, c7, b7, m7, d7, rfl, h7, g7, b⟩
  replace HB := Lib.hid (below_then HB.out b)
  replace RM := Lib.hid (RM.out.later b)
  replace R5 := Lib.hid (R5.out.later b)
  replace R6 := Lib.hid (R6.out.later b)
  replace T6 := Lib.hid (T6.out.later b)
  clear b
  have RL := Lib.hid (Rw.lit2 wv7 58 R6.out T6.out h7 g7)
  clear h7 g7
  unfold frV
  have GL : Hid ((World.alloc wv7 (.cells #[.bool (zneg q1.num), .slice a6 n6 c6, .slice b6 m6 d6, .bool (zneg q1.num), .slice a7 n7 c7, .slice b7 m7 d7] 58)).heap[wv7.heap.size]? = some (.cells #[.bool (zneg q1.num), .slice a6 n6 c6, .slice b6 m6 d6, .bool (zneg q1.num), .slice a7 n7 c7, .slice b7 m7 d7] 58 (0, 0))) := Lib.hid (blk_new wv7 _ _)
  replace HB := Lib.hid (below_then HB.out (below_alloc wv7 (.cells #[.bool (zneg q1.num), .slice a6 n6 c6, .slice b6 m6 d6, .bool (zneg q1.num), .slice a7 n7 c7, .slice b7 m7 d7] 58)))
  replace RM := Lib.hid (RM.out.later (below_alloc wv7 (.cells #[.bool (zneg q1.num), .slice a6 n6 c6, .slice b6 m6 d6, .bool (zneg q1.num), .slice a7 n7 c7, .slice b7 m7 d7] 58)))
  replace R5 := Lib.hid (R5.out.later (below_alloc wv7 (.cells #[.bool (zneg q1.num), .slice a6 n6 c6, .slice b6 m6 d6, .bool (zneg q1.num), .slice a7 n7 c7, .slice b7 m7 d7] 58)))
  replace R6 := Lib.hid (R6.out.later (below_alloc wv7 (.cells #[.bool (zneg q1.num), .slice a6 n6 c6, .slice b6 m6 d6, .bool (zneg q1.num), .slice a7 n7 c7, .slice b7 m7 d7] 58)))
  replace T6 := Lib.hid (T6.out.later (below_alloc wv7 (.cells #[.bool (zneg q1.num), .slice a6 n6 c6, .slice b6 m6 d6, .bool (zneg q1.num), .slice a7 n7 c7, .slice b7 m7 d7] 58)))
  clear R6 T6 GL
  go_wp2_with fail
  refine (HLE _ _ _ RL.out RM.out).mono ?_
  rintro e wv8 ⟨a8, n8, c8, rfl, h8, b⟩
  replace HB := Lib.hid (below_then HB.out b)
  replace RM := Lib.hid (RM.out.later b)
  replace R5 := Lib.hid (R5.out.later b)
  replace RL := Lib.hid (RL.out.later b)
  clear b
  have R8 := Lib.hid h8
  clear h8
  clear RL
  go_wp2_with fail
  refine (HSM _ a5 n5 c5 _ R5.out RM.out).mono ?_
  rintro e wv9 ⟨rfl, b⟩
  replace HB := Lib.hid (below_then HB.out b)
  replace RM := Lib.hid (RM.out.later b)
  replace R5 := Lib.hid (R5.out.later b)
  replace R8 := Lib.hid (R8.out.later b)
  clear b
  go_wp2_with fail
  refine (HTX _ a8 n8 c8 R8.out (Lib.hid (hT.out.later HB.out))).mono ?_
  rintro e wv10 ⟨rfl, b⟩
  replace HB := Lib.hid (below_then HB.out b)
  replace RM := Lib.hid (RM.out.later b)
  replace R5 := Lib.hid (R5.out.later b)
  replace R8 := Lib.hid (R8.out.later b)
  clear b
  go_wp2
  go_ret
  exact ⟨rfl, HB.out⟩
end Go.Proofs.YtpjkhbfglgmnmaaGreatDoor

/-
  The contracts of the document's answer for layer 9: Same as a decision, Up, Floor.
-/
namespace Go.Proofs.YtpjkhbfglgmnmaaGreatDoor
open Go.RowKit

theorem ref02_same_g (a : Option Addr) (n cap : Nat) (la : List Nat) (b : Option Addr) (m cap' : Nat) (lb : List Nat) (w : World) (ha : Wd w a n cap la) (hb : Wd w b m cap' lb) : Calls Tryz.prog 92 #[.slice a n cap, .slice b m cap'] w (Gives (.bool (decide (la = lb))) w) :=
  (ref02_same a n cap la b m cap' lb w ha hb).mono fun e w' ⟨he, q, hw⟩ => ⟨he, by rw [hw]; exact below_draws _ _⟩
set_option maxRecDepth 4096 in
set_option maxHeartbeats 2000000 in
theorem ref09_same_sign (s0 : Bool) (a0 : Option Addr) (n0 c0 : Nat) (la0 : List Nat) (b0 : Option Addr) (m0 d0 : Nat) (lb0 : List Nat) (s1 : Bool) (a1 : Option Addr) (n1 c1 : Nat) (la1 : List Nat) (b1 : Option Addr) (m1 d1 : Nat) (lb1 : List Nat) (w : World) (ha0 : Wd w a0 n0 c0 la0) (hb0 : Wd w b0 m0 d0 lb0) (ha1 : Wd w a1 n1 c1 la1) (hb1 : Wd w b1 m1 d1 lb1) (hs : s0 ≠ s1) :
    Calls Tryz.prog 62 #[frV s0 a0 n0 c0 b0 m0 d0, frV s1 a1 n1 c1 b1 m1 d1] w (Gives (.bool false) w) := by
  have HB := Lib.hid (below_then (below_alloc w (.cells #[.bool s0, .slice a0 n0 c0, .slice b0 m0 d0] 70)) (below_alloc _ (.cells #[.bool s1, .slice a1 n1 c1, .slice b1 m1 d1] 70)))
  have A0 := Lib.hid (ha0.later HB.out)
  have B0 := Lib.hid (hb0.later HB.out)
  have A1 := Lib.hid (ha1.later HB.out)
  have B1 := Lib.hid (hb1.later HB.out)
  obtain ⟨hx0, hx1⟩ := boxes_at w ((w.alloc (.cells #[.bool s0, .slice a0 n0 c0, .slice b0 m0 d0] 70)).alloc (.cells #[.bool s1, .slice a1 n1 c1, .slice b1 m1 d1] 70)) #[.bool s0, .slice a0 n0 c0, .slice b0 m0 d0] #[.bool s1, .slice a1 n1 c1, .slice b1 m1 d1] 70 70 (Below.refl _ _)
  have X0 := Lib.hid hx0
  have X1 := Lib.hid hx1
  clear hx0 hx1 ha0 hb0 ha1 hb1
  have hb2 : (s0 == s1) = false := by cases s0 <;> cases s1 <;> first | rfl | exact absurd rfl hs
  clear hs
  go_enter Tryz.func62, Tryz.ntmps62
  unfold frV
  obtain ⟨k0, k1, k2, k3, k4, k5⟩ := cells_3_3 X0.out X1.out
  go_wp2
  go_ret
  exact ⟨rfl, HB.out⟩
set_option maxRecDepth 4096 in
set_option maxHeartbeats 2000000 in
theorem ref09_same_num (s0 : Bool) (a0 : Option Addr) (n0 c0 : Nat) (la0 : List Nat) (b0 : Option Addr) (m0 d0 : Nat) (lb0 : List Nat) (s1 : Bool) (a1 : Option Addr) (n1 c1 : Nat) (la1 : List Nat) (b1 : Option Addr) (m1 d1 : Nat) (lb1 : List Nat) (w : World) (ha0 : Wd w a0 n0 c0 la0) (hb0 : Wd w b0 m0 d0 lb0) (ha1 : Wd w a1 n1 c1 la1) (hb1 : Wd w b1 m1 d1 lb1) (hs : s0 = s1) (hl : la0 ≠ la1) :
    Calls Tryz.prog 62 #[frV s0 a0 n0 c0 b0 m0 d0, frV s1 a1 n1 c1 b1 m1 d1] w (Gives (.bool false) w) := by
  have HB := Lib.hid (below_then (below_alloc w (.cells #[.bool s0, .slice a0 n0 c0, .slice b0 m0 d0] 70)) (below_alloc _ (.cells #[.bool s1, .slice a1 n1 c1, .slice b1 m1 d1] 70)))
  have A0 := Lib.hid (ha0.later HB.out)
  have B0 := Lib.hid (hb0.later HB.out)
  have A1 := Lib.hid (ha1.later HB.out)
  have B1 := Lib.hid (hb1.later HB.out)
  obtain ⟨hx0, hx1⟩ := boxes_at w ((w.alloc (.cells #[.bool s0, .slice a0 n0 c0, .slice b0 m0 d0] 70)).alloc (.cells #[.bool s1, .slice a1 n1 c1, .slice b1 m1 d1] 70)) #[.bool s0, .slice a0 n0 c0, .slice b0 m0 d0] #[.bool s1, .slice a1 n1 c1, .slice b1 m1 d1] 70 70 (Below.refl _ _)
  have X0 := Lib.hid hx0
  have X1 := Lib.hid hx1
  clear hx0 hx1 ha0 hb0 ha1 hb1
  subst hs
  have hb2 : (s0 == s0) = true := by cases s0 <;> rfl
  have HL := Lib.hid hl
  clear hl
  go_enter Tryz.func62, Tryz.ntmps62
  unfold frV
  obtain ⟨k0, k1, k2, k3, k4, k5⟩ := cells_3_3 X0.out X1.out
  go_wp2_with fail
  refine (ref02_same_g a0 n0 c0 la0 a1 n1 c1 la1 _ A0.out A1.out).mono ?_
  rintro e w1 ⟨rfl, b⟩
  clear k0 k1 k2 k3 k4 k5
  replace HB := Lib.hid (below_then HB.out b)
  replace X0 := Lib.hid (blk_later X0.out b)
  replace X1 := Lib.hid (blk_later X1.out b)
  replace A0 := Lib.hid (A0.out.later b)
  replace B0 := Lib.hid (B0.out.later b)
  replace A1 := Lib.hid (A1.out.later b)
  replace B1 := Lib.hid (B1.out.later b)
  clear b
  rw [decide_eq_false HL.out]
  obtain ⟨k0, k1, k2, k3, k4, k5⟩ := cells_3_3 X0.out X1.out
  go_wp2
  go_ret
  exact ⟨rfl, HB.out⟩
set_option maxRecDepth 4096 in
set_option maxHeartbeats 2000000 in
theorem ref09_same_den (s0 : Bool) (a0 : Option Addr) (n0 c0 : Nat) (la0 : List Nat) (b0 : Option Addr) (m0 d0 : Nat) (lb0 : List Nat) (s1 : Bool) (a1 : Option Addr) (n1 c1 : Nat) (la1 : List Nat) (b1 : Option Addr) (m1 d1 : Nat) (lb1 : List Nat) (w : World) (ha0 : Wd w a0 n0 c0 la0) (hb0 : Wd w b0 m0 d0 lb0) (ha1 : Wd w a1 n1 c1 la1) (hb1 : Wd w b1 m1 d1 lb1) (hs : s0 = s1) (hl : la0 = la1) (hk : lb0 ≠ lb1) :
    Calls Tryz.prog 62 #[frV s0 a0 n0 c0 b0 m0 d0, frV s1 a1 n1 c1 b1 m1 d1] w (Gives (.bool false) w) := by
  have HB := Lib.hid (below_then (below_alloc w (.cells #[.bool s0, .slice a0 n0 c0, .slice b0 m0 d0] 70)) (below_alloc _ (.cells #[.bool s1, .slice a1 n1 c1, .slice b1 m1 d1] 70)))
  have A0 := Lib.hid (ha0.later HB.out)
  have B0 := Lib.hid (hb0.later HB.out)
  have A1 := Lib.hid (ha1.later HB.out)
  have B1 := Lib.hid (hb1.later HB.out)
  obtain ⟨hx0, hx1⟩ := boxes_at w ((w.alloc (.cells #[.bool s0, .slice a0 n0 c0, .slice b0 m0 d0] 70)).alloc (.cells #[.bool s1, .slice a1 n1 c1, .slice b1 m1 d1] 70)) #[.bool s0, .slice a0 n0 c0, .slice b0 m0 d0] #[.bool s1, .slice a1 n1 c1, .slice b1 m1 d1] 70 70 (Below.refl _ _)
  have X0 := Lib.hid hx0
  have X1 := Lib.hid hx1
  clear hx0 hx1 ha0 hb0 ha1 hb1
  subst hs
  have hb2 : (s0 == s0) = true := by cases s0 <;> rfl
  have HL := Lib.hid hl
  clear hl
  have HK := Lib.hid hk
  clear hk
  go_enter Tryz.func62, Tryz.ntmps62
  unfold frV
  obtain ⟨k0, k1, k2, k3, k4, k5⟩ := cells_3_3 X0.out X1.out
  go_wp2_with fail
  refine (ref02_same_g a0 n0 c0 la0 a1 n1 c1 la1 _ A0.out A1.out).mono ?_
  rintro e w1 ⟨rfl, b⟩
  clear k0 k1 k2 k3 k4 k5
  replace HB := Lib.hid (below_then HB.out b)
  replace X0 := Lib.hid (blk_later X0.out b)
  replace X1 := Lib.hid (blk_later X1.out b)
  replace A0 := Lib.hid (A0.out.later b)
  replace B0 := Lib.hid (B0.out.later b)
  replace A1 := Lib.hid (A1.out.later b)
  replace B1 := Lib.hid (B1.out.later b)
  clear b
  rw [decide_eq_true HL.out]
  obtain ⟨k0, k1, k2, k3, k4, k5⟩ := cells_3_3 X0.out X1.out
  go_wp2_with fail
  refine (ref02_same_g b0 m0 d0 lb0 b1 m1 d1 lb1 _ B0.out B1.out).mono ?_
  rintro e w2 ⟨rfl, b⟩
  clear k0 k1 k2 k3 k4 k5
  replace HB := Lib.hid (below_then HB.out b)
  replace X0 := Lib.hid (blk_later X0.out b)
  replace X1 := Lib.hid (blk_later X1.out b)
  replace A0 := Lib.hid (A0.out.later b)
  replace B0 := Lib.hid (B0.out.later b)
  replace A1 := Lib.hid (A1.out.later b)
  replace B1 := Lib.hid (B1.out.later b)
  clear b
  rw [decide_eq_false HK.out]
  obtain ⟨k0, k1, k2, k3, k4, k5⟩ := cells_3_3 X0.out X1.out
  go_wp2
  go_ret
  exact ⟨rfl, HB.out⟩
set_option maxRecDepth 4096 in
set_option maxHeartbeats 2000000 in
theorem ref09_same_right (s0 : Bool) (a0 : Option Addr) (n0 c0 : Nat) (la0 : List Nat) (b0 : Option Addr) (m0 d0 : Nat) (lb0 : List Nat) (s1 : Bool) (a1 : Option Addr) (n1 c1 : Nat) (la1 : List Nat) (b1 : Option Addr) (m1 d1 : Nat) (lb1 : List Nat) (w : World) (ha0 : Wd w a0 n0 c0 la0) (hb0 : Wd w b0 m0 d0 lb0) (ha1 : Wd w a1 n1 c1 la1) (hb1 : Wd w b1 m1 d1 lb1) (hs : s0 = s1) (hl : la0 = la1) (hk : lb0 = lb1) :
    Calls Tryz.prog 62 #[frV s0 a0 n0 c0 b0 m0 d0, frV s1 a1 n1 c1 b1 m1 d1] w (Gives (.bool true) w) := by
  have HB := Lib.hid (below_then (below_alloc w (.cells #[.bool s0, .slice a0 n0 c0, .slice b0 m0 d0] 70)) (below_alloc _ (.cells #[.bool s1, .slice a1 n1 c1, .slice b1 m1 d1] 70)))
  have A0 := Lib.hid (ha0.later HB.out)
  have B0 := Lib.hid (hb0.later HB.out)
  have A1 := Lib.hid (ha1.later HB.out)
  have B1 := Lib.hid (hb1.later HB.out)
  obtain ⟨hx0, hx1⟩ := boxes_at w ((w.alloc (.cells #[.bool s0, .slice a0 n0 c0, .slice b0 m0 d0] 70)).alloc (.cells #[.bool s1, .slice a1 n1 c1, .slice b1 m1 d1] 70)) #[.bool s0, .slice a0 n0 c0, .slice b0 m0 d0] #[.bool s1, .slice a1 n1 c1, .slice b1 m1 d1] 70 70 (Below.refl _ _)
  have X0 := Lib.hid hx0
  have X1 := Lib.hid hx1
  clear hx0 hx1 ha0 hb0 ha1 hb1
  subst hs
  have hb2 : (s0 == s0) = true := by cases s0 <;> rfl
  have HL := Lib.hid hl
  clear hl
  have HK := Lib.hid hk
  clear hk
  go_enter Tryz.func62, Tryz.ntmps62
  unfold frV
  obtain ⟨k0, k1, k2, k3, k4, k5⟩ := cells_3_3 X0.out X1.out
  go_wp2_with fail
  refine (ref02_same_g a0 n0 c0 la0 a1 n1 c1 la1 _ A0.out A1.out).mono ?_
  rintro e w1 ⟨rfl, b⟩
  clear k0 k1 k2 k3 k4 k5
  replace HB := Lib.hid (below_then HB.out b)
  replace X0 := Lib.hid (blk_later X0.out b)
  replace X1 := Lib.hid (blk_later X1.out b)
  replace A0 := Lib.hid (A0.out.later b)
  replace B0 := Lib.hid (B0.out.later b)
  replace A1 := Lib.hid (A1.out.later b)
  replace B1 := Lib.hid (B1.out.later b)
  clear b
  rw [decide_eq_true HL.out]
  obtain ⟨k0, k1, k2, k3, k4, k5⟩ := cells_3_3 X0.out X1.out
  go_wp2_with fail
  refine (ref02_same_g b0 m0 d0 lb0 b1 m1 d1 lb1 _ B0.out B1.out).mono ?_
  rintro e w2 ⟨rfl, b⟩
  clear k0 k1 k2 k3 k4 k5
  replace HB := Lib.hid (below_then HB.out b)
  replace X0 := Lib.hid (blk_later X0.out b)
  replace X1 := Lib.hid (blk_later X1.out b)
  replace A0 := Lib.hid (A0.out.later b)
  replace B0 := Lib.hid (B0.out.later b)
  replace A1 := Lib.hid (A1.out.later b)
  replace B1 := Lib.hid (B1.out.later b)
  clear b
  rw [decide_eq_true HK.out]
  obtain ⟨k0, k1, k2, k3, k4, k5⟩ := cells_3_3 X0.out X1.out
  go_wp2
  go_ret
  exact ⟨rfl, HB.out⟩
theorem ref09_same (s0 : Bool) (a0 : Option Addr) (n0 c0 : Nat) (la0 : List Nat) (b0 : Option Addr) (m0 d0 : Nat) (lb0 : List Nat) (s1 : Bool) (a1 : Option Addr) (n1 c1 : Nat) (la1 : List Nat) (b1 : Option Addr) (m1 d1 : Nat) (lb1 : List Nat) (w : World) (ha0 : Wd w a0 n0 c0 la0) (hb0 : Wd w b0 m0 d0 lb0) (ha1 : Wd w a1 n1 c1 la1) (hb1 : Wd w b1 m1 d1 lb1) :
    Calls Tryz.prog 62 #[frV s0 a0 n0 c0 b0 m0 d0, frV s1 a1 n1 c1 b1 m1 d1] w (Gives (.bool (decide (s0 = s1 ∧ la0 = la1 ∧ lb0 = lb1))) w) := by
  by_cases hs : s0 = s1
  · by_cases hl : la0 = la1
    · by_cases hk : lb0 = lb1
      · rw [decide_eq_true ⟨hs, hl, hk⟩]; exact ref09_same_right s0 a0 n0 c0 la0 b0 m0 d0 lb0 s1 a1 n1 c1 la1 b1 m1 d1 lb1 w ha0 hb0 ha1 hb1 hs hl hk
      · rw [decide_eq_false (fun h => hk h.2.2)]; exact ref09_same_den s0 a0 n0 c0 la0 b0 m0 d0 lb0 s1 a1 n1 c1 la1 b1 m1 d1 lb1 w ha0 hb0 ha1 hb1 hs hl hk
    · rw [decide_eq_false (fun h => hl h.2.1)]; exact ref09_same_num s0 a0 n0 c0 la0 b0 m0 d0 lb0 s1 a1 n1 c1 la1 b1 m1 d1 lb1 w ha0 hb0 ha1 hb1 hs hl
  · rw [decide_eq_false (fun h => hs h.1)]; exact ref09_same_sign s0 a0 n0 c0 la0 b0 m0 d0 lb0 s1 a1 n1 c1 la1 b1 m1 d1 lb1 w ha0 hb0 ha1 hb1 hs
end Go.Proofs.YtpjkhbfglgmnmaaGreatDoor

/-
  The document's answer of layer 9: Floor.
-/
namespace Go.Proofs.YtpjkhbfglgmnmaaGreatDoor
open Go.RowKit

end Go.Proofs.YtpjkhbfglgmnmaaGreatDoor

/-
  The document's answer of layer 11: Long, Zero, Unit. Written by genref11.py.
-/
namespace Go.Proofs.YtpjkhbfglgmnmaaGreatDoor
open Go.RowKit

set_option maxRecDepth 4096 in
set_option maxHeartbeats 4000000 in
theorem ref11_long (a : Option Addr) (n c : Nat) (L : List Fx) (K N : Int) (r : Bool) (w : World) (h : Fxs w a n c L) (hK : 0 ≤ K ∧ K ≤ 1000) (hr : Hid (r = true ↔ ¬ ((n : Int) ≤ K ∧ thinI N L))) :
    Calls Tryz.prog 22 #[.slice a n c, .int .i64 K, .int .i64 N] w (Gives (.bool r) w) := by
  have HK := Lib.hid h
  have HLl := Lib.hid h.len
  have hbd := h.bound
  obtain ⟨hK0, hK1⟩ := hK
  clear h
  go_enter Tryz.func22, Tryz.ntmps22
  go_wp2
  go_loopw [7] (fun iv wr => ∃ k : Nat, k ≤ n ∧ (k : Int) ≤ K ∧ iv = .int .i64 (k : Int) ∧ Hid (thinI N (L.take k)) ∧ Hid (Below w.heap.size w wr)) (fun iv _ => n - (intOf iv).toNat)
  case atStart => exact ⟨0, by omega, by omega, rfl, Lib.hid (fun x hx => by simp at hx), Lib.hid (Below.refl _ _)⟩
  case round =>
    obtain ⟨k, hk, hkK, rfl, HTh, HB⟩ := hrel
    by_cases hlt : k < n
    · have hki : (k : Int) < (n : Int) := by omega
      by_cases hltK : (k : Int) < K
      · obtain ⟨bb, off, rfl, e0, e1, e2, -⟩ := HK.out.at hlt
        have HT : Hid (L.take (k + 1) = L.take k ++ [L.getD k Fx.zero]) := Lib.hid (fx_more (by rw [HLl.out]; exact hlt))
        have HM : Hid (L.getD k Fx.zero ∈ L) := Lib.hid (fx_mem (by rw [HLl.out]; exact hlt))
        generalize L.getD k Fx.zero = xk at *
        obtain ⟨sk, ak, nk, ck, lak, bk, mk, dk, lbk⟩ := xk
        simp only at e0 e1 e2
        have HE : Hid (w.cell? ⟨bb, off + k * 3, none⟩ = some (.bool sk) ∧ w.cell? ⟨bb, off + k * 3 + 1, none⟩ = some (.slice ak nk ck) ∧ w.cell? ⟨bb, off + k * 3 + 2, none⟩ = some (.slice bk mk dk)) := Lib.hid ⟨e0, e1, e2⟩
        clear e0 e1 e2
        obtain ⟨e0, e1, e2⟩ := three_on HE.out HB.out
        go_wp2_with fail
        refine (ref09_long sk ak nk ck bk mk dk N _).mono ?_
        rintro e w4 ⟨rfl, b4⟩
        clear e0 e1 e2
        replace HB := Lib.hid (below_then HB.out b4)
        clear b4
        by_cases hb : N < (nk : Int) ∨ N < (mk : Int)
        · have hl : (decide (N < (nk : Int)) || decide (N < (mk : Int))) = true := by
            rw [Bool.or_eq_true]
            exact hb.imp decide_eq_true decide_eq_true
          rw [hl]
          have hrt : r = true := hr.out.2 (fun h8 => by
            have := h8.2 _ HM.out
            simp only at this
            omega)
          subst hrt
          clear hl hb
          go_wp2
          go_ret
          exact ⟨rfl, HB.out⟩
        · have hl : (decide (N < (nk : Int)) || decide (N < (mk : Int))) = false := by
            rw [decide_eq_false (fun h => hb (.inl h)), decide_eq_false (fun h => hb (.inr h))]; rfl
          rw [hl]
          have HTh9 : Hid (thinI N (L.take (k + 1))) := Lib.hid (fun x hx => by
            rw [HT.out] at hx
            rcases List.mem_append.1 hx with hx | hx
            · exact HTh.out x hx
            · rw [List.mem_singleton.1 hx]
              simp only
              omega)
          clear hl hb HTh HT HM
          go_wp2
          go_roundw
          case rel => exact ⟨k + 1, by omega, by omega, by go_num, HTh9, HB⟩
          case measure => simp [intOf]; omega
      · have hrt : r = true := hr.out.2 (fun h8 => by have := h8.1; omega)
        have hnk : K < (n : Int) := by omega
        subst hrt
        go_wp2
        go_ret
        exact ⟨rfl, HB.out⟩
    · obtain rfl : k = n := by omega
      have hrf : r = false := by
        cases r with
        | false => rfl
        | true =>
          refine absurd (hr.out.1 rfl) (fun h8 => h8 ⟨hkK, ?_⟩)
          have h9 := HTh.out
          rwa [List.take_of_length_le (by rw [HLl.out]; exact Nat.le_refl _)] at h9
      subst hrf
      have hnk : ¬ K < (k : Int) := by omega
      go_wp2
      go_ret
      exact ⟨rfl, HB.out⟩
theorem rcut_lt {n : Int} {k : Nat} : k < rcut n ↔ (k : Int) < n ∧ (k : Int) < 300 := by unfold rcut; omega
theorem rcut_le (n : Int) : rcut n ≤ 300 := by unfold rcut; omega
theorem reps_more {k m : Nat} (h : k < m) : (List.replicate m (0 : Rat)).take (k + 1) = (List.replicate m (0 : Rat)).take k ++ [0] := by
  rw [List.take_replicate, List.take_replicate, Nat.min_eq_left (by omega), Nat.min_eq_left (by omega), List.replicate_succ']
set_option maxRecDepth 4096 in
set_option maxHeartbeats 4000000 in
theorem ref11_zero_row (z : Int) (w : World) : Calls Tryz.prog 63 #[.int .i64 z] w (LstRow 70 (List.replicate (rcut z) 0) w) := by
  obtain ⟨n, hnz⟩ : ∃ n, rcut z = n := ⟨_, rfl⟩
  have hn3 : n ≤ 300 := hnz ▸ rcut_le z
  have hlt' : ∀ k : Nat, k < n ↔ (k : Int) < z ∧ (k : Int) < 300 := fun k => hnz ▸ rcut_lt
  rw [hnz]
  have HLT := Lib.hid hlt'
  clear hlt' hnz
  obtain ⟨T, hT⟩ : ∃ T, List.replicate n (0 : Rat) = T := ⟨_, rfl⟩
  have HTm : Hid (∀ k, k < n → T.take (k + 1) = T.take k ++ [0]) := Lib.hid (fun k hk => hT ▸ reps_more hk)
  have HTL : Hid (T.length = n) := Lib.hid (by rw [← hT, List.length_replicate])
  rw [hT]
  clear hT
  obtain ⟨q0, hq0⟩ : ∃ q : Rat, ((0 : Int) : Rat) = q := ⟨_, rfl⟩
  have HQ0 : Hid (q0 = 0) := Lib.hid (by rw [← hq0]; rfl)
  have EQ := Lib.hid hq0
  clear hq0
  obtain ⟨i0, hi, hz0, hz1, hz2⟩ := info_parts infoFrac11
  go_enter Tryz.func63, Tryz.ntmps63
  go_wp2
  go_loopw [3, 4] (fun mv iv wr => ∃ k : Nat, k ≤ n ∧ iv = .int .i64 (k : Int) ∧ Hid (Row wr w.heap.size 70 mv (T.take k)) ∧ Hid (Below w.heap.size w wr) ∧ w.heap.size ≤ wr.heap.size) (fun _ iv _ => n - (intOf iv).toNat)
  case atStart => exact ⟨0, by omega, rfl, Lib.hid (Row.nil _ _ _), Lib.hid (Below.refl _ _), by omega⟩
  case round =>
    obtain ⟨k, hk, rfl, HO, HB, hsz⟩ := hrel
    by_cases hlt : k < n
    · obtain ⟨hk1, hk2⟩ := (HLT.out k).1 hlt
      have HT : Hid (T.take (k + 1) = T.take k ++ [q0]) := Lib.hid (by rw [HTm.out k hlt, HQ0.out])
      have hkL : (T.take k).length ≤ 1000000 := by rw [take_len (by rw [HTL.out]; exact hk)]; omega
      go_wp2_with fail
      refine (ref09_int 0 _ isInt_nought).mono ?_
      rintro e w4 ⟨a4, n4, c4, b4, m4, d4, rfl, h4, g4, bw⟩
      rw [EQ.out] at h4 g4 ⊢
      replace HB := Lib.hid (below_then HB.out bw)
      replace HO := Lib.hid (HO.out.later bw)
      have hsz4 : w.heap.size ≤ w4.heap.size := Nat.le_trans hsz bw.size
      have HA4 := Lib.hid h4
      have HB4 := Lib.hid g4
      clear bw hsz h4 g4
      unfold frV
      have ba := below_alloc w4 (.cells #[.bool (zneg q0.num), .slice a4 n4 c4, .slice b4 m4 d4] 70)
      have HOa := Lib.hid (HO.out.later ba)
      have HBa := Lib.hid (below_then HB.out ba)
      have HAa := Lib.hid (HA4.out.later ba)
      have HCa := Lib.hid (HB4.out.later ba)
      clear ba HO HB HA4 HB4
      go_wp2_with (at_builtin; refine wpList_append_row _ rfl _ _ 39 rfl w.heap.size 70 i0 Tryz.underlying39 hi hz0 hz1 hz2 _ (T.take k) rfl HOa.out ⟨w4.heap.size, 0, none⟩ q0 a4 n4 c4 b4 m4 d4 rfl (rx_news _ _ _ _ _ _ _ _ _) HAa.out HCa.out hkL (by rw [blk_size]; omega) ?_)
      intro mv5 w5 hrow hgrow hbase hcl
      have HO5 : Hid (Row w5 w.heap.size 70 mv5 (T.take (k + 1))) := Lib.hid (by rw [HT.out]; exact hrow)
      have HB5 := Lib.hid (HBa.out.grown hgrow (by rw [blk_size]; omega) hbase)
      have hsz5 : w.heap.size ≤ w5.heap.size := Nat.le_trans (by rw [blk_size]; omega) hgrow.size
      clear hrow hgrow hbase hcl HOa HBa HAa HCa HT hsz4
      go_wp2
      go_roundw
      case rel => exact ⟨k + 1, by omega, by go_num, HO5, HB5, hsz5⟩
      case measure => simp [intOf]; omega
    · obtain rfl : k = n := by omega
      have HF := Lib.hid (HO.out.whole HTL.out)
      clear HO
      have hno : ¬ ((k : Int) < z ∧ (k : Int) < 300) := fun h => hlt ((HLT.out k).2 h)
      by_cases hkz : (k : Int) < z
      · have hk3 : ¬ (k : Int) < 300 := fun h => hno ⟨hkz, h⟩
        clear hno
        go_wp2
        go_ret
        exact ⟨_, rfl, HF.out, HB.out⟩
      · clear hno
        go_wp2
        go_ret
        exact ⟨_, rfl, HF.out, HB.out⟩
theorem runit_yes {k j : Nat} (h : j < k) : runit k (j : Int) = (List.replicate k 0).set j 1 := by
  unfold runit
  rw [if_pos (by omega), Int.toNat_natCast]
theorem runit_no {k : Nat} {i : Int} (h : ¬ (0 ≤ i ∧ i < k)) : runit k i = List.replicate k 0 := by
  unfold runit
  rw [if_neg h]
set_option maxRecDepth 4096 in
set_option maxHeartbeats 4000000 in
theorem ref11_unit (z i : Int) (w : World) : Calls Tryz.prog 44 #[.int .i64 z, .int .i64 i] w (LstRw (runit (rcut z) i) w) := by
  obtain ⟨n, hnz⟩ : ∃ n, rcut z = n := ⟨_, rfl⟩
  have hn3 : n ≤ 300 := hnz ▸ rcut_le z
  have HZ : ∀ w', Calls Tryz.prog 63 #[.int .i64 z] w' (LstRow 70 (List.replicate n 0) w') := fun w' => hnz ▸ ref11_zero_row z w'
  rw [hnz]
  clear hnz
  obtain ⟨T, hT⟩ : ∃ T, List.replicate n (0 : Rat) = T := ⟨_, rfl⟩
  have HTL : Hid (T.length = n) := Lib.hid (by rw [← hT, List.length_replicate])
  obtain ⟨q1, hq1⟩ : ∃ q : Rat, ((1 : Int) : Rat) = q := ⟨_, rfl⟩
  have EQ := Lib.hid hq1
  by_cases hin : 0 ≤ i ∧ i < n
  · obtain ⟨j, rfl⟩ : ∃ j : Nat, i = (j : Int) := ⟨i.toNat, by omega⟩
    have hj : j < n := by omega
    have hji : (j : Int) < (n : Int) := by omega
    have hj0 : (0 : Int) ≤ (j : Int) := by omega
    have ER : Hid (runit n (j : Int) = T.set j q1) := Lib.hid (by rw [runit_yes hj, ← hT, ← hq1]; rfl)
    rw [ER.out]
    rw [hT] at HZ
    clear hT hq1 hin
    go_enter Tryz.func44, Tryz.ntmps44
    go_wp2_with fail
    refine (HZ _).mono ?_
    rintro e w1 ⟨v, rfl, hrow, b⟩
    obtain ⟨g, cap, rfl, hg1, hg2⟩ := hrow.form (by rw [HTL.out]; omega)
    rw [HTL.out] at hrow ⊢
    have HO := Lib.hid hrow
    have HB := Lib.hid b
    clear hrow b
    go_wp2_with fail
    refine (ref09_int 1 _ (by decide)).mono ?_
    rintro e w2 ⟨a4, n4, c4, b4, m4, d4, rfl, h4, g4, bw⟩
    rw [EQ.out] at h4 g4 ⊢
    replace HB := Lib.hid (below_then HB.out bw)
    replace HO := Lib.hid (HO.out.later bw)
    have hg3 : g < w2.heap.size := Nat.lt_of_lt_of_le hg2 bw.size
    clear bw hg2
    obtain ⟨x, y, u, ⟨p0, p1, p2⟩, f0, f1, f2⟩ := HO.out.free HTL.out.symm (i := j) (by rw [HTL.out]; exact hj)
    obtain ⟨hst, hgr⟩ := HO.out.stored HTL.out.symm (i := j) (by rw [HTL.out]; exact hj) q1 a4 n4 c4 b4 m4 d4 h4 g4
    have HS := Lib.hid hst
    have HB5 := Lib.hid (HB.out.grown hgr HB.out.size (fun g' hg' => by simp at hg'; omega))
    clear hst hgr h4 g4 HO HB
    unfold frV
    go_wp2
    go_ret
    obtain ⟨a9, c9, e9, h9⟩ := HS.out.out
    rw [List.length_set, HTL.out] at e9 h9
    cases e9
    exact ⟨_, n, _, rfl, h9, HB5.out⟩
  · rw [runit_no hin, hT]
    clear EQ hq1
    go_enter Tryz.func44, Tryz.ntmps44
    go_wp2_with fail
    refine (HZ _).mono ?_
    rintro e w1 ⟨v, rfl, hrow, b⟩
    obtain ⟨a9, c9, rfl, h9⟩ := hrow.out
    rw [hT, HTL.out] at h9 ⊢
    have HF := Lib.hid h9
    have HB := Lib.hid b
    clear hrow b h9
    by_cases h0 : 0 ≤ i
    · have h1 : ¬ i < (n : Int) := fun h => hin ⟨h0, h⟩
      clear hin
      go_wp2
      go_ret
      exact ⟨a9, n, c9, rfl, HF.out, HB.out⟩
    · clear hin
      go_wp2
      go_ret
      exact ⟨a9, n, c9, rfl, HF.out, HB.out⟩
end Go.Proofs.YtpjkhbfglgmnmaaGreatDoor
