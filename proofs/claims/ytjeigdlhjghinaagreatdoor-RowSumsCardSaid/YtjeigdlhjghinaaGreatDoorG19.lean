/-
  Several texts of this claim as one, group 19.
-/
import Derived.Test.YtjeigdlhjghinaaGreatDoorG18
import Derived.Test.YtjeigdlhjghinaaGreatDoorG13
import Derived.Deep.RegionHeld3
import Derived.Deep.RegionLaw
import Derived.Test.YtjeigdlhjghinaaGreatDoorG10
/-
  Package row at this seat: allOf, column.
-/
namespace Go.Proofs.YtjeigdlhjghinaaGreatDoor
open Go.RowKit

theorem lens_take {α : Type} {LL : List (List α)} {k : Nat} (h : k < LL.length) (c : Int) : (∀ M ∈ LL.take (k + 1), (M.length : Int) = c) ↔ (∀ M ∈ LL.take k, (M.length : Int) = c) ∧ ((LL.getD k []).length : Int) = c := by
  have h1 : LL.take (k + 1) = LL.take k ++ [LL.getD k []] := by
    rw [List.take_succ_eq_append_getElem h, List.getD_eq_getElem?_getD, List.getElem?_eq_getElem h]; rfl
  rw [h1]
  constructor
  · intro h2
    exact ⟨fun M hM => h2 M (List.mem_append_left _ hM), h2 _ (List.mem_append_right _ (List.mem_singleton.2 rfl))⟩
  · rintro ⟨h2, h3⟩ M hM
    rcases List.mem_append.1 hM with hM | hM
    · exact h2 M hM
    · rw [List.mem_singleton.1 hM]; exact h3
theorem ll_mem {α : Type} {LL : List (List α)} {k : Nat} (h : k < LL.length) : LL.getD k [] ∈ LL := by
  rw [List.getD_eq_getElem?_getD, List.getElem?_eq_getElem h]; exact List.getElem_mem h
set_option maxRecDepth 4096 in
set_option maxHeartbeats 4000000 in
theorem row_allOf (a : Option Addr) (n c : Nat) (LL : List (List Fx)) (z : Int) (r : Bool) (w : World) (h : Fxss w a n c LL) (hr : Hid (r = true ↔ ∀ M ∈ LL, (M.length : Int) = z)) : Calls Tryz.prog 61 #[.slice a n c, .int .i64 z] w (fun e w' => e = .returned (.bool r) ∧ w = w') := by
  have HK := Lib.hid h
  have HLl := Lib.hid h.len
  have hbd := h.bound
  clear h
  go_enter Tryz.func61, Tryz.ntmps61
  go_wp2
  go_loopw [8] (fun iv wr => Hid (wr = w) ∧ ∃ k : Nat, k ≤ n ∧ iv = .int .i64 (k : Int) ∧ Hid (∀ M ∈ LL.take k, (M.length : Int) = z)) (fun iv _ => n - (intOf iv).toNat)
  case atStart => exact ⟨Lib.hid rfl, 0, by omega, rfl, Lib.hid (fun M hM => by simp at hM)⟩
  case round =>
    obtain ⟨HWE, k, hk, rfl, HA⟩ := hrel
    obtain rfl := HWE.out
    by_cases hlt : k < n
    · obtain ⟨bb, off, rfl, a', n', c', e0, h1⟩ := HK.out.at hlt
      have hl1 := h1.len
      have hbd1 := h1.bound
      have HT := Lib.hid (lens_take (show k < LL.length by rw [HLl.out]; exact hlt) z)
      have HM : Hid (LL.getD k [] ∈ LL) := Lib.hid (ll_mem (by rw [HLl.out]; exact hlt))
      have hki : (k : Int) < (n : Int) := by omega
      have HL1 : Hid ((LL.getD k []).length = n') := Lib.hid hl1
      clear h1 hl1
      by_cases hnz : (n' : Int) = z
      · have HA9 : Hid (∀ M ∈ LL.take (k + 1), (M.length : Int) = z) := Lib.hid (HT.out.2 ⟨HA.out, by rw [HL1.out]; exact hnz⟩)
        have hq : ((n' : Int) == z) = true := by simp [hnz]
        clear hnz HA HT HM HL1
        go_wp2
        go_roundw
        case rel => exact ⟨Lib.hid trivial, k + 1, by omega, by go_num, HA9⟩
        case measure => simp [intOf]; omega
      · have hrf : r = false := by
          cases r with
          | false => rfl
          | true => exact absurd (hr.out.1 rfl _ HM.out) (by rw [HL1.out]; exact hnz)
        subst hrf
        have hq : ((n' : Int) == z) = false := by simp [hnz]
        clear HA HT HM HL1
        go_wp2
        go_ret
        exact ⟨rfl, rfl⟩
    · obtain rfl : k = n := by omega
      have hrt : r = true := hr.out.2 (fun M hM => HA.out M (by rw [List.take_of_length_le (by rw [HLl.out]; exact Nat.le_refl _)]; exact hM))
      subst hrt
      go_wp2
      go_ret
      exact ⟨rfl, rfl⟩
/-- What the rows have at a place. -/
def colF (LL : List (List Fx)) (i : Nat) : List Fx := LL.map (fun L => L.getD i Fx.zero)
theorem colF_length (LL : List (List Fx)) (i : Nat) : (colF LL i).length = LL.length := List.length_map _
theorem colF_at {LL : List (List Fx)} {i k : Nat} (h : k < LL.length) : (colF LL i).getD k Fx.zero = (LL.getD k []).getD i Fx.zero := by
  unfold colF
  rw [List.getD_eq_getElem?_getD, List.getElem?_map, List.getD_eq_getElem?_getD (l := LL), List.getElem?_eq_getElem h]; rfl
set_option maxRecDepth 4096 in
set_option maxHeartbeats 4000000 in
theorem row_column (a : Option Addr) (n c : Nat) (LL : List (List Fx)) (i : Nat) (w : World) (h : Fxss w a n c LL) (hn : n ≤ 1000) (hi9 : ∀ M ∈ LL, i < M.length) : Calls Tryz.prog 63 #[.slice a n c, .int .i64 (i : Int)] w (fun e w' => ∃ (a' : Option Addr) (c' : Nat), e = .returned (.slice a' n c') ∧ Fxs w' a' n c' (colF LL i) ∧ Below w.heap.size w w') := by
  have HK := Lib.hid h
  have HLl := Lib.hid h.len
  have hbd := h.bound
  have HI := Lib.hid hi9
  clear h hi9
  obtain ⟨T, hT⟩ : ∃ T, colF LL i = T := ⟨_, rfl⟩
  have HTL : Hid (T.length = n) := Lib.hid (by rw [← hT, colF_length, HLl.out])
  have HTA : Hid (∀ k, k < n → T.getD k Fx.zero = (LL.getD k []).getD i Fx.zero) := Lib.hid (fun k hk => hT ▸ colF_at (by rw [HLl.out]; exact hk))
  rw [hT]
  clear hT
  obtain ⟨i0, hi, hz0, hz1, hz2⟩ := info_parts infoFracR
  go_enter Tryz.func63, Tryz.ntmps63
  go_wp2_with (at_make; refine wpList_make_fracs _ rfl _ _ 28 rfl (w.heap.size) 41 i0 Tryz.underlying28 hi hz0 hz1 hz2 _ _ _ _ n rfl rfl (by omega) (by omega) (by omega) (by simp) ?_; intro wm hmade hgm hszm)
  have HO0 := Lib.hid hmade
  have HB0 : Hid (Below w.heap.size w wm) := Lib.hid ((Below.refl _ _).grown hgm (Nat.le_refl _) (fun k hk => by cases hk))
  clear hmade hgm
  go_loopw [12] (fun iv wr => ∃ k r : Nat, k + r = n ∧ iv = .int .i64 (k : Int) ∧ Hid (HalfC wr w.heap.size 41 (.slice (some ⟨w.heap.size, 0, none⟩) n n) (T.take k) r) ∧ Hid (Below w.heap.size w wr) ∧ w.heap.size < wr.heap.size) (fun iv _ => n - (intOf iv).toNat)
  case atStart => exact ⟨0, n, by omega, rfl, HO0, HB0, by omega⟩
  case round =>
    clear HO0 HB0
    obtain ⟨k, r, hk, rfl, HO, HB, hsz⟩ := hrel
    by_cases hlt : k < n
    · have hkT : k < T.length := by rw [HTL.out]; exact hlt
      obtain ⟨r, rfl⟩ : ∃ r', r = r' + 1 := ⟨r - 1, by omega⟩
      have HT : Hid (T.take (k + 1) = T.take k ++ [T.getD k Fx.zero]) := Lib.hid (fx_more hkT)
      obtain ⟨bb, off, rfl, a', n', c', e0, h1⟩ := HK.out.at hlt
      have e0' := cell_later HB.out e0
      have hin : i < n' := by rw [← h1.len]; exact HI.out _ (ll_mem (by rw [HLl.out]; exact hlt))
      have hbd1 := h1.bound
      obtain ⟨b2, off2, rfl, q0, q1, q2, hok⟩ := h1.at hin
      rw [← HTA.out k hlt] at q0 q1 q2 hok
      generalize T.getD k Fx.zero = x at *
      obtain ⟨sx, ax, nx, cx, lax, bx, mx, dx, lbx⟩ := x
      simp only at q0 q1 q2
      obtain ⟨q0, q1, q2⟩ := three_on ⟨q0, q1, q2⟩ HB.out
      have HX := Lib.hid (hok.later HB.out)
      have hki : (k : Int) < (n : Int) := by omega
      have hii : (i : Int) < (n' : Int) := by omega
      obtain ⟨⟨p0, p1, p2⟩, f0, f1, f2⟩ := half_cell HO.out (k := k) (by rw [take_len (Nat.le_of_lt hkT)])
      obtain ⟨hst, hgr⟩ := HO.out.stored (k := k) (by rw [take_len (Nat.le_of_lt hkT)]) _ HX.out
      rw [← HT.out] at hst
      have HS := Lib.hid hst
      have HB5 := Lib.hid (HB.out.grown hgr HB.out.size (fun g' hg' => by simp at hg'; omega))
      have hsz5 := Nat.lt_of_lt_of_le hsz hgr.size
      clear hst hgr HO HB HT h1 hok e0 HX
      go_wp2
      go_roundw
      case rel => exact ⟨k + 1, r, by omega, by go_num, HS, HB5, hsz5⟩
      case measure => simp [intOf]; omega
    · obtain rfl : k = n := by omega
      obtain rfl : r = 0 := by omega
      have HF := Lib.hid (HO.out.done.whole HTL.out)
      obtain ⟨a9, c9, e9, h9⟩ := HF.out.out
      rw [HTL.out] at e9 h9
      cases e9
      have HF9 := Lib.hid h9
      clear HO h9 HF
      go_wp2
      go_ret
      exact ⟨_, _, rfl, HF9.out, HB.out⟩
end Go.Proofs.YtjeigdlhjghinaaGreatDoor

/-
  The walks of the laws of layer 9: To, Of, Is, alike.
-/
namespace Go.Proofs.YtjeigdlhjghinaaGreatDoor
open Go.RowKit

set_option maxHeartbeats 1000000 in
theorem law09_to (neg : Bool) (a : Option Addr) (n cap : Nat) (b : Option Addr) (m cap' : Nat) (w : World) : Calls Tryz.prog 31 #[frV neg a n cap b m cap'] w (Gives (frV neg a n cap b m cap') w) := by
  have HG : Hid (((w.alloc (.cells #[.bool neg, .slice a n cap, .slice b m cap'] 44)).alloc (.cells #[.bool neg, .slice a n cap, .slice b m cap'] 41)).heap[w.heap.size + 1]? = some (.cells #[.bool neg, .slice a n cap, .slice b m cap'] 41 (0, 0))) := Lib.hid (boxes_at w ((w.alloc (.cells #[.bool neg, .slice a n cap, .slice b m cap'] 44)).alloc (.cells #[.bool neg, .slice a n cap, .slice b m cap'] 41)) _ _ _ _ (Below.refl _ _)).2
  have HB := Lib.hid (below_then (below_alloc w (.cells #[.bool neg, .slice a n cap, .slice b m cap'] 44)) (below_alloc _ (.cells #[.bool neg, .slice a n cap, .slice b m cap'] 41)))
  go_enter Tryz.func31, Tryz.ntmps31
  unfold frV
  go_wp2
  refine bodyPost_ret (results_cell_row Tryz.results31 _ _ (w.heap.size + 1) 41 #[.bool neg, .slice a n cap, .slice b m cap'] (0, 0) _ rfl HG.out Tryz.underlying41 rfl (by kernel_rfl)) rfl ?_
  exact ⟨rfl, HB.out⟩
set_option maxHeartbeats 1000000 in
theorem law09_of (neg : Bool) (a : Option Addr) (n cap : Nat) (b : Option Addr) (m cap' : Nat) (w : World) : Calls Tryz.prog 50 #[frV neg a n cap b m cap'] w (Gives (frV neg a n cap b m cap') w) := by
  have HG : Hid (((w.alloc (.cells #[.bool neg, .slice a n cap, .slice b m cap'] 41)).alloc (.cells #[.bool neg, .slice a n cap, .slice b m cap'] 44)).heap[w.heap.size + 1]? = some (.cells #[.bool neg, .slice a n cap, .slice b m cap'] 44 (0, 0))) := Lib.hid (boxes_at w ((w.alloc (.cells #[.bool neg, .slice a n cap, .slice b m cap'] 41)).alloc (.cells #[.bool neg, .slice a n cap, .slice b m cap'] 44)) _ _ _ _ (Below.refl _ _)).2
  have HB := Lib.hid (below_then (below_alloc w (.cells #[.bool neg, .slice a n cap, .slice b m cap'] 41)) (below_alloc _ (.cells #[.bool neg, .slice a n cap, .slice b m cap'] 44)))
  go_enter Tryz.func50, Tryz.ntmps50
  unfold frV
  go_wp2
  refine bodyPost_ret (results_cell_row Tryz.results50 _ _ (w.heap.size + 1) 44 #[.bool neg, .slice a n cap, .slice b m cap'] (0, 0) _ rfl HG.out Tryz.underlying44 rfl (by kernel_rfl)) rfl ?_
  exact ⟨rfl, HB.out⟩
set_option maxRecDepth 4096 in
set_option maxHeartbeats 4000000 in
theorem law09_is_yes (neg : Bool) (a : Option Addr) (n cap : Nat) (b : Option Addr) (m cap' : Nat) (l k : List Nat) (a' : Option Addr) (n' c' : Nat) (b' : Option Addr) (m' d' : Nat) (w : World) (ha : Wd w a n cap l) (hb : Wd w b m cap' k) (ha' : Wd w a' n' c' l) (hb' : Wd w b' m' d' k) :
    Calls Tryz.prog 20 #[frV neg a n cap b m cap', frV neg a' n' c' b' m' d'] w (Gives (.bool true) w) := by
  have HB := Lib.hid (below_then (below_alloc w (.cells #[.bool neg, .slice a n cap, .slice b m cap'] 41)) (below_alloc _ (.cells #[.bool neg, .slice a' n' c', .slice b' m' d'] 44)))
  have HA := Lib.hid (ha.later HB.out)
  have HC := Lib.hid (hb.later HB.out)
  have HA' := Lib.hid (ha'.later HB.out)
  have HC' := Lib.hid (hb'.later HB.out)
  obtain ⟨hx1, hx2⟩ := boxes_at w ((w.alloc (.cells #[.bool neg, .slice a n cap, .slice b m cap'] 41)).alloc (.cells #[.bool neg, .slice a' n' c', .slice b' m' d'] 44)) #[.bool neg, .slice a n cap, .slice b m cap'] #[.bool neg, .slice a' n' c', .slice b' m' d'] 41 44 (Below.refl _ _)
  have HX := Lib.hid hx1
  have HY := Lib.hid hx2
  clear ha hb ha' hb' hx1 hx2
  go_enter Tryz.func20, Tryz.ntmps20
  unfold frV
  go_wp2
  generalize ((w.alloc (.cells #[.bool neg, .slice a n cap, .slice b m cap'] 41)).alloc (.cells #[.bool neg, .slice a' n' c', .slice b' m' d'] 44)) = W at *
  replace HB := Lib.hid (below_then HB.out ((Below.refl _ _).drew : Below W.heap.size W W.drew))
  replace HX : Hid (W.drew.heap[w.heap.size]? = _) := Lib.hid HX.out
  replace HY : Hid (W.drew.heap[w.heap.size + 1]? = _) := Lib.hid HY.out
  replace HA := Lib.hid (HA.out.later ((Below.refl _ _).drew : Below W.heap.size W W.drew))
  replace HC := Lib.hid (HC.out.later ((Below.refl _ _).drew : Below W.heap.size W W.drew))
  replace HA' := Lib.hid (HA'.out.later ((Below.refl _ _).drew : Below W.heap.size W W.drew))
  replace HC' := Lib.hid (HC'.out.later ((Below.refl _ _).drew : Below W.heap.size W W.drew))
  have pSn := cells_3_3 HX.out HY.out
  go_region_held3 (fun w' => w'.cell? ⟨w.heap.size, 0, none⟩ = some (.bool neg) ∧ w'.cell? ⟨w.heap.size, 1, none⟩ = some (.slice a n cap) ∧ w'.cell? ⟨w.heap.size, 2, none⟩ = some (.slice b m cap') ∧ w'.cell? ⟨w.heap.size + 1, 0, none⟩ = some (.bool neg) ∧ w'.cell? ⟨w.heap.size + 1, 1, none⟩ = some (.slice a' n' c') ∧ w'.cell? ⟨w.heap.size + 1, 2, none⟩ = some (.slice b' m' d')) (exact pSn)
    (first
    | (go_at_call 50; (first
      | (refine (law09_of neg a n cap b m cap' _).mono ?_; rintro e wp1 ⟨rfl, b⟩; replace HB := Lib.hid (below_then HB.out b); replace HX := Lib.hid (blk_later HX.out b); replace HY := Lib.hid (blk_later HY.out b); replace HA := Lib.hid (HA.out.later b); replace HC := Lib.hid (HC.out.later b); replace HA' := Lib.hid (HA'.out.later b); replace HC' := Lib.hid (HC'.out.later b); clear b; clear pSn; have pSn := cells_3_3 HX.out HY.out; have pM1 := True.intro)))
    | (go_at_call 49; (first
      | (have pm1 := pM1; refine (ref09_same_yes neg a n cap b m cap' l k a' n' c' b' m' d' _ HA.out HC.out HA'.out HC'.out).mono ?_; rintro e wp2 ⟨rfl, b⟩; replace HB := Lib.hid (below_then HB.out b); replace HX := Lib.hid (blk_later HX.out b); replace HY := Lib.hid (blk_later HY.out b); replace HA := Lib.hid (HA.out.later b); replace HC := Lib.hid (HC.out.later b); replace HA' := Lib.hid (HA'.out.later b); replace HC' := Lib.hid (HC'.out.later b); clear b; clear pSn; have pSn := cells_3_3 HX.out HY.out; clear pM1 pm1; have pM2 := True.intro))))
  go_wp2
  go_ret
  exact ⟨rfl, HB.out⟩
end Go.Proofs.YtjeigdlhjghinaaGreatDoor

/-
  One more fraction behind a row of the call's own, at a step of a region that draws its order. Of no program.
-/
namespace Go.Proofs.YtjeigdlhjghinaaGreatDoor
open Go.RowKit

theorem wp_append_clean {P : Program} (w : World) {o : Oper} {a : Act} {K : Act → World → Prop} {Q : Exit → Act → World → Prop} (s x : Operand) (t : TypeId)
    (ho : o.op = .call { callee := .builtin .append, args := #[s, x], argTypes := #[t, t] })
    (base : Nat) (e : TypeId) (i : TypeInfo) (z : Value) (size bytes : Nat) (ht : P.underlying t = some (.slice e)) (hi : P.info? e = some i) (hz : i.zero = some z)
    (hsize : i.size = size) (hby : i.bytes = bytes) (hzs : z.cells.size = size) (hsz : 0 < size)
    (v : Value) (n : Nat) (xs : List Value) (hs : a.eval s = v) (hown : w.ownsRow base e size v n xs)
    (ad : Addr) (m c : Nat) (news : List Value) (hx : a.eval x = .slice (some ad) m c) (hl : news.length = m * size) (hnews : ∀ j u, news[j]? = some u → w.cell? (ad.add j) = some u) (h1 : ∀ u ∈ news, u.oneCell' = true)
    (h63 : n + m ≤ maxLen) (hbytes : (n + m) * bytes ≤ 140737488355328) (hbase : base ≤ w.heap.size) (hm : 0 < m) (hcl : clean w v) (hzc : noWords z.cells.toList) (hnc : noWords news) (hxc : noWords xs)
    (h : ∀ v' w', w'.ownsRow base e size v' (n + m) (xs ++ news) → w.grownBy w' v.ownBlock → clean w' v' → K (a.put o.dst v') w') : o.wp P a w K Q := by
  obtain ⟨v', w', hr, h2, h3, h4⟩ := run_append_own (P := P) w base t o.type e i z size bytes ht hi hz hsize hby hzs hsz v n xs hown ad m c news hl hnews h1 h63 hbytes hbase
  have h5 : clean w' v' := by
    subst hsize hby
    rcases hown.2 with ⟨rfl, rfl⟩ | ⟨g, cap, cur, rfl, hbg, hg, hnc', hcm, hcs, htake⟩
    · have er := run_append_nil (P := P) w t o.type e i z ht hi hz ad m c news hl hnews hm (by simp only [maxLen] at h63; omega) (by simp only [Nat.zero_add] at hbytes; omega)
      rw [er] at hr
      simp only [Result.ok.injEq] at hr
      obtain ⟨rfl, rfl⟩ := hr
      exact clean_block (heap_alloc_new w.drew _) (by simp only [Array.toList_append]; exact noWords_append hnc (noWords_zeros hzc _))
    · by_cases hroom : n + m ≤ cap
      · have er := run_append_room (P := P) w t o.type e i ht hi g n cap cur hg ad m c news hl hnews h1 hroom (by rw [hl, hcs, ← Nat.add_mul]; exact Nat.mul_le_mul_right _ hroom)
        rw [er] at hr
        simp only [Result.ok.injEq] at hr
        obtain ⟨rfl, rfl⟩ := hr
        have hcu : noWords cur.toList := fun u hu k e2 => by
          obtain ⟨j, hj, e3⟩ := List.getElem_of_mem hu
          refine hcl g rfl j k ?_
          rw [cell_of_row w g j cur e (0, 0) hg, ← e2, ← e3]
          simp
        refine clean_block (setRow_heap w g cur _ e _ hg) ?_
        refine noWords_append (noWords_append (fun u hu => hcu u (List.mem_of_mem_take hu)) hnc) (fun u hu => hcu u (List.mem_of_mem_drop hu))
      · have holds : ∀ j u, xs[j]? = some u → w.cell? ((⟨g, 0, none⟩ : Addr).add j) = some u := hown.cells (g := g) rfl
        have er := run_append_grow (P := P) w t o.type e i z ht hi hz ⟨g, 0, none⟩ n cap xs hown.1 holds ad m c news hl hnews (by omega) (by simp only [maxLen] at h63; omega) (growslice_fits (by omega) hbytes)
        rw [er] at hr
        simp only [Result.ok.injEq] at hr
        obtain ⟨rfl, rfl⟩ := hr
        exact clean_block (heap_alloc_new w.drew _) (by simp only [Array.toList_append]; exact noWords_append (noWords_append hxc hnc) (noWords_zeros hzc _))
  unfold Oper.wp execOp
  simp only [ho, resolve, invoke, builtin, Sem.run_bind, Sem.run_pure, Result.andThen_ok, List.map_toArray, List.map_cons, List.map_nil, hs, hx, hr]
  exact h v' w' h2 h3 h5
/-- One more fraction behind a row of the call's own. -/
theorem step_append_row {P : Program} {ops : Array Oper} {o : Oper} {act : Act} {w : World} {K : Act → World → Prop} {Q : Exit → Act → World → Prop} {E : Prop} (hgd : o.guard = none) (s x : Operand) (t : TypeId)
    (ho : o.op = .call { callee := .builtin .append, args := #[s, x], argTypes := #[t, t] })
    (base : Nat) (e : TypeId) (i : TypeInfo) (ht : P.underlying t = some (.slice e)) (hi : P.info? e = some i) (hz : i.zero = some (.agg #[.bool false, .slice none 0 0, .slice none 0 0]))
    (hsize : i.size = 3) (hby : i.bytes = 56) (v : Value) (qs : List Rat) (hs : act.eval s = v) (hrow : Row w base e v qs)
    (ad : Addr) (q : Rat) (a : Option Addr) (n c : Nat) (b : Option Addr) (m d : Nat) (hx : act.eval x = .slice (some ad) 1 1)
    (hnews : ∀ j u, (rx q a n c b m d).cells[j]? = some u → w.cell? (ad.add j) = some u) (ha : Wd w a n c (dg q.num.natAbs)) (hb : Wd w b m d (dg q.den))
    (hlen : qs.length ≤ 1000000) (hbase : base ≤ w.heap.size)
    (h : ∀ v' w', Row w' base e v' (qs ++ [q]) → w.grownBy w' v.ownBlock → (∀ k, v.ownBlock = some k → base ≤ k) → clean w v → K (act.put o.dst v') w') : if Region.wanted o (yielded ops act.tmps) = true then Oper.wp P o act w K Q else E := by
  have hwt : Region.wanted o (yielded ops act.tmps) = true := by simp [Region.wanted, hgd]
  rw [if_pos hwt]
  obtain ⟨L, h1, h2, h3⟩ := hrow
  have hl : L.length = qs.length := by rw [← h2, List.length_map]
  have hzw : noWords (Value.agg #[.bool false, .slice none 0 0, .slice none 0 0]).cells.toList := by
    intro u hu k
    simp [Value.cells] at hu
    rcases hu with rfl | rfl <;> simp
  refine wp_append_clean w s x t ho base e i (.agg #[.bool false, .slice none 0 0, .slice none 0 0]) 3 56 ht hi hz hsize hby rfl (by decide) v L.length (L.flatMap Fx.cells) hs h1.1 ad 1 1 (rx q a n c b m d).cells hx rfl hnews (cells_one _) (by unfold maxLen; omega) (by omega) hbase (by decide) h1.2 hzw (noWords_cells _) (noWords_flat _) ?_
  intro v' w' hown hgrow hcl
  refine h v' w' ⟨L ++ [rx q a n c b m d], ⟨by simpa [List.flatMap_append] using hown, hcl⟩, by rw [List.map_append, h2]; simp [rx_q], fun y hy => ?_⟩ hgrow (fun k hk => h1.base k hk) h1.2
  rcases List.mem_append.1 hy with hy | hy
  · exact ⟨Fx.aside (h3 y hy).1 h1.2 hgrow, (h3 y hy).2⟩
  · rw [List.mem_singleton.1 hy]
    exact ⟨⟨ha.aside h1.2 hgrow, hb.aside h1.2 hgrow⟩, rx_right _ _ _ _ _ _ _⟩
end Go.Proofs.YtjeigdlhjghinaaGreatDoor

/-
  The document's answer of layer 11: rows made place by place; the law's own To and Of. Written by genref11.py.
-/
namespace Go.Proofs.YtjeigdlhjghinaaGreatDoor
open Go.RowKit

theorem rscale_getD {c : Rat} {l : List Rat} {k : Nat} (h : k < l.length) : (rscale c l).getD k 0 = c * l.getD k 0 := by
  unfold rscale
  rw [List.getD_eq_getElem?_getD, List.getD_eq_getElem?_getD, List.getElem?_map, List.getElem?_eq_getElem h]; rfl
theorem radd_getD : ∀ {l m : List Rat} {k : Nat}, k < l.length → k < m.length → (radd l m).getD k 0 = l.getD k 0 + m.getD k 0
  | [], _, _, h, _ => by simp at h
  | _ :: _, [], _, _, h => by simp at h
  | x :: l, y :: m, 0, _, _ => rfl
  | x :: l, y :: m, k + 1, h, h' => by
    have := radd_getD (l := l) (m := m) (k := k) (by simpa using h) (by simpa using h')
    simpa [radd] using this
theorem infoFrac11 : (Tryz.prog.info? 44).map (fun i => (i.zero, i.size, i.bytes)) = some (some (.agg #[.bool false, .slice none 0 0, .slice none 0 0]), 3, 56) := by kernel_rfl
theorem infoFrac11p : (Tryz.prog.info? 41).map (fun i => (i.zero, i.size, i.bytes)) = some (some (.agg #[.bool false, .slice none 0 0, .slice none 0 0]), 3, 56) := by kernel_rfl
set_option maxRecDepth 4096 in
set_option maxHeartbeats 4000000 in
theorem law11_to (a : Option Addr) (n c : Nat) (L : List Fx) (w : World) (h : Fxs w a n c L) (hn : n ≤ 1000) :
    Calls Tryz.prog 18 #[.slice a n c] w (fun e w' => ∃ (a' : Option Addr) (c' : Nat), e = .returned (.slice a' n c') ∧ Fxs w' a' n c' L ∧ Below w.heap.size w w') := by
  have HK := Lib.hid h
  have HLl := Lib.hid h.len
  have hbd := h.bound
  clear h
  obtain ⟨i0, hi, hz0, hz1, hz2⟩ := info_parts infoFrac11p
  go_enter Tryz.func18, Tryz.ntmps18
  go_wp2
  go_loopw [3, 4] (fun mv iv wr => ∃ k : Nat, k ≤ n ∧ iv = .int .i64 (k : Int) ∧ Hid (Cop wr w.heap.size 41 mv (L.take k)) ∧ Hid (Below w.heap.size w wr) ∧ w.heap.size ≤ wr.heap.size) (fun _ iv _ => n - (intOf iv).toNat)
  case atStart => exact ⟨0, by omega, rfl, Lib.hid (Cop.nil _ _ _), Lib.hid (Below.refl _ _), by omega⟩
  case round =>
    obtain ⟨k, hk, rfl, HO, HB, hsz⟩ := hrel
    by_cases hlt : k < n
    · obtain ⟨bb, off, rfl, e0, e1, e2, hok⟩ := HK.out.at hlt
      have HT : Hid (L.take (k + 1) = L.take k ++ [L.getD k Fx.zero]) := Lib.hid (fx_more (by rw [HLl.out]; exact hlt))
      have hkL : (L.take k).length ≤ 1000000 := by rw [take_len (by rw [HLl.out]; exact hk)]; omega
      generalize L.getD k Fx.zero = xk at *
      obtain ⟨sk, ak, nk, ck, lak, bk, mk, dk, lbk⟩ := xk
      simp only at e0 e1 e2
      have HY := Lib.hid hok
      have HE : Hid (w.cell? ⟨bb, off + k * 3, none⟩ = some (.bool sk) ∧ w.cell? ⟨bb, off + k * 3 + 1, none⟩ = some (.slice ak nk ck) ∧ w.cell? ⟨bb, off + k * 3 + 2, none⟩ = some (.slice bk mk dk)) := Lib.hid ⟨e0, e1, e2⟩
      clear hok e0 e1 e2
      have hki : (k : Int) < (n : Int) := by omega
      obtain ⟨e0, e1, e2⟩ := three_on HE.out HB.out
      go_wp2_with fail
      refine (law09_to sk ak nk ck bk mk dk _).mono ?_
      rintro e w4 ⟨rfl, b4⟩
      clear e0 e1 e2
      replace HB := Lib.hid (below_then HB.out b4)
      replace HO := Lib.hid (HO.out.later b4)
      have hsz4 : w.heap.size ≤ w4.heap.size := Nat.le_trans hsz b4.size
      clear b4 hsz
      unfold frV
      have ba := below_alloc w4 (.cells #[.bool sk, .slice ak nk ck, .slice bk mk dk] 41)
      have HOa := Lib.hid (HO.out.later ba)
      have HBa := Lib.hid (below_then HB.out ba)
      have HYa := Lib.hid (HY.out.later HBa.out)
      clear ba HO HB
      go_wp2_with (at_builtin; refine wpList_append_cop _ rfl _ _ 28 rfl w.heap.size 41 i0 Tryz.underlying28 hi hz0 hz1 hz2 _ (L.take k) rfl HOa.out ⟨w4.heap.size, 0, none⟩ ⟨sk, ak, nk, ck, lak, bk, mk, dk, lbk⟩ rfl (cells_news _ _ _) HYa.out hkL (by rw [blk_size]; omega) ?_)
      intro mv5 w5 hrow hgrow hbase hcl
      have HO5 : Hid (Cop w5 w.heap.size 41 mv5 (L.take (k + 1))) := Lib.hid (by rw [HT.out]; exact hrow)
      have HB5 := Lib.hid (HBa.out.grown hgrow (by rw [blk_size]; omega) hbase)
      have hsz5 : w.heap.size ≤ w5.heap.size := Nat.le_trans (by rw [blk_size]; omega) hgrow.size
      clear hrow hgrow hbase hcl HOa HBa HYa HT HE HY hsz4
      go_wp2
      go_roundw
      case rel => exact ⟨k + 1, by omega, by go_num, HO5, HB5, hsz5⟩
      case measure => simp [intOf]; omega
    · obtain rfl : k = n := by omega
      have HF := Lib.hid (HO.out.whole HLl.out)
      obtain ⟨a9, c9, rfl, h9⟩ := HF.out.out
      rw [HLl.out] at h9 ⊢
      have HF9 := Lib.hid h9
      clear h9 HF HO
      go_wp2
      go_ret
      exact ⟨a9, c9, rfl, HF9.out, HB.out⟩
set_option maxRecDepth 4096 in
set_option maxHeartbeats 4000000 in
theorem law11_of (a : Option Addr) (n c : Nat) (L : List Fx) (w : World) (h : Fxs w a n c L) (hn : n ≤ 1000) :
    Calls Tryz.prog 47 #[.slice a n c] w (fun e w' => ∃ (a' : Option Addr) (c' : Nat), e = .returned (.slice a' n c') ∧ Fxs w' a' n c' L ∧ Below w.heap.size w w') := by
  have HK := Lib.hid h
  have HLl := Lib.hid h.len
  have hbd := h.bound
  clear h
  obtain ⟨i0, hi, hz0, hz1, hz2⟩ := info_parts infoFrac11
  go_enter Tryz.func47, Tryz.ntmps47
  go_wp2
  go_loopw [3, 4] (fun mv iv wr => ∃ k : Nat, k ≤ n ∧ iv = .int .i64 (k : Int) ∧ Hid (Cop wr w.heap.size 44 mv (L.take k)) ∧ Hid (Below w.heap.size w wr) ∧ w.heap.size ≤ wr.heap.size) (fun _ iv _ => n - (intOf iv).toNat)
  case atStart => exact ⟨0, by omega, rfl, Lib.hid (Cop.nil _ _ _), Lib.hid (Below.refl _ _), by omega⟩
  case round =>
    obtain ⟨k, hk, rfl, HO, HB, hsz⟩ := hrel
    by_cases hlt : k < n
    · obtain ⟨bb, off, rfl, e0, e1, e2, hok⟩ := HK.out.at hlt
      have HT : Hid (L.take (k + 1) = L.take k ++ [L.getD k Fx.zero]) := Lib.hid (fx_more (by rw [HLl.out]; exact hlt))
      have hkL : (L.take k).length ≤ 1000000 := by rw [take_len (by rw [HLl.out]; exact hk)]; omega
      generalize L.getD k Fx.zero = xk at *
      obtain ⟨sk, ak, nk, ck, lak, bk, mk, dk, lbk⟩ := xk
      simp only at e0 e1 e2
      have HY := Lib.hid hok
      have HE : Hid (w.cell? ⟨bb, off + k * 3, none⟩ = some (.bool sk) ∧ w.cell? ⟨bb, off + k * 3 + 1, none⟩ = some (.slice ak nk ck) ∧ w.cell? ⟨bb, off + k * 3 + 2, none⟩ = some (.slice bk mk dk)) := Lib.hid ⟨e0, e1, e2⟩
      clear hok e0 e1 e2
      have hki : (k : Int) < (n : Int) := by omega
      obtain ⟨e0, e1, e2⟩ := three_on HE.out HB.out
      go_wp2_with fail
      refine (law09_of sk ak nk ck bk mk dk _).mono ?_
      rintro e w4 ⟨rfl, b4⟩
      clear e0 e1 e2
      replace HB := Lib.hid (below_then HB.out b4)
      replace HO := Lib.hid (HO.out.later b4)
      have hsz4 : w.heap.size ≤ w4.heap.size := Nat.le_trans hsz b4.size
      clear b4 hsz
      unfold frV
      have ba := below_alloc w4 (.cells #[.bool sk, .slice ak nk ck, .slice bk mk dk] 44)
      have HOa := Lib.hid (HO.out.later ba)
      have HBa := Lib.hid (below_then HB.out ba)
      have HYa := Lib.hid (HY.out.later HBa.out)
      clear ba HO HB
      go_wp2_with (at_builtin; refine wpList_append_cop _ rfl _ _ 22 rfl w.heap.size 44 i0 Tryz.underlying22 hi hz0 hz1 hz2 _ (L.take k) rfl HOa.out ⟨w4.heap.size, 0, none⟩ ⟨sk, ak, nk, ck, lak, bk, mk, dk, lbk⟩ rfl (cells_news _ _ _) HYa.out hkL (by rw [blk_size]; omega) ?_)
      intro mv5 w5 hrow hgrow hbase hcl
      have HO5 : Hid (Cop w5 w.heap.size 44 mv5 (L.take (k + 1))) := Lib.hid (by rw [HT.out]; exact hrow)
      have HB5 := Lib.hid (HBa.out.grown hgrow (by rw [blk_size]; omega) hbase)
      have hsz5 : w.heap.size ≤ w5.heap.size := Nat.le_trans (by rw [blk_size]; omega) hgrow.size
      clear hrow hgrow hbase hcl HOa HBa HYa HT HE HY hsz4
      go_wp2
      go_roundw
      case rel => exact ⟨k + 1, by omega, by go_num, HO5, HB5, hsz5⟩
      case measure => simp [intOf]; omega
    · obtain rfl : k = n := by omega
      have HF := Lib.hid (HO.out.whole HLl.out)
      obtain ⟨a9, c9, rfl, h9⟩ := HF.out.out
      rw [HLl.out] at h9 ⊢
      have HF9 := Lib.hid h9
      clear h9 HF HO
      go_wp2
      go_ret
      exact ⟨a9, c9, rfl, HF9.out, HB.out⟩
set_option maxRecDepth 4096 in
set_option maxHeartbeats 4000000 in
theorem ref11_norms (a0 : Option Addr) (n0 c0 : Nat) (L0 : List Fx) (w : World) (h0 : Fxs w a0 n0 c0 L0) (hn : n0 ≤ 1000) (ht0 : thin 2000 L0) :
    Calls Tryz.prog 11 #[.slice a0 n0 c0] w (LstRw (fqs L0) w) := by
  have HK0 := Lib.hid h0
  have HLl0 := Lib.hid h0.len
  have hbd0 := h0.bound
  have HTh0 := Lib.hid ht0
  clear h0 ht0
  have HTL : Hid ((fqs L0).length = n0) := Lib.hid (by rw [fqs_length, HLl0.out])
  obtain ⟨T, hTe⟩ : ∃ T, fqs L0 = T := ⟨_, rfl⟩
  have ET := Lib.hid hTe
  rw [hTe] at HTL ⊢
  clear hTe
  obtain ⟨i0, hi, hz0, hz1, hz2⟩ := info_parts infoFrac11
  go_enter Tryz.func11, Tryz.ntmps11
  skip
  go_wp2
  go_loopw [3,4] (fun mv iv wr => ∃ k : Nat, k ≤ n0 ∧ iv = .int .i64 (k : Int) ∧ Hid (Row wr (w.heap.size) 44 mv (T.take k)) ∧ Hid (Below w.heap.size w wr) ∧ w.heap.size ≤ wr.heap.size) (fun _ iv _ => n0 - (intOf iv).toNat)
  case atStart => exact ⟨0, by omega, rfl, Lib.hid (Row.nil _ _ _), Lib.hid (Below.refl _ _), by omega⟩
  case round =>
    obtain ⟨k, hk, rfl, HO, HB, hsz⟩ := hrel
    by_cases hlt : k < n0
    · have hkT : k < T.length := by rw [HTL.out]; exact hlt
      have HT : Hid (T.take (k + 1) = T.take k ++ [T.getD k 0]) := Lib.hid (q_more hkT)
      have HTv : Hid (T.getD k 0 = (L0.getD k Fx.zero).q) := Lib.hid (by rw [← ET.out]; exact fqs_getD (by rw [HLl0.out]; exact hlt))
      have hkL : (T.take k).length ≤ 1000000 := by rw [take_len (Nat.le_of_lt hkT)]; omega
      obtain ⟨bb0, off0, rfl, e00, e10, e20, hok0⟩ := HK0.out.at hlt
      have hth0 := HTh0.out _ (fx_mem (L := L0) (k := k) (by rw [HLl0.out]; exact hlt))
      generalize L0.getD k Fx.zero = xk0 at *
      obtain ⟨sk0, ak0, nk0, ck0, lak0, bk0, mk0, dk0, lbk0⟩ := xk0
      obtain ⟨hA0, hB0⟩ := hok0
      simp only at e00 e10 e20 hA0 hB0 hth0
      obtain ⟨hth0, htj0⟩ := hth0
      have HE0 : Hid (w.cell? ⟨bb0, off0 + k * 3, none⟩ = some (.bool (sk0)) ∧ w.cell? ⟨bb0, off0 + k * 3 + 1, none⟩ = some (.slice ak0 nk0 ck0) ∧ w.cell? ⟨bb0, off0 + k * 3 + 2, none⟩ = some (.slice bk0 mk0 dk0)) := Lib.hid ⟨e00, e10, e20⟩
      have AK0 := Lib.hid hA0
      have BK0 := Lib.hid hB0
      clear hA0 hB0 e00 e10 e20
      generalize T.getD k 0 = tk at *
      replace HTv : Hid (tk = qval sk0 (val lak0) (val lbk0)) := HTv
      have hki : (k : Int) < (n0 : Int) := by omega
      obtain ⟨e00, e10, e20⟩ := three_on HE0.out HB.out
      go_wp2_with fail
      refine (ref09_norm_q _ (qval sk0 (val lak0) (val lbk0)) _ (Fr.of (AK0.out.later HB.out) (BK0.out.later HB.out) (by omega) (by omega) rfl)).mono ?_
      rintro e w4 ⟨a4, n4, c4, b4, m4, d4, rfl, h4, g4, bw⟩
      rw [← HTv.out] at h4 g4 ⊢
      clear e00 e10 e20
      replace HB := Lib.hid (below_then HB.out bw)
      replace HO := Lib.hid (HO.out.later bw)
      have hsz4 : w.heap.size ≤ w4.heap.size := Nat.le_trans hsz bw.size
      have HA4 := Lib.hid h4
      have HB4 := Lib.hid g4
      clear bw hsz h4 g4
      unfold frV
      have ba := below_alloc w4 (.cells #[.bool (zneg tk.num), .slice a4 n4 c4, .slice b4 m4 d4] 44)
      have HOa := Lib.hid (HO.out.later ba)
      have HBa := Lib.hid (below_then HB.out ba)
      have HAa := Lib.hid (HA4.out.later ba)
      have HCa := Lib.hid (HB4.out.later ba)
      clear ba HO HB HA4 HB4
      go_wp2_with (at_builtin; refine wpList_append_row _ rfl _ _ 22 rfl w.heap.size 44 i0 Tryz.underlying22 hi hz0 hz1 hz2 _ (T.take k) rfl HOa.out ⟨w4.heap.size, 0, none⟩ tk a4 n4 c4 b4 m4 d4 rfl (rx_news _ _ _ _ _ _ _ _ _) HAa.out HCa.out hkL (by rw [blk_size]; omega) ?_)
      intro mv5 w5 hrow hgrow hbase hcl
      have HO5 : Hid (Row w5 w.heap.size 44 mv5 (T.take (k + 1))) := Lib.hid (by rw [HT.out]; exact hrow)
      have HB5 := Lib.hid (HBa.out.grown hgrow (by rw [blk_size]; omega) hbase)
      have hsz5 : w.heap.size ≤ w5.heap.size := Nat.le_trans (by rw [blk_size]; omega) hgrow.size
      clear hrow hgrow hbase hcl HOa HBa HAa HCa HT hsz4
      go_wp2
      go_roundw
      case rel => exact ⟨k + 1, by omega, by go_num, HO5, HB5, hsz5⟩
      case measure => simp [intOf]; omega
    · obtain rfl : k = n0 := by omega
      have HF := Lib.hid (HO.out.whole HTL.out)
      obtain ⟨a9, c9, rfl, h9⟩ := HF.out.out
      rw [HTL.out] at h9 ⊢
      have HF9 := Lib.hid h9
      clear h9 HF HO
      go_wp2
      go_ret
      exact ⟨a9, _, c9, rfl, HF9.out, HB.out⟩
set_option maxRecDepth 4096 in
set_option maxHeartbeats 4000000 in
theorem ref11_scale (v : Value) (z : Rat) (a0 : Option Addr) (n0 c0 : Nat) (qs0 : List Rat) (w : World) (hv : Rt w v z 2000) (h0 : Rw w a0 n0 c0 qs0) (hn : n0 ≤ 1000) (ht0 : ∀ q ∈ qs0, qlen q ≤ 2000) :
    Calls Tryz.prog 32 #[v, .slice a0 n0 c0] w (LstRw (rscale z qs0) w) := by
  have HK0 := Lib.hid h0
  have HLl0 := Lib.hid h0.len
  have hbd0 := h0.bound
  have HTh0 := Lib.hid ht0
  clear h0 ht0
  obtain ⟨va, vn, vc, vb, vm, vd, rfl, hv1, hv2, hv3, hv4⟩ := hv
  have HV1 := Lib.hid hv1
  have HV2 := Lib.hid hv2
  clear hv1 hv2
  have HTL : Hid ((rscale z qs0).length = n0) := Lib.hid (by rw [rscale_length, HLl0.out])
  obtain ⟨T, hTe⟩ : ∃ T, rscale z qs0 = T := ⟨_, rfl⟩
  have ET := Lib.hid hTe
  rw [hTe] at HTL ⊢
  clear hTe
  obtain ⟨i0, hi, hz0, hz1, hz2⟩ := info_parts infoFrac11
  go_enter Tryz.func32, Tryz.ntmps32
  unfold frV
  go_wp2
  go_loopw [5,6] (fun mv iv wr => ∃ k : Nat, k ≤ n0 ∧ iv = .int .i64 (k : Int) ∧ Hid (Row wr (w.heap.size + 1) 44 mv (T.take k)) ∧ Hid (Below w.heap.size w wr) ∧ w.heap.size + 1 ≤ wr.heap.size ∧ Hid (wr.heap[w.heap.size]? = some (.cells #[.bool (zneg z.num), .slice va vn vc, .slice vb vm vd] 44 (0, 0)))) (fun _ iv _ => n0 - (intOf iv).toNat)
  case atStart => exact ⟨0, by omega, rfl, Lib.hid (Row.nil _ _ _), Lib.hid (below_alloc _ _), by rw [blk_size]; omega, Lib.hid (blk_new _ _ _)⟩
  case round =>
    obtain ⟨k, hk, rfl, HO, HB, hsz, X0⟩ := hrel
    by_cases hlt : k < n0
    · have hkT : k < T.length := by rw [HTL.out]; exact hlt
      have HT : Hid (T.take (k + 1) = T.take k ++ [T.getD k 0]) := Lib.hid (q_more hkT)
      have HTv : Hid (T.getD k 0 = z * qs0.getD k 0) := Lib.hid (by rw [← ET.out]; exact rscale_getD (by rw [HLl0.out]; exact hlt))
      have hkL : (T.take k).length ≤ 1000000 := by rw [take_len (Nat.le_of_lt hkT)]; omega
      obtain ⟨bb0, off0, rfl, ak0, nk0, ck0, bk0, mk0, dk0, ⟨e00, e10, e20⟩, hA0, hB0⟩ := HK0.out.at hlt
      have hth0 : nk0 ≤ 2000 := by rw [← hA0.len]; exact Nat.le_trans (qlen_num _) (HTh0.out _ (q_mem (by rw [HLl0.out]; exact hlt)))
      have htj0 : mk0 ≤ 2000 := by rw [← hB0.len]; exact Nat.le_trans (qlen_den _) (HTh0.out _ (q_mem (by rw [HLl0.out]; exact hlt)))
      generalize qs0.getD k 0 = qk0 at *
      have HE0 : Hid (w.cell? ⟨bb0, off0 + k * 3, none⟩ = some (.bool (zneg qk0.num)) ∧ w.cell? ⟨bb0, off0 + k * 3 + 1, none⟩ = some (.slice ak0 nk0 ck0) ∧ w.cell? ⟨bb0, off0 + k * 3 + 2, none⟩ = some (.slice bk0 mk0 dk0)) := Lib.hid ⟨e00, e10, e20⟩
      have AK0 := Lib.hid hA0
      have BK0 := Lib.hid hB0
      clear hA0 hB0 e00 e10 e20
      generalize T.getD k 0 = tk at *
      have hki : (k : Int) < (n0 : Int) := by omega
      obtain ⟨e00, e10, e20⟩ := three_on HE0.out HB.out
      obtain ⟨x0, x1, x2⟩ := fcells_3 X0.out
      go_wp2
      have b0 : Below wr.heap.size wr wr.drew := (Below.refl _ _).drew
      replace HB := Lib.hid (below_then HB.out b0)
      replace HO := Lib.hid (HO.out.later b0)
      replace X0 := Lib.hid (blk_later X0.out b0)
      replace hsz := Nat.le_trans hsz b0.size
      clear e00 e10 e20 x0 x1 x2 b0
      obtain ⟨e00, e10, e20⟩ := three_on HE0.out HB.out
      obtain ⟨x0, x1, x2⟩ := fcells_3 X0.out
      go_region_law (first
        | (refine step_append_row rfl _ _ 22 rfl (w.heap.size + 1) 44 i0 Tryz.underlying22 hi hz0 hz1 hz2 _ (T.take k) rfl HOa.out _ tk a4 n4 c4 b4 m4 d4 rfl (rx_news _ _ _ _ _ _ _ _ _) HAa.out HCa.out hkL (by rw [blk_size]; omega) ?_; intro mv5 w5 hrow hgrow hbase hcl)
        | (go_simp; go_at_call 65; refine (ref09_mul_q _ _ z qk0 _ (Rt.of (HV1.out.later HB.out) (HV2.out.later HB.out) (by omega) (by omega)) (Rt.of (AK0.out.later HB.out) (BK0.out.later HB.out) (by omega) (by omega))).mono ?_; rintro e w4 ⟨a4, n4, c4, b4, m4, d4, rfl, h4, g4, bw⟩; rw [← HTv.out] at h4 g4 ⊢; clear e00 e10 e20 x0 x1 x2; replace HB := Lib.hid (below_then HB.out bw); replace HO := Lib.hid (HO.out.later bw); replace X0 := Lib.hid (blk_later X0.out bw); have hsz4 : w.heap.size + 1 ≤ w4.heap.size := Nat.le_trans hsz bw.size; have HA4 := Lib.hid h4; have HB4 := Lib.hid g4; clear bw hsz h4 g4; unfold frV; have ba := below_alloc w4 (.cells #[.bool (zneg tk.num), .slice a4 n4 c4, .slice b4 m4 d4] 44); have HOa := Lib.hid (HO.out.later ba); have HBa := Lib.hid (below_then HB.out ba); have Xa := Lib.hid (blk_later X0.out ba); have HAa := Lib.hid (HA4.out.later ba); have HCa := Lib.hid (HB4.out.later ba); clear ba HO HB HA4 HB4 X0))
      all_goals (
        have HO5 : Hid (Row w5 (w.heap.size + 1) 44 mv5 (T.take (k + 1))) := Lib.hid (by rw [HT.out]; exact hrow)
        have X5 := Lib.hid ((hgrow.block w.heap.size (by rw [blk_size]; omega) (fun e2 => by have := hbase _ e2.symm; omega)).trans Xa.out)
        clear Xa
        have HB5 := Lib.hid (HBa.out.grown hgrow (by rw [blk_size]; omega) (fun g hg => by have := hbase g hg; omega))
        have hsz5 : w.heap.size + 1 ≤ w5.heap.size := Nat.le_trans (by rw [blk_size]; omega) hgrow.size
        clear hrow hgrow hbase hcl HOa HBa HAa HCa HT hsz4
        go_wp2
        go_roundw
        case rel => exact ⟨k + 1, by omega, by go_num, HO5, HB5, hsz5, X5⟩
        case measure => simp [intOf]; omega)
    · obtain rfl : k = n0 := by omega
      have HF := Lib.hid (HO.out.whole HTL.out)
      obtain ⟨a9, c9, rfl, h9⟩ := HF.out.out
      rw [HTL.out] at h9 ⊢
      have HF9 := Lib.hid h9
      clear h9 HF HO
      go_wp2
      go_ret
      exact ⟨a9, _, c9, rfl, HF9.out, HB.out⟩
set_option maxRecDepth 4096 in
set_option maxHeartbeats 4000000 in
theorem ref11_add (a0 : Option Addr) (n0 c0 : Nat) (qs0 : List Rat) (a1 : Option Addr) (n1 c1 : Nat) (qs1 : List Rat) (w : World) (h0 : Rw w a0 n0 c0 qs0) (h1 : Rw w a1 n1 c1 qs1) (hs1 : Hid (n1 = n0)) (hn : n0 ≤ 1000) (ht0 : ∀ q ∈ qs0, qlen q ≤ 2000) (ht1 : ∀ q ∈ qs1, qlen q ≤ 2000) :
    Calls Tryz.prog 34 #[.slice a0 n0 c0, .slice a1 n1 c1] w (LstRw (radd qs0 qs1) w) := by
  have HK0 := Lib.hid h0
  have HLl0 := Lib.hid h0.len
  have hbd0 := h0.bound
  have HTh0 := Lib.hid ht0
  clear h0 ht0
  have HK1 := Lib.hid h1
  have HLl1 := Lib.hid h1.len
  have hbd1 := h1.bound
  have HTh1 := Lib.hid ht1
  clear h1 ht1
  obtain rfl := hs1.out
  clear hs1
  have HTL : Hid ((radd qs0 qs1).length = n1) := Lib.hid (by rw [radd_length _ _ (by rw [HLl0.out, HLl1.out]), HLl0.out])
  obtain ⟨T, hTe⟩ : ∃ T, radd qs0 qs1 = T := ⟨_, rfl⟩
  have ET := Lib.hid hTe
  rw [hTe] at HTL ⊢
  clear hTe
  obtain ⟨i0, hi, hz0, hz1, hz2⟩ := info_parts infoFrac11
  go_enter Tryz.func34, Tryz.ntmps34
  skip
  go_wp2
  go_loopw [5,6] (fun mv iv wr => ∃ k : Nat, k ≤ n1 ∧ iv = .int .i64 (k : Int) ∧ Hid (Row wr (w.heap.size) 44 mv (T.take k)) ∧ Hid (Below w.heap.size w wr) ∧ w.heap.size ≤ wr.heap.size) (fun _ iv _ => n1 - (intOf iv).toNat)
  case atStart => exact ⟨0, by omega, rfl, Lib.hid (Row.nil _ _ _), Lib.hid (Below.refl _ _), by omega⟩
  case round =>
    obtain ⟨k, hk, rfl, HO, HB, hsz⟩ := hrel
    by_cases hlt : k < n1
    · have hkT : k < T.length := by rw [HTL.out]; exact hlt
      have HT : Hid (T.take (k + 1) = T.take k ++ [T.getD k 0]) := Lib.hid (q_more hkT)
      have HTv : Hid (T.getD k 0 = qs0.getD k 0 + qs1.getD k 0) := Lib.hid (by rw [← ET.out]; exact radd_getD (by rw [HLl0.out]; exact hlt) (by rw [HLl1.out]; exact hlt))
      have hkL : (T.take k).length ≤ 1000000 := by rw [take_len (Nat.le_of_lt hkT)]; omega
      obtain ⟨bb0, off0, rfl, ak0, nk0, ck0, bk0, mk0, dk0, ⟨e00, e10, e20⟩, hA0, hB0⟩ := HK0.out.at hlt
      have hth0 : nk0 ≤ 2000 := by rw [← hA0.len]; exact Nat.le_trans (qlen_num _) (HTh0.out _ (q_mem (by rw [HLl0.out]; exact hlt)))
      have htj0 : mk0 ≤ 2000 := by rw [← hB0.len]; exact Nat.le_trans (qlen_den _) (HTh0.out _ (q_mem (by rw [HLl0.out]; exact hlt)))
      generalize qs0.getD k 0 = qk0 at *
      have HE0 : Hid (w.cell? ⟨bb0, off0 + k * 3, none⟩ = some (.bool (zneg qk0.num)) ∧ w.cell? ⟨bb0, off0 + k * 3 + 1, none⟩ = some (.slice ak0 nk0 ck0) ∧ w.cell? ⟨bb0, off0 + k * 3 + 2, none⟩ = some (.slice bk0 mk0 dk0)) := Lib.hid ⟨e00, e10, e20⟩
      have AK0 := Lib.hid hA0
      have BK0 := Lib.hid hB0
      clear hA0 hB0 e00 e10 e20
      obtain ⟨bb1, off1, rfl, ak1, nk1, ck1, bk1, mk1, dk1, ⟨e01, e11, e21⟩, hA1, hB1⟩ := HK1.out.at hlt
      have hth1 : nk1 ≤ 2000 := by rw [← hA1.len]; exact Nat.le_trans (qlen_num _) (HTh1.out _ (q_mem (by rw [HLl1.out]; exact hlt)))
      have htj1 : mk1 ≤ 2000 := by rw [← hB1.len]; exact Nat.le_trans (qlen_den _) (HTh1.out _ (q_mem (by rw [HLl1.out]; exact hlt)))
      generalize qs1.getD k 0 = qk1 at *
      have HE1 : Hid (w.cell? ⟨bb1, off1 + k * 3, none⟩ = some (.bool (zneg qk1.num)) ∧ w.cell? ⟨bb1, off1 + k * 3 + 1, none⟩ = some (.slice ak1 nk1 ck1) ∧ w.cell? ⟨bb1, off1 + k * 3 + 2, none⟩ = some (.slice bk1 mk1 dk1)) := Lib.hid ⟨e01, e11, e21⟩
      have AK1 := Lib.hid hA1
      have BK1 := Lib.hid hB1
      clear hA1 hB1 e01 e11 e21
      generalize T.getD k 0 = tk at *
      have hki : (k : Int) < (n1 : Int) := by omega
      obtain ⟨e00, e10, e20⟩ := three_on HE0.out HB.out
      obtain ⟨e01, e11, e21⟩ := three_on HE1.out HB.out
      go_wp2
      have b0 : Below wr.heap.size wr wr.drew := (Below.refl _ _).drew
      replace HB := Lib.hid (below_then HB.out b0)
      replace HO := Lib.hid (HO.out.later b0)

      replace hsz := Nat.le_trans hsz b0.size
      clear e00 e10 e20 e01 e11 e21 b0
      obtain ⟨e00, e10, e20⟩ := three_on HE0.out HB.out
      obtain ⟨e01, e11, e21⟩ := three_on HE1.out HB.out
      go_region_law (first
        | (refine step_append_row rfl _ _ 22 rfl (w.heap.size) 44 i0 Tryz.underlying22 hi hz0 hz1 hz2 _ (T.take k) rfl HOa.out _ tk a4 n4 c4 b4 m4 d4 rfl (rx_news _ _ _ _ _ _ _ _ _) HAa.out HCa.out hkL (by rw [blk_size]; omega) ?_; intro mv5 w5 hrow hgrow hbase hcl)
        | (go_simp; go_at_call 68; refine (ref09_add_q _ _ qk0 qk1 _ (Rt.of (AK0.out.later HB.out) (BK0.out.later HB.out) (by omega) (by omega)) (Rt.of (AK1.out.later HB.out) (BK1.out.later HB.out) (by omega) (by omega))).mono ?_; rintro e w4 ⟨a4, n4, c4, b4, m4, d4, rfl, h4, g4, bw⟩; rw [← HTv.out] at h4 g4 ⊢; clear e00 e10 e20 e01 e11 e21; replace HB := Lib.hid (below_then HB.out bw); replace HO := Lib.hid (HO.out.later bw); have hsz4 : w.heap.size ≤ w4.heap.size := Nat.le_trans hsz bw.size; have HA4 := Lib.hid h4; have HB4 := Lib.hid g4; clear bw hsz h4 g4; unfold frV; have ba := below_alloc w4 (.cells #[.bool (zneg tk.num), .slice a4 n4 c4, .slice b4 m4 d4] 44); have HOa := Lib.hid (HO.out.later ba); have HBa := Lib.hid (below_then HB.out ba); have HAa := Lib.hid (HA4.out.later ba); have HCa := Lib.hid (HB4.out.later ba); clear ba HO HB HA4 HB4))
      all_goals (
        have HO5 : Hid (Row w5 (w.heap.size) 44 mv5 (T.take (k + 1))) := Lib.hid (by rw [HT.out]; exact hrow)
        have HB5 := Lib.hid (HBa.out.grown hgrow (by rw [blk_size]; omega) (fun g hg => by have := hbase g hg; omega))
        have hsz5 : w.heap.size ≤ w5.heap.size := Nat.le_trans (by rw [blk_size]; omega) hgrow.size
        clear hrow hgrow hbase hcl HOa HBa HAa HCa HT hsz4
        go_wp2
        go_roundw
        case rel => exact ⟨k + 1, by omega, by go_num, HO5, HB5, hsz5⟩
        case measure => simp [intOf]; omega)
    · obtain rfl : k = n1 := by omega
      have HF := Lib.hid (HO.out.whole HTL.out)
      obtain ⟨a9, c9, rfl, h9⟩ := HF.out.out
      rw [HTL.out] at h9 ⊢
      have HF9 := Lib.hid h9
      clear h9 HF HO
      go_wp2
      go_ret
      exact ⟨a9, _, c9, rfl, HF9.out, HB.out⟩
end Go.Proofs.YtjeigdlhjghinaaGreatDoor

/-
  Package row at this seat: Scale, Sub.
-/
namespace Go.Proofs.YtjeigdlhjghinaaGreatDoor
open Go.RowKit

set_option maxRecDepth 4096 in
set_option maxHeartbeats 4000000 in
theorem row_scale (v : Value) (z : Rat) (a0 : Option Addr) (n0 c0 : Nat) (L0 : List Fx) (w : World) (hv : Fr w v z 300) (h0 : Fxs w a0 n0 c0 L0) (hn : n0 ≤ 300) (ht0 : thin 300 L0) : Calls Tryz.prog 30 #[v, .slice a0 n0 c0] w (LstRw (rscale z (fqs L0)) w) := by
  have HK0 := Lib.hid h0
  have HLl0 := Lib.hid h0.len
  have hbd0 := h0.bound
  have HTh0 := Lib.hid ht0
  clear h0 ht0
  obtain ⟨vs, va, vn, vc, vla, vb, vm, vd, vlb, rfl, hv1, hv2, hvn, hvm, hvq⟩ := hv
  have HV1 := Lib.hid hv1
  have HV2 := Lib.hid hv2
  have HVQ := Lib.hid hvq
  clear hv1 hv2 hvq
  have HTL : Hid ((rscale z (fqs L0)).length = n0) := Lib.hid (by rw [rscale_length, fqs_length, HLl0.out])
  obtain ⟨T, hTe⟩ : ∃ T, rscale z (fqs L0) = T := ⟨_, rfl⟩
  have ET := Lib.hid hTe
  rw [hTe] at HTL
  try rw [hTe]
  clear hTe
  obtain ⟨i0, hi, hz0, hz1, hz2⟩ := info_parts infoFracR
  go_enter Tryz.func30, Tryz.ntmps30
  try unfold frV
  go_wp2_with (at_make; refine wpList_make_fracs _ rfl _ _ 28 rfl (w.heap.size + 1) 41 i0 Tryz.underlying28 hi hz0 hz1 hz2 _ _ _ _ n0 rfl rfl (by omega) (by omega) (by omega) (by simp) ?_; intro wm hmade hgm hszm)
  have HO0 := Lib.hid (Half.start hmade)
  have HB0 : Hid (Below w.heap.size w wm) := Lib.hid (below_then (below_alloc _ _) ((Below.refl _ _).grown hgm (Nat.le_refl _) (fun k hk => by cases hk)))
  have X00 : Hid (wm.heap[w.heap.size]? = some (.cells #[.bool vs, .slice va vn vc, .slice vb vm vd] 41 (0, 0))) := Lib.hid (blk_later (blk_new _ _ _) ((Below.refl _ _).grown hgm (Nat.le_refl _) (fun k hk => by cases hk)))
  clear hmade hgm
  try simp only [World.size_alloc] at hszm HO0
  go_loopw [12] (fun iv wr => ∃ k r : Nat, k + r = n0 ∧ iv = .int .i64 (k : Int) ∧ Hid (Half wr (w.heap.size + 1) 41 (.slice (some ⟨w.heap.size + 1, 0, none⟩) n0 n0) (T.take k) r) ∧ Hid (Below w.heap.size w wr) ∧ w.heap.size + 1 < wr.heap.size ∧ Hid (wr.heap[w.heap.size]? = some (.cells #[.bool vs, .slice va vn vc, .slice vb vm vd] 41 (0, 0)))) (fun iv _ => n0 - (intOf iv).toNat)
  case atStart => exact ⟨0, n0, by omega, rfl, HO0, HB0, by omega, X00⟩
  case round =>
    clear HO0 HB0 X00
    obtain ⟨k, r, hk, rfl, HO, HB, hsz, X0⟩ := hrel
    by_cases hlt : k < n0
    · have hkT : k < T.length := by rw [HTL.out]; exact hlt
      obtain ⟨r, rfl⟩ : ∃ r', r = r' + 1 := ⟨r - 1, by omega⟩
      have HT : Hid (T.take (k + 1) = T.take k ++ [T.getD k 0]) := Lib.hid (q_more hkT)
      have HTv : Hid (T.getD k 0 = z * (L0.getD k Fx.zero).q) := Lib.hid (by rw [← ET.out]; rw [rscale_getD (by rw [fqs_length, HLl0.out]; exact hlt), fqs_getD (by rw [HLl0.out]; exact hlt)])
      obtain ⟨bb0, off0, rfl, e00, e10, e20, hok0⟩ := HK0.out.at hlt
      have hth0 := HTh0.out _ (fx_mem (L := L0) (k := k) (by rw [HLl0.out]; exact hlt))
      generalize L0.getD k Fx.zero = xk0 at *
      obtain ⟨sk0, ak0, nk0, ck0, lak0, bk0, mk0, dk0, lbk0⟩ := xk0
      obtain ⟨hA0, hB0⟩ := hok0
      simp only at e00 e10 e20 hA0 hB0 hth0
      obtain ⟨hth0, htj0⟩ := hth0
      have HE0 : Hid (w.cell? ⟨bb0, off0 + k * 3, none⟩ = some (.bool sk0) ∧ w.cell? ⟨bb0, off0 + k * 3 + 1, none⟩ = some (.slice ak0 nk0 ck0) ∧ w.cell? ⟨bb0, off0 + k * 3 + 2, none⟩ = some (.slice bk0 mk0 dk0)) := Lib.hid ⟨e00, e10, e20⟩
      have AK0 := Lib.hid hA0
      have BK0 := Lib.hid hB0
      clear hA0 hB0 e00 e10 e20
      generalize T.getD k 0 = tk at *
      replace HTv : Hid (tk = z * qval sk0 (val lak0) (val lbk0)) := HTv
      have hki : (k : Int) < (n0 : Int) := by omega
      have hk0 : (0 : Int) ≤ (k : Int) := by omega
      obtain ⟨e00, e10, e20⟩ := three_on HE0.out HB.out
      obtain ⟨x0, x1, x2⟩ := fcells_3 X0.out
      go_wp2
      have b0 : Below wr.heap.size wr wr.drew := (Below.refl _ _).drew
      replace HB := Lib.hid (below_then HB.out b0)
      replace HO := Lib.hid (HO.out.later b0)
      replace X0 := Lib.hid (blk_later X0.out b0)
      replace hsz := Nat.lt_of_lt_of_le hsz b0.size
      clear e00 e10 e20 x0 x1 x2 b0
      obtain ⟨e00, e10, e20⟩ := three_on HE0.out HB.out
      obtain ⟨x0, x1, x2⟩ := fcells_3 X0.out
      first | go_region_with (first
        | (go_at_call 44; refine (fracSaid.mul _ _ z (qval sk0 (val lak0) (val lbk0)) _ (Fr.of (HV1.out.later HB.out) (HV2.out.later HB.out) (by omega) (by omega) HVQ.out) (Fr.of (AK0.out.later HB.out) (BK0.out.later HB.out) (by omega) (by omega) rfl)).mono ?_; rintro e w4 ⟨a4, n4, c4, b4, m4, d4, rfl, h4, g4, bw⟩; rw [← HTv.out] at h4 g4 ⊢; clear e00 e10 e20 x0 x1 x2; replace HB := Lib.hid (below_then HB.out bw); replace HO := Lib.hid (HO.out.later bw); replace X0 := Lib.hid (blk_later X0.out bw); have hsz4 : w.heap.size + 1 < w4.heap.size := Nat.lt_of_lt_of_le hsz bw.size; have HA4 := Lib.hid h4; have HB4 := Lib.hid g4; clear bw hsz h4 g4; unfold frV; obtain ⟨⟨p0, p1, p2⟩, f0, f1, f2⟩ := HO.out.cell (k := k) (by rw [take_len (Nat.le_of_lt hkT)]))) | fail
      all_goals (
        obtain ⟨hst, hgr⟩ := HO.out.stored (k := k) (by rw [take_len (Nat.le_of_lt hkT)]) tk a4 n4 c4 b4 m4 d4 HA4.out HB4.out
        rw [← HT.out] at hst
        have HS := Lib.hid hst
        have HB5 := Lib.hid (HB.out.grown hgr HB.out.size (fun g' hg' => by simp at hg'; omega))
        have hsz5 := Nat.lt_of_lt_of_le hsz4 hgr.size
        have X5 := Lib.hid ((hgr.block w.heap.size (by omega) (fun e2 => by simp at e2)).trans X0.out)
        clear X0
        clear hst hgr HA4 HB4 HO HB HT HTv p0 p1 p2 f0 f1 f2
        go_wp2
        go_roundw
        case rel => exact ⟨k + 1, r, by omega, by go_num, HS, HB5, hsz5, X5⟩
        case measure => simp [intOf]; omega)
    · obtain rfl : k = n0 := by omega
      have HF := Lib.hid (HO.out.whole HTL.out (by omega))
      obtain ⟨a9, c9, e9, h9⟩ := HF.out.out
      rw [HTL.out] at e9 h9
      cases e9
      have HF9 := Lib.hid h9
      clear HO h9 HF
      go_wp2
      go_ret
      exact ⟨_, _, _, rfl, HF9.out, HB.out⟩
theorem radd_opp_getD {l m : List Rat} {k : Nat} (h : k < l.length) (h' : k < m.length) : (radd l (rscale (-1) m)).getD k 0 = l.getD k 0 - m.getD k 0 := by
  rw [radd_getD h (by rw [rscale_length]; exact h'), rscale_getD h']; grind
set_option maxRecDepth 4096 in
set_option maxHeartbeats 4000000 in
theorem row_sub_yes (a0 : Option Addr) (n0 c0 : Nat) (L0 : List Fx) (a1 : Option Addr) (n1 c1 : Nat) (L1 : List Fx) (w : World) (h0 : Fxs w a0 n0 c0 L0) (h1 : Fxs w a1 n1 c1 L1) (hn : n0 ≤ 300) (ht0 : thin 60 L0) (ht1 : thin 60 L1) (hs : Hid (n0 = n1)) : Calls Tryz.prog 28 #[.slice a0 n0 c0, .slice a1 n1 c1] w (LstRwV (radd (fqs L0) (rscale (-1) (fqs L1))) (.bool true) w) := by
  have HK0 := Lib.hid h0
  have HLl0 := Lib.hid h0.len
  have hbd0 := h0.bound
  have HTh0 := Lib.hid ht0
  clear h0 ht0
  have HK1 := Lib.hid h1
  have HLl1 := Lib.hid h1.len
  have hbd1 := h1.bound
  have HTh1 := Lib.hid ht1
  clear h1 ht1
  obtain rfl := hs.out
  clear hs
  have HTL : Hid ((radd (fqs L0) (rscale (-1) (fqs L1))).length = n0) := Lib.hid (by rw [radd_length _ _ (by rw [rscale_length, fqs_length, fqs_length, HLl0.out, HLl1.out]), fqs_length, HLl0.out])
  obtain ⟨T, hTe⟩ : ∃ T, radd (fqs L0) (rscale (-1) (fqs L1)) = T := ⟨_, rfl⟩
  have ET := Lib.hid hTe
  rw [hTe] at HTL
  try rw [hTe]
  clear hTe
  obtain ⟨i0, hi, hz0, hz1, hz2⟩ := info_parts infoFracR
  go_enter Tryz.func28, Tryz.ntmps28
  go_wp2_with (at_make; refine wpList_make_fracs _ rfl _ _ 28 rfl (w.heap.size) 41 i0 Tryz.underlying28 hi hz0 hz1 hz2 _ _ _ _ n0 rfl rfl (by omega) (by omega) (by omega) (by simp) ?_; intro wm hmade hgm hszm)
  have HO0 := Lib.hid (Half.start hmade)
  have HB0 : Hid (Below w.heap.size w wm) := Lib.hid ((Below.refl _ _).grown hgm (Nat.le_refl _) (fun k hk => by cases hk))
  clear hmade hgm
  try simp only [World.size_alloc] at hszm HO0
  go_loopw [18] (fun iv wr => ∃ k r : Nat, k + r = n0 ∧ iv = .int .i64 (k : Int) ∧ Hid (Half wr (w.heap.size) 41 (.slice (some ⟨w.heap.size, 0, none⟩) n0 n0) (T.take k) r) ∧ Hid (Below w.heap.size w wr) ∧ w.heap.size < wr.heap.size) (fun iv _ => n0 - (intOf iv).toNat)
  case atStart => exact ⟨0, n0, by omega, rfl, HO0, HB0, by omega⟩
  case round =>
    clear HO0 HB0
    obtain ⟨k, r, hk, rfl, HO, HB, hsz⟩ := hrel
    by_cases hlt : k < n0
    · have hkT : k < T.length := by rw [HTL.out]; exact hlt
      obtain ⟨r, rfl⟩ : ∃ r', r = r' + 1 := ⟨r - 1, by omega⟩
      have HT : Hid (T.take (k + 1) = T.take k ++ [T.getD k 0]) := Lib.hid (q_more hkT)
      have HTv : Hid (T.getD k 0 = (L0.getD k Fx.zero).q - (L1.getD k Fx.zero).q) := Lib.hid (by rw [← ET.out]; rw [radd_opp_getD (by rw [fqs_length, HLl0.out]; exact hlt) (by rw [fqs_length, HLl1.out]; exact hlt), fqs_getD (by rw [HLl0.out]; exact hlt), fqs_getD (by rw [HLl1.out]; exact hlt)])
      obtain ⟨bb0, off0, rfl, e00, e10, e20, hok0⟩ := HK0.out.at hlt
      have hth0 := HTh0.out _ (fx_mem (L := L0) (k := k) (by rw [HLl0.out]; exact hlt))
      generalize L0.getD k Fx.zero = xk0 at *
      obtain ⟨sk0, ak0, nk0, ck0, lak0, bk0, mk0, dk0, lbk0⟩ := xk0
      obtain ⟨hA0, hB0⟩ := hok0
      simp only at e00 e10 e20 hA0 hB0 hth0
      obtain ⟨hth0, htj0⟩ := hth0
      have HE0 : Hid (w.cell? ⟨bb0, off0 + k * 3, none⟩ = some (.bool sk0) ∧ w.cell? ⟨bb0, off0 + k * 3 + 1, none⟩ = some (.slice ak0 nk0 ck0) ∧ w.cell? ⟨bb0, off0 + k * 3 + 2, none⟩ = some (.slice bk0 mk0 dk0)) := Lib.hid ⟨e00, e10, e20⟩
      have AK0 := Lib.hid hA0
      have BK0 := Lib.hid hB0
      clear hA0 hB0 e00 e10 e20
      obtain ⟨bb1, off1, rfl, e01, e11, e21, hok1⟩ := HK1.out.at hlt
      have hth1 := HTh1.out _ (fx_mem (L := L1) (k := k) (by rw [HLl1.out]; exact hlt))
      generalize L1.getD k Fx.zero = xk1 at *
      obtain ⟨sk1, ak1, nk1, ck1, lak1, bk1, mk1, dk1, lbk1⟩ := xk1
      obtain ⟨hA1, hB1⟩ := hok1
      simp only at e01 e11 e21 hA1 hB1 hth1
      obtain ⟨hth1, htj1⟩ := hth1
      have HE1 : Hid (w.cell? ⟨bb1, off1 + k * 3, none⟩ = some (.bool sk1) ∧ w.cell? ⟨bb1, off1 + k * 3 + 1, none⟩ = some (.slice ak1 nk1 ck1) ∧ w.cell? ⟨bb1, off1 + k * 3 + 2, none⟩ = some (.slice bk1 mk1 dk1)) := Lib.hid ⟨e01, e11, e21⟩
      have AK1 := Lib.hid hA1
      have BK1 := Lib.hid hB1
      clear hA1 hB1 e01 e11 e21
      generalize T.getD k 0 = tk at *
      replace HTv : Hid (tk = qval sk0 (val lak0) (val lbk0) - qval sk1 (val lak1) (val lbk1)) := HTv
      have hki : (k : Int) < (n0 : Int) := by omega
      have hk0 : (0 : Int) ≤ (k : Int) := by omega
      obtain ⟨e00, e10, e20⟩ := three_on HE0.out HB.out
      obtain ⟨e01, e11, e21⟩ := three_on HE1.out HB.out
      go_wp2
      have b0 : Below wr.heap.size wr wr.drew := (Below.refl _ _).drew
      replace HB := Lib.hid (below_then HB.out b0)
      replace HO := Lib.hid (HO.out.later b0)
      replace hsz := Nat.lt_of_lt_of_le hsz b0.size
      clear e00 e10 e20 e01 e11 e21 b0
      obtain ⟨e00, e10, e20⟩ := three_on HE0.out HB.out
      obtain ⟨e01, e11, e21⟩ := three_on HE1.out HB.out
      first | go_region_with (first
        | (go_at_call 64; refine (fracSaid.sub _ _ (qval sk0 (val lak0) (val lbk0)) (qval sk1 (val lak1) (val lbk1)) _ (Fr.of (AK0.out.later HB.out) (BK0.out.later HB.out) (by omega) (by omega) rfl) (Fr.of (AK1.out.later HB.out) (BK1.out.later HB.out) (by omega) (by omega) rfl)).mono ?_; rintro e w4 ⟨a4, n4, c4, b4, m4, d4, rfl, h4, g4, bw⟩; rw [← HTv.out] at h4 g4 ⊢; clear e00 e10 e20 e01 e11 e21; replace HB := Lib.hid (below_then HB.out bw); replace HO := Lib.hid (HO.out.later bw); have hsz4 : w.heap.size < w4.heap.size := Nat.lt_of_lt_of_le hsz bw.size; have HA4 := Lib.hid h4; have HB4 := Lib.hid g4; clear bw hsz h4 g4; unfold frV; obtain ⟨⟨p0, p1, p2⟩, f0, f1, f2⟩ := HO.out.cell (k := k) (by rw [take_len (Nat.le_of_lt hkT)]))) | fail
      all_goals (
        obtain ⟨hst, hgr⟩ := HO.out.stored (k := k) (by rw [take_len (Nat.le_of_lt hkT)]) tk a4 n4 c4 b4 m4 d4 HA4.out HB4.out
        rw [← HT.out] at hst
        have HS := Lib.hid hst
        have HB5 := Lib.hid (HB.out.grown hgr HB.out.size (fun g' hg' => by simp at hg'; omega))
        have hsz5 := Nat.lt_of_lt_of_le hsz4 hgr.size
        clear hst hgr HA4 HB4 HO HB HT HTv p0 p1 p2 f0 f1 f2
        go_wp2
        go_roundw
        case rel => exact ⟨k + 1, r, by omega, by go_num, HS, HB5, hsz5⟩
        case measure => simp [intOf]; omega)
    · obtain rfl : k = n0 := by omega
      have HF := Lib.hid (HO.out.whole HTL.out (by omega))
      obtain ⟨a9, c9, e9, h9⟩ := HF.out.out
      rw [HTL.out] at e9 h9
      cases e9
      have HF9 := Lib.hid h9
      clear HO h9 HF
      go_wp2
      go_ret2
      exact ⟨_, _, _, rfl, HF9.out, HB.out⟩
set_option maxRecDepth 4096 in
set_option maxHeartbeats 4000000 in
theorem row_sub_no (a0 : Option Addr) (n0 c0 : Nat) (a1 : Option Addr) (n1 c1 : Nat) (w : World) (hs : Hid (n0 ≠ n1)) : Calls Tryz.prog 28 #[.slice a0 n0 c0, .slice a1 n1 c1] w (LstRwV [] (.bool false) w) := by
  have hq : ((n0 : Int) == (n1 : Int)) = false := by
    have := hs.out
    simp; omega
  clear hs
  go_enter Tryz.func28, Tryz.ntmps28
  go_wp2
  go_ret2
  exact ⟨none, 0, 0, rfl, Rw.nil _, Below.refl _ _⟩
end Go.Proofs.YtjeigdlhjghinaaGreatDoor
