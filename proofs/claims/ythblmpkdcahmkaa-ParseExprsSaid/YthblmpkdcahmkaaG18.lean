/-
  Several texts of this claim as one, group 18.
-/
import Derived.Test.YthblmpkdcahmkaaG17
import Derived.Test.YthblmpkdcahmkaaG6
import Derived.Test.YthblmpkdcahmkaaG7
import Derived.WalkKit
import Derived.Lib.SliceRun
import Derived.OwnWalk
import Derived.Test.YthblmpkdcahmkaaG14
import Derived.Test.YthblmpkdcahmkaaG10
import Derived.Test.YthblmpkdcahmkaaG3
/-
  Package parse: Parse.
-/
namespace Go.Proofs.Ythblmpkdcahmkaa
open Go.WideShapes Go.RowKit Go.Deep

theorem only_ints (w : World) {k : Nat} {a b c d : Int} {t : TypeId} (h : w.heap[k]? = some (.cells #[.int .i64 a, .int .i64 b, .int .i64 c, .int .i64 d] t (0, 0))) : Only isNode w (.slice (some ⟨k, 0, none⟩) 1 1) := by
  refine only_block h fun u hu => ?_
  simp at hu
  rcases hu with rfl | rfl | rfl | rfl <;> exact .inl ⟨_, rfl⟩
theorem only_pair (w : World) {k : Nat} {a b : Option Addr} {n c m d : Nat} {t : TypeId} (h : w.heap[k]? = some (.cells #[.slice a n c, .slice b m d] t (0, 0))) : Only isNode w (.slice (some ⟨k, 0, none⟩) 1 1) := by
  refine only_block h fun u hu => ?_
  simp at hu
  rcases hu with rfl | rfl <;> exact .inr ⟨_, _, _, rfl⟩
theorem farL_low {g k : Nat} {X : List Lt} (h : FarL g X) (hk : k ≤ g) : FarL k X := fun x hx b off e => by have := h x hx b off e; omega
theorem farS_low {g k : Nat} {X : List Sn} (h : FarS g X) (hk : k ≤ g) : FarS k X := fun x hx b off e => by have := h x hx b off e; omega
theorem lexFault_pos {z : Int} (h : 0 ≤ z) : lexFault z = faultV 1 0 0 z := if_neg (by omega)
theorem fieldF_bad {z : Int} (hz : 0 ≤ z) {r : List (List UInt8 × List Np) × List (List Np) × Int} (hr : r = ([], [], z)) {w w' : World} (hb : Below w.heap.size w w') : FieldF r w (.returned (.tuple #[.agg #[.slice none 0 0, .slice none 0 0], faultV 1 0 0 z])) w' := by
  subst hr
  refine ⟨none, 0, [], none, 0, [], ?_, Kin.All.nil _, Kin.All.nil _, rfl, rfl, fun x hx => (by cases hx), fun x hx => (by cases hx), hb⟩
  dsimp only
  rw [lexFault_pos hz]
  rfl
set_option maxRecDepth 4096 in
set_option maxHeartbeats 16000000 in
theorem parse_parse (l : List UInt8) (w : World) (hl : l.length ≤ 5000) : Calls Try.prog 7 #[.string (bs l)] w (FieldF (pF l) w) := by
  have hmf : ∀ (fn : Fn) (first cap : Array Value) (w : World), (Instr.makeFunc fn first cap).run Try.prog w = .ok (.func fn first cap) w := fun _ _ _ _ => rfl
  have HRd := Lib.hid (parse_readerOf l (by omega))
  have hW := lexScan_wk l
  have hlen := lexScan_len l
  obtain ⟨R, hR⟩ : ∃ R, pF l = R := ⟨_, rfl⟩
  rw [hR]
  unfold pF at hR
  generalize lexScan l = sc at *
  obtain ⟨W, z⟩ := sc
  dsimp only at hR hW hlen
  have HRr := Lib.hid hR
  have HW := Lib.hid hW
  have ba := below_alloc w (.cells #[.slice none 0 0, .slice none 0 0] 26)
  have bb := below_alloc (w.alloc (.cells #[.slice none 0 0, .slice none 0 0] 26)) (.cells #[.int .i64 0, .int .i64 0, .int .i64 0, .int .i64 0] 28)
  have hza : (w.alloc (.cells #[.slice none 0 0, .slice none 0 0] 26)).heap.size = w.heap.size + 1 := by simp
  have hzb : ((w.alloc (.cells #[.slice none 0 0, .slice none 0 0] 26)).alloc (.cells #[.int .i64 0, .int .i64 0, .int .i64 0, .int .i64 0] 28)).heap.size = w.heap.size + 2 := by simp
  have A0 := Lib.hid (blk_later (blk_new w #[.slice none 0 0, .slice none 0 0] 26) bb)
  have A1 : Hid (((w.alloc (.cells #[.slice none 0 0, .slice none 0 0] 26)).alloc (.cells #[.int .i64 0, .int .i64 0, .int .i64 0, .int .i64 0] 28)).heap[w.heap.size + 1]? = some (.cells #[.int .i64 0, .int .i64 0, .int .i64 0, .int .i64 0] 28 (0, 0))) := Lib.hid (by
    have h9 := blk_new (w.alloc (.cells #[.slice none 0 0, .slice none 0 0] 26)) #[.int .i64 0, .int .i64 0, .int .i64 0, .int .i64 0] 28
    rw [hza] at h9
    exact h9)
  have BA := Lib.hid (below_then ba bb)
  have HZB := Lib.hid hzb
  clear hR hW ba bb hza hzb
  go_enter_defers Try.func7, Try.ntmps7
  go_wp2_with fail
  refine (HRd.out _).mono ?_
  rintro e w1 (⟨hz, ⟨g, a, n, c, rfl, hg, r1⟩, b1⟩ | ⟨hz, rfl, b1⟩)
  rotate_left
  · have D0 := blk_later A0.out b1
    have D1 := blk_later A1.out b1
    have D2 := below_then BA.out b1
    exact parse_door_bad rfl rfl D0 D1 fun w' gz => fieldF_bad hz (by rw [← HRr.out]; unfold pParse; rw [if_pos hz]) (grown_below D2 gz (by omega))
  rw [HZB.out] at hg
  have D0 := Lib.hid (blk_later A0.out b1)
  have D1 := Lib.hid (blk_later A1.out b1)
  have D2 := Lib.hid (below_then BA.out b1)
  have HP := Lib.hid (pParse_is (W := W) (E := l.length) hz _ rfl)
  have HLe := Lib.hid (parse_lets W HW.out hlen l.length g a n c _ _ w1 r1 rfl)
  have hgl := r1.lt
  rw [HRr.out] at HP
  generalize pLets W l.length W.length [] [] ⟨0, 0, z⟩ = k at *
  obtain ⟨K, M, s1, fl⟩ := k
  (try dsimp only at HP)
  clear r1 b1 HRd A0 A1 BA HZB
  go_wp2_with fail
  refine HLe.out.mono ?_
  rintro e w2 (⟨hb, hfl, ⟨a2, n2, c2, nv, cv2, v, X, rfl, r2, hN, hL, hX, hTh, hFs, hd, hml⟩, g2⟩ | ⟨hb, rfl, g2⟩)
  rotate_left
  · have E0 := blk_stays D0.out g2 (fun j hj => by have := Option.some.inj hj; omega)
    have E1 := blk_stays D1.out g2 (fun j hj => by have := Option.some.inj hj; omega)
    have E2 := grown_below D2.out g2 (by omega)
    exact parse_door_bad rfl rfl E0 E1 fun w' gz => fieldF_bad hb (HP.out.1 hb) (grown_below E2 gz (by omega))
  have HP2 := Lib.hid (HP.out.2 hfl _ rfl)
  obtain ⟨an, cn, hnv, hnA⟩ := hN.slice
  obtain ⟨al, cl, hvl, -⟩ := hL.slice
  subst hnv
  have hnf := mine_far hN
  have hwi := r2.within
  (try dsimp only at hwi)
  (try dsimp only at hml)
  have HOu := Lib.hid (parse_outs W HW.out (by omega) l.length g a2 n2 c2 an M.length cn M cv2 s1 w2 r2 hnA.1 (fun b off e _ => by have := hnf b off e; omega) (by omega) hd)
  have E0 := Lib.hid (blk_stays D0.out g2 (fun j hj => by have := Option.some.inj hj; omega))
  have E1 := Lib.hid (blk_stays D1.out g2 (fun j hj => by have := Option.some.inj hj; omega))
  have E2 := Lib.hid (grown_below D2.out g2 (by omega))
  have HL := Lib.hid hL
  have HX : Hid (X.map ltP = K) := Lib.hid hX
  have HTh := Lib.hid hTh
  have HFs := Lib.hid hFs
  have O2 := Lib.hid r2.only
  have hs2 := g2.size
  subst hvl
  generalize pOutsAll W l.length M s1 = o at *
  obtain ⟨ol, s2⟩ := o
  (try dsimp only at HP2)
  (try dsimp only at HOu)
  clear hb hfl r2 hN hL hX hTh hFs hd hnA hnf g2 HP HLe D0 D1 D2
  go_wp2_with fail
  refine HOu.out.mono ?_
  rintro e w3 (⟨hb, ⟨a3, n3, c3, cv3, v3, Y, rfl, r3, hO, hY, hTo, hFo⟩, g3⟩ | ⟨hb, rfl, g3⟩)
  rotate_left
  · have D0 := blk_stays E0.out g3 (fun j hj => by have := Option.some.inj hj; omega)
    have D1 := blk_stays E1.out g3 (fun j hj => by have := Option.some.inj hj; omega)
    have D2 := grown_below E2.out g3 (by omega)
    have h9 := HP2.out.1
    rw [pOver_bad hb] at h9
    exact parse_door_bad rfl rfl D0 D1 fun w' gz => fieldF_bad hb (h9 hb) (grown_below D2 gz (by omega))
  obtain ⟨ao, co, hvo, -⟩ := hO.slice
  subst hvo
  have HEn := Lib.hid (parse_end g a3 n3 c3 W l.length _ cv3 s2 w3 r3)
  have D0 := Lib.hid (blk_stays E0.out g3 (fun j hj => by have := Option.some.inj hj; omega))
  have D1 := Lib.hid (blk_stays E1.out g3 (fun j hj => by have := Option.some.inj hj; omega))
  have D2 := Lib.hid (grown_below E2.out g3 (by omega))
  have HL3 := Lib.hid (lets_past_only HL.out O2.out g3 hgl HFs.out)
  have HO3 := Lib.hid hO
  have HY : Hid (Y.map Sn.sem = ol) := Lib.hid hY
  have HTo := Lib.hid hTo
  have HFo := Lib.hid hFo
  have O3 := Lib.hid r3.only
  have hs3 := g3.size
  have hgl2 : g < w2.heap.size := by omega
  generalize pOver W l.length s2 = s3 at *
  (try dsimp only at HP2)
  clear hb r3 hO hY hTo hFo g3 HL O2 E0 E1 E2 HOu
  go_wp2_with fail
  refine HEn.out.mono ?_
  rintro e w4 (⟨hb, rfl, -, g4⟩ | ⟨hb, rfl, g4⟩)
  rotate_left
  · have E0 := blk_stays D0.out g4 (fun j hj => by have := Option.some.inj hj; omega)
    have E1 := blk_stays D1.out g4 (fun j hj => by have := Option.some.inj hj; omega)
    have E2 := grown_below D2.out g4 (by omega)
    exact parse_door_bad rfl rfl E0 E1 fun w' gz => fieldF_bad hb (HP2.out.1 hb) (grown_below E2 gz (by omega))
  have HRe := Lib.hid (HP2.out.2 hb)
  have E0 := Lib.hid (blk_stays D0.out g4 (fun j hj => by have := Option.some.inj hj; omega))
  have E1 := Lib.hid (blk_stays D1.out g4 (fun j hj => by have := Option.some.inj hj; omega))
  have E2 := Lib.hid (grown_below D2.out g4 (by omega))
  have HL4 := Lib.hid (lets_past_only HL3.out O3.out g4 hgl HFs.out)
  have HO4 := Lib.hid (outs_past_only HO3.out O3.out g4 hgl2 HFo.out)
  have x0 := blk_cell E0.out 0
  have x1 := blk_cell E0.out 1
  have y0 := blk_free E0.out 0
  have y1 := blk_free E0.out 1
  have c0 := blk_cell E1.out 0
  have c1 := blk_cell E1.out 1
  have c2 := blk_cell E1.out 2
  have c3 := blk_cell E1.out 3
  have e0 := blk_free E1.out 0
  have e1 := blk_free E1.out 1
  have e2 := blk_free E1.out 2
  have e3 := blk_free E1.out 3
  simp only [List.getElem?_toArray, List.getElem?_cons_zero, List.getElem?_cons_succ] at c0 c1 c2 c3 x0 x1
  clear g4 hb HL3 HO3 O3 D0 D1 D2 HEn HP2
  have gA := grown_then (grown_cell w4 w.heap.size 0 (.slice al X.length cl)) (grown_cell _ w.heap.size 1 (.slice ao Y.length co))
  have F0 := blk_set2 E0.out (.slice al X.length cl) (.slice ao Y.length co)
  have F1 := blk_apart (blk_apart E1.out (show w.heap.size + 1 ≠ w.heap.size by omega) 0 (.slice al X.length cl)) (show w.heap.size + 1 ≠ w.heap.size by omega) 1 (.slice ao Y.length co)
  have LA := lets_past_only HL4.out (only_pair _ E0.out) gA (by omega) (farL_low HFs.out (by omega))
  have YA := outs_past_only HO4.out (only_pair _ E0.out) gA (by omega) (farS_low HFo.out (by omega))
  have BA := grown_below E2.out gA (Nat.le_refl _)
  have hsA := gA.size
  generalize hwA : ((w4.setCell ⟨w.heap.size, 0, none⟩ (.slice al X.length cl)).setCell ⟨w.heap.size, 1, none⟩ (.slice ao Y.length co)) = wA at *
  have gB := grown_then (grown_then (grown_then (grown_cell wA (w.heap.size + 1) 0 (.int .i64 0)) (grown_cell _ (w.heap.size + 1) 1 (.int .i64 0))) (grown_cell _ (w.heap.size + 1) 2 (.int .i64 0))) (grown_cell _ (w.heap.size + 1) 3 (.int .i64 0))
  have G0 := Lib.hid (blk_stays F0 gB (fun j hj => by have := Option.some.inj hj; omega))
  have G1 := Lib.hid (blk_set4 F1 (.int .i64 0) (.int .i64 0) (.int .i64 0) (.int .i64 0))
  have LB := Lib.hid (lets_past_only LA (only_ints _ F1) gB (by omega) (farL_low HFs.out (by omega)))
  have YB := Lib.hid (outs_past_only YA (only_ints _ F1) gB (by omega) (farS_low HFo.out (by omega)))
  have BB := Lib.hid (grown_below BA gB (by omega))
  subst hwA
  clear gA F0 F1 LA YA BA gB hsA HL4 HO4 E0 E1 E2
  go_wp2
  refine parse_door_done (u := .slice al X.length cl) (v := .slice ao Y.length co) rfl rfl G0.out G1.out fun w' gz => ?_
  have LC := lets_past_only LB.out (only_ints _ G1.out) gz (by omega) (farL_low HFs.out (by omega))
  have YC := outs_past_only YB.out (only_ints _ G1.out) gz (by omega) (farS_low HFo.out (by omega))
  obtain ⟨al', cl', hva, la⟩ := LC.slice
  obtain ⟨ao', co', hvo, lo⟩ := YC.slice
  simp only [Value.slice.injEq, true_and] at hva hvo
  obtain ⟨rfl, rfl⟩ := hva
  obtain ⟨rfl, rfl⟩ := hvo
  have hre := HRe.out
  (try dsimp only at hre)
  rw [hre]
  exact ⟨al, cl, X, ao, co, Y, rfl, la, lo, HX.out, HY.out, HTh.out, HTo.out, grown_below BB.out gz (by omega)⟩
end Go.Proofs.Ythblmpkdcahmkaa

/-
  Package parse: Expr; what package parse's functions owe, proved.
-/
namespace Go.Proofs.Ythblmpkdcahmkaa
open Go.WideShapes Go.RowKit Go.Deep

theorem codeF_bad {z : Int} (hz : 0 ≤ z) {r : List Np × Int} (hr : r = ([], z)) {w w' : World} (hb : Below w.heap.size w w') : CodeF r w (.returned (.tuple #[.slice none 0 0, faultV 1 0 0 z])) w' := by
  subst hr
  refine ⟨none, 0, [], ?_, Kin.All.nil _, rfl, fun x hx => (by cases hx), Nat.zero_le _, hb⟩
  dsimp only
  rw [lexFault_pos hz]
  rfl
theorem pCode_is {W : List Lw} {E : Nat} {N : List (List UInt8)} {z : Int} (r : List Np × Ps) (hr : (pAll W E N 41).2 ⟨0, 0, z⟩ = r) : (0 ≤ (pOver W E r.2).bad → pCode W E N z = ([], (pOver W E r.2).bad)) ∧ ((pOver W E r.2).bad < 0 → pCode W E N z = (r.1, -1)) := by
  unfold pCode
  rw [hr]
  exact ⟨fun h => if_pos h, fun h => if_neg (fun h9 => by have : 0 ≤ (pOver W E r.2).bad := h9; omega)⟩
theorem pCode_no {W : List Lw} {E : Nat} {N : List (List UInt8)} {z : Int} (hz : 0 ≤ z) : pCode W E N z = ([], z) := by
  have h1 := (pAll_fine W E N 41).2.stays ⟨0, 0, z⟩ hz
  have h2 := (pCode_is (W := W) (E := E) (N := N) (z := z) _ rfl).1
  dsimp only at h1
  rw [pOver_bad (by omega), h1] at h2
  exact h2 hz
theorem expr_door_bad {R : Ending → World → Prop} {tmps : Array Value} {k : Nat} {z : Int} {u : Value} {wz : World} (ht2 : tmps.getD 4 undef = u) (ht3 : tmps.getD 5 undef = .pointer (some ⟨k, 0, none⟩))
    (D1 : wz.heap[k]? = some (.cells #[.int .i64 0, .int .i64 0, .int .i64 0, .int .i64 0] 28 (0, 0)))
    (hR : ∀ w', wz.grownBy w' (some k) → R (.returned (.tuple #[u, faultV 1 0 0 z])) w') :
    Leaves Try.prog Try.f12 tmps R [{ target := .fn (.func 31) #[.pointer (some ⟨k, 0, none⟩)], args := #[] }] (.panicking [{ v := .iface 28 (faultV 1 0 0 z), recovered := false }]) wz := by
  refine leaves_cons (f := 31) (args := #[.pointer (some ⟨k, 0, none⟩)]) (by simp) (by simp [go_sem]) ?_
  refine (expr_shut_bad k z 0 0 0 0 [] wz D1).mono ?_
  rintro e u' w'' ⟨rfl, rfl, gz, D9⟩
  change Leaves _ _ _ _ [] .returning _
  subst ht2
  exact ⟨_, results_tmp_cell Try.results12 _ _ k 28 #[.int .i64 1, .int .i64 0, .int .i64 0, .int .i64 z] (0, 0) _ ht3 D9 Try.underlying28 rfl (by kernel_rfl), hR _ gz⟩
theorem expr_door_done {R : Ending → World → Prop} {tmps : Array Value} {k : Nat} {u : Value} {wz : World} (ht2 : tmps.getD 4 undef = u) (ht3 : tmps.getD 5 undef = .pointer (some ⟨k, 0, none⟩))
    (D1 : wz.heap[k]? = some (.cells #[.int .i64 0, .int .i64 0, .int .i64 0, .int .i64 0] 28 (0, 0)))
    (hR : ∀ w', wz.grownBy w' (some k) → R (.returned (.tuple #[u, faultV 0 0 0 0])) w') :
    Leaves Try.prog Try.f12 tmps R [{ target := .fn (.func 31) #[.pointer (some ⟨k, 0, none⟩)], args := #[] }] .returning wz := by
  refine leaves_cons (f := 31) (args := #[.pointer (some ⟨k, 0, none⟩)]) (by simp) (by simp [go_sem]) ?_
  refine (expr_shut_idle k 0 0 0 0 wz D1).mono ?_
  rintro e u' w'' ⟨rfl, rfl, gz, D9⟩
  change Leaves _ _ _ _ [] .returning _
  subst ht2
  exact ⟨_, results_tmp_cell Try.results12 _ _ k 28 #[.int .i64 0, .int .i64 0, .int .i64 0, .int .i64 0] (0, 0) _ ht3 D9 Try.underlying28 rfl (by kernel_rfl), hR _ gz⟩
set_option maxRecDepth 4096 in
set_option maxHeartbeats 16000000 in
theorem parse_exprs (l : List UInt8) (an : Option Addr) (nn cn : Nat) (N : List (List UInt8)) (w : World) (hl : l.length ≤ 5000) (hN : stC.Has w an nn cn N) (hnn : nn ≤ 100) : Calls Try.prog 12 #[.string (bs l), .slice an nn cn] w (CodeF (pE N l) w) := by
  have hmf : ∀ (fn : Fn) (first cap : Array Value) (w : World), (Instr.makeFunc fn first cap).run Try.prog w = .ok (.func fn first cap) w := fun _ _ _ _ => rfl
  have HRd := Lib.hid (parse_readerOf l (by omega))
  have hW := lexScan_wk l
  have hlen := lexScan_len l
  obtain ⟨R, hR⟩ : ∃ R, pE N l = R := ⟨_, rfl⟩
  rw [hR]
  unfold pE at hR
  generalize lexScan l = sc at *
  obtain ⟨W, z⟩ := sc
  dsimp only at hR hW hlen
  have HRr := Lib.hid hR
  have HW := Lib.hid hW
  have HN := Lib.hid hN
  have A1 := Lib.hid (blk_new w #[.int .i64 0, .int .i64 0, .int .i64 0, .int .i64 0] 28)
  have BA := Lib.hid (below_alloc w (.cells #[.int .i64 0, .int .i64 0, .int .i64 0, .int .i64 0] 28))
  have hzb : (w.alloc (.cells #[.int .i64 0, .int .i64 0, .int .i64 0, .int .i64 0] 28)).heap.size = w.heap.size + 1 := by simp
  have HZB := Lib.hid hzb
  have hbl : ∀ bb off, an = some ⟨bb, off, none⟩ → 0 < nn → bb < w.heap.size := fun bb off e hn => by
    obtain ⟨b2, off2, e2, hc⟩ := hN.at hn
    rw [e] at e2
    obtain ⟨rfl, rfl, _⟩ := Addr.mk.inj (Option.some.inj e2)
    have hl := hN.len
    have h9 := hc 0 (N[0]'(by omega)) (List.getElem?_eq_getElem _) 0 _ rfl
    rcases Nat.lt_or_ge bb w.heap.size with h8 | h8
    · exact h8
    · rw [World.cell?, Array.getElem?_eq_none h8] at h9; cases h9
  have HBL := Lib.hid hbl
  clear hR hW hzb hN hbl
  go_enter_defers Try.func12, Try.ntmps12
  go_wp2_with fail
  refine (HRd.out _).mono ?_
  rintro e w1 (⟨hz, ⟨g, a, n, c, rfl, hg, r1⟩, b1⟩ | ⟨hz, rfl, b1⟩)
  rotate_left
  · have D1 := blk_later A1.out b1
    have D2 := below_then BA.out b1
    exact expr_door_bad rfl rfl D1 fun w' gz => codeF_bad hz (by rw [← HRr.out, pCode_no hz]) (grown_below D2 gz (by omega))
  rw [HZB.out] at hg
  have q3 := r1.cells.2.2.2.1
  have qf := r1.free 3
  obtain ⟨r2, g2⟩ := r1.set3 (nv' := .slice an nn cn) ⟨_, _, _, rfl⟩
  have D1 := Lib.hid (blk_stays (blk_later A1.out b1) g2 (fun j hj => by have := Option.some.inj hj; omega))
  have D2 := Lib.hid (grown_below (below_then BA.out b1) g2 (by omega))
  have hN2 : stC.Has (w1.setCell ⟨g, 3, none⟩ (.slice an nn cn)) an nn cn N := RD.names_stay (b := w.heap.size) (g := g) HN.out (fun bb off e hn => by have := HBL.out bb off e hn; exact ⟨this, by omega⟩) (Fr.below D2.out (Nat.le_refl _))
  have HWh := Lib.hid (parse_whole W HW.out (by omega) l.length g a n c an nn cn N _ _ _ r2 hN2 (fun b off e hn => by have := HBL.out b off e hn; omega) (by omega) rfl)
  have HP := Lib.hid (pCode_is (W := W) (E := l.length) (N := N) (z := z) _ rfl)
  rw [HRr.out] at HP
  generalize (pAll W l.length N 41).2 ⟨0, 0, z⟩ = k at *
  obtain ⟨code, s2⟩ := k
  (try dsimp only at HP)
  have HR2 := Lib.hid r2.lt
  clear r1 b1 r2 g2 hN2 HRd A1 BA HZB
  go_wp2_with fail
  refine HWh.out.mono ?_
  rintro e w3 (⟨hb, ⟨a3, n3, c3, v3, L, rfl, r3, m3, sm, th, fw⟩, g3⟩ | ⟨hb, rfl, g3⟩)
  rotate_left
  · have E1 := blk_stays D1.out g3 (fun j hj => by have := Option.some.inj hj; omega)
    have E2 := grown_below D2.out g3 (by omega)
    have h9 := HP.out.1
    rw [pOver_bad hb] at h9
    exact expr_door_bad rfl rfl E1 fun w' gz => codeF_bad hb (h9 hb) (grown_below E2 gz (by omega))
  obtain ⟨av, cv, hv, hnd⟩ := m3.slice
  subst hv
  have hfar := mine_far m3
  have HEn := Lib.hid (parse_end g a3 n3 c3 W l.length _ _ s2 w3 r3)
  have E1 := Lib.hid (blk_stays D1.out g3 (fun j hj => by have := Option.some.inj hj; omega))
  have E2 := Lib.hid (grown_below D2.out g3 (by omega))
  have ND := Lib.hid hnd
  have SM : Hid (L.map Nd.sem = code) := Lib.hid sm
  have TH := Lib.hid th
  have O3 := Lib.hid r3.only
  have hwi := r3.within
  have hs3 := g3.size
  have hgl : g < w3.heap.size := r3.lt
  (try dsimp only at hwi)
  (try dsimp only at fw)
  generalize pOver W l.length s2 = s3 at *
  (try dsimp only at HP)
  have HFar : Hid (∀ b off, av = some ⟨b, off, none⟩ → g < b) := Lib.hid (fun b off e => by have := hfar b off e; have := HR2.out; omega)
  clear hb r3 m3 sm th g3 hnd hfar D1 D2 HWh
  go_wp2_with fail
  refine HEn.out.mono ?_
  rintro e w4 (⟨hb, rfl, -, g4⟩ | ⟨hb, rfl, g4⟩)
  rotate_left
  · have D1 := blk_stays E1.out g4 (fun j hj => by have := Option.some.inj hj; omega)
    have D2 := grown_below E2.out g4 (by omega)
    exact expr_door_bad rfl rfl D1 fun w' gz => codeF_bad hb (HP.out.1 hb) (grown_below D2 gz (by omega))
  have HRe := Lib.hid (HP.out.2 hb)
  have D1 := Lib.hid (blk_stays E1.out g4 (fun j hj => by have := Option.some.inj hj; omega))
  have D2 := Lib.hid (grown_below E2.out g4 (by omega))
  have ND4 := Lib.hid (nds_past_only ND.out O3.out g4 HFar.out)
  have c0 := blk_cell D1.out 0
  have c1 := blk_cell D1.out 1
  have c2 := blk_cell D1.out 2
  have c3 := blk_cell D1.out 3
  have e0 := blk_free D1.out 0
  have e1 := blk_free D1.out 1
  have e2 := blk_free D1.out 2
  have e3 := blk_free D1.out 3
  simp only [List.getElem?_toArray, List.getElem?_cons_zero, List.getElem?_cons_succ] at c0 c1 c2 c3
  have gB := grown_then (grown_then (grown_then (grown_cell w4 w.heap.size 0 (.int .i64 0)) (grown_cell _ w.heap.size 1 (.int .i64 0))) (grown_cell _ w.heap.size 2 (.int .i64 0))) (grown_cell _ w.heap.size 3 (.int .i64 0))
  have G1 := Lib.hid (blk_set4 D1.out (.int .i64 0) (.int .i64 0) (.int .i64 0) (.int .i64 0))
  have NB := Lib.hid (nds_past_only ND4.out (only_ints _ D1.out) gB (fun b off e => by have := HFar.out b off e; omega))
  have BB := Lib.hid (grown_below D2.out gB (Nat.le_refl _))
  clear gB g4 hb ND ND4 O3 D1 D2 E1 E2 HEn HP
  go_wp2
  refine expr_door_done (u := .slice av L.length cv) rfl rfl G1.out fun w' gz => ?_
  have NC := nds_past_only NB.out (only_ints _ G1.out) gz (fun b off e => by have := HFar.out b off e; omega)
  have hre := HRe.out
  (try dsimp only at hre)
  rw [hre]
  exact ⟨av, cv, L, rfl, NC, SM.out, TH.out, by omega, grown_below BB.out gz (by omega)⟩
theorem parseSaid : ParseSaid where
  parse := fun l w hl => parse_parse l w hl
  expr := fun l a n c N w hl hN hn => parse_exprs l a n c N w hl hN hn
end Go.Proofs.Ythblmpkdcahmkaa

/-
  Package tree: Depth.
-/
namespace Go.Proofs.Ythblmpkdcahmkaa
open Go.WideShapes Go.RowKit Go.Deep

namespace Ex
variable {α : Type}
theorem flats_snoc (s : List (Ex α)) (t : Ex α) : flats (s ++ [t]) = flats s ++ t.flat := by simp [flats]
theorem flats_deep (s : List (Ex α)) : ∀ t ∈ s, t.depth ≤ (flats s).length := by
  induction s with
  | nil => intro t ht; cases ht
  | cons u r ih =>
    intro t ht
    have e : (flats (u :: r)).length = u.flat.length + (flats r).length := by simp [flats]
    rw [e]
    rcases List.mem_cons.1 ht with rfl | h9
    · have := t.depth_le; omega
    · have := ih t h9; omega
theorem flats_size (s : List (Ex α)) : s.length ≤ (flats s).length := by
  induction s with
  | nil => exact Nat.zero_le _
  | cons u r ih =>
    have e : (flats (u :: r)).length = u.flat.length + (flats r).length := by simp [flats]
    have := u.flat_pos
    rw [e, List.length_cons]; omega
/-- One node more: what it is laid upon. -/
theorem push (f : α → Int) (x : α) (s : List (Ex α)) (hs : ∀ t ∈ s, t.ok f) (r : Nat) (hr : tAr (f x) = (r : Int)) (hl : r ≤ s.length) :
    ∃ v : Ex α, v.ok f ∧ flats (s.take (s.length - r) ++ [v]) = flats s ++ [x] ∧ v.depth = ((s.map depth).drop (s.length - r)).foldl max 0 + 1 := by
  have hrg := tAr_range (f x)
  match r, hr, hl with
  | 0, hr, _ => exact ⟨leaf x, hr, by simp [flats, flat], by rw [List.drop_of_length_le (by simp)]; rfl⟩
  | 1, hr, hl =>
    rcases List.eq_nil_or_concat s with rfl | ⟨s', t', rfl⟩
    · simp at hl
    · rw [List.concat_eq_append] at hs ⊢
      refine ⟨one t' x, ⟨hs t' (by simp), hr⟩, by simp [flats, flat], ?_⟩
      simp [depth]
  | 2, hr, hl =>
    rcases List.eq_nil_or_concat s with rfl | ⟨s', t', rfl⟩
    · simp at hl
    · rw [List.concat_eq_append] at hs hl ⊢
      rcases List.eq_nil_or_concat s' with rfl | ⟨s'', u', rfl⟩
      · simp at hl
      · rw [List.concat_eq_append] at hs ⊢
        refine ⟨two u' t' x, ⟨hs u' (by simp), hs t' (by simp), hr⟩, by simp [flats, flat], ?_⟩
        simp [depth]
  | r + 3, hr, _ => omega
theorem only_one (f : α → Int) {t : Ex α} (ht : t.ok f) {s : List (Ex α)} (hs : ∀ u ∈ s, u.ok f) (hl : s.length = 1) (hf : flats s = t.flat) : s.map depth = [t.depth] := by
  match s, hl with
  | [u], _ =>
    have e : u.flat = t.flat := by simpa [flats] using hf
    rw [unique0 f (hs u (by simp)) ht e]; rfl
end Ex
theorem foldl_max_le (l : List Nat) (a N : Nat) (ha : a ≤ N) (h : ∀ x ∈ l, x ≤ N) : l.foldl max a ≤ N := by
  induction l generalizing a with
  | nil => exact ha
  | cons y r ih => exact ih _ (Nat.max_le.2 ⟨ha, h y (by simp)⟩) fun x hx => h x (by simp [hx])
/-- Rows of numbers of the machine's. -/
def itC : Cls Nat where
  cells := fun d => [.int .i64 (d : Int)]
  size := 1
  bytes := 8
  p := fun u => ∃ k : Int, u = .int .i64 k
  pos := by decide
  len := fun _ => rfl
  one := fun x u hu => by
    simp at hu
    subst hu; rfl
  ok := fun x u hu => by
    simp at hu
    exact ⟨_, hu⟩
theorem it_at {P : Program} {t e : TypeId} (ht : P.underlying t = some (.slice e)) (h : (P.info? e).map (fun i => (i.zero, i.size, i.bytes)) = some (some (.int .i64 0), 1, 8)) : itC.At P t e :=
  Cls.atOf itC ht h rfl (fun u hu => by
    simp [Value.cells] at hu
    exact ⟨_, hu⟩)
end Go.Proofs.Ythblmpkdcahmkaa

/-
  Package tree: slices.Clone of words and of nodes, copied.
-/
namespace Go.Proofs.Ythblmpkdcahmkaa
open Go.WideShapes Go.RowKit Go.Deep

/-- An empty literal. -/
theorem Cls.Own.lit0 {α : Type} {C : Cls α} (w : World) (e : TypeId) : C.Own (w.alloc (.cells #[] e)) w.heap.size e (.slice (some ⟨w.heap.size, 0, none⟩) 0 0) [] :=
  ⟨World.ownsRow_lit w #[] 0 (Nat.le_refl _) (by decide) (by simp), only_block (heap_alloc_new w _) (fun u hu => by simp at hu)⟩
theorem Kin.Mine.lit0 {α : Type} {K : Kin α} (w : World) (e : TypeId) : K.Mine (w.alloc (.cells #[] e)) w.heap.size e (.slice (some ⟨w.heap.size, 0, none⟩) 0 0) [] := ⟨Cls.Own.lit0 w e, fun x hx => by cases hx⟩
/-- Words, as rows of anything. -/
def wdC : Cls Nat where
  cells := fun x => [.int .u32 (x : Int)]
  size := 1
  bytes := 4
  p := fun u => ∃ k : Int, u = .int .u32 k
  pos := by decide
  len := fun _ => rfl
  one := fun x u hu => by
    simp at hu
    subst hu; rfl
  ok := fun x u hu => by
    simp at hu
    exact ⟨_, hu⟩
theorem wd_flat (l : List Nat) : l.flatMap wdC.cells = wcells l := by
  unfold wcells wdC
  induction l with
  | nil => rfl
  | cons x r ih => rw [List.flatMap_cons, List.map_cons, ih]; rfl
theorem wd_at {P : Program} {t e : TypeId} (ht : P.underlying t = some (.slice e)) (h : (P.info? e).map (fun i => (i.zero, i.size, i.bytes)) = some (some (.int .u32 0), 1, 4)) : wdC.At P t e :=
  Cls.atOf wdC ht h rfl (fun u hu => by
    simp [Value.cells] at hu
    exact ⟨_, hu⟩)
/-- What a node is, wherever its number lies. -/
def Nd.key (x : Nd) : Int × Int × List Nat := (x.op, x.i, x.l)
theorem key_sem {L L' : List Nd} (h : L'.map Nd.key = L.map Nd.key) : L'.map Nd.sem = L.map Nd.sem := by
  have e : ∀ L : List Nd, L.map Nd.sem = (L.map Nd.key).map (fun k => (k.1, k.2.1, val k.2.2)) := fun L => by simp [Nd.key, Nd.sem, Function.comp_def]
  rw [e, e, h]
theorem key_thin {L L' : List Nd} (h : L'.map Nd.key = L.map Nd.key) {N : Nat} (ht : thinN N L) : thinN N L' := by
  intro x hx
  have hk : x.key ∈ L.map Nd.key := by rw [← h]; exact List.mem_map.2 ⟨x, hx, rfl⟩
  obtain ⟨y, hy, e⟩ := List.mem_map.1 hk
  have e2 : y.l = x.l := congrArg (fun k => k.2.2) e
  rw [← e2]; exact ht y hy
theorem key_len {L L' : List Nd} (h : L'.map Nd.key = L.map Nd.key) : L'.length = L.length := by simpa using congrArg List.length h
/-- An expression as it was, in memory of its own. -/
def LstCp (L : List Nd) (w : World) (e : Ending) (w' : World) : Prop :=
  ∃ (a : Option Addr) (c : Nat) (L' : List Nd), e = .returned (.slice a L.length c) ∧ Nds w' a L.length c L' ∧ L'.map Nd.key = L.map Nd.key ∧ Below w.heap.size w w'
end Go.Proofs.Ythblmpkdcahmkaa

/-
  Package tree: sameNode, Same.
-/
namespace Go.Proofs.Ythblmpkdcahmkaa
open Go.RowKit

/-- A node, as a value. -/
def ndV (x : Nd) : Value := .agg #[.int .i64 x.op, .int .i64 x.i, .slice x.a x.n x.c]
theorem nd_there {w : World} {n c : Nat} {L : List Nd} {k b o : Nat} {x : Nd} (h : Nds w (some ⟨b, o, none⟩) n c L) (hx : L[k]? = some x) :
    w.cell? ⟨b, o + k * 3, none⟩ = some (.int .i64 x.op) ∧ w.cell? ⟨b, o + k * 3 + 1, none⟩ = some (.int .i64 x.i) ∧ w.cell? ⟨b, o + k * 3 + 2, none⟩ = some (.slice x.a x.n x.c) ∧ Wd w x.a x.n x.c x.l := by
  obtain ⟨b', o', e, h1⟩ := Nds.get h hx
  simp only [Option.some.injEq, Addr.mk.injEq, and_true] at e
  obtain ⟨rfl, rfl⟩ := e
  exact h1
set_option maxRecDepth 4096 in
set_option maxHeartbeats 8000000 in
theorem tree_sameNode (x y : Nd) (w : World) (hx : Wd w x.a x.n x.c x.l) (hy : Wd w y.a y.n y.c y.l) (hxn : x.n ≤ 1000000) (hyn : y.n ≤ 1000000) :
    Calls Try.prog 47 #[ndV x, ndV y] w (Gives (.bool (decide (x.sem = y.sem))) w) := by
  obtain ⟨R, hR⟩ : ∃ R, decide (x.sem = y.sem) = R := ⟨_, rfl⟩
  rw [hR]
  have hR2 : R = true ↔ x.op = y.op ∧ x.i = y.i ∧ val x.l = val y.l := by
    rw [← hR, decide_eq_true_iff]
    unfold Nd.sem
    simp
  have HR := Lib.hid hR2
  clear hR hR2
  obtain ⟨xo, xi, xa, xn, xc, xl⟩ := x
  obtain ⟨yo, yi, ya, yn, yc, yl⟩ := y
  unfold ndV
  dsimp only at hx hy hxn hyn HR
  have HB := Lib.hid (below_then (below_alloc w (.cells #[.int .i64 xo, .int .i64 xi, .slice xa xn xc] 60)) (below_alloc _ (.cells #[.int .i64 yo, .int .i64 yi, .slice ya yn yc] 60)))
  obtain ⟨hx1, hx2⟩ := boxes_at w ((w.alloc (.cells #[.int .i64 xo, .int .i64 xi, .slice xa xn xc] 60)).alloc (.cells #[.int .i64 yo, .int .i64 yi, .slice ya yn yc] 60)) #[.int .i64 xo, .int .i64 xi, .slice xa xn xc] #[.int .i64 yo, .int .i64 yi, .slice ya yn yc] 60 60 (Below.refl _ _)
  obtain ⟨e0, e1, e2⟩ := nd_box (x := ⟨xo, xi, xa, xn, xc, xl⟩) hx1
  obtain ⟨f0, f1, f2⟩ := nd_box (x := ⟨yo, yi, ya, yn, yc, yl⟩) hx2
  dsimp only at e0 e1 e2 f0 f1 f2
  have HC := Lib.hid (natSaid.cmp xa xn xc xl ya yn yc yl _ (hx.later HB.out) (hy.later HB.out) (by omega) (by omega))
  clear hx hy hx1 hx2
  by_cases h0 : xo = yo
  · have q1 : (xo == yo) = true := by simp [h0]
    by_cases h1 : xi = yi
    · have q2 : (xi == yi) = true := by simp [h1]
      obtain ⟨z, hz⟩ : ∃ z, cmpI (val xl) (val yl) = z := ⟨_, rfl⟩
      rw [hz] at HC
      obtain rfl : R = (z == 0) := by
        rw [Bool.eq_iff_iff, HR.out, beq_iff_eq]
        constructor
        · rintro ⟨_, _, hv⟩
          rw [← hz, hv]; exact cmpI_eq rfl
        · intro e
          refine ⟨h0, h1, ?_⟩
          rw [e] at hz; unfold cmpI at hz; split at hz <;> (try split at hz) <;> omega
      clear h0 h1 hz HR
      go_enter Try.func47, Try.ntmps47
      go_wp2_with fail
      refine HC.out.mono ?_
      rintro e w1 ⟨rfl, b1⟩
      have HB1 := Lib.hid (below_then HB.out b1)
      clear b1
      go_wp2
      go_ret
      exact ⟨by simp, HB1.out⟩
    · have q2 : (xi == yi) = false := by simp [h1]
      obtain rfl : R = false := by
        rw [Bool.eq_false_iff]
        exact fun e => h1 (HR.out.1 e).2.1
      clear h0 h1 HC HR
      go_enter Try.func47, Try.ntmps47
      go_wp2
      go_ret
      exact ⟨by simp, HB.out⟩
  · have q1 : (xo == yo) = false := by simp [h0]
    obtain rfl : R = false := by
      rw [Bool.eq_false_iff]
      exact fun e => h0 (HR.out.1 e).1
    clear h0 HC HR
    go_enter Try.func47, Try.ntmps47
    go_wp2
    go_ret
    exact ⟨by simp, HB.out⟩
set_option maxRecDepth 4096 in
set_option maxHeartbeats 8000000 in
theorem tree_eqNodes (a : Option Addr) (n c : Nat) (L : List Nd) (b : Option Addr) (m d : Nat) (M : List Nd) (w : World) (h : Nds w a n c L) (h2 : Nds w b m d M) (hn : n ≤ 1000000) (hL : thinN 1000000 L) (hM : thinN 1000000 M) :
    Calls Try.prog 46 #[.slice a n c, .slice b m d, .func (.func 47) #[] #[]] w (Gives (.bool (decide (L.map Nd.sem = M.map Nd.sem))) w) := by
  have HL := Lib.hid h
  have HM := Lib.hid h2
  have hl1 := h.len
  have hl2 := h2.len
  have hbd := h.bound
  have hbd2 := h2.bound
  have HTL := Lib.hid hL
  have HTM := Lib.hid hM
  clear h h2 hL hM
  obtain ⟨R, hR⟩ : ∃ R, decide (L.map Nd.sem = M.map Nd.sem) = R := ⟨_, rfl⟩
  rw [hR]
  have HR := Lib.hid hR
  clear hR
  by_cases hnm : n = m
  · subst hnm
    have q0 : ((n : Int) != (n : Int)) = false := by simp
    have HL1 := Lib.hid hl1
    have HL2 := Lib.hid hl2
    clear hl1 hl2
    go_enter Try.func46, Try.ntmps46
    go_wp2
    go_loopw [17] (fun iv wr => ∃ k : Nat, k ≤ n ∧ iv = .int .i64 (k : Int) ∧ Hid (R = decide ((L.map Nd.sem).drop k = (M.map Nd.sem).drop k)) ∧ Hid (Below w.heap.size w wr)) (fun iv _ => n - (intOf iv).toNat)
    case atStart => exact ⟨0, by omega, rfl, Lib.hid HR.out.symm, Lib.hid (Below.refl _ _)⟩
    case round =>
      obtain ⟨k, hk, rfl, HK, HB⟩ := hrel
      by_cases hlt : k < n
      · obtain ⟨x, hx⟩ := at_some HL1.out hlt
        obtain ⟨y, hy⟩ := at_some HL2.out hlt
        obtain ⟨b0, o0, rfl, -, -, -, -⟩ := Nds.get HL.out hx
        obtain ⟨b1, o1, rfl, -, -, -, -⟩ := Nds.get HM.out hy
        have hki : (k : Int) < (n : Int) := by omega
        have HK2 : Hid (R = decide (x.sem :: (L.map Nd.sem).drop (k + 1) = y.sem :: (M.map Nd.sem).drop (k + 1))) := Lib.hid (by rw [← nd_sem_drop hx, ← nd_sem_drop hy]; exact HK.out)
        have hx9 := HTL.out x (List.mem_of_getElem? hx)
        have hy9 := HTM.out y (List.mem_of_getElem? hy)
        have ba := below_alloc wr (.cells #[.int .i64 x.op, .int .i64 x.i, .slice x.a x.n x.c] 60)
        have HB1 := Lib.hid (below_then HB.out ba)
        have bb := below_alloc (wr.alloc (.cells #[.int .i64 x.op, .int .i64 x.i, .slice x.a x.n x.c] 60)) (.cells #[.int .i64 y.op, .int .i64 y.i, .slice y.a y.n y.c] 60)
        have HB2 := Lib.hid (below_then HB1.out bb)
        obtain ⟨e0, e1, e2, hw1⟩ := nd_there (Kin.All.later HL.out HB.out) hx
        obtain ⟨f0, f1, f2, hw2⟩ := nd_there (Kin.All.later HM.out HB1.out) hy
        have hxn := hw1.len
        have hyn := hw2.len
        have HS := Lib.hid (tree_sameNode x y _ ((hw1.later ba).later bb) (hw2.later bb) (by omega) (by omega))
        obtain ⟨x0, x1, x2⟩ := nd_box (x := x) (blk_later (blk_new wr #[.int .i64 x.op, .int .i64 x.i, .slice x.a x.n x.c] 60) bb)
        have hy2 := blk_new (wr.alloc (.cells #[.int .i64 x.op, .int .i64 x.i, .slice x.a x.n x.c] 60)) #[.int .i64 y.op, .int .i64 y.i, .slice y.a y.n y.c] 60
        rw [blk_size] at hy2
        obtain ⟨y0, y1, y2⟩ := nd_box (x := y) hy2
        clear ba bb HB1 hy2 hw1 hw2 hx9 hy9 hxn hyn hx hy HK
        go_wp2_with fail
        refine HS.out.mono ?_
        rintro e w4 ⟨rfl, bw⟩
        clear e0 e1 e2 f0 f1 f2 x0 x1 x2 y0 y1 y2 HS
        replace HB := Lib.hid (below_then HB2.out bw)
        clear bw HB2
        by_cases hq : x.sem = y.sem
        · have HK3 : Hid (R = decide ((L.map Nd.sem).drop (k + 1) = (M.map Nd.sem).drop (k + 1))) := Lib.hid (by rw [HK2.out, hq]; simp)
          rw [decide_eq_true hq]
          clear hq HK2
          go_wp2
          go_roundw
          case rel => exact ⟨k + 1, by omega, by go_num, HK3, HB⟩
          case measure => simp [intOf]; omega
        · obtain rfl : R = false := by rw [HK2.out]; simp [hq]
          rw [decide_eq_false hq]
          clear hq HK2
          go_wp2
          go_ret
          exact ⟨rfl, HB.out⟩
      · obtain rfl : k = n := by omega
        obtain rfl : R = true := by
          rw [HK.out, List.drop_of_length_le (by rw [List.length_map, HL1.out]; exact Nat.le_refl _), List.drop_of_length_le (by rw [List.length_map, HL2.out]; exact Nat.le_refl _)]; simp
        go_wp2
        go_ret
        exact ⟨rfl, HB.out⟩
  · have q0 : ((n : Int) != (m : Int)) = true := by simp; omega
    obtain rfl : R = false := by
      rw [← HR.out, decide_eq_false_iff_not]
      intro h
      have := congrArg List.length h
      simp only [List.length_map] at this
      omega
    go_enter Try.func46, Try.ntmps46
    go_wp2
    go_ret
    exact ⟨rfl, Below.refl _ _⟩
set_option maxRecDepth 4096 in
set_option maxHeartbeats 8000000 in
theorem tree_same (a : Option Addr) (n c : Nat) (L : List Nd) (b : Option Addr) (m d : Nat) (M : List Nd) (w : World) (h : Nds w a n c L) (h2 : Nds w b m d M) (hn : n ≤ 1000000) (hL : thinN 1000000 L) (hM : thinN 1000000 M) :
    Calls Try.prog 19 #[.slice a n c, .slice b m d] w (Gives (.bool (decide (L.map Nd.sem = M.map Nd.sem))) w) := by
  have HC := Lib.hid (tree_eqNodes a n c L b m d M w h h2 hn hL hM)
  clear h h2 hL hM
  go_enter Try.func19, Try.ntmps19
  go_wp2_with fail
  refine HC.out.mono ?_
  rintro e w1 ⟨rfl, bw⟩
  go_wp2
  go_ret
  exact ⟨rfl, bw⟩
end Go.Proofs.Ythblmpkdcahmkaa

/-
  Package tree: begin, Parts.
-/
namespace Go.Proofs.Ythblmpkdcahmkaa
open Go.WideShapes Go.RowKit Go.Deep

namespace Ex
variable {α : Type}
theorem flat_kids : ∀ t : Ex α, t.flat = flats t.kids ++ [t.root]
  | leaf _ => rfl
  | one t _ => by simp [flat, flats, kids, root]
  | two s t _ => by simp [flat, flats, kids, root]
theorem kids_ok (f : α → Int) : ∀ t : Ex α, t.ok f → (∀ u ∈ t.kids, u.ok f) ∧ tAr (f t.root) = (t.kids.length : Int)
  | leaf _, h => ⟨fun u hu => (by cases hu), h⟩
  | one t _, h => ⟨fun u hu => (by simp [kids] at hu; subst hu; exact h.1), h.2⟩
  | two s t _, h => ⟨fun u hu => (by
      simp [kids] at hu
      rcases hu with rfl | rfl
      · exact h.1
      · exact h.2.1), h.2.2⟩
theorem flats_append (s t : List (Ex α)) : flats (s ++ t) = flats s ++ flats t := by simp [flats]
end Ex
/-- A slice of this many, all of the same number and words as what they mean. -/
theorem sn_at17 {P : Program} {e : TypeId} (h : (P.info? e).map (fun i => (i.zero, i.size, i.bytes)) = some (some (.slice none 0 0), 1, 24)) : (P.info? e).map (fun i => (i.zero, i.size, i.bytes)) = some (some (.slice none 0 0), 1, snK.bytes) := h
theorem keyed_done {w' : World} {X : List Sn} {T : List (Ex Nd)} {N M : Nat} (hl : X.length = T.length) (hk : ∀ j : Nat, j < T.length → ∀ x t, X[j]? = some x → T[j]? = some t → x.L.map Nd.key = t.flat.map Nd.key) (hw : ∀ x ∈ X, snK.good w' x) (hN : ∀ t ∈ T, t.flat.length ≤ N ∧ thinN M t.flat) :
    X.map Sn.sem = T.map (fun u => u.flat.map Nd.sem) ∧ ∀ x ∈ X, x.n ≤ N ∧ thinN M x.L := by
  constructor
  · refine List.ext_getElem (by rw [List.length_map, List.length_map, hl]) fun j h1 h2 => ?_
    rw [List.getElem_map, List.getElem_map]
    rw [List.length_map] at h1 h2
    exact key_sem (hk j h2 _ _ (List.getElem?_eq_getElem h1) (List.getElem?_eq_getElem h2))
  · intro x hx
    obtain ⟨j, hj, rfl⟩ := List.getElem_of_mem hx
    have hj2 : j < T.length := by omega
    have h9 := hk j hj2 _ _ (List.getElem?_eq_getElem hj) (List.getElem?_eq_getElem hj2)
    have h8 := hN _ (List.getElem_mem hj2)
    have h7 : Nds w' X[j].a X[j].n X[j].c X[j].L := hw _ (List.getElem_mem hj)
    refine ⟨?_, key_thin h9 h8.2⟩
    rw [← h7.len, key_len h9]; exact h8.1
end Go.Proofs.Ythblmpkdcahmkaa

/-
  Package tree: sameLet, SameField.
-/
namespace Go.Proofs.Ythblmpkdcahmkaa
open Go.RowKit

/-- A let, as a value, and what it means. -/
def ltV (x : Lt) : Value := .agg #[.string (bs x.t), .slice x.a x.n x.c]
def ltSem (x : Lt) : List UInt8 × List (Int × Int × Nat) := (x.t, x.L.map Nd.sem)
theorem lt_there {w : World} {n c : Nat} {L : List Lt} {k b o : Nat} {x : Lt} (h : Lts w (some ⟨b, o, none⟩) n c L) (hx : L[k]? = some x) :
    w.cell? ⟨b, o + k * 2, none⟩ = some (.string (bs x.t)) ∧ w.cell? ⟨b, o + k * 2 + 1, none⟩ = some (.slice x.a x.n x.c) ∧ Nds w x.a x.n x.c x.L := by
  obtain ⟨b', o', e, h1⟩ := Lts.get h hx
  simp only [Option.some.injEq, Addr.mk.injEq, and_true] at e
  obtain ⟨rfl, rfl⟩ := e
  exact h1
theorem tSame_iff (K : List Lt) (O : List Sn) (K' : List Lt) (O' : List Sn) : tSame K O K' O' ↔ K.map ltSem = K'.map ltSem ∧ O.map Sn.sem = O'.map Sn.sem := by
  have e1 : ∀ K : List Lt, K.map Lt.t = (K.map ltSem).map Prod.fst := fun K => by simp [ltSem, Function.comp_def]
  have e2 : ∀ K : List Lt, (K.map Lt.sn).map Sn.sem = (K.map ltSem).map Prod.snd := fun K => by simp [ltSem, Function.comp_def, Lt.sn, Sn.sem]
  unfold tSame tCodes
  rw [List.map_append, List.map_append, e1, e1, e2, e2]
  constructor
  · rintro ⟨h1, h2, h3⟩
    have hl : (K.map ltSem).length = (K'.map ltSem).length := by simpa using congrArg List.length h1
    obtain ⟨h4, h5⟩ := List.append_inj h3 (by simpa using hl)
    refine ⟨?_, h5⟩
    refine List.ext_getElem hl fun j hj hj' => Prod.ext ?_ ?_
    · have := List.getElem_of_eq h1 (i := j) (by rw [List.length_map]; exact hj)
      simpa using this
    · have := List.getElem_of_eq h4 (i := j) (by rw [List.length_map]; exact hj)
      simpa using this
  · rintro ⟨h1, h2⟩
    refine ⟨by rw [h1], ?_, by rw [h1, h2]⟩
    simpa using congrArg List.length h2
set_option maxRecDepth 4096 in
set_option maxHeartbeats 8000000 in
theorem tree_sameLet (x y : Lt) (w : World) (hx : Nds w x.a x.n x.c x.L) (hy : Nds w y.a y.n y.c y.L) (hn : x.n ≤ 1000000) (hL : thinN 1000000 x.L) (hM : thinN 1000000 y.L) :
    Calls Try.prog 44 #[ltV x, ltV y] w (Gives (.bool (decide (ltSem x = ltSem y))) w) := by
  obtain ⟨xt, xa, xn, xc, xL⟩ := x
  obtain ⟨yt, ya, yn, yc, yL⟩ := y
  unfold ltV
  dsimp only at hx hy hn hL hM
  obtain ⟨R, hR⟩ : ∃ R, decide (ltSem ⟨xt, xa, xn, xc, xL⟩ = ltSem ⟨yt, ya, yn, yc, yL⟩) = R := ⟨_, rfl⟩
  rw [hR]
  have hR2 : R = true ↔ xt = yt ∧ xL.map Nd.sem = yL.map Nd.sem := by
    rw [← hR, decide_eq_true_iff]
    unfold ltSem
    simp
  have HR := Lib.hid hR2
  clear hR hR2
  have HB := Lib.hid (below_then (below_alloc w (.cells #[.string (bs xt), .slice xa xn xc] 75)) (below_alloc _ (.cells #[.string (bs yt), .slice ya yn yc] 75)))
  obtain ⟨hx1, hx2⟩ := boxes_at w ((w.alloc (.cells #[.string (bs xt), .slice xa xn xc] 75)).alloc (.cells #[.string (bs yt), .slice ya yn yc] 75)) #[.string (bs xt), .slice xa xn xc] #[.string (bs yt), .slice ya yn yc] 75 75 (Below.refl _ _)
  obtain ⟨e0, e1⟩ := cells2 hx1
  obtain ⟨f0, f1⟩ := cells2 hx2
  have HC := Lib.hid (tree_same xa xn xc xL ya yn yc yL _ (Kin.All.later hx HB.out) (Kin.All.later hy HB.out) hn hL hM)
  clear hx hy hx1 hx2
  by_cases h0 : xt = yt
  · have q1 : ((bs xt).toList == (bs yt).toList) = true := by rw [bs_list, bs_list]; simp [h0]
    obtain rfl : R = decide (xL.map Nd.sem = yL.map Nd.sem) := by
      rw [Bool.eq_iff_iff, HR.out, decide_eq_true_iff]
      exact ⟨fun h => h.2, fun h => ⟨h0, h⟩⟩
    generalize decide (xL.map Nd.sem = yL.map Nd.sem) = r at *
    clear h0 HR
    go_enter Try.func44, Try.ntmps44
    go_wp2_with fail
    refine HC.out.mono ?_
    rintro e w1 ⟨rfl, b1⟩
    have HB1 := Lib.hid (below_then HB.out b1)
    clear b1
    go_wp2
    go_ret
    exact ⟨by simp, HB1.out⟩
  · have q1 : ((bs xt).toList == (bs yt).toList) = false := by rw [bs_list, bs_list]; simp [h0]
    obtain rfl : R = false := by
      rw [Bool.eq_false_iff]
      exact fun e => h0 (HR.out.1 e).1
    clear h0 HC HR
    go_enter Try.func44, Try.ntmps44
    go_wp2
    go_ret
    exact ⟨by simp, HB.out⟩
set_option maxRecDepth 4096 in
set_option maxHeartbeats 8000000 in
theorem tree_eqLets (a : Option Addr) (n c : Nat) (L : List Lt) (b : Option Addr) (m d : Nat) (M : List Lt) (w : World) (h : Lts w a n c L) (h2 : Lts w b m d M) (hn : n ≤ 1000000) (hL : ∀ x ∈ L, x.n ≤ 1000000 ∧ thinN 1000000 x.L) (hM : ∀ x ∈ M, x.n ≤ 1000000 ∧ thinN 1000000 x.L) :
    Calls Try.prog 43 #[.slice a n c, .slice b m d, .func (.func 44) #[] #[]] w (Gives (.bool (decide (L.map ltSem = M.map ltSem))) w) := by
  have HL := Lib.hid h
  have HM := Lib.hid h2
  have hl1 := h.len
  have hl2 := h2.len
  have hbd := h.bound
  have hbd2 := h2.bound
  have HTL := Lib.hid hL
  have HTM := Lib.hid hM
  clear h h2 hL hM
  obtain ⟨R, hR⟩ : ∃ R, decide (L.map ltSem = M.map ltSem) = R := ⟨_, rfl⟩
  rw [hR]
  have HR := Lib.hid hR
  clear hR
  by_cases hnm : n = m
  · subst hnm
    have q0 : ((n : Int) != (n : Int)) = false := by simp
    have HL1 := Lib.hid hl1
    have HL2 := Lib.hid hl2
    clear hl1 hl2
    go_enter Try.func43, Try.ntmps43
    go_wp2
    go_loopw [17] (fun iv wr => ∃ k : Nat, k ≤ n ∧ iv = .int .i64 (k : Int) ∧ Hid (R = decide ((L.map ltSem).drop k = (M.map ltSem).drop k)) ∧ Hid (Below w.heap.size w wr)) (fun iv _ => n - (intOf iv).toNat)
    case atStart => exact ⟨0, by omega, rfl, Lib.hid HR.out.symm, Lib.hid (Below.refl _ _)⟩
    case round =>
      obtain ⟨k, hk, rfl, HK, HB⟩ := hrel
      by_cases hlt : k < n
      · obtain ⟨x, hx⟩ := at_some HL1.out hlt
        obtain ⟨y, hy⟩ := at_some HL2.out hlt
        obtain ⟨b0, o0, rfl, -, -, -⟩ := Lts.get HL.out hx
        obtain ⟨b1, o1, rfl, -, -, -⟩ := Lts.get HM.out hy
        have hki : (k : Int) < (n : Int) := by omega
        have HK2 : Hid (R = decide (ltSem x :: (L.map ltSem).drop (k + 1) = ltSem y :: (M.map ltSem).drop (k + 1))) := Lib.hid (by rw [← map_drop (f := ltSem) hx, ← map_drop (f := ltSem) hy]; exact HK.out)
        have hx9 := HTL.out x (List.mem_of_getElem? hx)
        have hy9 := HTM.out y (List.mem_of_getElem? hy)
        have ba := below_alloc wr (.cells #[.string (bs x.t), .slice x.a x.n x.c] 75)
        have HB1 := Lib.hid (below_then HB.out ba)
        have bb := below_alloc (wr.alloc (.cells #[.string (bs x.t), .slice x.a x.n x.c] 75)) (.cells #[.string (bs y.t), .slice y.a y.n y.c] 75)
        have HB2 := Lib.hid (below_then HB1.out bb)
        obtain ⟨e0, e1, hw1⟩ := lt_there (Kin.All.later HL.out HB.out) hx
        obtain ⟨f0, f1, hw2⟩ := lt_there (Kin.All.later HM.out HB1.out) hy
        have HS := Lib.hid (tree_sameLet x y _ (Kin.All.later (Kin.All.later hw1 ba) bb) (Kin.All.later hw2 bb) hx9.1 hx9.2 hy9.2)
        obtain ⟨x0, x1⟩ := cells2 (blk_later (blk_new wr #[.string (bs x.t), .slice x.a x.n x.c] 75) bb)
        have hy2 := blk_new (wr.alloc (.cells #[.string (bs x.t), .slice x.a x.n x.c] 75)) #[.string (bs y.t), .slice y.a y.n y.c] 75
        rw [blk_size] at hy2
        obtain ⟨y0, y1⟩ := cells2 hy2
        clear ba bb HB1 hy2 hw1 hw2 hx9 hy9 hx hy HK
        go_wp2_with fail
        refine HS.out.mono ?_
        rintro e w4 ⟨rfl, bw⟩
        clear e0 e1 f0 f1 x0 x1 y0 y1 HS
        replace HB := Lib.hid (below_then HB2.out bw)
        clear bw HB2
        by_cases hq : ltSem x = ltSem y
        · have HK3 : Hid (R = decide ((L.map ltSem).drop (k + 1) = (M.map ltSem).drop (k + 1))) := Lib.hid (by rw [HK2.out, hq]; simp)
          rw [decide_eq_true hq]
          clear hq HK2
          go_wp2
          go_roundw
          case rel => exact ⟨k + 1, by omega, by go_num, HK3, HB⟩
          case measure => simp [intOf]; omega
        · obtain rfl : R = false := by rw [HK2.out]; simp [hq]
          rw [decide_eq_false hq]
          clear hq HK2
          go_wp2
          go_ret
          exact ⟨rfl, HB.out⟩
      · obtain rfl : k = n := by omega
        obtain rfl : R = true := by
          rw [HK.out, List.drop_of_length_le (by rw [List.length_map, HL1.out]; exact Nat.le_refl _), List.drop_of_length_le (by rw [List.length_map, HL2.out]; exact Nat.le_refl _)]; simp
        go_wp2
        go_ret
        exact ⟨rfl, HB.out⟩
  · have q0 : ((n : Int) != (m : Int)) = true := by simp; omega
    obtain rfl : R = false := by
      rw [← HR.out, decide_eq_false_iff_not]
      intro h
      have := congrArg List.length h
      simp only [List.length_map] at this
      omega
    go_enter Try.func43, Try.ntmps43
    go_wp2
    go_ret
    exact ⟨rfl, Below.refl _ _⟩
set_option maxRecDepth 4096 in
set_option maxHeartbeats 8000000 in
theorem tree_eqCodes (a : Option Addr) (n c : Nat) (L : List Sn) (b : Option Addr) (m d : Nat) (M : List Sn) (w : World) (h : Sns w a n c L) (h2 : Sns w b m d M) (hn : n ≤ 1000000) (hL : ∀ x ∈ L, x.n ≤ 1000000 ∧ thinN 1000000 x.L) (hM : ∀ x ∈ M, x.n ≤ 1000000 ∧ thinN 1000000 x.L) :
    Calls Try.prog 45 #[.slice a n c, .slice b m d, .func (.func 19) #[] #[]] w (Gives (.bool (decide (L.map Sn.sem = M.map Sn.sem))) w) := by
  have HL := Lib.hid h
  have HM := Lib.hid h2
  have hl1 := h.len
  have hl2 := h2.len
  have hbd := h.bound
  have hbd2 := h2.bound
  have HTL := Lib.hid hL
  have HTM := Lib.hid hM
  clear h h2 hL hM
  obtain ⟨R, hR⟩ : ∃ R, decide (L.map Sn.sem = M.map Sn.sem) = R := ⟨_, rfl⟩
  rw [hR]
  have HR := Lib.hid hR
  clear hR
  by_cases hnm : n = m
  · subst hnm
    have q0 : ((n : Int) != (n : Int)) = false := by simp
    have HL1 := Lib.hid hl1
    have HL2 := Lib.hid hl2
    clear hl1 hl2
    go_enter Try.func45, Try.ntmps45
    go_wp2
    go_loopw [17] (fun iv wr => ∃ k : Nat, k ≤ n ∧ iv = .int .i64 (k : Int) ∧ Hid (R = decide ((L.map Sn.sem).drop k = (M.map Sn.sem).drop k)) ∧ Hid (Below w.heap.size w wr)) (fun iv _ => n - (intOf iv).toNat)
    case atStart => exact ⟨0, by omega, rfl, Lib.hid HR.out.symm, Lib.hid (Below.refl _ _)⟩
    case round =>
      obtain ⟨k, hk, rfl, HK, HB⟩ := hrel
      by_cases hlt : k < n
      · obtain ⟨x, hx⟩ := at_some HL1.out hlt
        obtain ⟨y, hy⟩ := at_some HL2.out hlt
        obtain ⟨b0, o0, rfl, -, -⟩ := Sns.get HL.out hx
        obtain ⟨b1, o1, rfl, -, -⟩ := Sns.get HM.out hy
        have hki : (k : Int) < (n : Int) := by omega
        have HK2 : Hid (R = decide (x.sem :: (L.map Sn.sem).drop (k + 1) = y.sem :: (M.map Sn.sem).drop (k + 1))) := Lib.hid (by rw [← map_drop (f := Sn.sem) hx, ← map_drop (f := Sn.sem) hy]; exact HK.out)
        have hx9 := HTL.out x (List.mem_of_getElem? hx)
        have hy9 := HTM.out y (List.mem_of_getElem? hy)
        obtain ⟨e0, hw1⟩ := sn_cells (Kin.All.later HL.out HB.out) hx rfl
        obtain ⟨f0, hw2⟩ := sn_cells (Kin.All.later HM.out HB.out) hy rfl
        have HS := Lib.hid (tree_same x.a x.n x.c x.L y.a y.n y.c y.L _ hw1 hw2 hx9.1 hx9.2 hy9.2)
        have HD := Lib.hid (show (x.sem = y.sem) = (x.L.map Nd.sem = y.L.map Nd.sem) from rfl)
        obtain ⟨r, hr⟩ : ∃ r, decide (x.L.map Nd.sem = y.L.map Nd.sem) = r := ⟨_, rfl⟩
        rw [hr] at HS
        have HRr := Lib.hid hr
        clear hr hw1 hw2 hx9 hy9 hx hy HK
        go_wp2_with fail
        refine HS.out.mono ?_
        rintro e w4 ⟨rfl, bw⟩
        clear e0 f0 HS
        replace HB := Lib.hid (below_then HB.out bw)
        clear bw
        cases r
        case true =>
          have hq : x.sem = y.sem := by rw [HD.out]; exact of_decide_eq_true HRr.out
          have HK3 : Hid (R = decide ((L.map Sn.sem).drop (k + 1) = (M.map Sn.sem).drop (k + 1))) := Lib.hid (by rw [HK2.out, hq]; simp)
          clear hq HK2
          go_wp2
          go_roundw
          case rel => exact ⟨k + 1, by omega, by go_num, HK3, HB⟩
          case measure => simp [intOf]; omega
        case false =>
          have hq : ¬ x.sem = y.sem := by rw [HD.out]; exact of_decide_eq_false HRr.out
          obtain rfl : R = false := by rw [HK2.out]; simp [hq]
          clear hq HK2
          go_wp2
          go_ret
          exact ⟨rfl, HB.out⟩
      · obtain rfl : k = n := by omega
        obtain rfl : R = true := by
          rw [HK.out, List.drop_of_length_le (by rw [List.length_map, HL1.out]; exact Nat.le_refl _), List.drop_of_length_le (by rw [List.length_map, HL2.out]; exact Nat.le_refl _)]; simp
        go_wp2
        go_ret
        exact ⟨rfl, HB.out⟩
  · have q0 : ((n : Int) != (m : Int)) = true := by simp; omega
    obtain rfl : R = false := by
      rw [← HR.out, decide_eq_false_iff_not]
      intro h
      have := congrArg List.length h
      simp only [List.length_map] at this
      omega
    go_enter Try.func45, Try.ntmps45
    go_wp2
    go_ret
    exact ⟨rfl, Below.refl _ _⟩
set_option maxRecDepth 4096 in
set_option maxHeartbeats 8000000 in
theorem tree_sameField (a : Option Addr) (n c : Nat) (K : List Lt) (b : Option Addr) (m d : Nat) (O : List Sn) (a' : Option Addr) (n' c' : Nat) (K' : List Lt) (b' : Option Addr) (m' d' : Nat) (O' : List Sn) (w : World) (h : Lts w a n c K) (h2 : Sns w b m d O) (g : Lts w a' n' c' K') (g2 : Sns w b' m' d' O')
    (hn : n ≤ 1000000) (hm : m ≤ 1000000) (hs : ∀ x ∈ tCodes K O, x.n ≤ 1000000 ∧ thinN 1000000 x.L) (hs' : ∀ x ∈ tCodes K' O', x.n ≤ 1000000 ∧ thinN 1000000 x.L) :
    Calls Try.prog 18 #[fiV a n c b m d, fiV a' n' c' b' m' d'] w (Gives (.bool (decide (tSame K O K' O'))) w) := by
  have HB := Lib.hid (below_then (below_alloc w (.cells #[.slice a n c, .slice b m d] 26)) (below_alloc _ (.cells #[.slice a' n' c', .slice b' m' d'] 26)))
  obtain ⟨hx1, hx2⟩ := boxes_at w ((w.alloc (.cells #[.slice a n c, .slice b m d] 26)).alloc (.cells #[.slice a' n' c', .slice b' m' d'] 26)) #[.slice a n c, .slice b m d] #[.slice a' n' c', .slice b' m' d'] 26 26 (Below.refl _ _)
  have hsK : ∀ x ∈ K, x.n ≤ 1000000 ∧ thinN 1000000 x.L := fun x hx => hs x.sn (List.mem_append.2 (.inl (List.mem_map.2 ⟨x, hx, rfl⟩)))
  have hsK' : ∀ x ∈ K', x.n ≤ 1000000 ∧ thinN 1000000 x.L := fun x hx => hs' x.sn (List.mem_append.2 (.inl (List.mem_map.2 ⟨x, hx, rfl⟩)))
  have hsO : ∀ x ∈ O, x.n ≤ 1000000 ∧ thinN 1000000 x.L := fun x hx => hs x (List.mem_append.2 (.inr hx))
  have hsO' : ∀ x ∈ O', x.n ≤ 1000000 ∧ thinN 1000000 x.L := fun x hx => hs' x (List.mem_append.2 (.inr hx))
  have HC1 := Lib.hid (tree_eqLets a n c K a' n' c' K' _ (Kin.All.later h HB.out) (Kin.All.later g HB.out) hn hsK hsK')
  have HC2 := Lib.hid fun w1 (hb : Below ((w.alloc (.cells #[.slice a n c, .slice b m d] 26)).alloc (.cells #[.slice a' n' c', .slice b' m' d'] 26)).heap.size ((w.alloc (.cells #[.slice a n c, .slice b m d] 26)).alloc (.cells #[.slice a' n' c', .slice b' m' d'] 26)) w1) => tree_eqCodes b m d O b' m' d' O' w1 (Kin.All.later (Kin.All.later h2 HB.out) hb) (Kin.All.later (Kin.All.later g2 HB.out) hb) hm hsO hsO'
  have HX1 := Lib.hid hx1
  have HX2 := Lib.hid hx2
  obtain ⟨e0, e1⟩ := cells2 hx1
  obtain ⟨f0, f1⟩ := cells2 hx2
  have hR : decide (tSame K O K' O') = (decide (K.map ltSem = K'.map ltSem) && decide (O.map Sn.sem = O'.map Sn.sem)) := by
    rw [Bool.eq_iff_iff, decide_eq_true_iff, Bool.and_eq_true, decide_eq_true_iff, decide_eq_true_iff]
    exact tSame_iff K O K' O'
  rw [hR]
  generalize decide (K.map ltSem = K'.map ltSem) = r1 at *
  generalize decide (O.map Sn.sem = O'.map Sn.sem) = r2 at *
  clear hR hx1 hx2 h h2 g g2 hs hs' hsK hsK' hsO hsO'
  go_enter Try.func18, Try.ntmps18
  unfold fiV
  go_wp2_with fail
  refine HC1.out.mono ?_
  rintro e w1 ⟨rfl, b1⟩
  obtain ⟨g0, g1⟩ := cells2 (blk_later HX1.out b1)
  obtain ⟨k0, k1⟩ := cells2 (blk_later HX2.out b1)
  have HC3 := Lib.hid (HC2.out w1 b1)
  have HB1 := Lib.hid (below_then HB.out b1)
  clear e0 e1 f0 f1 b1 HC1 HC2 HX1 HX2 HB
  cases r1
  · go_wp2
    go_ret
    exact ⟨by simp, HB1.out⟩
  · go_wp2_with fail
    refine HC3.out.mono ?_
    rintro e w2 ⟨rfl, b2⟩
    have HB2 := Lib.hid (below_then HB1.out b2)
    clear b2
    go_wp2
    go_ret
    exact ⟨by simp, HB2.out⟩
end Go.Proofs.Ythblmpkdcahmkaa

/-
  Package tree: Size, Codes.
-/
namespace Go.Proofs.Ythblmpkdcahmkaa
open Go.WideShapes Go.RowKit Go.Deep

theorem lt_sn_mem {K : List Lt} {O : List Sn} {x : Lt} (h : x ∈ K) : x.sn ∈ tCodes K O := List.mem_append.2 (.inl (List.mem_map.2 ⟨x, h, rfl⟩))
theorem tSize_bound {Z : List Sn} {k N : Nat} (h : ∀ x ∈ Z, x.n ≤ N) : tSize (Z.take k) ≤ k * N := by
  refine Nat.le_trans (tSize_le (N := N) fun y hy => h y (List.mem_of_mem_take hy)) ?_
  rw [List.length_take]
  exact Nat.mul_le_mul_right _ (Nat.min_le_left _ _)
end Go.Proofs.Ythblmpkdcahmkaa

/-
  Package tree: Codes.
-/
namespace Go.Proofs.Ythblmpkdcahmkaa
open Go.WideShapes Go.RowKit Go.Deep

end Go.Proofs.Ythblmpkdcahmkaa

/-
  Package tree's contracts, whole.
-/
namespace Go.Proofs.Ythblmpkdcahmkaa
open Go.RowKit

theorem gives1 {v : Value} {w : World} {e : Ending} {w' : World} (h : Same1 v w e w') : Gives v w e w' := by
  obtain ⟨rfl, rfl⟩ := h
  exact ⟨rfl, Below.refl _ _⟩
theorem thinN_more {N M : Nat} {L : List Nd} (h : thinN N L) (hNM : N ≤ M) : thinN M L := fun x hx => Nat.le_trans (h x hx) hNM
theorem treeSaid : TreeSaid where
  arity := fun op w => (tree_arity op w).mono fun _ _ h => gives1 h
  wrong := fun a n c L w h hn => tree_wrong a n c L w h (by omega)
  right := fun a n c L w h hn => tree_right a n c L w h (by omega)
  same := fun a n c L b m d M w h h2 hn _ hL hM => tree_same a n c L b m d M w h h2 (by omega) (thinN_more hL (by decide)) (thinN_more hM (by decide))
  sameField := fun a n c K b m d O a' n' c' K' b' m' d' O' w h h2 g g2 hn hm _ _ hs hs' => tree_sameField a n c K b m d O a' n' c' K' b' m' d' O' w h h2 g g2 (by omega) (by omega) (fun x hx => ⟨Nat.le_trans (hs x hx).1 (by decide), thinN_more (hs x hx).2 (by decide)⟩) (fun x hx => ⟨Nat.le_trans (hs' x hx).1 (by decide), thinN_more (hs' x hx).2 (by decide)⟩)
end Go.Proofs.Ythblmpkdcahmkaa

/-
  The document's answer of layer 16: Text.
-/
namespace Go.Proofs.Ythblmpkdcahmkaa
open Go.RowKit

theorem lexText_snoc : ∀ {l : List (List UInt8)} (q : List UInt8), l ≠ [] → lexText (l ++ [q]) = lexText l ++ (32 :: q)
  | [], _, h => absurd rfl h
  | [x], q, _ => rfl
  | x :: y :: l, q, _ => by
    have h := lexText_snoc (l := y :: l) q (by simp)
    show x ++ 32 :: lexText ((y :: l) ++ [q]) = (x ++ 32 :: lexText (y :: l)) ++ (32 :: q)
    rw [h]; simp
theorem wx_more {L : List Wx} {k : Nat} (h : k < L.length) : (L.map Wx.t).take (k + 1) = (L.map Wx.t).take k ++ [(L.getD k Wx.zero).t] := by
  rw [List.take_add_one, List.getElem?_map, List.getD_eq_getElem?_getD, List.getElem?_eq_getElem h]; rfl
theorem wx_mem {L : List Wx} {k : Nat} (h : k < L.length) : L.getD k Wx.zero ∈ L := by
  rw [List.getD_eq_getElem?_getD, List.getElem?_eq_getElem h]; exact List.getElem_mem h
end Go.Proofs.Ythblmpkdcahmkaa
