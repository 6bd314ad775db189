/-
  The walks of the laws of layer 17: TreeWhole.
-/
import Derived.Test.YtdhfnlpolelcpaaLaw17Walks2
import Derived.OwnWalk
namespace Go.Proofs.Ytdhfnlpolelcpaa
open Go.RowKit

/-- The greatest of their depths. -/
def kd (l : List (Ex Nd)) : Nat := l.foldl (fun m u => max m u.depth) 0
theorem kd_snoc (l : List (Ex Nd)) (u : Ex Nd) : kd (l ++ [u]) = max (kd l) u.depth := by simp [kd]
theorem kd_kids (t : Ex Nd) : t.depth = kd t.kids + 1 := by
  cases t with
  | leaf x => rfl
  | one t x => simp [kd, Ex.kids, Ex.depth]
  | two s t x => simp [kd, Ex.kids, Ex.depth]
theorem kids_len {t : Ex Nd} (h : t.ok Nd.op) : (t.kids.length : Int) = tAr t.root.op := by
  cases t with
  | leaf x => exact h.symm
  | one t x => exact h.2.symm
  | two s t x => exact h.2.2.symm
theorem kids_flat (t : Ex Nd) : t.flat = t.kids.flatMap Ex.flat ++ [t.root] := by
  cases t with
  | leaf x => rfl
  | one t x => simp [Ex.flat, Ex.kids, Ex.root]
  | two s t x => simp [Ex.flat, Ex.kids, Ex.root]
theorem kids_flat_len {t : Ex Nd} {k : Nat} : ((t.kids.take k).flatMap Ex.flat).length ≤ t.flat.length := by
  rw [kids_flat t, List.length_append]
  have h : (t.kids.flatMap Ex.flat) = (t.kids.take k).flatMap Ex.flat ++ (t.kids.drop k).flatMap Ex.flat := by rw [← List.flatMap_append, List.take_append_drop]
  rw [h, List.length_append]
  omega
theorem sem_op {L M : List Nd} (h : L.map Nd.sem = M.map Nd.sem) : L.map Nd.op = M.map Nd.op := by
  have := congrArg (List.map fun x : Int × Int × Nat => x.1) h
  simpa [Nd.sem, Function.comp_def] using this
set_option maxRecDepth 4096 in
set_option maxHeartbeats 16000000 in
theorem law17_whole (S : TreeSaid) (a0 : Option Addr) (n0 c0 : Nat) (L : List Nd) (w : World) (h0 : Nds w a0 n0 c0 L) : Calls Try.prog 5 #[.slice a0 n0 c0] w (Gives (.bool true) w) := by
  have hA := nd_at Try.underlying25 infoTo17
  have HW := Lib.hid fun w => law17_works S w
  have HL := Lib.hid h0
  have hll := h0.len
  have hbd := h0.bound
  have HB : Hid (Below w.heap.size w w) := Lib.hid (Below.refl _ _)
  have HLg := Lib.hid (ref17_long a0 n0 c0 L 100 10 w h0 (by omega))
  clear h0
  go_enter Try.func5, Try.ntmps5
  go_wp2_with fail
  refine HLg.out.mono ?_
  rintro e9 wn ⟨r, rfl, rfl, hr⟩
  cases r
  · obtain ⟨hn, ht⟩ := hr rfl
    have HT := Lib.hid ht
    have HLl := Lib.hid hll
    clear hr ht hll HLg
    go_wp2_with fail
    refine (law17_to a0 n0 c0 L _ HL.out (by omega)).mono ?_
    rintro e9 wn ⟨a1, n1, c1, rfl, h1, b⟩
    replace HB := Lib.hid (below_then HB.out b)
    replace HL := Lib.hid (Kin.All.later HL.out b)
    have HX := Lib.hid h1
    obtain rfl : n1 = n0 := h1.len.symm.trans HLl.out
    have hbd1 := h1.bound
    clear h1
    clear b
    by_cases hneg : tWrong (L.map Nd.op) < 0
    · obtain ⟨t, hto, htf⟩ := Ex.of_wrong Nd.op (L := L) hneg
      go_wp2_with fail
      refine (S.parts a1 n1 c1 L 10 _ HX.out (by omega) HT.out (by omega) t hto htf).mono ?_
      rintro e9 wn ⟨a2, n2, c2, K, rfl, h2, hK, hKb, b⟩
      replace HB := Lib.hid (below_then HB.out b)
      replace HL := Lib.hid (Kin.All.later HL.out b)
      replace HX := Lib.hid (Kin.All.later HX.out b)
      have HP := Lib.hid h2
      have hn2 := h2.len
      have hbd2 := h2.bound
      have HK := Lib.hid hK
      have HKb := Lib.hid hKb
      clear h2 hK hKb
      clear b
      have HTl : Hid (t.kids.length = n2) := Lib.hid (by rw [← hn2, ← List.length_map Sn.sem, HK.out, List.length_map])
      have HE : Hid (∀ (k : Nat) (x : Sn) (u : Ex Nd), K[k]? = some x → t.kids[k]? = some u → x.L.map Nd.sem = u.flat.map Nd.sem ∧ u.ok Nd.op) := Lib.hid (fun k x u hx hu => by
        obtain ⟨v, hv, e1⟩ := kid_at HK.out hx
        rw [hu] at hv
        obtain rfl := Option.some.inj hv
        exact ⟨e1, kids_ok hto (List.mem_of_getElem? hu)⟩)
      have HNx := Lib.hid hn2
      have hDx := Lib.hid fun w (h : Nds w a1 n1 c1 L) => S.depth a1 n1 c1 L w h (by omega)
      have hdx : tDepth (L.map Nd.op) = kd t.kids + 1 := by rw [← htf, tDepth_flat _ hto, kd_kids]
      rw [hdx] at hDx
      have hpos := t.flat_pos
      have hfl : t.flat.length = n1 := by rw [htf]; exact HLl.out
      rw [hfl] at hpos
      have HRt : Hid (L[n1 - 1]? = some t.root) := Lib.hid (at_mid (L := L) (A := t.kids.flatMap Ex.flat) (S := []) (x := t.root) (k := n1 - 1) (htf.symm.trans ((kids_flat t).trans (by simp))) (by
        have h9 := congrArg List.length (kids_flat t)
        rw [hfl, List.length_append, List.length_singleton] at h9
        omega)).1
      have HFl : Hid (L.map Nd.sem = (t.kids.flatMap fun u => u.flat.map Nd.sem) ++ [t.root.sem]) := Lib.hid (by rw [← htf, kids_flat t, List.map_append, List.map_flatMap]; rfl)
      have HLn : Hid (∀ k, ((t.kids.take k).flatMap fun u => u.flat.map Nd.sem).length ≤ n1) := Lib.hid (fun k => by
        have h9 := kids_flat_len (t := t) (k := k)
        rw [hfl, ← List.length_map Nd.sem, List.map_flatMap] at h9
        exact h9)
      have HAr := Lib.hid (kids_len hto)
      clear hn2 hdx hneg htf hto hfl HK
      go_wp2
      have HBw : Hid (Below wn.heap.size wn wn) := Lib.hid (Below.refl _ _)
      go_loopw [6, 7, 8] (fun v dv iv wr => ∃ (k q : Nat) (A : List Nd), k ≤ n2 ∧ iv = .int .i64 (k : Int) ∧ dv = .int .i64 (q : Int) ∧ q ≤ 200 ∧ Hid (kd (t.kids.take k) = q) ∧ Hid (ndK.Mine wr wn.heap.size 55 v A) ∧ Hid (A.map Nd.sem = (t.kids.take k).flatMap fun u => u.flat.map Nd.sem) ∧ Hid (thinN 10 A) ∧ Hid (Below wn.heap.size wn wr)) (fun _ _ iv _ => n2 - (intOf iv).toNat)
      case atStart => exact ⟨0, 0, [], by omega, by go_num, by go_num, by omega, Lib.hid rfl, Lib.hid (Kin.Mine.nil _ _ _), Lib.hid (by simp), Lib.hid (fun x hx => by cases hx), HBw⟩
      case round =>
        obtain ⟨k, q, A, hk, rfl, rfl, hq, HQ, HM, HAs, HAt, HV⟩ := hrel
        have hal : A.length ≤ n1 := by rw [← List.length_map Nd.sem, HAs.out]; exact HLn.out k
        by_cases hlt : k < n2
        · have hki : (k : Int) < (n2 : Int) := by omega
          obtain ⟨x, hx⟩ := at_some HNx.out hlt
          obtain ⟨u, hu⟩ := at_some HTl.out hlt
          obtain ⟨he, huo⟩ := HE.out k x u hx hu
          have hkb := HKb.out x (List.mem_of_getElem? hx)
          have hop := sem_op he
          have hw1 : tWrong (x.L.map Nd.op) = -1 := by rw [hop]; exact Ex.wrong_flat _ huo
          have hd1 : tDepth (x.L.map Nd.op) = u.depth := by rw [hop]; exact tDepth_flat _ huo
          obtain ⟨b0, o0, rfl, e0, hN⟩ := Sns.get (Kin.All.later HP.out HV.out) hx
          have hxl := hN.len
          have hul : u.depth ≤ x.n := by rw [← hxl, ← List.length_map Nd.sem, he, List.length_map]; exact u.depth_le
          have hxp : 0 < x.n := by rw [← hxl, ← List.length_map Nd.sem, he, List.length_map]; exact u.flat_pos
          have hSR := Lib.hid fun w (h : Nds w x.a x.n x.c x.L) => S.right x.a x.n x.c x.L w h (by omega)
          have hSD := Lib.hid fun w (h : Nds w x.a x.n x.c x.L) => S.depth x.a x.n x.c x.L w h (by omega)
          have hdc : decide (tWrong (x.L.map Nd.op) < 0) = true := by rw [hw1]; rfl
          rw [hdc] at hSR
          rw [hd1] at hSD
          have HQ2 : Hid (kd (t.kids.take (k + 1)) = max q u.depth) := Lib.hid (by rw [take_snoc hu, kd_snoc, HQ.out])
          have HAs2 : Hid ((A ++ x.L).map Nd.sem = (t.kids.take (k + 1)).flatMap fun u => u.flat.map Nd.sem) := Lib.hid (by rw [List.map_append, HAs.out, he, take_snoc hu]; simp)
          have HAt2 : Hid (thinN 10 (A ++ x.L)) := Lib.hid (fun y hy => (List.mem_append.1 hy).elim (HAt.out y) (hkb.2 y))
          have hkbn := hkb.1
          obtain ⟨ud, hud⟩ : ∃ ud, u.depth = ud := ⟨_, rfl⟩
          rw [hud] at hSD HQ2 hul
          have HXl := Lib.hid hxl
          have HN := Lib.hid hN
          have HV2 := HV
          clear hx hu he huo hkb hop hw1 hd1 hdc hud hN hxl HQ HAs HAt HV
          by_cases hqd : q < ud
          · have hqi : (q : Int) < (ud : Int) := by omega
            have HQ3 := Lib.hid (HQ2.out.trans (show max q ud = ud by omega))
            clear HQ2
            go_wp2_with fail
            refine (hSR.out _ HN.out).mono ?_
            rintro e9 wm ⟨rfl, b⟩
            replace HN := Lib.hid (Kin.All.later HN.out b)
            replace HM := Lib.hid (Kin.Mine.later HM.out b)
            replace HV2 := Lib.hid (below_then HV2.out b)
            replace e0 := cell_later b e0
            clear b
            go_wp2_with fail
            refine (hSD.out _ HN.out).mono ?_
            rintro e9 wo ⟨rfl, b⟩
            replace HN := Lib.hid (Kin.All.later HN.out b)
            replace HM := Lib.hid (Kin.Mine.later HM.out b)
            replace HV2 := Lib.hid (below_then HV2.out b)
            replace e0 := cell_later b e0
            clear b
            obtain ⟨b1, o1, ea, _⟩ := HN.out.1.at hxp
            have hwb := HV2.out.size
            rw [ea] at e0 HN
            go_wp2_with (at_builtin; refine Kin.wpList_append hA rfl _ _ rfl wn.heap.size _ A rfl HM.out ⟨b1, o1, none⟩ x.n x.c x.L rfl HXl.out HN.out.1.news HN.out.2 (by unfold maxLen; omega) (by show (A.length + x.n) * 40 ≤ _; omega) hwb ?_)
            intro v' w5 hrow hgrow hnew
            have HX5 := Lib.hid hrow
            have HB5 : Hid (Below wn.heap.size wn w5) := Lib.hid (HV2.out.grown hgrow hwb (fun g hg => Kin.Mine.base HM.out g hg))
            clear hrow hgrow hnew
            go_wp2
            go_roundw
            case rel => exact ⟨k + 1, ud, A ++ x.L, by omega, by go_num, rfl, by omega, HQ3, HX5, HAs2, HAt2, HB5⟩
            case measure => simp [intOf]; omega
          · have hqi : ¬ (q : Int) < (ud : Int) := by omega
            have HQ3 := Lib.hid (HQ2.out.trans (show max q ud = q by omega))
            clear HQ2
            go_wp2_with fail
            refine (hSR.out _ HN.out).mono ?_
            rintro e9 wm ⟨rfl, b⟩
            replace HN := Lib.hid (Kin.All.later HN.out b)
            replace HM := Lib.hid (Kin.Mine.later HM.out b)
            replace HV2 := Lib.hid (below_then HV2.out b)
            replace e0 := cell_later b e0
            clear b
            go_wp2_with fail
            refine (hSD.out _ HN.out).mono ?_
            rintro e9 wo ⟨rfl, b⟩
            replace HN := Lib.hid (Kin.All.later HN.out b)
            replace HM := Lib.hid (Kin.Mine.later HM.out b)
            replace HV2 := Lib.hid (below_then HV2.out b)
            replace e0 := cell_later b e0
            clear b
            obtain ⟨b1, o1, ea, _⟩ := HN.out.1.at hxp
            have hwb := HV2.out.size
            rw [ea] at e0 HN
            go_wp2_with (at_builtin; refine Kin.wpList_append hA rfl _ _ rfl wn.heap.size _ A rfl HM.out ⟨b1, o1, none⟩ x.n x.c x.L rfl HXl.out HN.out.1.news HN.out.2 (by unfold maxLen; omega) (by show (A.length + x.n) * 40 ≤ _; omega) hwb ?_)
            intro v' w5 hrow hgrow hnew
            have HX5 := Lib.hid hrow
            have HB5 : Hid (Below wn.heap.size wn w5) := Lib.hid (HV2.out.grown hgrow hwb (fun g hg => Kin.Mine.base HM.out g hg))
            clear hrow hgrow hnew
            go_wp2
            go_roundw
            case rel => exact ⟨k + 1, q, A ++ x.L, by omega, by go_num, rfl, by omega, HQ3, HX5, HAs2, HAt2, HB5⟩
            case measure => simp [intOf]; omega
        · obtain rfl : k = n2 := by omega
          have htk : t.kids.take k = t.kids := List.take_of_length_le (by rw [HTl.out]; exact Nat.le_refl _)
          rw [htk] at HQ HAs
          have hq2 : kd t.kids = q := HQ.out
          rw [hq2] at hDx
          have HX9 := Lib.hid (Kin.All.later HX.out HV.out)
          obtain ⟨b1, o1, rfl, e0, e1, e2, hwd⟩ := Nds.get HX9.out HRt.out
          have HWd := Lib.hid hwd
          have k0 : ((n1 : Int) == 0) = false := by simp; omega
          have k1 : IntKind.i64.wrap ((n1 : Int) - 1) = ((n1 - 1 : Nat) : Int) := by rw [IntKind.wrap_i64]; omega
          have k2 : ((n1 - 1 : Nat) : Int) < (n1 : Int) := by omega
          have k3 : IntKind.i64.wrap ((q : Int) + 1) = (q : Int) + 1 := by rw [IntKind.wrap_i64]; omega
          have HAs3 : Hid ((A ++ [t.root]).map Nd.sem = L.map Nd.sem) := Lib.hid (by rw [List.map_append, HAs.out, HFl.out]; rfl)
          have hrl : t.root.l.length ≤ 10 := HT.out _ (List.mem_of_getElem? HRt.out)
          have HAt3 : Hid (thinN 100000 (A ++ [t.root])) := Lib.hid (fun y hy => by
            rcases List.mem_append.1 hy with h9 | h9
            · exact Nat.le_trans (HAt.out y h9) (by omega)
            · rw [List.mem_singleton.1 h9]; omega)
          have HTt : Hid (thinN 100000 L) := Lib.hid (fun y hy => Nat.le_trans (HT.out y hy) (by omega))
          have har : (k : Int) = tAr t.root.op := by rw [← HAr.out, HTl.out]
          have HAr2 := Lib.hid har
          have HAq := Lib.hid fun w => S.arity t.root.op w
          rw [← har] at HAq
          have HSm := Lib.hid fun w a9 n9 c9 (h : Nds w a9 n9 c9 (A ++ [t.root])) (h2 : Nds w (some ⟨b1, o1, none⟩) n1 c1 L) (h3 : n9 ≤ 100000) => S.same a9 n9 c9 (A ++ [t.root]) (some ⟨b1, o1, none⟩) n1 c1 L w h h2 h3 (by omega) HAt3.out HTt.out
          have hdc : decide ((A ++ [t.root]).map Nd.sem = L.map Nd.sem) = true := decide_eq_true HAs3.out
          rw [hdc] at HSm
          have hwb := HV.out.size
          clear htk hq2 HQ HAs hwd har hdc HE HRt HFl HLn HTl HAr HAr2 hrl HAt3 HTt HAs3 HT HAt HKb
          generalize t.root = y at *
          obtain ⟨yo, yi, ya, yn, yc, yl⟩ := y
          dsimp only at e0 e1 e2 HWd HAq
          have HMa := Lib.hid (Kin.Mine.later HM.out (below_then (below_alloc wr (.cells #[.int .i64 yo, .int .i64 yi, .slice ya yn yc] 55)) (below_alloc _ (.cells #[.int .i64 yo, .int .i64 yi, .slice ya yn yc] 55))))
          have HXa := Lib.hid (Kin.All.later HX9.out (below_then (below_alloc wr (.cells #[.int .i64 yo, .int .i64 yi, .slice ya yn yc] 55)) (below_alloc _ (.cells #[.int .i64 yo, .int .i64 yi, .slice ya yn yc] 55))))
          have HVa := Lib.hid (below_then HV.out (below_then (below_alloc wr (.cells #[.int .i64 yo, .int .i64 yi, .slice ya yn yc] 55)) (below_alloc _ (.cells #[.int .i64 yo, .int .i64 yi, .slice ya yn yc] 55))))
          have HWa := Lib.hid (Wd.later HWd.out (below_then (below_alloc wr (.cells #[.int .i64 yo, .int .i64 yi, .slice ya yn yc] 55)) (below_alloc _ (.cells #[.int .i64 yo, .int .i64 yi, .slice ya yn yc] 55))))
          have HRa := Lib.hid (blk_later (blk_new wr #[.int .i64 yo, .int .i64 yi, .slice ya yn yc] 55) (below_alloc _ (.cells #[.int .i64 yo, .int .i64 yi, .slice ya yn yc] 55)))
          have HNw := Lib.hid (nd_news (wr.alloc (.cells #[.int .i64 yo, .int .i64 yi, .slice ya yn yc] 55)) ⟨yo, yi, ya, yn, yc, yl⟩ 55)
          have hMb := fun g (hg : Value.ownBlock _ = some g) => Kin.Mine.base HM.out g hg
          have hMl := fun g (hg : Value.ownBlock _ = some g) => Cls.Own.lt HM.out.1 g hg
          rw [blk_size] at HNw
          clear HM HX9 HV HWd
          go_wp2_with (at_builtin; refine Kin.wpList_append hA rfl _ _ rfl wn.heap.size _ A rfl HMa.out ⟨wr.heap.size + 1, 0, none⟩ 1 1 [⟨yo, yi, ya, yn, yc, yl⟩] rfl rfl HNw.out (fun z hz => by rw [List.mem_singleton.1 hz]; exact HWa.out) (by unfold maxLen; omega) (by show (A.length + 1) * 40 ≤ _; omega) (by simp; omega) ?_)
          intro v' w5 hrow hgrow hnew
          have HV5 : Hid (Below wn.heap.size wn w5) := Lib.hid (HVa.out.grown hgrow (by simp; omega) hMb)
          have HR5 := Lib.hid (blk_stays HRa.out hgrow (fun g hg => by have := hMl g hg; omega))
          obtain ⟨a9, c9, rfl, h9⟩ := hrow.slice
          have HN5 := Lib.hid h9
          have HX5 := Lib.hid (Kin.All.later HX.out HV5.out)
          have hl9 : (A ++ [(⟨yo, yi, ya, yn, yc, yl⟩ : Nd)]).length ≤ 100000 := by simp; omega
          generalize (A ++ [(⟨yo, yi, ya, yn, yc, yl⟩ : Nd)]).length = n9 at *
          clear hrow hgrow hnew h9 HMa HXa HVa HWa HRa HNw hMb hMl
          go_wp2_with fail
          refine (HSm.out _ a9 n9 c9 HN5.out HX5.out hl9).mono ?_
          rintro e9 w6 ⟨rfl, b⟩
          have HV6 := Lib.hid (below_then HV5.out b)
          have HX6 := Lib.hid (Kin.All.later HX5.out b)
          have HR6 := Lib.hid (blk_later HR5.out b)
          clear b HN5 HV5 HX5 HR5
          go_wp2_with fail
          refine (hDx.out _ HX6.out).mono ?_
          rintro e9 w7 ⟨rfl, b⟩
          have HV7 := Lib.hid (below_then HV6.out b)
          have HR7 := Lib.hid (blk_later HR6.out b)
          obtain ⟨r0, r1, r2⟩ := nd_cells3 HR7.out
          clear b HV6 HX6 HR6
          go_wp2_with fail
          refine (HAq.out _).mono ?_
          rintro e9 w8 ⟨rfl, b⟩
          have HV8 := Lib.hid (below_then HV7.out b)
          clear b r0 r1 r2
          go_wp2_with fail
          refine (HW.out _).mono ?_
          rintro e9 w9 ⟨rfl, b⟩
          go_wp2
          go_ret
          exact ⟨rfl, below_then HB.out (below_then HV8.out b)⟩
    · have hdn : tDepth (L.map Nd.op) = 0 := tDepth_none (by omega)
      have hDx := Lib.hid fun w (h : Nds w a1 n1 c1 L) => S.depth a1 n1 c1 L w h (by omega)
      rw [hdn] at hDx
      go_wp2_with fail
      refine (S.parts_no a1 n1 c1 L _ HX.out (by omega) (by omega)).mono ?_
      rintro e9 wn ⟨a2, n2, c2, K, rfl, h2, hK, -, b⟩
      replace HB := Lib.hid (below_then HB.out b)
      replace HL := Lib.hid (Kin.All.later HL.out b)
      replace HX := Lib.hid (Kin.All.later HX.out b)
      clear h2 hK
      clear b
      go_wp2_with fail
      refine (hDx.out _ HX.out).mono ?_
      rintro e9 wn ⟨rfl, b⟩
      replace HB := Lib.hid (below_then HB.out b)
      replace HL := Lib.hid (Kin.All.later HL.out b)
      replace HX := Lib.hid (Kin.All.later HX.out b)
      clear b
      go_wp2_with fail
      refine (HW.out _).mono ?_
      rintro e9 wn ⟨rfl, b⟩
      replace HB := Lib.hid (below_then HB.out b)
      go_wp2
      go_ret
      exact ⟨rfl, HB.out⟩
  · clear hr
    go_wp2_with fail
    refine (HW.out _).mono ?_
    rintro e9 wn ⟨rfl, b⟩
    replace HB := Lib.hid (below_then HB.out b)
    go_wp2
    go_ret
    exact ⟨rfl, HB.out⟩
end Go.Proofs.Ytdhfnlpolelcpaa
