/-
  The walks of the laws of layer 17: TreeBuilt.
-/
import Derived.Test.YtdhfnlpolelcpaaLaw17Walks3
namespace Go.Proofs.Ytdhfnlpolelcpaa
open Go.RowKit

/-- A row of one's own that was written out empty. -/
theorem Kin.Mine.empty {α : Type} {K : Kin α} (w : World) (e : TypeId) : K.Mine (w.alloc (.cells #[] e)) w.heap.size e (.slice (some ⟨w.heap.size, 0, none⟩) 0 0) [] :=
  ⟨⟨⟨by simp, .inr ⟨w.heap.size, 0, #[], rfl, Nat.le_refl _, blk_new w #[] e, Nat.le_refl _, by decide, by simp, by simp⟩⟩, only_block (blk_new w #[] e) (fun u hu => by simp at hu)⟩, fun x hx => by cases hx⟩
theorem wrong_both {t u : Ex Nd} (ht : t.ok Nd.op) (hu : u.ok Nd.op) : tWrong ((t.flat ++ u.flat).map Nd.op) = ((t.flat ++ u.flat).length : Int) := by
  unfold tWrong
  rw [List.map_append, Ex.go_flat Nd.op t _ 0 0 ht]
  have h := Ex.go_flat Nd.op u [] (0 + t.flat.length) (0 + 1) hu
  rw [List.append_nil] at h
  rw [h]
  simp [tGo]
def ndPow (i : Int) : Nd := ⟨11, i, none, 0, 0, []⟩
theorem exBin_ok {t u : Ex Nd} (ht : t.ok Nd.op) (hu : u.ok Nd.op) : (Ex.two t u (ndOp 8)).ok Nd.op := ⟨ht, hu, by show tAr 8 = 2; decide⟩
theorem exPow_ok {t : Ex Nd} (ht : t.ok Nd.op) (i : Int) : (Ex.one t (ndPow i)).ok Nd.op := ⟨ht, by show tAr 11 = 1; decide⟩
set_option maxRecDepth 4096 in
set_option maxHeartbeats 16000000 in
theorem law17_built (S : TreeSaid) (a0 : Option Addr) (n0 c0 : Nat) (L : List Nd) (a1 : Option Addr) (n1 c1 : Nat) (M : List Nd) (i : Int) (w : World) (h0 : Nds w a0 n0 c0 L) (h1 : Nds w a1 n1 c1 M) : Calls Try.prog 6 #[.slice a0 n0 c0, .slice a1 n1 c1, .int .i64 i] w (Gives (.bool true) w) := by
  have hA := nd_at Try.underlying25 infoTo17
  have HW := Lib.hid fun w => law17_works S w
  have HL := Lib.hid h0
  have HM := Lib.hid h1
  have HLl := Lib.hid h0.len
  have HMl := Lib.hid h1.len
  have hbd := h0.bound
  have hbd1 := h1.bound
  have HB : Hid (Below w.heap.size w w) := Lib.hid (Below.refl _ _)
  have HLg := Lib.hid (ref17_long a0 n0 c0 L 50 10 w h0 (by omega))
  have HMg := Lib.hid (ref17_long a1 n1 c1 M 50 10 w h1 (by omega))
  have HLw := Lib.hid (ref17_wrong a0 n0 c0 L w h0)
  have HMw := Lib.hid (ref17_wrong a1 n1 c1 M w h1)
  clear h0 h1
  go_enter Try.func6, Try.ntmps6
  go_wp2_with fail
  refine HLg.out.mono ?_
  rintro e9 wn ⟨r, rfl, rfl, hr⟩
  cases r
  · obtain ⟨hn, ht⟩ := hr rfl
    have HT := Lib.hid ht
    clear hr ht HLg
    go_wp2_with fail
    refine HMg.out.mono ?_
    rintro e9 wn ⟨r, rfl, rfl, hr⟩
    cases r
    · obtain ⟨hm, hu⟩ := hr rfl
      have HU := Lib.hid hu
      clear hr hu HMg
      by_cases hz : tWrong (L.map Nd.op) < 0
      · obtain ⟨t, hto, htf⟩ := Ex.of_wrong Nd.op (L := L) hz
        obtain ⟨z, hzz⟩ : ∃ z, tWrong (L.map Nd.op) = z := ⟨_, rfl⟩
        rw [hzz] at HLw hz
        have k0 : ¬ (0 : Int) ≤ z := by omega
        have k0' : decide ((0 : Int) ≤ z) = false := decide_eq_false k0
        clear hzz hz
        by_cases hy : tWrong (M.map Nd.op) < 0
        · obtain ⟨u, huo, huf⟩ := Ex.of_wrong Nd.op (L := M) hy
          obtain ⟨y, hyy⟩ : ∃ y, tWrong (M.map Nd.op) = y := ⟨_, rfl⟩
          rw [hyy] at HMw hy
          have k1 : ¬ (0 : Int) ≤ y := by omega
          have k1' : decide ((0 : Int) ≤ y) = false := decide_eq_false k1
          clear hyy hy
          subst htf huf
          have hp1 := t.flat_pos
          have hp2 := u.flat_pos
          go_wp2_with fail
          refine HLw.out.mono ?_
          rintro e9 wn ⟨rfl, rfl⟩
          go_wp2_with fail
          refine HMw.out.mono ?_
          rintro e9 wn ⟨rfl, rfl⟩
          clear HLw HMw
          go_wp2_with fail
          refine (law17_to a0 n0 c0 t.flat _ HL.out (by omega)).mono ?_
          rintro e9 wn ⟨a2, n2, c2, rfl, hx, b⟩
          replace HB := Lib.hid (below_then HB.out b)
          replace HM := Lib.hid (Kin.All.later HM.out b)
          have HX := Lib.hid hx
          obtain rfl : n2 = n0 := hx.len.symm.trans HLl.out
          have hbd2 := hx.bound
          clear hx
          clear b
          go_wp2_with fail
          refine (law17_to a1 n1 c1 u.flat _ HM.out (by omega)).mono ?_
          rintro e9 wn ⟨a3, n3, c3, rfl, hx, b⟩
          replace HB := Lib.hid (below_then HB.out b)
          replace HX := Lib.hid (Kin.All.later HX.out b)
          have HY := Lib.hid hx
          obtain rfl : n3 = n1 := hx.len.symm.trans HMl.out
          have hbd3 := hx.bound
          clear hx HL HM
          clear b
          rw [HLl.out] at hp1
          rw [HMl.out] at hp2
          obtain ⟨b2, o2, e2, _⟩ := HX.out.1.at (by omega)
          obtain ⟨b3, o3, e3, _⟩ := HY.out.1.at (by omega)
          subst e2 e3
          have HTt : Hid (thinN 100000 t.flat) := Lib.hid (fun q hq => Nat.le_trans (HT.out q hq) (by omega))
          have HTu : Hid (thinN 100000 u.flat) := Lib.hid (fun q hq => Nat.le_trans (HU.out q hq) (by omega))
          go_wp2_with (at_builtin; refine Kin.wpList_append hA rfl _ _ rfl wn.heap.size _ [] rfl (Kin.Mine.empty wn 55) ⟨b2, o2, none⟩ n2 c2 t.flat rfl (HLl.out) (Kin.All.later HX.out (below_alloc wn (.cells #[] 55))).1.news (Kin.All.later HX.out (below_alloc wn (.cells #[] 55))).2 (by unfold maxLen; simp; omega) (by show (0 + n2) * 40 ≤ _; omega) (by simp) ?_)
          intro v5 w5 hrow hgrow hnew
          have HM5 := Lib.hid hrow
          have HV5 : Hid (Below wn.heap.size wn w5) := Lib.hid ((below_alloc wn (.cells #[] 55)).grown hgrow (by simp) (fun g hg => by simp [Value.ownBlock] at hg; omega))
          clear hrow hgrow hnew
          
          have HZ5 := Lib.hid (Kin.All.later HY.out HV5.out)
          have hsz5 := HV5.out.size
          go_wp2_with (at_builtin; refine Kin.wpList_append hA rfl _ _ rfl wn.heap.size _ t.flat rfl HM5.out ⟨b3, o3, none⟩ n3 c3 u.flat rfl (HMl.out) HZ5.out.1.news HZ5.out.2 (by unfold maxLen; rw [HLl.out]; omega) (by show (t.flat.length + n3) * 40 ≤ _; rw [HLl.out]; omega) hsz5 ?_)
          intro v6 w6 hrow hgrow hnew
          have HV6 : Hid (Below wn.heap.size wn w6) := Lib.hid (HV5.out.grown hgrow hsz5 (fun g hg => Kin.Mine.base HM5.out g hg))
          obtain ⟨a7, c7, rfl, hz7⟩ := hrow.slice
          obtain ⟨ln7, hln7⟩ : ∃ l, (t.flat ++ u.flat).length = l := ⟨_, rfl⟩
          rw [hln7] at hz7 ⊢
          have HN7 := Lib.hid hln7
          clear hln7
          have HBo := Lib.hid hz7
          have hl7 := hz7.bound
          replace HB := Lib.hid (below_then HB.out HV6.out)
          replace HX := Lib.hid (Kin.All.later HX.out HV6.out)
          replace HY := Lib.hid (Kin.All.later HY.out HV6.out)
          clear hrow hgrow hnew hz7 HM5 HV5 HV6 hsz5 HZ5
          have hlb2 : ln7 ≤ 100 := by rw [← HN7.out, List.length_append, HLl.out, HMl.out]; omega
          have hpb : 0 < ln7 := by rw [← HN7.out, List.length_append, HLl.out, HMl.out]; omega
          obtain ⟨b7, o7, e7, _⟩ := HBo.out.1.at hpb
          subst e7
          have HTb : Hid (thinN 100000 (t.flat ++ u.flat)) := Lib.hid (fun q hq => (List.mem_append.1 hq).elim (HTt.out q) (HTu.out q))
          clear hpb
          go_wp2_with (at_builtin; refine Kin.wpList_append hA rfl _ _ rfl w6.heap.size _ [] rfl (Kin.Mine.empty w6 55) ⟨b7, o7, none⟩ ln7 c7 (t.flat ++ u.flat) rfl (HN7.out) (Kin.All.later HBo.out (below_alloc w6 (.cells #[] 55))).1.news (Kin.All.later HBo.out (below_alloc w6 (.cells #[] 55))).2 (by unfold maxLen; simp; omega) (by show (0 + ln7) * 40 ≤ _; omega) (by simp) ?_)
          intro vq5 wq5 hrow hgrow hnew
          have HM5 := Lib.hid hrow
          have HV5 : Hid (Below w6.heap.size w6 wq5) := Lib.hid ((below_alloc w6 (.cells #[] 55)).grown hgrow (by simp) (fun g hg => by simp [Value.ownBlock] at hg; omega))
          clear hrow hgrow hnew
          
          have hsz5 := HV5.out.size
          have HM6 := Lib.hid (Kin.Mine.later HM5.out (below_alloc wq5 (.cells #[.int .i64 8, .int .i64 0, .slice none 0 0] 55)))
          have HV5b := Lib.hid (below_then HV5.out (below_alloc wq5 (.cells #[.int .i64 8, .int .i64 0, .slice none 0 0] 55)))
          go_wp2_with (at_builtin; refine Kin.wpList_append hA rfl _ _ rfl w6.heap.size _ (t.flat ++ u.flat) rfl HM6.out ⟨wq5.heap.size, 0, none⟩ 1 1 [(ndOp 8)] rfl rfl (nd_news wq5 (ndOp 8) 55) (fun z hz => by rw [List.mem_singleton.1 hz]; exact Wd.ofNil _) (by unfold maxLen; rw [HN7.out]; omega) (by show ((t.flat ++ u.flat).length + 1) * 40 ≤ _; rw [HN7.out]; omega) (by simp; omega) ?_)
          intro vq6 wq6 hrow hgrow hnew
          have HV6 : Hid (Below w6.heap.size w6 wq6) := Lib.hid (HV5b.out.grown hgrow (by simp; omega) (fun g hg => Kin.Mine.base HM6.out g hg))
          clear HM6 HV5b
          obtain ⟨a8, c8, rfl, hz8⟩ := hrow.slice
          obtain ⟨ln8, hln8⟩ : ∃ l, (t.flat ++ (u.flat ++ [ndOp 8])).length = l := ⟨_, rfl⟩
          rw [hln8] at hz8 ⊢
          have HN8 := Lib.hid hln8
          clear hln8
          have HSu := Lib.hid hz8
          have hl8 := hz8.bound
          replace HB := Lib.hid (below_then HB.out HV6.out)
          replace HX := Lib.hid (Kin.All.later HX.out HV6.out)
          replace HY := Lib.hid (Kin.All.later HY.out HV6.out)
          replace HBo := Lib.hid (Kin.All.later HBo.out HV6.out)
          clear hrow hgrow hnew hz8 HM5 HV5 HV6 hsz5
          rw [← List.append_assoc] at HSu HN8
          go_wp2_with (at_builtin; refine Kin.wpList_append hA rfl _ _ rfl wq6.heap.size _ [] rfl (Kin.Mine.empty wq6 55) ⟨b2, o2, none⟩ n2 c2 t.flat rfl (HLl.out) (Kin.All.later HX.out (below_alloc wq6 (.cells #[] 55))).1.news (Kin.All.later HX.out (below_alloc wq6 (.cells #[] 55))).2 (by unfold maxLen; simp; omega) (by show (0 + n2) * 40 ≤ _; omega) (by simp) ?_)
          intro vp5 wp5 hrow hgrow hnew
          have HM5 := Lib.hid hrow
          have HV5 : Hid (Below wq6.heap.size wq6 wp5) := Lib.hid ((below_alloc wq6 (.cells #[] 55)).grown hgrow (by simp) (fun g hg => by simp [Value.ownBlock] at hg; omega))
          clear hrow hgrow hnew
          
          have hsz5 := HV5.out.size
          have HM6 := Lib.hid (Kin.Mine.later HM5.out (below_alloc wp5 (.cells #[.int .i64 11, .int .i64 i, .slice none 0 0] 55)))
          have HV5b := Lib.hid (below_then HV5.out (below_alloc wp5 (.cells #[.int .i64 11, .int .i64 i, .slice none 0 0] 55)))
          go_wp2_with (at_builtin; refine Kin.wpList_append hA rfl _ _ rfl wq6.heap.size _ t.flat rfl HM6.out ⟨wp5.heap.size, 0, none⟩ 1 1 [(ndPow i)] rfl rfl (nd_news wp5 (ndPow i) 55) (fun z hz => by rw [List.mem_singleton.1 hz]; exact Wd.ofNil _) (by unfold maxLen; rw [HLl.out]; omega) (by show (t.flat.length + 1) * 40 ≤ _; rw [HLl.out]; omega) (by simp; omega) ?_)
          intro vp6 wp6 hrow hgrow hnew
          have HV6 : Hid (Below wq6.heap.size wq6 wp6) := Lib.hid (HV5b.out.grown hgrow (by simp; omega) (fun g hg => Kin.Mine.base HM6.out g hg))
          clear HM6 HV5b
          obtain ⟨a9, c9, rfl, hz9⟩ := hrow.slice
          obtain ⟨ln9, hln9⟩ : ∃ l, (t.flat ++ [(ndPow i)]).length = l := ⟨_, rfl⟩
          rw [hln9] at hz9 ⊢
          have HN9 := Lib.hid hln9
          clear hln9
          have HPo := Lib.hid hz9
          have hl9 := hz9.bound
          replace HB := Lib.hid (below_then HB.out HV6.out)
          replace HX := Lib.hid (Kin.All.later HX.out HV6.out)
          replace HY := Lib.hid (Kin.All.later HY.out HV6.out)
          replace HBo := Lib.hid (Kin.All.later HBo.out HV6.out)
          replace HSu := Lib.hid (Kin.All.later HSu.out HV6.out)
          clear hrow hgrow hnew hz9 HM5 HV5 HV6 hsz5
          have hls : ln8 ≤ 100000 := by rw [← HN8.out, List.length_append, HN7.out]; simp; omega
          have hlp : ln9 ≤ 100000 := by rw [← HN9.out, List.length_append, HLl.out]; simp; omega
          have HTs : Hid (thinN 10 (t.flat ++ u.flat ++ [ndOp 8])) := Lib.hid (fun q hq => by
            rcases List.mem_append.1 hq with h9 | h9
            · exact (List.mem_append.1 h9).elim (HT.out q) (HU.out q)
            · rw [List.mem_singleton.1 h9]; exact Nat.zero_le _)
          have HTp : Hid (thinN 10 (t.flat ++ [ndPow i])) := Lib.hid (fun q hq => by
            rcases List.mem_append.1 hq with h9 | h9
            · exact HT.out q h9
            · rw [List.mem_singleton.1 h9]; exact Nat.zero_le _)
          go_wp2_with fail
          refine (S.parts a8 ln8 c8 _ 10 _ HSu.out hls HTs.out (by omega) (.two t u (ndOp 8)) (exBin_ok hto huo) rfl).mono ?_
          rintro e9 wn ⟨a4, n4, c4, K, rfl, h2, hK, hKb, b⟩
          replace HB := Lib.hid (below_then HB.out b)
          replace HX := Lib.hid (Kin.All.later HX.out b)
          replace HY := Lib.hid (Kin.All.later HY.out b)
          replace HBo := Lib.hid (Kin.All.later HBo.out b)
          replace HSu := Lib.hid (Kin.All.later HSu.out b)
          replace HPo := Lib.hid (Kin.All.later HPo.out b)
          have HP := Lib.hid h2
          obtain rfl : n4 = 2 := by rw [← h2.len, ← List.length_map Sn.sem, hK]; rfl
          have hbd4 := h2.bound
          have HK := Lib.hid hK
          have HKb := Lib.hid hKb
          clear h2 hK hKb
          clear b
          go_wp2_with fail
          refine (S.parts a9 ln9 c9 _ 10 _ HPo.out hlp HTp.out (by omega) (.one t (ndPow i)) (exPow_ok hto i) rfl).mono ?_
          rintro e9 wn ⟨a5, n5, c5, K5, rfl, h2, hK, hKb, b⟩
          replace HB := Lib.hid (below_then HB.out b)
          replace HX := Lib.hid (Kin.All.later HX.out b)
          replace HY := Lib.hid (Kin.All.later HY.out b)
          replace HBo := Lib.hid (Kin.All.later HBo.out b)
          replace HSu := Lib.hid (Kin.All.later HSu.out b)
          replace HPo := Lib.hid (Kin.All.later HPo.out b)
          replace HP := Lib.hid (Kin.All.later HP.out b)
          have HQ := Lib.hid h2
          obtain rfl : n5 = 1 := by rw [← h2.len, ← List.length_map Sn.sem, hK]; rfl
          have hbd5 := h2.bound
          have HK5 := Lib.hid hK
          have HKb5 := Lib.hid hKb
          clear h2 hK hKb HTs HTp HSu HPo
          clear b
          obtain ⟨x0, hx0⟩ := at_some (L := K) (n := 2) (k := 0) HP.out.len (by omega)
          obtain ⟨x1, hx1⟩ := at_some (L := K) (n := 2) (k := 1) HP.out.len (by omega)
          obtain ⟨y0, hy0⟩ := at_some (L := K5) (n := 1) (k := 0) HQ.out.len (by omega)
          have HX0 := Lib.hid hx0
          have HX1 := Lib.hid hx1
          have HY0 := Lib.hid hy0
          have hs0 : x0.L.map Nd.sem = t.flat.map Nd.sem := by
            have h9 := congrArg (fun l => l[0]?) HK.out
            simp only [List.getElem?_map, hx0] at h9
            simpa [Ex.kids, Sn.sem] using h9
          have hs1 : x1.L.map Nd.sem = u.flat.map Nd.sem := by
            have h9 := congrArg (fun l => l[1]?) HK.out
            simp only [List.getElem?_map, hx1] at h9
            simpa [Ex.kids, Sn.sem] using h9
          have hs2 : y0.L.map Nd.sem = t.flat.map Nd.sem := by
            have h9 := congrArg (fun l => l[0]?) HK5.out
            simp only [List.getElem?_map, hy0] at h9
            simpa [Ex.kids, Sn.sem] using h9
          have hb0 := HKb.out x0 (List.mem_of_getElem? hx0)
          have hb1 := HKb.out x1 (List.mem_of_getElem? hx1)
          have hb2 := HKb5.out y0 (List.mem_of_getElem? hy0)
          have HS0 := Lib.hid fun w b o (h : Sns w (some ⟨b, o, none⟩) 2 c4 K) (h2 : Nds w (some ⟨b2, o2, none⟩) n2 c2 t.flat) => S.same x0.a x0.n x0.c x0.L (some ⟨b2, o2, none⟩) n2 c2 t.flat w (sn_cells h HX0.out rfl).2 h2 (Nat.le_trans hb0.1 hls) (by omega) (fun q hq => Nat.le_trans (hb0.2 q hq) (by omega)) HTt.out
          have HS1 := Lib.hid fun w b o (h : Sns w (some ⟨b, o, none⟩) 2 c4 K) (h2 : Nds w (some ⟨b3, o3, none⟩) n3 c3 u.flat) => S.same x1.a x1.n x1.c x1.L (some ⟨b3, o3, none⟩) n3 c3 u.flat w (sn_cells h HX1.out rfl).2 h2 (Nat.le_trans hb1.1 hls) (by omega) (fun q hq => Nat.le_trans (hb1.2 q hq) (by omega)) HTu.out
          have HS2 := Lib.hid fun w b o (h : Sns w (some ⟨b, o, none⟩) 1 c5 K5) (h2 : Nds w (some ⟨b2, o2, none⟩) n2 c2 t.flat) => S.same y0.a y0.n y0.c y0.L (some ⟨b2, o2, none⟩) n2 c2 t.flat w (sn_cells h HY0.out rfl).2 h2 (Nat.le_trans hb2.1 hlp) (by omega) (fun q hq => Nat.le_trans (hb2.2 q hq) (by omega)) HTt.out
          have hd0 : decide (x0.L.map Nd.sem = t.flat.map Nd.sem) = true := decide_eq_true hs0
          have hd1 : decide (x1.L.map Nd.sem = u.flat.map Nd.sem) = true := decide_eq_true hs1
          have hd2 : decide (y0.L.map Nd.sem = t.flat.map Nd.sem) = true := decide_eq_true hs2
          rw [hd0] at HS0
          rw [hd1] at HS1
          rw [hd2] at HS2
          have HWb := Lib.hid fun w (h : Nds w (some ⟨b7, o7, none⟩) ln7 c7 (t.flat ++ u.flat)) => S.wrong (some ⟨b7, o7, none⟩) ln7 c7 (t.flat ++ u.flat) w h (by omega)
          rw [wrong_both hto huo, HN7.out] at HWb
          obtain ⟨b4, o4, e4, _⟩ := HP.out.1.at (by omega)
          obtain ⟨b5, o5, e5, _⟩ := HQ.out.1.at (by omega)
          subst e4 e5
          clear hx0 hx1 hy0 hs0 hs1 hs2 hb0 hb1 hb2 hd0 hd1 hd2 HK HKb HK5 HKb5 HT HU HTb hls hlp hto huo
          go_wp2_with fail
          refine (HWb.out _ HBo.out).mono ?_
          rintro e9 wn ⟨rfl, b⟩
          replace HB := Lib.hid (below_then HB.out b)
          replace HX := Lib.hid (Kin.All.later HX.out b)
          replace HY := Lib.hid (Kin.All.later HY.out b)
          replace HP := Lib.hid (Kin.All.later HP.out b)
          replace HQ := Lib.hid (Kin.All.later HQ.out b)
          clear HBo HWb
          clear b
          have f0 := (sn_cells HP.out HX0.out rfl).1
          rw [Nat.add_zero] at f0
          go_wp2_with fail
          refine (HS0.out _ b4 o4 HP.out HX.out).mono ?_
          rintro e9 wn ⟨rfl, b⟩
          replace HB := Lib.hid (below_then HB.out b)
          replace HX := Lib.hid (Kin.All.later HX.out b)
          replace HY := Lib.hid (Kin.All.later HY.out b)
          replace HP := Lib.hid (Kin.All.later HP.out b)
          replace HQ := Lib.hid (Kin.All.later HQ.out b)
          clear HS0 f0
          clear b
          have f1 := (sn_cells HP.out HX1.out rfl).1
          go_wp2_with fail
          refine (HS1.out _ b4 o4 HP.out HY.out).mono ?_
          rintro e9 wn ⟨rfl, b⟩
          replace HB := Lib.hid (below_then HB.out b)
          replace HX := Lib.hid (Kin.All.later HX.out b)
          replace HY := Lib.hid (Kin.All.later HY.out b)
          replace HP := Lib.hid (Kin.All.later HP.out b)
          replace HQ := Lib.hid (Kin.All.later HQ.out b)
          clear HS1 f1
          clear b
          have f2 := (sn_cells HQ.out HY0.out rfl).1
          rw [Nat.add_zero] at f2
          go_wp2_with fail
          refine (HS2.out _ b5 o5 HQ.out HX.out).mono ?_
          rintro e9 wn ⟨rfl, b⟩
          replace HB := Lib.hid (below_then HB.out b)
          replace HX := Lib.hid (Kin.All.later HX.out b)
          replace HY := Lib.hid (Kin.All.later HY.out b)
          replace HP := Lib.hid (Kin.All.later HP.out b)
          replace HQ := Lib.hid (Kin.All.later HQ.out b)
          clear HS2 f2
          clear b
          go_wp2_with fail
          refine (HW.out _).mono ?_
          rintro e9 wn ⟨rfl, b⟩
          replace HB := Lib.hid (below_then HB.out b)
          go_wp2
          go_ret
          exact ⟨rfl, HB.out⟩
        · generalize tWrong (M.map Nd.op) = y at *
          have k1 : (0 : Int) ≤ y := by omega
          have k1' : decide ((0 : Int) ≤ y) = true := decide_eq_true k1
          clear hy
          go_wp2_with fail
          refine HLw.out.mono ?_
          rintro e9 wn ⟨rfl, rfl⟩
          go_wp2_with fail
          refine HMw.out.mono ?_
          rintro e9 wn ⟨rfl, rfl⟩
          go_wp2_with fail
          refine (HW.out _).mono ?_
          rintro e9 wn ⟨rfl, b⟩
          replace HB := Lib.hid (below_then HB.out b)
          go_wp2
          go_ret
          exact ⟨rfl, HB.out⟩
      · generalize tWrong (L.map Nd.op) = z at *
        have k0 : (0 : Int) ≤ z := by omega
        have k0' : decide ((0 : Int) ≤ z) = true := decide_eq_true k0
        clear hz
        go_wp2_with fail
        refine HLw.out.mono ?_
        rintro e9 wn ⟨rfl, rfl⟩
        go_wp2_with fail
        refine (HW.out _).mono ?_
        rintro e9 wn ⟨rfl, b⟩
        replace HB := Lib.hid (below_then HB.out b)
        go_wp2
        go_ret
        exact ⟨rfl, HB.out⟩
    · clear hr
      go_wp2_with fail
      refine (HW.out _).mono ?_
      rintro e9 wn ⟨rfl, b⟩
      replace HB := Lib.hid (below_then HB.out b)
      go_wp2
      go_ret
      exact ⟨rfl, HB.out⟩
  · clear hr
    go_wp2_with fail
    refine (HW.out _).mono ?_
    rintro e9 wn ⟨rfl, b⟩
    replace HB := Lib.hid (below_then HB.out b)
    go_wp2
    go_ret
    exact ⟨rfl, HB.out⟩
end Go.Proofs.Ytdhfnlpolelcpaa
