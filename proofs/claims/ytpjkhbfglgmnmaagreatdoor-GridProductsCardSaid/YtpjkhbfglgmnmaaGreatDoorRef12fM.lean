/-
  The document's answer of layer 12: Turn, Left.
-/
import Derived.Test.YtpjkhbfglgmnmaaGreatDoorRef12bM
import Derived.Test.YtpjkhbfglgmnmaaGreatDoorRef12dM
namespace Go.Proofs.YtpjkhbfglgmnmaaGreatDoor
open Go.RowKit

theorem gturn_getD {w i : Nat} {m : List (List Rat)} (h : i < w) : (gturn w m).getD i [] = gcol m i := by
  unfold gturn
  rw [List.getD_eq_getElem?_getD, List.getElem?_map, List.getElem?_range h]; rfl
theorem gturn_length (w : Nat) (m : List (List Rat)) : (gturn w m).length = w := by unfold gturn; rw [List.length_map, List.length_range]
/-- By the columns. -/
theorem gleft_turn {n w : Nat} {m : List (List Rat)} {r : List Rat} (hm : mat n w m) (hr : r.length = n) : gapply (gturn w m) r = gleft w r m := by
  refine getD_ext (by rw [gapply_length, gturn_length, gleft_length hm]) (fun k hk => ?_)
  rw [gapply_length, gturn_length] at hk
  rw [gapply_at (gturn_mat hm) hr hk, gleft_at hm hr hk]
  refine sumTo_congr fun j hj => ?_
  rw [gturn_ent hm hk hj]; grind
set_option maxRecDepth 4096 in
set_option maxHeartbeats 4000000 in
theorem ref12_turn (a : Option Addr) (n c : Nat) (Q : List (List Rat)) (w : World) (h : Rwss w a n c Q) (hn : n ≤ 1000) (hr : rect Q) (hw9 : gwidth Q ≤ 1000) : Calls Tryz.prog 14 #[.slice a n c] w (LstRws (gturn (gwidth Q) Q) w) := by
  have HK := Lib.hid h
  have HLl := Lib.hid h.len
  have hbd := h.bound
  obtain ⟨wd, hwd⟩ : ∃ wd, gwidth Q = wd := ⟨_, rfl⟩
  have HREC : Hid (∀ r ∈ Q, r.length = wd) := Lib.hid (by rw [← hwd]; exact hr)
  have HW : ∀ w' : World, Rwss w' a n c Q → Calls Tryz.prog 17 #[.slice a n c] w' (Gives (.int .i64 (wd : Int)) w') := fun w' h9 => by
    obtain ⟨LL, h1, h2, _⟩ := h9
    have h3 := ref12_width a n c LL w' h1
    rw [← gwidth_fqs, h2, hwd] at h3
    exact h3
  rw [hwd] at hw9 ⊢
  obtain ⟨T, hT⟩ : ∃ T, gturn wd Q = T := ⟨_, rfl⟩
  have HTL : Hid (T.length = wd) := Lib.hid (by rw [← hT]; exact gturn_length _ _)
  have HTM : Hid (∀ i, i < wd → T.getD i [] = gcol Q i) := Lib.hid (fun i hi => by rw [← hT]; exact gturn_getD hi)
  rw [hT]
  clear h hr hwd hT
  obtain ⟨i1, hi1, hj0, hj1, hj2⟩ := info_one infoD
  obtain ⟨i0, hi, hz0, hz1, hz2⟩ := info_parts infoFrac11
  go_enter Tryz.func14, Tryz.ntmps14
  go_wp2
  go_loopw [3, 4] (fun mv iv wr => ∃ i : Nat, i ≤ wd ∧ iv = .int .i64 (i : Int) ∧ Hid (OwnR wr w.heap.size 39 mv (T.take i)) ∧ Hid (Below w.heap.size w wr) ∧ w.heap.size ≤ wr.heap.size) (fun _ iv _ => wd - (intOf iv).toNat)
  case atStart => exact ⟨0, by omega, rfl, Lib.hid (OwnR.nil _ _ _), Lib.hid (Below.refl _ _), by omega⟩
  case round =>
    obtain ⟨i, hiw, rfl, HO, HB, hsz⟩ := hrel
    go_wp2_with fail
    refine (HW _ (HK.out.later HB.out)).mono ?_
    rintro e w2 ⟨rfl, b2⟩
    have HB2 := Lib.hid (below_then HB.out b2)
    have HO2 := Lib.hid (HO.out.later b2)
    have hsz2 : w.heap.size ≤ w2.heap.size := Nat.le_trans hsz b2.size
    clear b2 HB HO hsz
    by_cases hlt : i < wd
    · have hii : (i : Int) < (wd : Int) := by omega
      have hiT : i < T.length := by rw [HTL.out]; exact hlt
      have HT : Hid (T.take (i + 1) = T.take i ++ [gcol Q i]) := Lib.hid (by rw [ll_next hiT, HTM.out i hlt])
      have hkL : (T.take i).length ≤ 1000000 := by rw [List.length_take]; omega
      obtain ⟨G, hG⟩ : ∃ G, gcol Q i = G := ⟨_, rfl⟩
      have HGL : Hid (G.length = n) := Lib.hid (by rw [← hG, gcol_length]; exact HLl.out)
      have HGE := Lib.hid hG
      rw [hG] at HT
      clear hG
      go_wp2
      go_loopw [5, 6] (fun cv kv wi => ∃ k : Nat, k ≤ n ∧ kv = .int .i64 (k : Int) ∧ Hid (Row wi w2.heap.size 70 cv (G.take k)) ∧ Hid (Below w2.heap.size w2 wi) ∧ w2.heap.size ≤ wi.heap.size) (fun _ kv _ => n - (intOf kv).toNat)
      case atStart => exact ⟨0, by omega, rfl, Lib.hid (Row.nil _ _ _), Lib.hid (Below.refl _ _), by omega⟩
      case round =>
        obtain ⟨k, hk, rfl, HC, HD, hszi⟩ := hrel
        by_cases hkn : k < n
        · have hkG : k < G.length := by rw [HGL.out]; exact hkn
          have HGT0 := q_more hkG
          have hgl : (G.take k).length ≤ 1000000 := by rw [List.length_take]; omega
          have hval : G.getD k 0 = (Q.getD k []).getD i 0 := by rw [← HGE.out]; exact gcol_getD (by rw [HLl.out]; exact hkn)
          obtain ⟨bb, off, hbe, a', n', c', e0, h1⟩ := (HK.out.later (below_then HB2.out HD.out)).at hkn
          have hn' : n' = wd := h1.len.symm.trans (HREC.out _ (ll_getD_mem (by rw [HLl.out]; exact hkn)))
          obtain ⟨b2, off2, hbf, a3, n3, c3, b3, m3, d3, ⟨f0, f1, f2⟩, g1, g2⟩ := h1.at (show i < n' by omega)
          rw [← hval] at f0 g1 g2
          generalize G.getD k 0 = q0 at *
          have HGT := Lib.hid HGT0
          have hbd1 := h1.bound
          have hin : (i : Int) < (n' : Int) := by omega
          have hki : (k : Int) < (n : Int) := by omega
          have ba := below_alloc wr (.cells #[.bool (zneg q0.num), .slice a3 n3 c3, .slice b3 m3 d3] 70)
          have HOa := Lib.hid (HC.out.later ba)
          have HDa := Lib.hid (below_then HD.out ba)
          have HAa := Lib.hid (g1.later ba)
          have HCa := Lib.hid (g2.later ba)
          subst hbe
          subst hbf
          clear h1 hval hn' HGT0 g1 g2 ba HC HD
          go_wp2_with (at_builtin; refine wpList_append_row _ rfl _ _ 39 rfl w2.heap.size 70 i0 Tryz.underlying39 hi hz0 hz1 hz2 _ (G.take k) rfl HOa.out ⟨wr.heap.size, 0, none⟩ q0 a3 n3 c3 b3 m3 d3 rfl (rx_news _ _ _ _ _ _ _ _ _) HAa.out HCa.out hgl (by rw [blk_size]; omega) ?_)
          intro cv5 w5 hrow hgrow hbase hcl
          have HC5 : Hid (Row w5 w2.heap.size 70 cv5 (G.take (k + 1))) := Lib.hid (by rw [HGT.out]; exact hrow)
          have HD5 := Lib.hid (HDa.out.grown hgrow (by rw [blk_size]; omega) hbase)
          have hsz5 : w2.heap.size ≤ w5.heap.size := Nat.le_trans (by rw [blk_size]; omega) hgrow.size
          clear hrow hgrow hbase hcl HOa HDa HAa HCa HGT e0 f0 f1 f2
          go_wp2
          go_roundw
          case rel => exact ⟨k + 1, by omega, by go_num, HC5, HD5, hsz5⟩
          case measure => simp [intOf]; omega
        · obtain rfl : k = n := by omega
          have hG9 : G.take k = G := List.take_of_length_le (by rw [HGL.out]; exact Nat.le_refl _)
          rw [hG9] at HC
          obtain ⟨a8, c8, rfl, h8⟩ := HC.out.out
          rw [HGL.out] at h8 ⊢
          have ba := below_alloc wr (.cells #[.slice a8 k c8] 39)
          have HYa := Lib.hid (h8.later ba)
          have HO3 := Lib.hid ((HO2.out.later HD.out).later ba)
          have HBa := Lib.hid (below_then (below_then HB2.out HD.out) ba)
          have HNEW := Lib.hid (blk_cell (blk_new wr #[.slice a8 k c8] 39) 0)
          clear h8 ba hG9 HC HD HO2 HB2
          go_wp2_with (at_builtin; refine wpList_append_rowR _ rfl _ _ 22 rfl w.heap.size 39 i1 Tryz.underlying22 hi1 hj0 hj1 hj2 _ (T.take i) rfl HO3.out ⟨wr.heap.size, 0, none⟩ a8 k c8 _ rfl HNEW.out rfl HYa.out hkL (by rw [blk_size]; omega) ?_)
          intro mv5 w5 hrow hgrow hbase hcl
          have HO5 : Hid (OwnR w5 w.heap.size 39 mv5 (T.take (i + 1))) := Lib.hid (by rw [HT.out]; exact hrow)
          have HB5 := Lib.hid (HBa.out.grown hgrow (by rw [blk_size]; omega) hbase)
          have hsz5 : w.heap.size ≤ w5.heap.size := Nat.le_trans (by rw [blk_size]; omega) hgrow.size
          clear hrow hgrow hbase hcl HO3 HBa HYa HNEW HT
          go_wp2
          go_roundw
          case rel => exact ⟨i + 1, by omega, by go_num, HO5, HB5, hsz5⟩
          case measure => simp [intOf]; omega
    · obtain rfl : i = wd := by omega
      have hT9 : T.take i = T := List.take_of_length_le (by rw [HTL.out]; exact Nat.le_refl _)
      rw [hT9] at HO2
      obtain ⟨a9, c9, rfl, h9⟩ := HO2.out.out
      rw [HTL.out] at h9 ⊢
      have HF9 := Lib.hid h9
      clear h9 HO2 hT9
      go_wp2
      go_ret
      exact ⟨a9, i, c9, rfl, HF9.out, HB2.out⟩
set_option maxRecDepth 4096 in
set_option maxHeartbeats 4000000 in
theorem ref12_left (a : Option Addr) (n c : Nat) (qs : List Rat) (b : Option Addr) (m d : Nat) (Q : List (List Rat)) (w : World) (h0 : Rw w a n c qs) (h1 : Rwss w b m d Q) (hn : n ≤ 100) (hm : m = n) (hr : rect Q) (hw9 : gwidth Q ≤ 1000) (ht0 : ∀ q ∈ qs, qlen q ≤ 40) (ht1 : ∀ r ∈ Q, ∀ q ∈ r, qlen q ≤ 40) : Calls Tryz.prog 28 #[.slice a n c, .slice b m d] w (LstRw (gleft (gwidth Q) qs Q) w) := by
  subst hm
  have HR := Lib.hid h0
  have HB : Hid (Below w.heap.size w w) := Lib.hid (Below.refl _ _)
  have HT1 : ∀ w' : World, Rwss w' b m d Q → Calls Tryz.prog 14 #[.slice b m d] w' (LstRws (gturn (gwidth Q) Q) w') := fun w' h => ref12_turn b m d Q w' h (by omega) hr hw9
  have hmat : mat m (gwidth Q) Q := by have := hr.mat; rw [h1.len] at this; exact this
  have hlen : qs.length = m := h0.len
  have HA1 : ∀ (w' : World) (a' : Option Addr) (n' c' : Nat), Rwss w' a' n' c' (gturn (gwidth Q) Q) → Rw w' a m c qs → Calls Tryz.prog 29 #[.slice a' n' c', .slice a m c] w' (LstRw (gleft (gwidth Q) qs Q) w') := fun w' a' n' c' k1 k2 => by
    rw [← gleft_turn hmat hlen]
    refine ref12_apply a' n' c' _ a m c qs w' k1 k2 (by have := k1.len; rw [gturn_length] at this; omega) (by omega) (fun r hr' => ?_) ht0
    refine ⟨(gturn_mat hmat).2 r hr', fun q hq => ?_⟩
    unfold gturn at hr'
    obtain ⟨j, hj, rfl⟩ := List.mem_map.1 hr'
    unfold gcol at hq
    obtain ⟨x, hx, rfl⟩ := List.mem_map.1 hq
    exact ht1 x hx _ (q_mem (by have := hmat.2 x hx; have := List.mem_range.1 hj; omega))
  have HM := Lib.hid h1
  clear h0 h1 hr ht0 ht1 hmat hlen
  go_enter Tryz.func28, Tryz.ntmps28
  go_wp2_with fail
  refine (HT1 _ HM.out).mono ?_
  rintro e w2 ⟨a2, n2, c2, rfl, h2, b2⟩
  have HB2 := Lib.hid (below_then HB.out b2)
  have HR2 := Lib.hid (HR.out.later b2)
  have H2 := Lib.hid h2
  clear b2 h2 HR HM
  go_wp2_with fail
  refine (HA1 _ a2 n2 c2 H2.out HR2.out).mono ?_
  rintro e w3 ⟨a3, n3, c3, rfl, h3, b3⟩
  have HB3 := Lib.hid (below_then HB2.out b3)
  have H3 := Lib.hid h3
  clear b3 h3 HR2 H2
  go_wp2
  go_ret
  exact ⟨a3, n3, c3, rfl, H3.out, HB3.out⟩
end Go.Proofs.YtpjkhbfglgmnmaaGreatDoor
