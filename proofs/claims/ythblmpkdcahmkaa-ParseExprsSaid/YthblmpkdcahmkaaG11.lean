/-
  Several texts of this claim as one, group 11.
-/
import Derived.Test.YthblmpkdcahmkaaG10
import Derived.Test.YthblmpkdcahmkaaG3
import Derived.WalkKit
import Derived.BigQuiet
import Derived.StillTailTactics
import Derived.Deep.CutRange
import Derived.Deep.RegionLaw
import Derived.Test.YthblmpkdcahmkaaG5
import Derived.Test.YthblmpkdcahmkaaG7
/-
  The document's answer of layer 16: Scan.
-/
namespace Go.Proofs.Ythblmpkdcahmkaa
open Go.RowKit

theorem infoWord16 : (Try.prog.info? 111).map (fun i => (i.zero, i.size, i.bytes)) = some (some (.agg #[.int .i64 0, .string ⟨#[]⟩, .int .i64 0]), 3, 32) := by kernel_rfl
theorem info_word16 {P : Program} {t : TypeId} (h : (P.info? t).map (fun i => (i.zero, i.size, i.bytes)) = some (some (.agg #[.int .i64 0, .string ⟨#[]⟩, .int .i64 0]), 3, 32)) : ∃ i, P.info? t = some i ∧ i.zero = some (.agg #[.int .i64 0, .string ⟨#[]⟩, .int .i64 0]) ∧ i.size = 3 ∧ i.bytes = 32 := by
  cases hi : P.info? t with
  | none => rw [hi] at h; simp at h
  | some i => rw [hi] at h; simp at h; exact ⟨i, rfl, h⟩
set_option maxRecDepth 4096 in
set_option maxHeartbeats 8000000 in
theorem ref16_scan (l : List UInt8) (w : World) :
    Calls Try.prog 54 #[.string (bs l)] w (LstX (lexScan l) w) := by
  obtain ⟨i0, hi, hz0, hz1, hz2⟩ := info_word16 infoWord16
  have hsz := bs_size l
  have HS0 := Lib.hid hsz
  by_cases hbig : 4000 < l.length
  · have hb : ((l.length : Nat) : Int) > 4000 := by omega
    have hE : lexScan l = ([], 4000) := if_pos hbig
    rw [hE]
    clear hE
    go_enter Try.func54, Try.ntmps54
    go_wp2
    go_ret2
    exact ⟨_, _, _, rfl, Wxs.own (by exact World.ownsRow_lit w #[] 0 (Nat.le_refl _) (by decide) rfl) rfl, (Below.refl _ _).alloc (Nat.le_refl _) _⟩
  · have hb : ¬ ((l.length : Nat) : Int) > 4000 := by omega
    have hE : lexScan l = lexGo l 0 false [] := if_neg hbig
    rw [hE]
    clear hE
    obtain ⟨R, hR⟩ : ∃ R, lexGo l 0 false [] = R := ⟨_, rfl⟩
    have HR := Lib.hid hR
    rw [hR]
    clear hR
    have hbig' : l.length ≤ 4000 := by omega
    clear hbig
    go_enter Try.func54, Try.ntmps54
    go_wp2
    go_loopw [4, 5, 6] (fun v nv iv wr => ∃ (k : Nat) (note : Bool) (ws : List Lw), k ≤ l.length ∧ iv = .int .i64 (k : Int) ∧ nv = .bool note ∧ ws.length ≤ k ∧ Hid (lexGo (l.drop k) k note ws = R) ∧ Hid (∀ x ∈ ws, LwOk k x) ∧ Hid (OwnX wr w.heap.size 111 v (ws.map Lw.x)) ∧ Hid (Below w.heap.size w wr)) (fun _ _ iv _ => l.length - (intOf iv).toNat)
    case atStart => exact ⟨0, false, [], by omega, rfl, rfl, by simp, Lib.hid HR.out, Lib.hid (fun x hx => by cases hx), Lib.hid (OwnX.nil _ _ _), Lib.hid (Below.refl _ _)⟩
    case round =>
      obtain ⟨k, note, ws, hk, rfl, rfl, hwl, HG, HO, HX, HB⟩ := hrel
      by_cases hlt : k < l.length
      · obtain ⟨x, hx⟩ : ∃ x, l.getD k 0 = x := ⟨_, rfl⟩
        have hg : ((bs l)[k]'(by rw [hsz]; exact hlt)).toNat = x.toNat := by rw [bs_get l k hlt, hx]
        have HD : Hid (lexGo (x :: l.drop (k + 1)) k note ws = R) := Lib.hid (by rw [← lex_drop hlt hx]; exact HG.out)
        have HM : Hid ((bs l).extract k (k + 1) = bs [x]) := Lib.hid (lb_mid hlt hx)
        clear hx
        have hki : (k : Int) < (l.length : Int) := by omega
        clear HG
        by_cases h10 : x.toNat = 10
        · have q10 : ((x.toNat : Int) == 10) = true := by simp [h10]
          have q35 : ((x.toNat : Int) == 35) = false := by simp; omega
          have q32 : ((x.toNat : Int) == 32) = false := by simp; omega
          have q9 : ((x.toNat : Int) == 9) = false := by simp; omega
          have HN : Hid (lexGo (l.drop (k + 1)) (k + 1) false ws = R) := Lib.hid (by rw [← HD.out]; exact (lexGo_skip false (by simp [h10]) (.inr (by simp [lexBlank, h10]))).symm)
          clear h10 HD
          go_wp2
          go_roundw
          case rel => exact ⟨k + 1, false, ws, by omega, by go_num, rfl, by omega, HN, Lib.hid fun y hy => (HO.out y hy).on, HX, HB⟩
          case measure => simp [intOf]; omega
        · have q10 : ((x.toNat : Int) == 10) = false := by simp; omega
          by_cases h35 : x.toNat = 35
          · have q35 : ((x.toNat : Int) == 35) = true := by simp [h35]
            have HN : Hid (lexGo (l.drop (k + 1)) (k + 1) true ws = R) := Lib.hid (by rw [← HD.out]; exact (lexGo_skip true (by simp [h35]) (.inl rfl)).symm)
            clear HD
            go_wp2
            go_roundw
            case rel => exact ⟨k + 1, true, ws, by omega, by go_num, rfl, by omega, HN, Lib.hid fun y hy => (HO.out y hy).on, HX, HB⟩
            case measure => simp [intOf]; omega
          · have q35 : ((x.toNat : Int) == 35) = false := by simp; omega
            cases note
            case true =>
              have HN : Hid (lexGo (l.drop (k + 1)) (k + 1) true ws = R) := Lib.hid (by rw [← HD.out]; exact (lexGo_skip true (by simp [h10]) (.inl rfl)).symm)
              clear HD
              go_wp2
              go_roundw
              case rel => exact ⟨k + 1, true, ws, by omega, by go_num, rfl, by omega, HN, Lib.hid fun y hy => (HO.out y hy).on, HX, HB⟩
              case measure => simp [intOf]; omega
            case false =>
              by_cases h32 : x.toNat = 32
              · have q32 : ((x.toNat : Int) == 32) = true := by simp [h32]
                have HN : Hid (lexGo (l.drop (k + 1)) (k + 1) false ws = R) := Lib.hid (by rw [← HD.out]; exact (lexGo_skip false (by simp [h32]) (.inr (by simp [lexBlank, h32]))).symm)
                clear HD
                go_wp2
                go_roundw
                case rel => exact ⟨k + 1, false, ws, by omega, by go_num, rfl, by omega, HN, Lib.hid fun y hy => (HO.out y hy).on, HX, HB⟩
                case measure => simp [intOf]; omega
              · have q32 : ((x.toNat : Int) == 32) = false := by simp; omega
                by_cases h9 : x.toNat = 9
                · have q9 : ((x.toNat : Int) == 9) = true := by simp [h9]
                  have HN : Hid (lexGo (l.drop (k + 1)) (k + 1) false ws = R) := Lib.hid (by rw [← HD.out]; exact (lexGo_skip false (by simp [h9]) (.inr (by simp [lexBlank, h9]))).symm)
                  clear HD
                  go_wp2
                  go_roundw
                  case rel => exact ⟨k + 1, false, ws, by omega, by go_num, rfl, by omega, HN, Lib.hid fun y hy => (HO.out y hy).on, HX, HB⟩
                  case measure => simp [intOf]; omega
                · have q9 : ((x.toNat : Int) == 9) = false := by simp; omega
                  by_cases h13 : x.toNat = 13
                  · have q13 : ((x.toNat : Int) == 13) = true := by simp [h13]
                    have HN : Hid (lexGo (l.drop (k + 1)) (k + 1) false ws = R) := Lib.hid (by rw [← HD.out]; exact (lexGo_skip false (by simp [h13]) (.inr (by simp [lexBlank, h13]))).symm)
                    clear HD
                    go_wp2
                    go_roundw
                    case rel => exact ⟨k + 1, false, ws, by omega, by go_num, rfl, by omega, HN, Lib.hid fun y hy => (HO.out y hy).on, HX, HB⟩
                    case measure => simp [intOf]; omega
                  · have q13 : ((x.toNat : Int) == 13) = false := by simp; omega
                    have hbl : lexBlank x.toNat = false := by simp [lexBlank, h10, h32, h9, h13]
                    have HC := Lib.hid (show x.toNat ≠ 35 ∧ lexBlank x.toNat = false from ⟨h35, hbl⟩)
                    clear h10 h35 h32 h9 h13 hbl
                    obtain ⟨P, hP⟩ : ∃ P, lexPut ws k x = P := ⟨_, rfl⟩
                    have HP := Lib.hid hP
                    clear hP
                    obtain ⟨a4, c4, hv, h4⟩ := HX.out.slice
                    rw [List.length_map] at hv h4
                    subst hv
                    have HX0 := HX
                    clear HX
                    obtain ⟨n, hn⟩ : ∃ n, ws.length = n := ⟨_, rfl⟩
                    have HNn := Lib.hid hn
                    rw [hn] at h4 hwl HX0 ⊢
                    clear hn
                    have hb4 := h4.bound
                    have H4 := Lib.hid h4
                    have HX := HX0
                    clear h4 HX0
                    go_upto_region 15 with fail
                    go_cut [75] from 46 to 75 (fun rv wx => ∃ r : Bool, rv = .bool r ∧ Hid (r = true → ∃ (W : List Lw) (y : Lw), ws = W ++ [y] ∧ y.p + y.t.length = k ∧ lexMore y.k x.toNat = true) ∧ Hid (r = false → P = ws ++ [⟨lexKind x.toNat, [x], k⟩]) ∧ Hid (OwnX wx w.heap.size 111 (.slice a4 n c4) (ws.map Lw.x)) ∧ Hid (Below w.heap.size w wx))
                    case first =>
                      rcases List.eq_nil_or_concat ws with hw | ⟨W, y, hw⟩
                      · have HN : Hid (P = ws ++ [⟨lexKind x.toNat, [x], k⟩]) := Lib.hid (by rw [← HP.out, hw]; rfl)
                        obtain rfl : n = 0 := by rw [← HNn.out, hw]; rfl
                        clear hw
                        go_wp2
                        go_quiet (fail)
                        go_wp2
                        go_meet
                        exact ⟨false, rfl, Lib.hid fun h => (by cases h), Lib.hid fun _ => HN.out, Lib.hid (HX.out.later (below_draws _ _)), Lib.hid (below_then HB.out (below_draws _ _))⟩
                      · rw [List.concat_eq_append] at hw
                        obtain ⟨m, hm⟩ : ∃ m, W.length = m := ⟨_, rfl⟩
                        obtain rfl : n = m + 1 := by rw [← HNn.out, hw, ← hm]; simp
                        have h4 := H4.out
                        rw [hw] at h4
                        obtain ⟨b4, o4, rfl, e0, e1, e2⟩ := h4.at (j := m) (by omega)
                        rw [← hm, wx_last, hm] at e0 e1 e2
                        obtain ⟨kk, t, p⟩ := y
                        have hy := HO.out ⟨kk, t, p⟩ (by rw [hw]; simp)
                        obtain ⟨hy1, hy2, hy3⟩ := hy
                        simp only [Lw.x, Wx.str] at e0 e1 e2
                        dsimp only at hy1 hy2 hy3
                        have hst := bs_size t
                        have HWs := Lib.hid hw
                        have HH : Hid (lexMore kk x.toNat = lexMore kk x.toNat) := Lib.hid rfl
                        clear hw h4
                        obtain ⟨mo, hmo⟩ : ∃ mo, lexMore kk x.toNat = mo := ⟨_, rfl⟩
                        have HMO := Lib.hid hmo
                        have HCM := Lib.hid fun w => ref16_more (kk : Int) kk rfl x.toNat w
                        rw [hmo] at HCM
                        clear hmo HH
                        obtain ⟨tl, htl⟩ : ∃ tl, t.length = tl := ⟨_, rfl⟩
                        have HTL := Lib.hid htl
                        rw [htl] at hy2 hst
                        clear htl
                        obtain ⟨s, hs⟩ : ∃ s, p + tl = s := ⟨_, rfl⟩
                        have j1 : IntKind.i64.wrap ((p : Int) + (tl : Int)) = (s : Int) := by rw [IntKind.wrap_i64]; omega
                        have j2 : IntKind.i64.wrap ((m : Int) + 1 - 1) = (m : Int) := by rw [IntKind.wrap_i64]; omega
                        have j3 : IntKind.i64.wrap (m : Int) = (m : Int) := by rw [IntKind.wrap_i64]; omega
                        have j4 : (0 : Int) < (m : Int) + 1 := by omega
                        have j5 : decide ((0 : Int) < (m : Int) + 1) = true := decide_eq_true j4
                        have j6 : (m : Int) < (m : Int) + 1 := by omega
                        have HSp := Lib.hid hs
                        by_cases hsk : s = k
                        · have j7 : ((s : Int) == (k : Int)) = true := by simp [hsk]
                          have HSK := Lib.hid hsk
                          clear hs hsk hm
                          cases mo
                          · have HN : Hid (P = ws ++ [⟨lexKind x.toNat, [x], k⟩]) := Lib.hid (by rw [← HP.out, HWs.out]; exact lexPut_new (fun h => absurd (HMO.out.symm.trans h.2) (by decide)))
                            go_wp2
                            go_quiet ((go_at_call 73; exact quiet_here (HCM.out _) ⟨_, rfl⟩))
                            go_wp2
                            go_meet
                            exact ⟨false, rfl, Lib.hid fun h => (by cases h), Lib.hid fun _ => HN.out, Lib.hid (HX.out.later (below_draws _ _)), Lib.hid (below_then HB.out (below_draws _ _))⟩
                          · have HN : Hid (∃ (W : List Lw) (y : Lw), ws = W ++ [y] ∧ y.p + y.t.length = k ∧ lexMore y.k x.toNat = true) := Lib.hid ⟨W, ⟨kk, t, p⟩, HWs.out, by rw [← HSK.out, ← HSp.out, ← HTL.out], HMO.out⟩
                            go_wp2
                            go_quiet ((go_at_call 73; exact quiet_here (HCM.out _) ⟨_, rfl⟩))
                            go_wp2
                            go_meet
                            exact ⟨true, rfl, Lib.hid fun _ => HN.out, Lib.hid fun h => (by cases h), Lib.hid (HX.out.later (below_draws _ _)), Lib.hid (below_then HB.out (below_draws _ _))⟩
                        · have j7 : ((s : Int) == (k : Int)) = false := by simp; omega
                          have HN : Hid (P = ws ++ [⟨lexKind x.toNat, [x], k⟩]) := Lib.hid (by rw [← HP.out, HWs.out]; exact lexPut_new (fun h => hsk (by rw [← hs, ← HTL.out]; exact h.1)))
                          clear hs hsk hm
                          go_wp2
                          go_quiet (fail)
                          go_wp2
                          go_meet
                          exact ⟨false, rfl, Lib.hid fun h => (by cases h), Lib.hid fun _ => HN.out, Lib.hid (HX.out.later (below_draws _ _)), Lib.hid (below_then HB.out (below_draws _ _))⟩
                    case rest =>
                      obtain ⟨r, rfl, HY, HN, HX2, HB2⟩ := hcut
                      clear HX HB H4
                      go_upto_if 75 with fail
                      go_cut [4] from 76 to 101 (fun v wx => ∃ (Q : List Lw) (z : Lw), Hid (P = Q ++ [z]) ∧ Q.length ≤ k ∧ z.k ≤ 3 ∧ z.t.length ≤ 61 ∧ z.p ≤ k ∧ Hid (∀ y ∈ Q, LwOk k y) ∧ Hid (OwnX wx w.heap.size 111 v ((Q ++ [z]).map Lw.x)) ∧ Hid (Below w.heap.size w wx))
                      case first =>
                        cases r
                        · have HP2 := Lib.hid (HN.out rfl)
                          clear HN HY
                          have k1 : IntKind.i64.wrap ((k : Int) + 1) = (k : Int) + 1 := by rw [IntKind.wrap_i64]; omega
                          have k2 : (k : Int) + 1 ≤ (l.length : Int) := by omega
                          have k3 : ((k : Int) + 1).toNat = k + 1 := by omega
                          have k4 : (0 : Int) ≤ (k : Int) + 1 := by omega
                          have k5 : (k : Int) ≤ (k : Int) + 1 := by omega
                          go_wp2
                          go_region_law (first
                            | (refine step_append_x rfl _ _ 66 rfl w.heap.size 111 i0 (.agg #[.int .i64 0, .string ⟨#[]⟩, .int .i64 0]) Try.underlying66 hi hz0 hz1 hz2 rfl _ (ws.map Lw.x) rfl (HX2.out.later ((below_draws wc 1).alloc (Nat.le_refl _) _)) ⟨_, 0, none⟩ ⟨(lexKind x.toNat : Int), [x], (k : Int)⟩ rfl (wcells_news _ _ _) (by rw [List.length_map, HNn.out]; omega) (by have := HB2.out.size; simp; omega) ?_; intro v' w5 hrow hgrow)
                            | (go_simp; go_at_call 74; refine (ref16_kind x.toNat _).mono ?_; rintro e w4 ⟨rfl, rfl⟩; rw [HM.out]))
                          have HX5 := Lib.hid hrow
                          have HB5 : Hid (Below w.heap.size w w5) := Lib.hid (((HB2.out.trans ((below_draws wc 1).mono HB2.out.size)).alloc (by have := HB2.out.size; simp; omega) _).grown hgrow (by have := HB2.out.size; simp; omega) (fun g hg => HX2.out.base g hg))
                          clear hrow hgrow
                          go_wp2
                          go_meet
                          exact ⟨ws, ⟨lexKind x.toNat, [x], k⟩, HP2, by rw [HNn.out]; omega, lexKind_le _, by simp, Nat.le_refl _, HO, Lib.hid (by rw [List.map_append]; exact HX5.out), HB5⟩
                        · obtain ⟨W, y, hw, hs, hmo⟩ := HY.out rfl
                          clear HN HY
                          obtain ⟨m, hm⟩ : ∃ m, W.length = m := ⟨_, rfl⟩
                          obtain rfl : n = m + 1 := by rw [← HNn.out, hw, ← hm]; simp
                          have HX3 := HX2.out
                          rw [hw] at HX3
                          obtain ⟨g, cap, hv, hg, hcap⟩ := HX3.some (by simp)
                          simp only [Value.slice.injEq] at hv
                          obtain ⟨rfl, -, rfl⟩ := hv
                          have h5 : Wxs wc (some ⟨g, 0, none⟩) (m + 1) c4 ((W ++ [y]).map Lw.x) := Wxs.own (by have h9 := HX3; unfold OwnX at h9; exact h9) (by rw [← hm]; simp)
                          obtain ⟨b5, o5, hb5, e0, e1, e2⟩ := h5.at (j := m) (by omega)
                          simp only [Option.some.injEq, Addr.mk.injEq, and_true] at hb5
                          obtain ⟨rfl, rfl⟩ := hb5
                          rw [← hm, wx_last, hm] at e0 e1 e2
                          have hf := World.ownsRow.frozenAt (w := wc) (show wc.ownsRow w.heap.size 111 3 (.slice (some ⟨g, 0, none⟩) (m + 1) c4) (m + 1) (((W ++ [y]).map Lw.x).flatMap Wx.cells) from by have h9 := HX3; unfold OwnX at h9; rw [List.length_map, List.length_append, hm] at h9; exact h9) (m * 3 + 1)
                          obtain ⟨kk, t, p⟩ := y
                          have hy := HO.out ⟨kk, t, p⟩ (by rw [hw]; simp)
                          obtain ⟨hy1, hy2, hy3⟩ := hy
                          simp only [Lw.x, Wx.str] at e0 e1 e2
                          dsimp only at hy1 hy2 hy3 hs hmo
                          rw [Nat.zero_add] at e0 e1 e2
                          have HP2 : Hid (P = W ++ [⟨kk, t ++ [x], p⟩]) := Lib.hid (by rw [← HP.out, hw]; exact lexPut_more ⟨hs, hmo⟩)
                          have HOW : Hid (∀ z ∈ W, LwOk k z) := Lib.hid fun z hz => HO.out z (by rw [hw]; exact List.mem_append_left _ hz)
                          have HX4 := Lib.hid HX3
                          have HM2 := HM.out
                          have hst := bs_size t
                          have hsx : (bs [x]).size = 1 := bs_size [x]
                          have hcat : bs t ++ bs [x] = bs (t ++ [x]) := bs_append _ _
                          have hsc : (bs (t ++ [x])).size = t.length + 1 := by rw [bs_size]; simp
                          have HWm := Lib.hid hm
                          clear hw hs hmo HX3 h5 hm
                          have k1 : IntKind.i64.wrap ((k : Int) + 1) = (k : Int) + 1 := by rw [IntKind.wrap_i64]; omega
                          have k2 : (k : Int) + 1 ≤ (l.length : Int) := by omega
                          have k3 : ((k : Int) + 1).toNat = k + 1 := by omega
                          have k4 : (0 : Int) ≤ (k : Int) + 1 := by omega
                          have k5 : (k : Int) ≤ (k : Int) + 1 := by omega
                          have j2 : IntKind.i64.wrap ((m : Int) + 1 - 1) = (m : Int) := by rw [IntKind.wrap_i64]; omega
                          have j3 : IntKind.i64.wrap (m : Int) = (m : Int) := by rw [IntKind.wrap_i64]; omega
                          have j6 : (m : Int) < (m : Int) + 1 := by omega
                          have b0 : Below wc.heap.size wc wc.drew := (Below.refl _ _).drew
                          go_wp2
                          go_region
                          go_wp2
                          go_meet
                          exact ⟨W, ⟨kk, t ++ [x], p⟩, HP2, by rw [HWm.out]; omega, hy1, by simp; omega, hy3, HOW, Lib.hid (by
                            have h9 := (OwnX.stored (L := W.map Lw.x) (x := ⟨(kk : Int), t, (p : Int)⟩) (y := ⟨(kk : Int), t ++ [x], (p : Int)⟩) (by have h8 := HX4.out.later b0; rw [List.map_append] at h8; rw [List.length_map, HWm.out]; exact h8) rfl rfl).1
                            rw [List.length_map, HWm.out] at h9
                            rw [List.map_append]
                            unfold Wx.str at h9
                            first | exact h9 | (rw [← bs_append] at h9; exact h9)), Lib.hid ((below_then HB2.out b0).setCell (p := ⟨g, m * 3 + 1, none⟩) hg _)⟩
                      case rest =>
                        obtain ⟨Q, z, HPz, hq, hz1', hz2', hz3, HOq, HX3, HB3⟩ := hcut
                        clear HN HY HX2 HB2 HNn
                        obtain ⟨g, cap, hv, hg, hcap⟩ := HX3.out.some (by simp)
                        obtain ⟨a5, c5, hv5, h5⟩ := HX3.out.slice
                        rw [hv] at hv5
                        simp only [Value.slice.injEq] at hv5
                        obtain ⟨rfl, -, rfl⟩ := hv5
                        obtain ⟨q, hql⟩ : ∃ q, Q.length = q := ⟨_, rfl⟩
                        have hlen : ((Q ++ [z]).map Lw.x).length = q + 1 := by rw [← hql]; simp
                        rw [hlen] at hv h5 hcap
                        obtain ⟨b5, o5, hb5, e0, e1, e2⟩ := h5.at (j := q) (by omega)
                        simp only [Option.some.injEq, Addr.mk.injEq, and_true] at hb5
                        obtain ⟨rfl, rfl⟩ := hb5
                        rw [← hql, wx_last, hql] at e0 e1 e2
                        subst hv
                        simp only [Lw.x, Wx.str] at e0 e1 e2
                        have hqk : q ≤ k := by omega
                        have HQl := Lib.hid hql
                        clear hql hlen h5
                        have j6 : (q : Int) < (q : Int) + 1 := by omega
                        have j2 : (q : Int) + 1 - 1 = (q : Int) := by omega
                        rw [Nat.zero_add] at e0 e1 e2
                        go_upto_region 19 with fail
                        have hzt := bs_size z.t
                        by_cases hzk : z.k = 0
                        · have q1 : ((z.k : Int) == 0) = true := by simp [hzk]
                          have HF : Hid (R = ([], (k : Int))) := Lib.hid (by rw [← HD.out]; exact lexGo_bad HC.out.1 HC.out.2 (HP.out.trans HPz.out) (by simp [lexBad, hzk]))
                          clear hzk
                          obtain rfl := HF.out
                          go_quiet (fail)
                          go_wp2
                          go_ret2
                          exact ⟨_, _, _, rfl, Wxs.void _ _, ((below_then HB3.out (below_then (below_alloc wc _) (below_draws _ _))).alloc (by have := HB3.out.size; simp; omega) _)⟩
                        · have q1 : ((z.k : Int) == 0) = false := by simp; omega
                          by_cases hm : lexMost z.k < z.t.length
                          · have q2 : decide ((lexMost z.k : Int) < (z.t.length : Int)) = true := decide_eq_true (by omega)
                            have HF : Hid (R = ([], (k : Int))) := Lib.hid (by rw [← HD.out]; exact lexGo_bad HC.out.1 HC.out.2 (HP.out.trans HPz.out) (by simp [lexBad, hm]))
                            clear hzk
                            obtain rfl := HF.out
                            go_quiet ((go_at_call 75; exact quiet_here (ref16_most (z.k : Int) z.k rfl _) ⟨_, rfl⟩))
                            go_wp2
                            go_ret2
                            exact ⟨_, _, _, rfl, Wxs.void _ _, ((below_then HB3.out (below_then (below_alloc wc _) (below_draws _ _))).alloc (by have := HB3.out.size; simp; omega) _)⟩
                          · have q2 : decide ((lexMost z.k : Int) < (z.t.length : Int)) = false := decide_eq_false (by omega)
                            have HG2 : Hid (lexGo (l.drop (k + 1)) (k + 1) false (Q ++ [z]) = R) := Lib.hid (by rw [← HD.out]; exact (lexGo_on HC.out.1 HC.out.2 (HP.out.trans HPz.out) (by simp [lexBad, hzk]; omega)).symm)
                            have HO2 : Hid (∀ y ∈ Q ++ [z], LwOk (k + 1) y) := Lib.hid fun y hy => by
                              rcases List.mem_append.1 hy with h | h
                              · exact (HOq.out y h).on
                              · obtain rfl : y = z := by simpa using h
                                exact ⟨hz1', Nat.le_trans (by omega) (lexMost_le y.k), by omega⟩
                            clear hzk
                            go_quiet ((go_at_call 75; exact quiet_here (ref16_most (z.k : Int) z.k rfl _) ⟨_, rfl⟩))
                            go_wp2
                            go_roundw
                            case rel => exact ⟨k + 1, false, Q ++ [z], by omega, by go_num, rfl, by simp [HQl.out]; omega, HG2, HO2, Lib.hid ((HX3.out.later (below_alloc wc _)).later (below_draws _ _)), Lib.hid (below_then HB3.out (below_then (below_alloc wc _) (below_draws _ _)))⟩
                            case measure => simp [intOf]; omega
      · obtain rfl : k = l.length := by omega
        have HF : Hid (R = (ws, -1)) := Lib.hid (by rw [← HG.out, List.drop_length]; rfl)
        obtain rfl := HF.out
        clear HG HF
        go_wp2
        go_ret2
        obtain ⟨a9, c9, rfl, h9⟩ := HX.out.slice
        exact ⟨_, _, _, rfl, h9, HB.out⟩
end Go.Proofs.Ythblmpkdcahmkaa

/-
  The document's answer of layer 18: Begin.
-/
namespace Go.Proofs.Ythblmpkdcahmkaa
open Go.WideShapes Go.RowKit Go.Deep

theorem blk_set6 {w : World} {g : Nat} {x y z u p q : Value} {t : TypeId} (h : w.heap[g]? = some (.cells #[x, y, z, u, p, q] t (0, 0))) (x' y' z' u' p' q' : Value) :
    ((((((w.setCell ⟨g, 0, none⟩ x').setCell ⟨g, 1, none⟩ y').setCell ⟨g, 2, none⟩ z').setCell ⟨g, 3, none⟩ u').setCell ⟨g, 4, none⟩ p').setCell ⟨g, 5, none⟩ q').heap[g]? = some (.cells #[x', y', z', u', p', q'] t (0, 0)) := by
  have h1 := blk_set (blk_set (blk_set (blk_set (blk_set (blk_set h 0 x') 1 y') 2 z') 3 u') 4 p') 5 q'
  simpa using h1
theorem grown_set6 (w : World) (g : Nat) (x y z u p q : Value) : w.grownBy ((((((w.setCell ⟨g, 0, none⟩ x).setCell ⟨g, 1, none⟩ y).setCell ⟨g, 2, none⟩ z).setCell ⟨g, 3, none⟩ u).setCell ⟨g, 4, none⟩ p).setCell ⟨g, 5, none⟩ q) (some g) :=
  grown_then (grown_then (grown_then (grown_then (grown_then (grown_cell _ g 0 x) (grown_cell _ g 1 y)) (grown_cell _ g 2 z)) (grown_cell _ g 3 u)) (grown_cell _ g 4 p)) (grown_cell _ g 5 q)
theorem below_grown_new {w0 w w' : World} {g : Nat} (h : Below w0.heap.size w0 w) (hg : w.grownBy w' (some g)) (hgl : w0.heap.size ≤ g) : Below w0.heap.size w0 w' := h.grown hg h.size (fun k hk => by have := Option.some.inj hk; omega)
/-- Words lie in no box that holds no text. -/
theorem Wxs.notbox {w : World} {a : Option Addr} {n c : Nat} {L : List Wx} {g : Nat} {cur : Array Value} {t : TypeId} (h : Wxs w a n c L) (hg : w.heap[g]? = some (.cells cur t (0, 0))) (hno : ∀ u ∈ cur.toList, ∀ s, u ≠ .string s) : ∀ b off, a = some ⟨b, off, none⟩ → 0 < n → some g ≠ some b := by
  intro b off e h0 e2
  obtain ⟨b', off', e', _, h2, _⟩ := h.at h0
  rw [e] at e'
  obtain ⟨rfl, rfl, _⟩ := Addr.mk.inj (Option.some.inj e')
  have := Option.some.inj e2
  subst this
  rw [blk_cell hg] at h2
  exact hno (L.getD 0 Wx.zero).str (by have h9 := Array.mem_of_getElem? h2; simpa using h9) _ rfl
theorem Wxs.below {w : World} {a : Option Addr} {n c : Nat} {L : List Wx} (h : Wxs w a n c L) : ∀ b off, a = some ⟨b, off, none⟩ → 0 < n → b < w.heap.size := by
  intro b off e h0
  obtain ⟨b', off', e', h1, _⟩ := h.at h0
  rw [e] at e'
  obtain ⟨rfl, rfl, _⟩ := Addr.mk.inj (Option.some.inj e')
  rcases Nat.lt_or_ge b w.heap.size with h9 | h9
  · exact h9
  · rw [World.cell?, Array.getElem?_eq_none h9] at h1; cases h1
theorem no_text6 {a : Option Addr} {n c : Nat} {i E d z : Int} {b : Option Addr} {m e : Nat} : ∀ u ∈ (#[Value.slice a n c, .int .i64 i, .int .i64 E, .int .i64 d, .slice b m e, .int .i64 z] : Array Value).toList, ∀ s, u ≠ .string s := by
  intro u hu s
  simp at hu
  rcases hu with rfl | rfl | rfl | rfl | rfl | rfl <;> simp
/-- The words of a text, and what a reader of them begins with. -/
def Beg (St : TypeId) (l : List UInt8) (N : List (List UInt8)) (w : World) (e : Ending) (w' : World) : Prop :=
  ∃ (a : Option Addr) (n c : Nat) (nv : Value), e = .returned (.agg (psCells a n c l.length nv ⟨0, 0, (lexScan l).2⟩)) ∧ Wxs w' a n c ((lexScan l).1.map Lw.x) ∧ stC.Own w' w.heap.size St nv N ∧ Below w.heap.size w w'
/-- What is behind the words and the names: the box that is filled. -/
theorem beg_done {P St : TypeId} {l : List UInt8} {N : List (List UInt8)} {w w5 : World} {a : Option Addr} {n c : Nat} {v : Value} (h1 : Wxs w5 a n c ((lexScan l).1.map Lw.x)) (hN : stK.Mine w5 (w.heap.size + 1) St v N) (hB : Below w.heap.size w w5)
    (hX : w5.heap[w.heap.size]? = some (.cells #[.slice none 0 0, .int .i64 0, .int .i64 0, .int .i64 0, .slice none 0 0, .int .i64 0] P (0, 0))) {w6 : World} (h6 : w6 = ((((((w5.setCell ⟨w.heap.size, 0, none⟩ (.slice a n c)).setCell ⟨w.heap.size, 1, none⟩ (.int .i64 0)).setCell ⟨w.heap.size, 2, none⟩ (.int .i64 (l.length : Int))).setCell ⟨w.heap.size, 3, none⟩ (.int .i64 0)).setCell ⟨w.heap.size, 4, none⟩ v).setCell ⟨w.heap.size, 5, none⟩ (.int .i64 (lexScan l).2))) :
    Beg St l N w (.returned (.agg #[.slice a n c, .int .i64 0, .int .i64 (l.length : Int), .int .i64 0, v, .int .i64 (lexScan l).2])) w6 := by
  subst h6
  have hg := grown_set6 w5 w.heap.size (.slice a n c) (.int .i64 0) (.int .i64 (l.length : Int)) (.int .i64 0) v (.int .i64 (lexScan l).2)
  refine ⟨a, n, c, v, rfl, h1.grown hg (h1.notbox hX no_text6), ?_, below_grown_new hB hg (Nat.le_refl _)⟩
  have h9 : stK.Mine _ (w.heap.size + 1) St v N := ⟨hN.1.beside hg (fun k hk e => by have := hN.1.base k hk; have := Option.some.inj e; omega), fun _ _ => trivial⟩
  exact (h9.low (Nat.le_succ _)).1
theorem infoStr18 : (Try.prog.info? 9).map (fun i => (i.zero, i.size, i.bytes)) = some (some (.string ⟨#[]⟩), 1, 16) := by kernel_rfl
set_option maxRecDepth 4096 in
set_option maxHeartbeats 8000000 in
theorem ref18_begin (l : List UInt8) (a : Option Addr) (n c : Nat) (N : List (List UInt8)) (w : World) (h : stC.Has w a n c N) (hn : n ≤ 100000) :
    Calls Try.prog 27 #[.string (bs l), .slice a n c] w (Beg 9 l N w) := by
  have hA := st_at Try.underlying41 infoStr18
  have HS := Lib.hid fun w1 => ref16_scan l w1
  have hsz := bs_size l
  have hN := h.len
  have HN := Lib.hid h
  clear h
  go_enter Try.func27, Try.ntmps27
  go_wp2_with fail
  refine (HS.out _).mono ?_
  rintro e w1 ⟨a1, n1, c1, rfl, h1, b1⟩
  have H1 := Lib.hid h1
  have B1 := Lib.hid (below_then (below_alloc w _) b1)
  have HX1 := Lib.hid (blk_later (blk_new w #[.slice none 0 0, .int .i64 0, .int .i64 0, .int .i64 0, .slice none 0 0, .int .i64 0] 68) b1)
  have hsz1 : w.heap.size + 1 ≤ w1.heap.size := by have := b1.size; rw [blk_size] at this; exact this
  have HL0 := Lib.hid (Kin.Mine.void (K := stK) w1 9)
  have H2 := Lib.hid (H1.out.later (below_alloc w1 (.cells #[] 9)))
  have B2 := Lib.hid (below_then B1.out (below_alloc w1 (.cells #[] 9)))
  have HX2 := Lib.hid (blk_later HX1.out (below_alloc w1 (.cells #[] 9)))
  clear h1 b1 HS HX1
  rcases a with _ | ad
  · have hc0 : c = 0 := HN.out.2.2.2.1 rfl
    have hb0 := HN.out.bound
    have hn0 : n = 0 := by omega
    subst hc0 hn0
    obtain rfl : N = [] := List.eq_nil_of_length_eq_zero hN
    have c0 := blk_cell HX2.out 0
    have c1' := blk_cell HX2.out 1
    have c2 := blk_cell HX2.out 2
    have c3 := blk_cell HX2.out 3
    have c4 := blk_cell HX2.out 4
    have c5 := blk_cell HX2.out 5
    have z0 := blk_free HX2.out 0
    have z1 := blk_free HX2.out 1
    have z2 := blk_free HX2.out 2
    have z3 := blk_free HX2.out 3
    have z4 := blk_free HX2.out 4
    have z5 := blk_free HX2.out 5
    simp only [List.getElem?_toArray, List.getElem?_cons_zero, List.getElem?_cons_succ] at c0 c1' c2 c3 c4 c5
    go_wp2_with (at_builtin; refine Kin.wpList_append_none (K := stK) hA rfl _ _ rfl w1.heap.size _ [] rfl HL0.out rfl ?_)
    have HG6 := Lib.hid (blk_set6 HX2.out (.slice a1 n1 c1) (.int .i64 0) (.int .i64 (l.length : Int)) (.int .i64 0) (.slice (some ⟨w1.heap.size, 0, none⟩) 0 0) (.int .i64 (lexScan l).2))
    refine bodyPost_ret (results_cell_row Try.results27 _ _ w.heap.size 68 #[.slice a1 n1 c1, .int .i64 0, .int .i64 (l.length : Int), .int .i64 0, (.slice (some ⟨w1.heap.size, 0, none⟩) 0 0), .int .i64 (lexScan l).2] (0, 0) _ rfl HG6.out Try.underlying68 rfl (by kernel_rfl)) rfl ?_
    exact beg_done H2.out (HL0.out.low hsz1) B2.out HX2.out rfl
  · have HNw : Hid (∀ j u, (N.flatMap stK.cells)[j]? = some u → (w1.alloc (.cells #[] 9)).cell? (ad.add j) = some u) := Lib.hid (by
      intro j u hu
      by_cases h0 : n = 0
      · rw [List.eq_nil_of_length_eq_zero (hN.trans h0)] at hu; simp at hu
      · obtain ⟨b, off, e, _⟩ := HN.out.at (by omega)
        obtain rfl := Option.some.inj e
        exact (HN.out.later B2.out).news j u hu)
    go_wp2_with (at_builtin; refine Kin.wpList_append (K := stK) hA rfl _ _ rfl w1.heap.size _ [] rfl HL0.out ad n c N rfl hN HNw.out (fun _ _ => trivial) (by simp [maxLen]; omega) (by show (0 + n) * 16 ≤ _; omega) (by rw [blk_size]; omega) ?_)
    intro v' w5 hrow hgrow hnew
    have HR5 : Hid (stK.Mine w5 w1.heap.size 9 v' N) := Lib.hid hrow
    have H5 := Lib.hid (H2.out.grown hgrow (fun b off e h0 e2 => by have := HL0.out.base b e2; have := H1.out.below b off e h0; omega))
    have HX5 := Lib.hid (blk_stays HX2.out hgrow (fun k hk => by have := HL0.out.base k hk; omega))
    have B5 := Lib.hid (B2.out.grown hgrow (by rw [blk_size]; omega) (fun k hk => by have := HL0.out.base k hk; omega))
    clear hrow hgrow hnew
    obtain ⟨av, cv, hv, -⟩ := HR5.out.slice
    rw [hN] at hv
    subst hv
    have c0 := blk_cell HX5.out 0
    have c1' := blk_cell HX5.out 1
    have c2 := blk_cell HX5.out 2
    have c3 := blk_cell HX5.out 3
    have c4 := blk_cell HX5.out 4
    have c5 := blk_cell HX5.out 5
    have z0 := blk_free HX5.out 0
    have z1 := blk_free HX5.out 1
    have z2 := blk_free HX5.out 2
    have z3 := blk_free HX5.out 3
    have z4 := blk_free HX5.out 4
    have z5 := blk_free HX5.out 5
    simp only [List.getElem?_toArray, List.getElem?_cons_zero, List.getElem?_cons_succ] at c0 c1' c2 c3 c4 c5
    go_wp2
    have HG6 := Lib.hid (blk_set6 HX5.out (.slice a1 n1 c1) (.int .i64 0) (.int .i64 (l.length : Int)) (.int .i64 0) (.slice av n cv) (.int .i64 (lexScan l).2))
    refine bodyPost_ret (results_cell_row Try.results27 _ _ w.heap.size 68 #[.slice a1 n1 c1, .int .i64 0, .int .i64 (l.length : Int), .int .i64 0, (.slice av n cv), .int .i64 (lexScan l).2] (0, 0) _ rfl HG6.out Try.underlying68 rfl (by kernel_rfl)) rfl ?_
    exact beg_done H5.out (HR5.out.low hsz1) B5.out HX5.out rfl
end Go.Proofs.Ythblmpkdcahmkaa

/-
  A reader beside rows of lets, rows of expressions, boxes, names that grow (layer 18). Of no program.
-/
namespace Go.Proofs.Ythblmpkdcahmkaa
open Go.WideShapes Go.RowKit Go.Deep

/-- All expressions lie above the block g. -/
def FarL (g : Nat) (X : List Lt) : Prop := ∀ x ∈ X, ∀ b off, x.a = some ⟨b, off, none⟩ → g < b
def FarS (g : Nat) (X : List Sn) : Prop := ∀ x ∈ X, ∀ b off, x.a = some ⟨b, off, none⟩ → g < b
theorem farL_nil (g : Nat) : FarL g [] := fun x hx => by cases hx
theorem farS_nil (g : Nat) : FarS g [] := fun x hx => by cases hx
theorem farL_snoc {g : Nat} {X : List Lt} (h : FarL g X) {x : Lt} (hx : ∀ b off, x.a = some ⟨b, off, none⟩ → g < b) : FarL g (X ++ [x]) := fun y hy => by
  rcases List.mem_append.1 hy with h9 | h9
  · exact h y h9
  · rw [List.mem_singleton.1 h9]; exact hx
theorem farS_snoc {g : Nat} {X : List Sn} (h : FarS g X) {x : Sn} (hx : ∀ b off, x.a = some ⟨b, off, none⟩ → g < b) : FarS g (X ++ [x]) := fun y hy => by
  rcases List.mem_append.1 hy with h9 | h9
  · exact h y h9
  · rw [List.mem_singleton.1 h9]; exact hx
theorem mine_far {α : Type} {K : Kin α} {w : World} {base : Nat} {e : TypeId} {a : Option Addr} {n c : Nat} {L : List α} (h : K.Mine w base e (.slice a n c) L) : ∀ b off, a = some ⟨b, off, none⟩ → base ≤ b := fun b off e => h.base b (by rw [e]; rfl)
section
variable {P St : TypeId} {w w' : World} {g : Nat} {a : Option Addr} {n c : Nat} {W : List Lw} {E : Nat} {nv : Value} {N : List (List UInt8)} {s : Ps}
theorem nds_past {x : Option Addr} {k m : Nat} {L : List Nd} (h : Nds w x k m L) (hp : PS P St w g a n c W E nv N s) (hg : w.grownBy w' (some g)) (hf : ∀ b off, x = some ⟨b, off, none⟩ → g < b) : Nds w' x k m L := by
  refine ⟨⟨h.1.1, h.1.2.1, h.1.2.2.1, h.1.2.2.2.1, h.1.2.2.2.2.imp id fun ⟨b, off, e, hc⟩ => ⟨b, off, e, fun j y hj i u hu => ?_⟩⟩, fun y hy => good_past (h.2 y hy) hp hg⟩
  have h1 := hc j y hj i u hu
  have hlt : b < w.heap.size := by
    rcases Nat.lt_or_ge b w.heap.size with h9 | h9
    · exact h9
    · rw [World.cell?, Array.getElem?_eq_none h9] at h1; cases h1
  rw [World.cell?_of_block (a := ⟨b, _, none⟩) (hg.block b hlt (fun e2 => by have := hf b off e; have := Option.some.inj e2; omega))]
  exact h1
theorem lets_past {T : TypeId} {base : Nat} {v : Value} {X : List Lt} (h : ltK.Mine w base T v X) (hp : PS P St w g a n c W E nv N s) (hg : w.grownBy w' (some g)) (hb : g < base) (hf : FarL g X) : ltK.Mine w' base T v X :=
  ⟨h.1.beside hg (fun k hk e => by have := h.1.base k hk; have := Option.some.inj e; omega), fun x hx => nds_past (h.2 x hx) hp hg (hf x hx)⟩
theorem outs_past {T : TypeId} {base : Nat} {v : Value} {X : List Sn} (h : snK.Mine w base T v X) (hp : PS P St w g a n c W E nv N s) (hg : w.grownBy w' (some g)) (hb : g < base) (hf : FarS g X) : snK.Mine w' base T v X :=
  ⟨h.1.beside hg (fun k hk e => by have := h.1.base k hk; have := Option.some.inj e; omega), fun x hx => nds_past (h.2 x hx) hp hg (hf x hx)⟩
theorem box_past {k : Nat} {o : Obj} (h : w.heap[k]? = some o) (hg : w.grownBy w' (some g)) (hk : g < k) : w'.heap[k]? = some o := blk_stays h hg (fun j hj => by have := Option.some.inj hj; omega)
/-- What is written into another box leaves the reader as it was. -/
theorem PS.box (hp : PS P St w g a n c W E nv N s) {k : Nat} {cur : Array Value} {t : TypeId} (hk : w.heap[k]? = some (.cells cur t (0, 0))) (ht : St ≠ t) (hgk : g < k) (hg : w.grownBy w' (some k)) : PS P St w' g a n c W E nv N s := by
  refine ⟨(hg.block g hp.lt (fun e => by have := Option.some.inj e; omega)).trans hp.blk, hp.words.grown hg (fun b off e h0 e2 => by have := hp.apart b off e h0; have := Option.some.inj e2; omega), hp.apart, hp.names.beside hg (fun j hj e => ?_), hp.far⟩
  obtain rfl := Option.some.inj e
  obtain ⟨cur', h1⟩ := hp.names.ty hj
  rw [h1] at hk
  exact ht (Obj.cells.inj (Option.some.inj hk)).2.1
/-- A name more: the reader with it. -/
theorem PS.named (hp : PS P St w g a n c W E nv N s) {base : Nat} {v' : Value} {N' : List (List UInt8)} (hN' : stK.Mine w' base St v' N') (hg : w.grownBy w' nv.ownBlock) (hnew : Cls.New w nv v') (hne : ∀ b off, a = some ⟨b, off, none⟩ → 0 < n → nv.ownBlock ≠ some b) :
    PS P St (w'.setCell ⟨g, 4, none⟩ v') g a n c W E v' N' s ∧ w'.heap[g]? = some (.cells (psCells a n c E nv s) P (0, 0)) := by
  have hb' : w'.heap[g]? = some (.cells (psCells a n c E nv s) P (0, 0)) := (hg.block g hp.lt (fun e => hp.far g e.symm rfl)).trans hp.blk
  have hfar : ∀ k, v'.ownBlock = some k → g ≠ k := fun k hk e => by
    rcases hnew k hk with h9 | h9
    · exact hp.far k h9 e
    · have := hp.lt; omega
  have hs := grown_cell w' g 4 v'
  refine ⟨⟨?_, (hp.words.grown hg hne).grown hs (fun b off e h0 e2 => by have := hp.apart b off e h0; have := Option.some.inj e2; omega), hp.apart, ?_, hfar⟩, hb'⟩
  · have h9 := blk_set hb' 4 v'
    simpa [psCells] using h9
  · have h9 := (hN'.low (Nat.zero_le base)).1
    exact Cls.Own.beside h9 hs (fun k hk e => hfar k hk (Option.some.inj e))
/-- Names that grow leave rows of another type, and boxes of another type, as they were. -/
theorem names_lets {T : TypeId} {base base' : Nat} {v : Value} {X : List Lt} (h : ltK.Mine w base T v X) (hN : stK.Mine w base' St nv N) (hg : w.grownBy w' nv.ownBlock) (hne : St ≠ T) : ltK.Mine w' base T v X := by
  have ho : Only isLet w nv := fun k hk j u hu => .inl (hN.1.2 k hk j u hu)
  refine ⟨h.1.beside hg (fun k hk e => ?_), fun x hx => ltK.aside (v := nv) (h.2 x hx) ho hg⟩
  obtain ⟨cur, h1⟩ := hN.1.ty e
  obtain ⟨cur', h2⟩ := h.1.ty hk
  rw [h1] at h2
  exact hne (Obj.cells.inj (Option.some.inj h2)).2.1
theorem names_box {base' : Nat} {k : Nat} {cur : Array Value} {t : TypeId} (h : w.heap[k]? = some (.cells cur t (0, 0))) (hN : stK.Mine w base' St nv N) (hg : w.grownBy w' nv.ownBlock) (hne : St ≠ t) : w'.heap[k]? = some (.cells cur t (0, 0)) :=
  blk_stays h hg (fun j hj e => by
    subst e
    obtain ⟨cur', h1⟩ := hN.1.ty hj
    rw [h1] at h
    exact hne (Obj.cells.inj (Option.some.inj h)).2.1)
theorem words_names (hp : PS P St w g a n c W E nv N s) (ho : stC.Own w 0 St nv N) : ∀ b off, a = some ⟨b, off, none⟩ → 0 < n → nv.ownBlock ≠ some b := by
  intro b off e h0 e2
  obtain ⟨b', off', e', h1, _⟩ := hp.words.at h0
  rw [e] at e'
  obtain ⟨rfl, rfl, _⟩ := Addr.mk.inj (Option.some.inj e')
  obtain ⟨s9, h9⟩ := ho.2 b e2 _ _ h1
  cases h9
theorem only_ps {w : World} {g : Nat} {x : Option Addr} {k m : Nat} {T : TypeId} (hb : w.heap[g]? = some (.cells (psCells a n c E (.slice x k m) s) T (0, 0))) : Only isNode w (.slice (some ⟨g, 0, none⟩) 1 1) := by
  refine only_block hb fun u hu => ?_
  simp [psCells] at hu
  rcases hu with rfl | rfl | rfl | rfl | rfl | rfl
  · exact .inr ⟨_, _, _, rfl⟩
  · exact .inl ⟨_, rfl⟩
  · exact .inl ⟨_, rfl⟩
  · exact .inl ⟨_, rfl⟩
  · exact .inr ⟨_, _, _, rfl⟩
  · exact .inl ⟨_, rfl⟩
theorem lets_past_only {T : TypeId} {base : Nat} {v : Value} {X : List Lt} (h : ltK.Mine w base T v X) (ho : Only isNode w (.slice (some ⟨g, 0, none⟩) 1 1)) (hg : w.grownBy w' (some g)) (hb : g < base) (hf : FarL g X) : ltK.Mine w' base T v X := by
  refine ⟨h.1.beside hg (fun k hk e => by have := h.1.base k hk; have := Option.some.inj e; omega), fun x hx => ?_⟩
  have h9 : Nds w x.a x.n x.c x.L := h.2 x hx
  refine ⟨⟨h9.1.1, h9.1.2.1, h9.1.2.2.1, h9.1.2.2.2.1, h9.1.2.2.2.2.imp id fun ⟨b, off, e, hc⟩ => ⟨b, off, e, fun j y hj i u hu => ?_⟩⟩, fun y hy => ndK.aside (v := .slice (some ⟨g, 0, none⟩) 1 1) (h9.2 y hy) ho hg⟩
  have h1 := hc j y hj i u hu
  have hlt : b < w.heap.size := by
    rcases Nat.lt_or_ge b w.heap.size with h9 | h9
    · exact h9
    · rw [World.cell?, Array.getElem?_eq_none h9] at h1; cases h1
  rw [World.cell?_of_block (a := ⟨b, _, none⟩) (hg.block b hlt (fun e2 => by have := hf x hx b off e; have := Option.some.inj e2; omega))]
  exact h1
/-- A row of another type that grows leaves the names as they were; so does what is written into a box of another type. -/
theorem names_keep {α : Type} {K : Kin α} {T : TypeId} {base base' : Nat} {v : Value} {X : List α} (hN : stK.Mine w base St nv N) (h : K.Mine w base' T v X) (hg : w.grownBy w' v.ownBlock) (hne : St ≠ T) : stK.Mine w' base St nv N := by
  refine ⟨hN.1.beside hg (fun k hk e => ?_), fun _ _ => trivial⟩
  obtain ⟨cur, h1⟩ := hN.1.ty hk
  obtain ⟨cur', h2⟩ := h.1.ty e
  rw [h1] at h2
  exact hne (Obj.cells.inj (Option.some.inj h2)).2.1
theorem names_keep_box {base k : Nat} {cur : Array Value} {t : TypeId} (hN : stK.Mine w base St nv N) (hk : w.heap[k]? = some (.cells cur t (0, 0))) (ht : St ≠ t) (hg : w.grownBy w' (some k)) : stK.Mine w' base St nv N := by
  refine ⟨hN.1.beside hg (fun j hj e => ?_), fun _ _ => trivial⟩
  obtain rfl := Option.some.inj e
  obtain ⟨cur', h1⟩ := hN.1.ty hj
  rw [h1] at hk
  exact ht (Obj.cells.inj (Option.some.inj hk)).2.1
theorem PS.set1z (h : PS P St w g a n c W E nv N s) {i' : Nat} {z : Int} (hz : z = (i' : Int)) : PS P St (w.setCell ⟨g, 1, none⟩ (.int .i64 z)) g a n c W E nv N { s with i := i' } ∧ w.grownBy (w.setCell ⟨g, 1, none⟩ (.int .i64 z)) (some g) := by
  subst hz
  exact h.set1 i'
/-- Outs that grow leave the lets as they were. -/
theorem lets_keep {T T' : TypeId} {base base' : Nat} {v v' : Value} {X : List Lt} {Y : List Sn} (h : ltK.Mine w base T v X) (hO : snK.Mine w base' T' v' Y) (hg : w.grownBy w' v'.ownBlock) (hne : T ≠ T') : ltK.Mine w' base T v X := by
  have ho : Only isLet w v' := fun k hk j u hu => .inr (hO.1.2 k hk j u hu)
  refine ⟨h.1.beside hg (fun k hk e => ?_), fun x hx => ltK.aside (v := v') (h.2 x hx) ho hg⟩
  obtain ⟨cur, h1⟩ := h.1.ty hk
  obtain ⟨cur', h2⟩ := hO.1.ty e
  rw [h1] at h2
  exact hne (Obj.cells.inj (Option.some.inj h2)).2.1
end
end Go.Proofs.Ythblmpkdcahmkaa
