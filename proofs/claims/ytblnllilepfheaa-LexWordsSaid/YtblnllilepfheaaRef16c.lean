/-
  The document's answer of layer 16: Scan.
-/
import Derived.Test.YtblnllilepfheaaRef16
import Derived.Test.YtblnllilepfheaaLexStep
import Derived.WalkKit
import Derived.BigQuiet
import Derived.StillTailTactics
import Derived.Deep.CutRange
import Derived.Deep.RegionLaw
namespace Go.Proofs.Ytblnllilepfheaa
open Go.RowKit

theorem infoWord16 : (Try.prog.info? 36).map (fun i => (i.zero, i.size, i.bytes)) = some (some (.agg #[.int .i64 0, .string ⟨#[]⟩, .int .i64 0]), 3, 32) := by kernel_rfl
theorem info_word16 {P : Program} {t : TypeId} (h : (P.info? t).map (fun i => (i.zero, i.size, i.bytes)) = some (some (.agg #[.int .i64 0, .string ⟨#[]⟩, .int .i64 0]), 3, 32)) : ∃ i, P.info? t = some i ∧ i.zero = some (.agg #[.int .i64 0, .string ⟨#[]⟩, .int .i64 0]) ∧ i.size = 3 ∧ i.bytes = 32 := by
  cases hi : P.info? t with
  | none => rw [hi] at h; simp at h
  | some i => rw [hi] at h; simp at h; exact ⟨i, rfl, h⟩
set_option maxRecDepth 4096 in
set_option maxHeartbeats 8000000 in
theorem ref16_scan (l : List UInt8) (w : World) :
    Calls Try.prog 7 #[.string (bs l)] w (LstX (lexScan l) w) := by
  obtain ⟨i0, hi, hz0, hz1, hz2⟩ := info_word16 infoWord16
  have hsz := bs_size l
  have HS0 := Lib.hid hsz
  by_cases hbig : 4000 < l.length
  · have hb : ((l.length : Nat) : Int) > 4000 := by omega
    have hE : lexScan l = ([], 4000) := if_pos hbig
    rw [hE]
    clear hE
    go_enter Try.func7, Try.ntmps7
    go_wp2
    go_ret2
    exact ⟨_, _, _, rfl, Wxs.own (by exact World.ownsRow_lit w #[] 0 (Nat.le_refl _) (by decide) rfl) rfl, (Below.refl _ _).alloc (Nat.le_refl _) _⟩
  · have hb : ¬ ((l.length : Nat) : Int) > 4000 := by omega
    have hE : lexScan l = lexGo l 0 false [] := if_neg hbig
    rw [hE]
    clear hE
    obtain ⟨R, hR⟩ : ∃ R, lexGo l 0 false [] = R := ⟨_, rfl⟩
    have HR := Lib.hid hR
    rw [hR]
    clear hR
    have hbig' : l.length ≤ 4000 := by omega
    clear hbig
    go_enter Try.func7, Try.ntmps7
    go_wp2
    go_loopw [4, 5, 6] (fun v nv iv wr => ∃ (k : Nat) (note : Bool) (ws : List Lw), k ≤ l.length ∧ iv = .int .i64 (k : Int) ∧ nv = .bool note ∧ ws.length ≤ k ∧ Hid (lexGo (l.drop k) k note ws = R) ∧ Hid (∀ x ∈ ws, LwOk k x) ∧ Hid (OwnX wr w.heap.size 36 v (ws.map Lw.x)) ∧ Hid (Below w.heap.size w wr)) (fun _ _ iv _ => l.length - (intOf iv).toNat)
    case atStart => exact ⟨0, false, [], by omega, rfl, rfl, by simp, Lib.hid HR.out, Lib.hid (fun x hx => by cases hx), Lib.hid (OwnX.nil _ _ _), Lib.hid (Below.refl _ _)⟩
    case round =>
      obtain ⟨k, note, ws, hk, rfl, rfl, hwl, HG, HO, HX, HB⟩ := hrel
      by_cases hlt : k < l.length
      · obtain ⟨x, hx⟩ : ∃ x, l.getD k 0 = x := ⟨_, rfl⟩
        have hg : ((bs l)[k]'(by rw [hsz]; exact hlt)).toNat = x.toNat := by rw [bs_get l k hlt, hx]
        have HD : Hid (lexGo (x :: l.drop (k + 1)) k note ws = R) := Lib.hid (by rw [← lex_drop hlt hx]; exact HG.out)
        have HM : Hid ((bs l).extract k (k + 1) = bs [x]) := Lib.hid (lb_mid hlt hx)
        clear hx
        have hki : (k : Int) < (l.length : Int) := by omega
        clear HG
        by_cases h10 : x.toNat = 10
        · have q10 : ((x.toNat : Int) == 10) = true := by simp [h10]
          have q35 : ((x.toNat : Int) == 35) = false := by simp; omega
          have q32 : ((x.toNat : Int) == 32) = false := by simp; omega
          have q9 : ((x.toNat : Int) == 9) = false := by simp; omega
          have HN : Hid (lexGo (l.drop (k + 1)) (k + 1) false ws = R) := Lib.hid (by rw [← HD.out]; exact (lexGo_skip false (by simp [h10]) (.inr (by simp [lexBlank, h10]))).symm)
          clear h10 HD
          go_wp2
          go_roundw
          case rel => exact ⟨k + 1, false, ws, by omega, by go_num, rfl, by omega, HN, Lib.hid fun y hy => (HO.out y hy).on, HX, HB⟩
          case measure => simp [intOf]; omega
        · have q10 : ((x.toNat : Int) == 10) = false := by simp; omega
          by_cases h35 : x.toNat = 35
          · have q35 : ((x.toNat : Int) == 35) = true := by simp [h35]
            have HN : Hid (lexGo (l.drop (k + 1)) (k + 1) true ws = R) := Lib.hid (by rw [← HD.out]; exact (lexGo_skip true (by simp [h35]) (.inl rfl)).symm)
            clear HD
            go_wp2
            go_roundw
            case rel => exact ⟨k + 1, true, ws, by omega, by go_num, rfl, by omega, HN, Lib.hid fun y hy => (HO.out y hy).on, HX, HB⟩
            case measure => simp [intOf]; omega
          · have q35 : ((x.toNat : Int) == 35) = false := by simp; omega
            cases note
            case true =>
              have HN : Hid (lexGo (l.drop (k + 1)) (k + 1) true ws = R) := Lib.hid (by rw [← HD.out]; exact (lexGo_skip true (by simp [h10]) (.inl rfl)).symm)
              clear HD
              go_wp2
              go_roundw
              case rel => exact ⟨k + 1, true, ws, by omega, by go_num, rfl, by omega, HN, Lib.hid fun y hy => (HO.out y hy).on, HX, HB⟩
              case measure => simp [intOf]; omega
            case false =>
              by_cases h32 : x.toNat = 32
              · have q32 : ((x.toNat : Int) == 32) = true := by simp [h32]
                have HN : Hid (lexGo (l.drop (k + 1)) (k + 1) false ws = R) := Lib.hid (by rw [← HD.out]; exact (lexGo_skip false (by simp [h32]) (.inr (by simp [lexBlank, h32]))).symm)
                clear HD
                go_wp2
                go_roundw
                case rel => exact ⟨k + 1, false, ws, by omega, by go_num, rfl, by omega, HN, Lib.hid fun y hy => (HO.out y hy).on, HX, HB⟩
                case measure => simp [intOf]; omega
              · have q32 : ((x.toNat : Int) == 32) = false := by simp; omega
                by_cases h9 : x.toNat = 9
                · have q9 : ((x.toNat : Int) == 9) = true := by simp [h9]
                  have HN : Hid (lexGo (l.drop (k + 1)) (k + 1) false ws = R) := Lib.hid (by rw [← HD.out]; exact (lexGo_skip false (by simp [h9]) (.inr (by simp [lexBlank, h9]))).symm)
                  clear HD
                  go_wp2
                  go_roundw
                  case rel => exact ⟨k + 1, false, ws, by omega, by go_num, rfl, by omega, HN, Lib.hid fun y hy => (HO.out y hy).on, HX, HB⟩
                  case measure => simp [intOf]; omega
                · have q9 : ((x.toNat : Int) == 9) = false := by simp; omega
                  by_cases h13 : x.toNat = 13
                  · have q13 : ((x.toNat : Int) == 13) = true := by simp [h13]
                    have HN : Hid (lexGo (l.drop (k + 1)) (k + 1) false ws = R) := Lib.hid (by rw [← HD.out]; exact (lexGo_skip false (by simp [h13]) (.inr (by simp [lexBlank, h13]))).symm)
                    clear HD
                    go_wp2
                    go_roundw
                    case rel => exact ⟨k + 1, false, ws, by omega, by go_num, rfl, by omega, HN, Lib.hid fun y hy => (HO.out y hy).on, HX, HB⟩
                    case measure => simp [intOf]; omega
                  · have q13 : ((x.toNat : Int) == 13) = false := by simp; omega
                    have hbl : lexBlank x.toNat = false := by simp [lexBlank, h10, h32, h9, h13]
                    have HC := Lib.hid (show x.toNat ≠ 35 ∧ lexBlank x.toNat = false from ⟨h35, hbl⟩)
                    clear h10 h35 h32 h9 h13 hbl
                    obtain ⟨P, hP⟩ : ∃ P, lexPut ws k x = P := ⟨_, rfl⟩
                    have HP := Lib.hid hP
                    clear hP
                    obtain ⟨a4, c4, hv, h4⟩ := HX.out.slice
                    rw [List.length_map] at hv h4
                    subst hv
                    have HX0 := HX
                    clear HX
                    obtain ⟨n, hn⟩ : ∃ n, ws.length = n := ⟨_, rfl⟩
                    have HNn := Lib.hid hn
                    rw [hn] at h4 hwl HX0 ⊢
                    clear hn
                    have hb4 := h4.bound
                    have H4 := Lib.hid h4
                    have HX := HX0
                    clear h4 HX0
                    go_upto_region 15 with fail
                    go_cut [75] from 46 to 75 (fun rv wx => ∃ r : Bool, rv = .bool r ∧ Hid (r = true → ∃ (W : List Lw) (y : Lw), ws = W ++ [y] ∧ y.p + y.t.length = k ∧ lexMore y.k x.toNat = true) ∧ Hid (r = false → P = ws ++ [⟨lexKind x.toNat, [x], k⟩]) ∧ Hid (OwnX wx w.heap.size 36 (.slice a4 n c4) (ws.map Lw.x)) ∧ Hid (Below w.heap.size w wx))
                    case first =>
                      rcases List.eq_nil_or_concat ws with hw | ⟨W, y, hw⟩
                      · have HN : Hid (P = ws ++ [⟨lexKind x.toNat, [x], k⟩]) := Lib.hid (by rw [← HP.out, hw]; rfl)
                        obtain rfl : n = 0 := by rw [← HNn.out, hw]; rfl
                        clear hw
                        go_wp2
                        go_quiet (fail)
                        go_wp2
                        go_meet
                        exact ⟨false, rfl, Lib.hid fun h => (by cases h), Lib.hid fun _ => HN.out, Lib.hid (HX.out.later (below_draws _ _)), Lib.hid (below_then HB.out (below_draws _ _))⟩
                      · rw [List.concat_eq_append] at hw
                        obtain ⟨m, hm⟩ : ∃ m, W.length = m := ⟨_, rfl⟩
                        obtain rfl : n = m + 1 := by rw [← HNn.out, hw, ← hm]; simp
                        have h4 := H4.out
                        rw [hw] at h4
                        obtain ⟨b4, o4, rfl, e0, e1, e2⟩ := h4.at (j := m) (by omega)
                        rw [← hm, wx_last, hm] at e0 e1 e2
                        obtain ⟨kk, t, p⟩ := y
                        have hy := HO.out ⟨kk, t, p⟩ (by rw [hw]; simp)
                        obtain ⟨hy1, hy2, hy3⟩ := hy
                        simp only [Lw.x, Wx.str] at e0 e1 e2
                        dsimp only at hy1 hy2 hy3
                        have hst := bs_size t
                        have HWs := Lib.hid hw
                        have HH : Hid (lexMore kk x.toNat = lexMore kk x.toNat) := Lib.hid rfl
                        clear hw h4
                        obtain ⟨mo, hmo⟩ : ∃ mo, lexMore kk x.toNat = mo := ⟨_, rfl⟩
                        have HMO := Lib.hid hmo
                        have HCM := Lib.hid fun w => ref16_more (kk : Int) kk rfl x.toNat w
                        rw [hmo] at HCM
                        clear hmo HH
                        obtain ⟨tl, htl⟩ : ∃ tl, t.length = tl := ⟨_, rfl⟩
                        have HTL := Lib.hid htl
                        rw [htl] at hy2 hst
                        clear htl
                        obtain ⟨s, hs⟩ : ∃ s, p + tl = s := ⟨_, rfl⟩
                        have j1 : IntKind.i64.wrap ((p : Int) + (tl : Int)) = (s : Int) := by rw [IntKind.wrap_i64]; omega
                        have j2 : IntKind.i64.wrap ((m : Int) + 1 - 1) = (m : Int) := by rw [IntKind.wrap_i64]; omega
                        have j3 : IntKind.i64.wrap (m : Int) = (m : Int) := by rw [IntKind.wrap_i64]; omega
                        have j4 : (0 : Int) < (m : Int) + 1 := by omega
                        have j5 : decide ((0 : Int) < (m : Int) + 1) = true := decide_eq_true j4
                        have j6 : (m : Int) < (m : Int) + 1 := by omega
                        have HSp := Lib.hid hs
                        by_cases hsk : s = k
                        · have j7 : ((s : Int) == (k : Int)) = true := by simp [hsk]
                          have HSK := Lib.hid hsk
                          clear hs hsk hm
                          cases mo
                          · have HN : Hid (P = ws ++ [⟨lexKind x.toNat, [x], k⟩]) := Lib.hid (by rw [← HP.out, HWs.out]; exact lexPut_new (fun h => absurd (HMO.out.symm.trans h.2) (by decide)))
                            go_wp2
                            go_quiet ((go_at_call 20; exact quiet_here (HCM.out _) ⟨_, rfl⟩))
                            go_wp2
                            go_meet
                            exact ⟨false, rfl, Lib.hid fun h => (by cases h), Lib.hid fun _ => HN.out, Lib.hid (HX.out.later (below_draws _ _)), Lib.hid (below_then HB.out (below_draws _ _))⟩
                          · have HN : Hid (∃ (W : List Lw) (y : Lw), ws = W ++ [y] ∧ y.p + y.t.length = k ∧ lexMore y.k x.toNat = true) := Lib.hid ⟨W, ⟨kk, t, p⟩, HWs.out, by rw [← HSK.out, ← HSp.out, ← HTL.out], HMO.out⟩
                            go_wp2
                            go_quiet ((go_at_call 20; exact quiet_here (HCM.out _) ⟨_, rfl⟩))
                            go_wp2
                            go_meet
                            exact ⟨true, rfl, Lib.hid fun _ => HN.out, Lib.hid fun h => (by cases h), Lib.hid (HX.out.later (below_draws _ _)), Lib.hid (below_then HB.out (below_draws _ _))⟩
                        · have j7 : ((s : Int) == (k : Int)) = false := by simp; omega
                          have HN : Hid (P = ws ++ [⟨lexKind x.toNat, [x], k⟩]) := Lib.hid (by rw [← HP.out, HWs.out]; exact lexPut_new (fun h => hsk (by rw [← hs, ← HTL.out]; exact h.1)))
                          clear hs hsk hm
                          go_wp2
                          go_quiet (fail)
                          go_wp2
                          go_meet
                          exact ⟨false, rfl, Lib.hid fun h => (by cases h), Lib.hid fun _ => HN.out, Lib.hid (HX.out.later (below_draws _ _)), Lib.hid (below_then HB.out (below_draws _ _))⟩
                    case rest =>
                      obtain ⟨r, rfl, HY, HN, HX2, HB2⟩ := hcut
                      clear HX HB H4
                      go_upto_if 75 with fail
                      go_cut [4] from 76 to 101 (fun v wx => ∃ (Q : List Lw) (z : Lw), Hid (P = Q ++ [z]) ∧ Q.length ≤ k ∧ z.k ≤ 3 ∧ z.t.length ≤ 61 ∧ z.p ≤ k ∧ Hid (∀ y ∈ Q, LwOk k y) ∧ Hid (OwnX wx w.heap.size 36 v ((Q ++ [z]).map Lw.x)) ∧ Hid (Below w.heap.size w wx))
                      case first =>
                        cases r
                        · have HP2 := Lib.hid (HN.out rfl)
                          clear HN HY
                          have k1 : IntKind.i64.wrap ((k : Int) + 1) = (k : Int) + 1 := by rw [IntKind.wrap_i64]; omega
                          have k2 : (k : Int) + 1 ≤ (l.length : Int) := by omega
                          have k3 : ((k : Int) + 1).toNat = k + 1 := by omega
                          have k4 : (0 : Int) ≤ (k : Int) + 1 := by omega
                          have k5 : (k : Int) ≤ (k : Int) + 1 := by omega
                          go_wp2
                          go_region_law (first
                            | (refine step_append_x rfl _ _ 28 rfl w.heap.size 36 i0 (.agg #[.int .i64 0, .string ⟨#[]⟩, .int .i64 0]) Try.underlying28 hi hz0 hz1 hz2 rfl _ (ws.map Lw.x) rfl (HX2.out.later ((below_draws wc 1).alloc (Nat.le_refl _) _)) ⟨_, 0, none⟩ ⟨(lexKind x.toNat : Int), [x], (k : Int)⟩ rfl (wcells_news _ _ _) (by rw [List.length_map, HNn.out]; omega) (by have := HB2.out.size; simp; omega) ?_; intro v' w5 hrow hgrow)
                            | (go_simp; go_at_call 21; refine (ref16_kind x.toNat _).mono ?_; rintro e w4 ⟨rfl, rfl⟩; rw [HM.out]))
                          have HX5 := Lib.hid hrow
                          have HB5 : Hid (Below w.heap.size w w5) := Lib.hid (((HB2.out.trans ((below_draws wc 1).mono HB2.out.size)).alloc (by have := HB2.out.size; simp; omega) _).grown hgrow (by have := HB2.out.size; simp; omega) (fun g hg => HX2.out.base g hg))
                          clear hrow hgrow
                          go_wp2
                          go_meet
                          exact ⟨ws, ⟨lexKind x.toNat, [x], k⟩, HP2, by rw [HNn.out]; omega, lexKind_le _, by simp, Nat.le_refl _, HO, Lib.hid (by rw [List.map_append]; exact HX5.out), HB5⟩
                        · obtain ⟨W, y, hw, hs, hmo⟩ := HY.out rfl
                          clear HN HY
                          obtain ⟨m, hm⟩ : ∃ m, W.length = m := ⟨_, rfl⟩
                          obtain rfl : n = m + 1 := by rw [← HNn.out, hw, ← hm]; simp
                          have HX3 := HX2.out
                          rw [hw] at HX3
                          obtain ⟨g, cap, hv, hg, hcap⟩ := HX3.some (by simp)
                          simp only [Value.slice.injEq] at hv
                          obtain ⟨rfl, -, rfl⟩ := hv
                          have h5 : Wxs wc (some ⟨g, 0, none⟩) (m + 1) c4 ((W ++ [y]).map Lw.x) := Wxs.own (by have h9 := HX3; unfold OwnX at h9; exact h9) (by rw [← hm]; simp)
                          obtain ⟨b5, o5, hb5, e0, e1, e2⟩ := h5.at (j := m) (by omega)
                          simp only [Option.some.injEq, Addr.mk.injEq, and_true] at hb5
                          obtain ⟨rfl, rfl⟩ := hb5
                          rw [← hm, wx_last, hm] at e0 e1 e2
                          have hf := World.ownsRow.frozenAt (w := wc) (show wc.ownsRow w.heap.size 36 3 (.slice (some ⟨g, 0, none⟩) (m + 1) c4) (m + 1) (((W ++ [y]).map Lw.x).flatMap Wx.cells) from by have h9 := HX3; unfold OwnX at h9; rw [List.length_map, List.length_append, hm] at h9; exact h9) (m * 3 + 1)
                          obtain ⟨kk, t, p⟩ := y
                          have hy := HO.out ⟨kk, t, p⟩ (by rw [hw]; simp)
                          obtain ⟨hy1, hy2, hy3⟩ := hy
                          simp only [Lw.x, Wx.str] at e0 e1 e2
                          dsimp only at hy1 hy2 hy3 hs hmo
                          rw [Nat.zero_add] at e0 e1 e2
                          have HP2 : Hid (P = W ++ [⟨kk, t ++ [x], p⟩]) := Lib.hid (by rw [← HP.out, hw]; exact lexPut_more ⟨hs, hmo⟩)
                          have HOW : Hid (∀ z ∈ W, LwOk k z) := Lib.hid fun z hz => HO.out z (by rw [hw]; exact List.mem_append_left _ hz)
                          have HX4 := Lib.hid HX3
                          have HM2 := HM.out
                          have hst := bs_size t
                          have hsx : (bs [x]).size = 1 := bs_size [x]
                          have hcat : bs t ++ bs [x] = bs (t ++ [x]) := bs_append _ _
                          have hsc : (bs (t ++ [x])).size = t.length + 1 := by rw [bs_size]; simp
                          have HWm := Lib.hid hm
                          clear hw hs hmo HX3 h5 hm
                          have k1 : IntKind.i64.wrap ((k : Int) + 1) = (k : Int) + 1 := by rw [IntKind.wrap_i64]; omega
                          have k2 : (k : Int) + 1 ≤ (l.length : Int) := by omega
                          have k3 : ((k : Int) + 1).toNat = k + 1 := by omega
                          have k4 : (0 : Int) ≤ (k : Int) + 1 := by omega
                          have k5 : (k : Int) ≤ (k : Int) + 1 := by omega
                          have j2 : IntKind.i64.wrap ((m : Int) + 1 - 1) = (m : Int) := by rw [IntKind.wrap_i64]; omega
                          have j3 : IntKind.i64.wrap (m : Int) = (m : Int) := by rw [IntKind.wrap_i64]; omega
                          have j6 : (m : Int) < (m : Int) + 1 := by omega
                          have b0 : Below wc.heap.size wc wc.drew := (Below.refl _ _).drew
                          go_wp2
                          go_region
                          go_wp2
                          go_meet
                          exact ⟨W, ⟨kk, t ++ [x], p⟩, HP2, by rw [HWm.out]; omega, hy1, by simp; omega, hy3, HOW, Lib.hid (by
                            have h9 := (OwnX.stored (L := W.map Lw.x) (x := ⟨(kk : Int), t, (p : Int)⟩) (y := ⟨(kk : Int), t ++ [x], (p : Int)⟩) (by have h8 := HX4.out.later b0; rw [List.map_append] at h8; rw [List.length_map, HWm.out]; exact h8) rfl rfl).1
                            rw [List.length_map, HWm.out] at h9
                            rw [List.map_append]
                            unfold Wx.str at h9
                            first | exact h9 | (rw [← bs_append] at h9; exact h9)), Lib.hid ((below_then HB2.out b0).setCell (p := ⟨g, m * 3 + 1, none⟩) hg _)⟩
                      case rest =>
                        obtain ⟨Q, z, HPz, hq, hz1', hz2', hz3, HOq, HX3, HB3⟩ := hcut
                        clear HN HY HX2 HB2 HNn
                        obtain ⟨g, cap, hv, hg, hcap⟩ := HX3.out.some (by simp)
                        obtain ⟨a5, c5, hv5, h5⟩ := HX3.out.slice
                        rw [hv] at hv5
                        simp only [Value.slice.injEq] at hv5
                        obtain ⟨rfl, -, rfl⟩ := hv5
                        obtain ⟨q, hql⟩ : ∃ q, Q.length = q := ⟨_, rfl⟩
                        have hlen : ((Q ++ [z]).map Lw.x).length = q + 1 := by rw [← hql]; simp
                        rw [hlen] at hv h5 hcap
                        obtain ⟨b5, o5, hb5, e0, e1, e2⟩ := h5.at (j := q) (by omega)
                        simp only [Option.some.injEq, Addr.mk.injEq, and_true] at hb5
                        obtain ⟨rfl, rfl⟩ := hb5
                        rw [← hql, wx_last, hql] at e0 e1 e2
                        subst hv
                        simp only [Lw.x, Wx.str] at e0 e1 e2
                        have hqk : q ≤ k := by omega
                        have HQl := Lib.hid hql
                        clear hql hlen h5
                        have j6 : (q : Int) < (q : Int) + 1 := by omega
                        have j2 : (q : Int) + 1 - 1 = (q : Int) := by omega
                        rw [Nat.zero_add] at e0 e1 e2
                        go_upto_region 19 with fail
                        have hzt := bs_size z.t
                        by_cases hzk : z.k = 0
                        · have q1 : ((z.k : Int) == 0) = true := by simp [hzk]
                          have HF : Hid (R = ([], (k : Int))) := Lib.hid (by rw [← HD.out]; exact lexGo_bad HC.out.1 HC.out.2 (HP.out.trans HPz.out) (by simp [lexBad, hzk]))
                          clear hzk
                          obtain rfl := HF.out
                          go_quiet (fail)
                          go_wp2
                          go_ret2
                          exact ⟨_, _, _, rfl, Wxs.void _ _, ((below_then HB3.out (below_then (below_alloc wc _) (below_draws _ _))).alloc (by have := HB3.out.size; simp; omega) _)⟩
                        · have q1 : ((z.k : Int) == 0) = false := by simp; omega
                          by_cases hm : lexMost z.k < z.t.length
                          · have q2 : decide ((lexMost z.k : Int) < (z.t.length : Int)) = true := decide_eq_true (by omega)
                            have HF : Hid (R = ([], (k : Int))) := Lib.hid (by rw [← HD.out]; exact lexGo_bad HC.out.1 HC.out.2 (HP.out.trans HPz.out) (by simp [lexBad, hm]))
                            clear hzk
                            obtain rfl := HF.out
                            go_quiet ((go_at_call 22; exact quiet_here (ref16_most (z.k : Int) z.k rfl _) ⟨_, rfl⟩))
                            go_wp2
                            go_ret2
                            exact ⟨_, _, _, rfl, Wxs.void _ _, ((below_then HB3.out (below_then (below_alloc wc _) (below_draws _ _))).alloc (by have := HB3.out.size; simp; omega) _)⟩
                          · have q2 : decide ((lexMost z.k : Int) < (z.t.length : Int)) = false := decide_eq_false (by omega)
                            have HG2 : Hid (lexGo (l.drop (k + 1)) (k + 1) false (Q ++ [z]) = R) := Lib.hid (by rw [← HD.out]; exact (lexGo_on HC.out.1 HC.out.2 (HP.out.trans HPz.out) (by simp [lexBad, hzk]; omega)).symm)
                            have HO2 : Hid (∀ y ∈ Q ++ [z], LwOk (k + 1) y) := Lib.hid fun y hy => by
                              rcases List.mem_append.1 hy with h | h
                              · exact (HOq.out y h).on
                              · obtain rfl : y = z := by simpa using h
                                exact ⟨hz1', Nat.le_trans (by omega) (lexMost_le y.k), by omega⟩
                            clear hzk
                            go_quiet ((go_at_call 22; exact quiet_here (ref16_most (z.k : Int) z.k rfl _) ⟨_, rfl⟩))
                            go_wp2
                            go_roundw
                            case rel => exact ⟨k + 1, false, Q ++ [z], by omega, by go_num, rfl, by simp [HQl.out]; omega, HG2, HO2, Lib.hid ((HX3.out.later (below_alloc wc _)).later (below_draws _ _)), Lib.hid (below_then HB3.out (below_then (below_alloc wc _) (below_draws _ _)))⟩
                            case measure => simp [intOf]; omega
      · obtain rfl : k = l.length := by omega
        have HF : Hid (R = (ws, -1)) := Lib.hid (by rw [← HG.out, List.drop_length]; rfl)
        obtain rfl := HF.out
        clear HG HF
        go_wp2
        go_ret2
        obtain ⟨a9, c9, rfl, h9⟩ := HX.out.slice
        exact ⟨_, _, _, rfl, h9, HB.out⟩
end Go.Proofs.Ytblnllilepfheaa
