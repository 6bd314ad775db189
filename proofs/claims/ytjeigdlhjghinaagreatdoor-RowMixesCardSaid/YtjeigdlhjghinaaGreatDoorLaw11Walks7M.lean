/-
  The walks of the laws of layer 11: RowMixes.
-/
import Derived.Test.YtjeigdlhjghinaaGreatDoorG24
import Derived.Test.YtjeigdlhjghinaaGreatDoorLaw11IsM
import Derived.Test.YtjeigdlhjghinaaGreatDoorRowUse2M
import Derived.Test.YtjeigdlhjghinaaGreatDoorRowRowsM
import Derived.Test.YtjeigdlhjghinaaGreatDoorG19
import Derived.Test.YtjeigdlhjghinaaGreatDoorG13
import Derived.Deep.RegionHeld3
import Derived.Deep.CutRange
namespace Go.Proofs.YtjeigdlhjghinaaGreatDoor
open Go.RowKit

theorem infoRow11 : (Tryz.prog.info? 28).map (fun i => (i.zero, i.size, i.bytes)) = some (some (.slice none 0 0), 1, 24) := by kernel_rfl
theorem info_parts1 {P : Program} {t : TypeId} (h : (P.info? t).map (fun i => (i.zero, i.size, i.bytes)) = some (some (.slice none 0 0), 1, 24)) : ∃ i, P.info? t = some i ∧ i.zero = some (.slice none 0 0) ∧ i.size = 1 ∧ i.bytes = 24 := by
  cases hi : P.info? t with
  | none => rw [hi] at h; simp at h
  | some i =>
    rw [hi] at h
    simp only [Option.map_some, Option.some.injEq, Prod.mk.injEq] at h
    exact ⟨i, rfl, h.1, h.2.1, h.2.2⟩
theorem ll_more {α : Type} {LL : List (List α)} {k : Nat} (h : k < LL.length) : LL.take (k + 1) = LL.take k ++ [LL.getD k []] := by
  rw [List.take_succ_eq_append_getElem h, List.getD_eq_getElem?_getD, List.getElem?_eq_getElem h]; rfl
theorem all_more {α : Type} {l : List α} {x : α} {p : α → Prop} : (∀ y ∈ l ++ [x], p y) ↔ (∀ y ∈ l, p y) ∧ p x := by
  constructor
  · intro h; exact ⟨fun y hy => h y (List.mem_append_left _ hy), h x (by simp)⟩
  · rintro ⟨h1, h2⟩ y hy
    rcases List.mem_append.1 hy with hy | hy
    · exact h1 y hy
    · rw [List.mem_singleton.1 hy]; exact h2
theorem rmix_snoc : ∀ {cs : List Rat} {ls : List (List Rat)} (s : List Rat) (c : Rat) (l : List Rat), cs.length = ls.length → rmix s (cs ++ [c]) (ls ++ [l]) = radd (rmix s cs ls) (rscale c l)
  | [], [], s, c, l, _ => by simp [rmix]
  | x :: cs, y :: ls, s, c, l, h => by
    rw [List.cons_append, List.cons_append, rmix, rmix_snoc _ c l (by simpa using h), rmix]
  | [], _ :: _, _, _, _, h => by simp at h
  | _ :: _, [], _, _, _, h => by simp at h
theorem rmix_good {N A B : Nat} : ∀ {cs : List Rat} {ls : List (List Rat)} {s : List Rat}, s.length = N → (∀ q ∈ s, qlen q ≤ A) → (∀ q ∈ cs, qlen q ≤ B) → (∀ l ∈ ls, l.length = N ∧ ∀ q ∈ l, qlen q ≤ B) → (rmix s cs ls).length = N ∧ ∀ q ∈ rmix s cs ls, qlen q ≤ A + cs.length * (B + B + 3)
  | [], ls, s, h1, h2, _, _ => by
    rw [rmix]
    · exact ⟨h1, fun q hq => Nat.le_trans (h2 q hq) (Nat.le_add_right _ _)⟩
    · simp
  | c :: cs, [], s, h1, h2, _, _ => by
    rw [rmix]
    · exact ⟨h1, fun q hq => Nat.le_trans (h2 q hq) (Nat.le_add_right _ _)⟩
    · simp
  | c :: cs, l :: ls, s, h1, h2, h3, h4 => by
    obtain ⟨h5, h6⟩ := h4 l (List.mem_cons_self ..)
    have h7 : (radd s (rscale c l)).length = N := by rw [radd_length _ _ (by rw [rscale_length]; omega)]; exact h1
    have h8 : ∀ q ∈ radd s (rscale c l), qlen q ≤ A + (B + B + 3) := fun q hq => Nat.le_trans (qlen_radd h2 (qlen_rscale (h3 c (List.mem_cons_self ..)) h6) q hq) (by omega)
    obtain ⟨h9, h10⟩ := rmix_good (cs := cs) (ls := ls) h7 h8 (fun q hq => h3 q (List.mem_cons_of_mem _ hq)) (fun x hx => h4 x (List.mem_cons_of_mem _ hx))
    rw [rmix]
    refine ⟨h9, fun q hq => Nat.le_trans (h10 q hq) ?_⟩
    have : (c :: cs).length * (B + B + 3) = cs.length * (B + B + 3) + (B + B + 3) := by rw [List.length_cons, Nat.add_mul, Nat.one_mul]
    omega
theorem four_on {w w' : World} {p q r s : Addr} {x y z u : Value} (h : w.cell? p = some x ∧ w.cell? q = some y ∧ w.cell? r = some z ∧ w.cell? s = some u) (hb : Below w.heap.size w w') : w'.cell? p = some x ∧ w'.cell? q = some y ∧ w'.cell? r = some z ∧ w'.cell? s = some u := ⟨cell_later hb h.1, cell_later hb h.2.1, cell_later hb h.2.2.1, cell_later hb h.2.2.2⟩
theorem rcut_nat {k : Int} (h1 : 0 ≤ k) (h2 : k ≤ 300) : rcut k = k.toNat := by unfold rcut; omega
set_option maxRecDepth 4096 in
set_option maxHeartbeats 16000000 in
theorem law11_mixes_long (S : RowSaid) (FS : FracSaid) (a : Option Addr) (n c : Nat) (L : List Fx) (b : Option Addr) (m d : Nat) (LL : List (List Fx)) (k : Int) (w : World) (h : Fxs w a n c L) (_h8 : Fxss w b m d LL) (_hk : isInt k) (hT : Hid (Dec10 w)) (hb : ¬ ((n : Int) ≤ 8 ∧ thinI 3 L)) : Calls Tryz.prog 5 #[.slice a n c, .slice b m d, .int .i64 k] w (Gives (.bool true) w) := by
  have HB : Hid (Below w.heap.size w w) := Lib.hid (Below.refl _ _)
  have HNB := Lib.hid hb
  have HF := Lib.hid h
  clear h hb
  go_enter Tryz.func5, Tryz.ntmps5
  go_wp2_with fail
  refine (ref11_long a n c L 8 3 true _ HF.out (by decide) (Lib.hid ⟨fun _ => HNB.out, fun _ => rfl⟩)).mono ?_
  rintro e wv1 ⟨rfl, b⟩
  replace HB := Lib.hid (below_then HB.out b)
  replace HF := Lib.hid (HF.out.later b)
  clear b
  go_wp2_with fail
  refine (law11_works S FS _ (Lib.hid (hT.out.later HB.out))).mono ?_
  rintro e wv2 ⟨rfl, b⟩
  replace HB := Lib.hid (below_then HB.out b)
  replace HF := Lib.hid (HF.out.later b)
  clear b
  go_wp2
  go_ret
  exact ⟨rfl, HB.out⟩
set_option maxRecDepth 4096 in
set_option maxHeartbeats 16000000 in
theorem law11_mixes_much (S : RowSaid) (FS : FracSaid) (a : Option Addr) (n c : Nat) (L : List Fx) (b : Option Addr) (m d : Nat) (LL : List (List Fx)) (k : Int) (w : World) (h : Fxs w a n c L) (_h8 : Fxss w b m d LL) (_hk : isInt k) (hT : Hid (Dec10 w)) (hb : (n : Int) ≤ 8 ∧ thinI 3 L) (hm : 8 < m) : Calls Tryz.prog 5 #[.slice a n c, .slice b m d, .int .i64 k] w (Gives (.bool true) w) := by
  have HB : Hid (Below w.heap.size w w) := Lib.hid (Below.refl _ _)
  have HNB := Lib.hid hb
  have HF := Lib.hid h
  have hm8 : (8 : Int) < (m : Int) := by omega
  clear h hb
  go_enter Tryz.func5, Tryz.ntmps5
  go_wp2_with fail
  refine (ref11_long a n c L 8 3 false _ HF.out (by decide) (Lib.hid ⟨fun h => absurd h (by decide), fun h => absurd HNB.out h⟩)).mono ?_
  rintro e wv1 ⟨rfl, b⟩
  replace HB := Lib.hid (below_then HB.out b)
  replace HF := Lib.hid (HF.out.later b)
  clear b
  go_wp2_with fail
  refine (law11_works S FS _ (Lib.hid (hT.out.later HB.out))).mono ?_
  rintro e wv2 ⟨rfl, b⟩
  replace HB := Lib.hid (below_then HB.out b)
  replace HF := Lib.hid (HF.out.later b)
  clear b
  go_wp2
  go_ret
  exact ⟨rfl, HB.out⟩
set_option maxRecDepth 4096 in
set_option maxHeartbeats 16000000 in
theorem law11_mixes_short (S : RowSaid) (FS : FracSaid) (a : Option Addr) (n c : Nat) (L : List Fx) (b : Option Addr) (m d : Nat) (LL : List (List Fx)) (k : Int) (w : World) (h : Fxs w a n c L) (h8 : Fxss w b m d LL) (hk : isInt k) (hT : Hid (Dec10 w)) (hb : (n : Int) ≤ 8 ∧ thinI 3 L) (hm : m ≤ 8) : Calls Tryz.prog 5 #[.slice a n c, .slice b m d, .int .i64 k] w (Gives (.bool true) w) := by
  have HB : Hid (Below w.heap.size w w) := Lib.hid (Below.refl _ _)
  have HNB := Lib.hid hb
  have hn : n ≤ 8 := by have := hb.1; omega
  have hth : thin 3 L := thinI.out (N := 3) hb.2
  have hq : ∀ q ∈ fqs L, qlen q ≤ 4 := fun q hq => by
    obtain ⟨x, hx, rfl⟩ := List.mem_map.1 hq
    exact ((h.ok hx).fr (hth x hx).1 (hth x hx).2).len
  have hlq : (fqs L).length = n := (fqs_length L).trans h.len
  have HTH := Lib.hid hth
  have HQ := Lib.hid hq
  have HLQ := Lib.hid hlq
  have HF := Lib.hid h
  have HLL := Lib.hid h8.len
  have hbd8 := h8.bound
  have hbdc := h.bound
  have HFF := Lib.hid h8
  have HKI := Lib.hid hk
  have hm8 : ¬ (8 : Int) < (m : Int) := by omega
  obtain ⟨xs, hxs⟩ : ∃ xs, fqs L = xs := ⟨_, rfl⟩
  have HXS := Lib.hid hxs
  obtain ⟨i1, hi1, hj0, hj1, hj2⟩ := info_parts1 infoRow11
  have HF0 := HF
  have HFF0 := HFF
  clear hxs h8 hk
  clear h hb hlq hth hq
  go_enter Tryz.func5, Tryz.ntmps5
  go_wp2_with fail
  refine (ref11_long a n c L 8 3 false _ HF.out (by decide) (Lib.hid ⟨fun h => absurd h (by decide), fun h => absurd HNB.out h⟩)).mono ?_
  rintro e wv1 ⟨rfl, b⟩
  replace HB := Lib.hid (below_then HB.out b)
  replace HF := Lib.hid (HF.out.later b)
  replace HFF := Lib.hid (HFF.out.later b)
  clear b
  go_upto_region 3 with fail
  go_cut [7] from 22 to 34 (fun rv wx => ∃ r : Bool, rv = .bool r ∧ Hid (r = true ↔ (n = m ∧ 0 ≤ k ∧ k ≤ 300)) ∧ wx = wv1)
  case first =>
    by_cases h1 : n = m
    · have q1 : ((n : Int) == (m : Int)) = true := by simp [h1]
      by_cases h2 : 0 ≤ k
      · by_cases h3 : k ≤ 300
        · have HH : Hid (true = true ↔ (n = m ∧ 0 ≤ k ∧ k ≤ 300)) := Lib.hid ⟨fun _ => ⟨h1, h2, h3⟩, fun _ => rfl⟩
          have q2 : decide (k ≥ 0) = true := decide_eq_true h2
          have q3 : decide (k ≤ 300) = true := decide_eq_true h3
          clear h1
          go_wp2
          go_meet
          exact ⟨true, rfl, Lib.hid (by simpa using HH.out), rfl⟩
        · have HH : Hid (false = true ↔ (n = m ∧ 0 ≤ k ∧ k ≤ 300)) := Lib.hid ⟨fun h => (by cases h), fun h => absurd h.2.2 h3⟩
          have q2 : decide (k ≥ 0) = true := decide_eq_true h2
          have q3 : decide (k ≤ 300) = false := decide_eq_false h3
          clear h1
          go_wp2
          go_meet
          exact ⟨false, rfl, HH, rfl⟩
      · have HH : Hid (false = true ↔ (n = m ∧ 0 ≤ k ∧ k ≤ 300)) := Lib.hid ⟨fun h => (by cases h), fun h => absurd h.2.1 h2⟩
        have q2 : decide (k ≥ 0) = false := decide_eq_false h2
        clear h1
        go_wp2
        go_meet
        exact ⟨false, rfl, HH, rfl⟩
    · have HH : Hid (false = true ↔ (n = m ∧ 0 ≤ k ∧ k ≤ 300)) := Lib.hid ⟨fun h => (by cases h), fun h => absurd h.1 h1⟩
      have q1 : ((n : Int) == (m : Int)) = false := by simp; omega
      clear h1
      go_wp2
      go_meet
      exact ⟨false, rfl, HH, rfl⟩
  case rest =>
    obtain ⟨r0, rfl, HR0, rfl⟩ := hcut
    go_wp2
    go_loopw [7, 8, 9] (fun rv mv iv wr => ∃ (j : Nat) (r : Bool), j ≤ m ∧ iv = .int .i64 (j : Int) ∧ rv = .bool r ∧ Hid (r = true ↔ (n = m ∧ 0 ≤ k ∧ k ≤ 300) ∧ ∀ M ∈ LL.take j, (M.length : Int) = k) ∧ Hid (∀ M ∈ LL.take j, M.length ≤ 8 ∧ thin 3 M) ∧ Hid (OwnF wr w.heap.size 28 mv (LL.take j)) ∧ Hid (Below w.heap.size w wr) ∧ w.heap.size ≤ wr.heap.size) (fun _ _ iv _ => m - (intOf iv).toNat)
    case atStart => exact ⟨0, r0, by omega, rfl, rfl, Lib.hid ⟨fun h => ⟨HR0.out.1 h, fun M hM => by simp at hM⟩, fun h => HR0.out.2 h.1⟩, Lib.hid (fun M hM => by simp at hM), Lib.hid (OwnF.nil _ _ _), HB, HB.out.size⟩
    case round =>
      obtain ⟨j, r, hj, rfl, rfl, HR, HS8, HO, HB9, hsz⟩ := hrel
      by_cases hlt : j < m
      · obtain ⟨bb, off, hbe, a', n', c', e0, h1⟩ := (HFF0.out.later HB9.out).at hlt
        have HT9 : Hid (LL.take (j + 1) = LL.take j ++ [LL.getD j []]) := Lib.hid (ll_more (by rw [HLL.out]; exact hlt))
        have hjL : (LL.take j).length ≤ 1000000 := by rw [List.length_take]; omega
        generalize LL.getD j [] = M at *
        have HM1 := Lib.hid h1
        have hl1 := h1.len
        have hbd1 := h1.bound
        have hji : (j : Int) < (m : Int) := by omega
        subst hbe
        by_cases hM : (n' : Int) ≤ 8 ∧ thinI 3 M
        · have hMt : M.length ≤ 8 ∧ thin 3 M := ⟨by have := hM.1; omega, thinI.out (N := 3) hM.2⟩
          have HNM := Lib.hid hM
          have HMT := Lib.hid hMt
          have HL1 := Lib.hid hl1
          have hn8 : n' ≤ 8 := by omega
          have E0 := Lib.hid e0
          clear h1 hl1 hM hMt e0
          have e0 := E0.out
          go_wp2_with fail
          refine (ref11_long a' n' c' M 8 3 false _ HM1.out (by decide) (Lib.hid ⟨fun h => absurd h (by decide), fun h => absurd HNM.out h⟩)).mono ?_
          rintro e w2 ⟨rfl, b2⟩
          clear e0
          have HB2 := Lib.hid (below_then HB9.out b2)
          have HO2 := Lib.hid (HO.out.later b2)
          have HM2 := Lib.hid (HM1.out.later b2)
          have hsz2 : w.heap.size ≤ w2.heap.size := Nat.le_trans hsz b2.size
          have E2 : Hid (w2.cell? ⟨bb, off + j, none⟩ = some (.slice a' n' c')) := Lib.hid (cell_later b2 E0.out)
          clear b2 HB9 HO HM1 E0 hsz
          have e2 := E2.out
          go_upto_region 10 with fail
          go_cut [7] from 35 to 64 (fun rv wx => ∃ r' : Bool, rv = .bool r' ∧ Hid (r' = true ↔ (r = true ∧ (n' : Int) = k)) ∧ wx = w2)
          case first =>
            cases r with
            | false =>
              go_wp2
              go_meet
              exact ⟨false, rfl, Lib.hid ⟨fun h => (by cases h), fun h => h.1⟩, rfl⟩
            | true =>
              by_cases hnk : (n' : Int) = k
              · have HH : Hid (true = true ↔ (true = true ∧ (n' : Int) = k)) := Lib.hid ⟨fun _ => ⟨rfl, hnk⟩, fun _ => rfl⟩
                have q1 : ((n' : Int) == k) = true := by simp [hnk]
                clear hnk
                go_wp2
                go_meet
                exact ⟨true, rfl, Lib.hid (by simpa using HH.out), rfl⟩
              · have HH : Hid (false = true ↔ (true = true ∧ (n' : Int) = k)) := Lib.hid ⟨fun h => (by cases h), fun h => absurd h.2 hnk⟩
                have q1 : ((n' : Int) == k) = false := by simp [hnk]
                clear hnk
                go_wp2
                go_meet
                exact ⟨false, rfl, HH, rfl⟩
          case rest =>
            obtain ⟨r', rfl, HR', rfl⟩ := hcut
            go_wp2_with fail
            refine (law11_to a' n' c' M _ HM2.out (by omega)).mono ?_
            rintro e w4 ⟨a4, c4, rfl, h4, b4⟩
            clear e2
            have HB4 := Lib.hid (below_then HB2.out b4)
            have HO4 := Lib.hid (HO2.out.later b4)
            have hsz4 : w.heap.size ≤ w4.heap.size := Nat.le_trans hsz2 b4.size
            have ba := below_alloc w4 (.cells #[.slice a4 n' c4] 28)
            have HOa := Lib.hid (HO4.out.later ba)
            have HBa := Lib.hid (below_then HB4.out ba)
            have HYa := Lib.hid (h4.later ba)
            have HNEW := Lib.hid (blk_cell (blk_new w4 #[.slice a4 n' c4] 28) 0)
            clear ba b4 h4 HO2 HB2 HB4 HO4 E2 HM2
            go_wp2_with (at_builtin; refine wpList_append_row2 _ rfl _ _ 65 rfl w.heap.size 28 i1 Tryz.underlying65 hi1 hj0 hj1 hj2 _ (LL.take j) rfl HOa.out ⟨w4.heap.size, 0, none⟩ a4 n' c4 M rfl HNEW.out rfl HYa.out hjL (by rw [blk_size]; omega) ?_)
            intro mv5 w5 hrow hgrow hbase hcl
            have HO5 : Hid (OwnF w5 w.heap.size 28 mv5 (LL.take (j + 1))) := Lib.hid (by rw [HT9.out]; exact hrow)
            have HB5 := Lib.hid (HBa.out.grown hgrow (by rw [blk_size]; omega) hbase)
            have hsz5 : w.heap.size ≤ w5.heap.size := Nat.le_trans (by rw [blk_size]; omega) hgrow.size
            have HR5 : Hid (r' = true ↔ (n = m ∧ 0 ≤ k ∧ k ≤ 300) ∧ ∀ M ∈ LL.take (j + 1), (M.length : Int) = k) := Lib.hid (by
              rw [HT9.out, all_more, HR'.out, HR.out, HL1.out]
              constructor
              · rintro ⟨⟨h1, h2⟩, h3⟩; exact ⟨h1, h2, h3⟩
              · rintro ⟨h1, h2, h3⟩; exact ⟨⟨h1, h2⟩, h3⟩)
            have HS5 : Hid (∀ M ∈ LL.take (j + 1), M.length ≤ 8 ∧ thin 3 M) := Lib.hid (by rw [HT9.out, all_more]; exact ⟨HS8.out, HMT.out⟩)
            clear hrow hgrow hbase hcl HOa HBa HYa HT9 HNEW hsz4 HR HR' HS8 HMT HL1
            go_wp2
            go_roundw
            case rel => exact ⟨j + 1, r', by omega, by go_num, rfl, HR5, HS5, HO5, HB5, hsz5⟩
            case measure => simp [intOf]; omega
        · have HNM := Lib.hid hM
          have E0 := Lib.hid e0
          clear h1 hl1 hM e0 HT9
          have e0 := E0.out
          go_wp2_with fail
          refine (ref11_long a' n' c' M 8 3 true _ HM1.out (by decide) (Lib.hid ⟨fun _ => HNM.out, fun _ => rfl⟩)).mono ?_
          rintro e w2 ⟨rfl, b2⟩
          clear e0
          have HB2 := Lib.hid (below_then HB9.out b2)
          clear b2
          go_wp2_with fail
          refine (law11_works S FS _ (Lib.hid (hT.out.later HB2.out))).mono ?_
          rintro e w3 ⟨rfl, b3⟩
          have HB3 := Lib.hid (below_then HB2.out b3)
          clear b3
          go_wp2
          go_ret
          exact ⟨rfl, HB3.out⟩
      · obtain rfl : j = m := by omega
        have htk : LL.take j = LL := List.take_of_length_le (by rw [HLL.out]; exact Nat.le_refl _)
        have HR7 : Hid (r = true ↔ (n = j ∧ 0 ≤ k ∧ k ≤ 300) ∧ ∀ M ∈ LL, (M.length : Int) = k) := Lib.hid (by have := HR.out; rw [htk] at this; exact this)
        have HS7 : Hid (∀ M ∈ LL, M.length ≤ 8 ∧ thin 3 M) := Lib.hid (by have := HS8.out; rw [htk] at this; exact this)
        have HO7 := HO.out
        rw [htk] at HO7
        obtain ⟨a9, cap9, rfl, hff⟩ := HO7.out
        rw [HLL.out] at hff ⊢
        have HF9 := Lib.hid hff
        have HFc := Lib.hid (HF0.out.later HB9.out)
        clear hff HO7 HO HR HS8 htk
        go_wp2_with fail
        refine (law11_to a n c L _ HFc.out (by omega)).mono ?_
        rintro e w2 ⟨a6, c6, rfl, h6, b2⟩
        have HB2 := Lib.hid (below_then HB9.out b2)
        have HF2 := Lib.hid (HF9.out.later b2)
        have HC2 := Lib.hid (HFc.out.later b2)
        have H6 := Lib.hid h6
        clear b2 HB9 HF9 HFc h6
        cases r with
        | false =>
          go_wp2_with fail
          refine (S.mix_no a6 n c6 L a9 j cap9 LL k _ H6.out HF2.out (by omega) (by omega) (HTH.out.mono (by decide)) (fun M hM => ⟨Nat.le_trans (HS7.out M hM).1 (by decide), (HS7.out M hM).2.mono (by decide)⟩) HKI.out (Lib.hid (fun h => by have := HR7.out.2 ⟨⟨h.1, h.2.1, h.2.2.1⟩, h.2.2.2⟩; cases this))).mono ?_
          rintro e w3 ⟨a7, n7, c7, rfl, h7, b3⟩
          have HB3 := Lib.hid (below_then HB2.out b3)
          obtain rfl : n7 = 0 := h7.len.symm
          clear b3 h7 HB2
          go_wp2_with fail
          refine (law11_works S FS _ (Lib.hid (hT.out.later HB3.out))).mono ?_
          rintro e w4 ⟨rfl, b4⟩
          have HB4 := Lib.hid (below_then HB3.out b4)
          clear b4
          go_wp2
          go_ret
          exact ⟨rfl, HB4.out⟩
        | true =>
          have HYES : Hid ((n = j ∧ 0 ≤ k ∧ k ≤ 300) ∧ ∀ M ∈ LL, (M.length : Int) = k) := Lib.hid (HR7.out.1 rfl)
          have hk0 : 0 ≤ k := HYES.out.1.2.1
          have hk3 : k ≤ 300 := HYES.out.1.2.2
          obtain ⟨lls, hlls⟩ : ∃ lls, LL.map fqs = lls := ⟨_, rfl⟩
          obtain ⟨z0, hz0⟩ : ∃ z0 : List Rat, List.replicate k.toNat 0 = z0 := ⟨_, rfl⟩
          obtain ⟨mx, hmx⟩ : ∃ mx, rmix z0 xs lls = mx := ⟨_, rfl⟩
          have hnl : lls.length = j := by rw [← hlls, List.length_map]; exact HLL.out
          have hnx : xs.length = j := by rw [← HXS.out]; exact HLQ.out.trans HYES.out.1.1
          have hlq9 : ∀ q ∈ xs, qlen q ≤ 4 := by rw [← HXS.out]; exact HQ.out
          have hls9 : ∀ l ∈ lls, l.length = k.toNat ∧ ∀ q ∈ l, qlen q ≤ 4 := fun l hl => by
            rw [← hlls] at hl
            obtain ⟨M, hM, rfl⟩ := List.mem_map.1 hl
            refine ⟨by rw [fqs_length]; have := HYES.out.2 M hM; omega, fun q hq => ?_⟩
            obtain ⟨x, hx, rfl⟩ := List.mem_map.1 hq
            obtain ⟨i, hi, rfl⟩ := List.getElem_of_mem hM
            obtain ⟨_, _, _, a5, n5, c5, _, h5⟩ := HF2.out.at (j := i) (by rw [← HLL.out]; exact hi)
            rw [List.getD_eq_getElem?_getD, List.getElem?_eq_getElem hi] at h5
            have ht := (HS7.out _ hM).2 x hx
            exact ((h5.ok hx).fr ht.1 ht.2).len
          have hpart : ∀ i, i ≤ j → (rmix z0 (xs.take i) (lls.take i)).length = k.toNat ∧ ∀ q ∈ rmix z0 (xs.take i) (lls.take i), qlen q ≤ 2000 := fun i hi => by
            obtain ⟨h1, h2⟩ := rmix_good (N := k.toNat) (A := 2) (B := 4) (s := z0) (cs := xs.take i) (ls := lls.take i) (by rw [← hz0, List.length_replicate]) (by rw [← hz0]; exact qlen_reps _) (fun q hq => hlq9 q (List.mem_of_mem_take hq)) (fun l hl => hls9 l (List.mem_of_mem_take hl))
            refine ⟨h1, fun q hq => Nat.le_trans (h2 q hq) ?_⟩
            rw [List.length_take]
            have : min i xs.length ≤ 8 := by omega
            omega
          have HPART := Lib.hid hpart
          have hall : rmix z0 (xs.take j) (lls.take j) = mx := by rw [List.take_of_length_le (by omega), List.take_of_length_le (by omega)]; exact hmx
          have HALL := Lib.hid hall
          have HMXC : Hid (mx.length ≤ 1000) := Lib.hid (by have := (hpart j (Nat.le_refl _)).1; rw [hall] at this; omega)
          have HMXL : Hid (∀ q ∈ mx, qlen q ≤ 15000) := Lib.hid (fun q hq => Nat.le_trans ((hpart j (Nat.le_refl _)).2 q (by rw [hall]; exact hq)) (by decide))
          have HMX : ∀ (w' : World), Fxs w' a6 n c6 L → Fxss w' a9 j cap9 LL → Calls Tryz.prog 37 #[.slice a6 n c6, .slice a9 j cap9, .int .i64 k] w' (LstRwV mx (.bool true) w') := fun w' h1 h2 => by
            have h9 := S.mix_yes a6 n c6 L a9 j cap9 LL k w' h1 h2 (by omega) (by omega) (HTH.out.mono (by decide)) (fun M hM => ⟨Nat.le_trans (HS7.out M hM).1 (by decide), (HS7.out M hM).2.mono (by decide)⟩) HKI.out (Lib.hid ⟨HYES.out.1.1, HYES.out.1.2.1, HYES.out.1.2.2, HYES.out.2⟩)
            rw [HXS.out, hlls, hz0, hmx] at h9
            exact h9
          have HZR : ∀ (w' : World), Calls Tryz.prog 14 #[.int .i64 k] w' (LstRw z0 w') := fun w' => by
            have h9 := ref11_zero k w'
            rw [rcut_nat hk0 hk3, hz0] at h9
            exact h9
          have HNL := Lib.hid hnl
          have HNX := Lib.hid hnx
          have HLQ9 := Lib.hid hlq9
          have HLS9 := Lib.hid hls9
          have HLLS := Lib.hid hlls
          clear hlls hz0 hmx hnl hnx hlq9 hls9 hpart hall
          go_wp2_with fail
          refine (HMX _ H6.out HF2.out).mono ?_
          rintro e w3 ⟨a7, n7, c7, rfl, h7, b3⟩
          have HB3 := Lib.hid (below_then HB2.out b3)
          have HC3 := Lib.hid (HC2.out.later b3)
          have H7 := Lib.hid h7
          clear b3 h7 HB2 HC2 H6 HF2
          go_wp2_with fail
          refine (HZR _).mono ?_
          rintro e w4 ⟨a8, n8, c8, rfl, h8, b4⟩
          have HB4 := Lib.hid (below_then HB3.out b4)
          have H74 := Lib.hid (H7.out.later b4)
          have H8 := Lib.hid h8
          clear b4 h8 HB3 HC3 H7
          go_wp2
          go_loopw [12, 13] (fun sv iv wr => ∃ (i : Nat) (a5 : Option Addr) (n5 c5 : Nat), i ≤ j ∧ iv = .int .i64 (i : Int) ∧ sv = .slice a5 n5 c5 ∧ Hid (Rw wr a5 n5 c5 (rmix z0 (xs.take i) (lls.take i))) ∧ Hid (Rw wr a7 n7 c7 mx) ∧ Hid (Below w.heap.size w wr)) (fun _ iv _ => j - (intOf iv).toNat)
          case atStart => exact ⟨0, a8, n8, c8, by omega, rfl, rfl, Lib.hid (by have := H8.out; simpa [rmix] using this), H74, HB4⟩
          case round =>
            obtain ⟨i, a5, n5, c5, hi, rfl, rfl, H5, H7, HB5⟩ := hrel
            by_cases hli : i < j
            · have hin : i < n := by have := HYES.out.1.1; omega
              obtain ⟨bb, off, hbe, e0, e1, e2, hok⟩ := (HF0.out.later HB5.out).at hin
              obtain ⟨b2, off2, hbf, a', n', c', f0, h1⟩ := (HFF0.out.later HB5.out).at hli
              have hML : LL.getD i [] ∈ LL := ll_mem (by rw [HLL.out]; exact hli)
              have hxm : L.getD i Fx.zero ∈ L := fx_mem (by have := HLQ.out; rw [fqs_length] at this; omega)
              have hyq : (L.getD i Fx.zero).q = xs.getD i 0 := by rw [← HXS.out]; exact (fqs_getD (by have := HLQ.out; rw [fqs_length] at this; omega)).symm
              have hlm : fqs (LL.getD i []) = lls.getD i [] := by
                rw [← HLLS.out, List.getD_eq_getElem?_getD, List.getD_eq_getElem?_getD, List.getElem?_map, List.getElem?_eq_getElem (by rw [HLL.out]; exact hli)]; rfl
              have hxt : xs.take (i + 1) = xs.take i ++ [xs.getD i 0] := q_more (by rw [HNX.out]; exact hli)
              have hlt2 : lls.take (i + 1) = lls.take i ++ [lls.getD i []] := ll_more (by rw [HNL.out]; exact hli)
              have hlen2 : (xs.take i).length = (lls.take i).length := by rw [List.length_take, List.length_take, HNX.out, HNL.out]
              have hmt := HS7.out _ hML
              have hthx := HTH.out _ hxm
              have hyl : qlen (xs.getD i 0) ≤ 4 := HLQ9.out _ (q_mem (by rw [HNX.out]; exact hli))
              have hll2 := HLS9.out _ (ll_mem (show i < lls.length by rw [HNL.out]; exact hli))
              have hpi := HPART.out i (by omega)
              obtain ⟨pi, hpi9⟩ : ∃ pi, rmix z0 (xs.take i) (lls.take i) = pi := ⟨_, rfl⟩
              obtain ⟨pn, hpn9⟩ : ∃ pn, rmix z0 (xs.take (i + 1)) (lls.take (i + 1)) = pn := ⟨_, rfl⟩
              have hstep : radd pi (rscale (xs.getD i 0) (lls.getD i [])) = pn := by rw [← hpn9, hxt, hlt2, rmix_snoc _ _ _ hlen2, hpi9]
              rw [hpi9] at H5 hpi
              generalize LL.getD i [] = M at *
              generalize lls.getD i [] = lM at *
              generalize xs.getD i 0 = y at *
              generalize L.getD i Fx.zero = xk at *
              obtain ⟨sk, ak, nk, ck, lak, bk, mk, dk, lbk⟩ := xk
              simp only at e0 e1 e2 hthx
              obtain ⟨hwa, hwb⟩ := hok
              simp only at hwa hwb
              have hyq : qval sk (val lak) (val lbk) = y := hyq
              obtain ⟨sy, hsy⟩ : ∃ sy, rscale y lM = sy := ⟨_, rfl⟩
              have hsyl : ∀ q ∈ sy, qlen q ≤ 2000 := fun q hq => Nat.le_trans (by rw [← hsy] at hq; exact qlen_rscale hyl hll2.2 q hq) (by decide)
              have hsyn : sy.length = k.toNat := by rw [← hsy, rscale_length]; exact hll2.1
              rw [hsy] at hstep
              have HYL := Lib.hid hyl
              have HNQ : ∀ w' : World, Wd w' ak nk ck lak → Wd w' bk mk dk lbk → Calls Tryz.prog 26 #[frV sk ak nk ck bk mk dk] w' (LstQ y w') := fun w' g1 g2 => hyq ▸ ref09_norm sk ak nk ck lak bk mk dk lbk w' g1 g2 (Nat.le_trans hthx.1 (by decide)) (Nat.le_trans hthx.2 (by decide))
              have HNR : ∀ w' : World, Fxs w' a' n' c' M → Calls Tryz.prog 11 #[.slice a' n' c'] w' (LstRw lM w') := fun w' g1 => hlm ▸ ref11_norms a' n' c' M w' g1 (by have := g1.len; have := hmt.1; omega) (hmt.2.mono (by decide))
              have HSR : ∀ (w' : World) (v : Value) (a1 : Option Addr) (n1 c1 : Nat), Rt w' v y 2000 → Rw w' a1 n1 c1 lM → Calls Tryz.prog 32 #[v, .slice a1 n1 c1] w' (LstRw sy w') := fun w' v a1 n1 c1 g1 g2 => hsy ▸ ref11_scale v y a1 n1 c1 lM w' g1 g2 (by have := g2.len; have := hll2.1; omega) (fun q hq => Nat.le_trans (hll2.2 q hq) (by decide))
              have HAR : ∀ (w' : World) (a1 : Option Addr) (n1 c1 : Nat) (a2 : Option Addr) (n2 c2 : Nat), Rw w' a1 n1 c1 pi → Rw w' a2 n2 c2 sy → Calls Tryz.prog 34 #[.slice a1 n1 c1, .slice a2 n2 c2] w' (LstRw pn w') := fun w' a1 n1 c1 a2 n2 c2 g1 g2 => hstep ▸ ref11_add a1 n1 c1 pi a2 n2 c2 sy w' g1 g2 (Lib.hid (by have := g1.len; have := g2.len; have := hpi.1; omega)) (by have := g1.len; have := hpi.1; omega) hpi.2 hsyl
              have HPN := Lib.hid hpn9
              have WA := Lib.hid (hwa.later ((Below.refl _ _).drew))
              have WB := Lib.hid (hwb.later ((Below.refl _ _).drew))
              have HM1 := Lib.hid (h1.later ((Below.refl _ _).drew))
              replace H5 := Lib.hid (H5.out.later ((Below.refl _ _).drew))
              replace H7 := Lib.hid (H7.out.later ((Below.refl _ _).drew))
              replace HB5 := Lib.hid (below_then HB5.out ((Below.refl _ _).drew))
              have pSn := four_on ⟨e0, e1, e2, f0⟩ ((Below.refl _ _).drew)
              have hii : (i : Int) < (n : Int) := by omega
              have hij : (i : Int) < (j : Int) := by omega
              have hbd1 := h1.bound
              have hbd9 := hbd8
              have hbdc9 := hbdc
              subst hbe
              subst hbf
              clear hML hxm hxt hlt2 hlen2 hmt hthx hyl hll2 hpi hpi9 hpn9 hstep hyq hlm hsy hsyl hsyn hwa hwb h1 e0 e1 e2 f0
              go_wp2
              go_region_held3 (fun w' => w'.cell? ⟨bb, off + i * 3, none⟩ = some (.bool sk) ∧ w'.cell? ⟨bb, off + i * 3 + 1, none⟩ = some (.slice ak nk ck) ∧ w'.cell? ⟨bb, off + i * 3 + 2, none⟩ = some (.slice bk mk dk) ∧ w'.cell? ⟨b2, off2 + i, none⟩ = some (.slice a' n' c')) (exact pSn)
                (first
                | (go_at_call 26; refine (HNQ _ WA.out WB.out).mono ?_; rintro e w21 ⟨a21, n21, c21, b21, m21, d21, rfl, h21, g21, bx⟩; replace HB5 := Lib.hid (below_then HB5.out bx); replace H5 := Lib.hid (H5.out.later bx); replace H7 := Lib.hid (H7.out.later bx); replace HM1 := Lib.hid (HM1.out.later bx); have R21 := Lib.hid h21; have T21 := Lib.hid g21; have hN21 : n21 ≤ 300 := (by rw [← h21.len]; exact Nat.le_trans (qlen_num _) (Nat.le_trans HYL.out (by decide))); have hM21 : m21 ≤ 300 := (by rw [← g21.len]; exact Nat.le_trans (qlen_den _) (Nat.le_trans HYL.out (by decide))); replace pSn := four_on pSn bx; clear bx h21 g21 WA WB)
                | (go_at_call 11; refine (HNR _ HM1.out).mono ?_; rintro e w22 ⟨a22, n22, c22, rfl, h22, bx⟩; replace HB5 := Lib.hid (below_then HB5.out bx); replace H5 := Lib.hid (H5.out.later bx); replace H7 := Lib.hid (H7.out.later bx); replace R21 := Lib.hid (R21.out.later bx); replace T21 := Lib.hid (T21.out.later bx); have R22 := Lib.hid h22; replace pSn := four_on pSn bx; clear bx h22 HM1)
                | (go_at_call 32; refine (HSR _ (frV (zneg y.num) a21 n21 c21 b21 m21 d21) a22 n22 c22 (Rt.of R21.out T21.out (by omega) (by omega)) R22.out).mono ?_; rintro e w23 ⟨a23, n23, c23, rfl, h23, bx⟩; replace HB5 := Lib.hid (below_then HB5.out bx); replace H5 := Lib.hid (H5.out.later bx); replace H7 := Lib.hid (H7.out.later bx); have R23 := Lib.hid h23; replace pSn := four_on pSn bx; clear bx h23 R21 T21 R22)
                | (go_at_call 34; refine (HAR _ a5 n5 c5 a23 n23 c23 H5.out R23.out).mono ?_; rintro e w24 ⟨a24, n24, c24, rfl, h24, bx⟩; replace HB5 := Lib.hid (below_then HB5.out bx); replace H7 := Lib.hid (H7.out.later bx); have R24 := Lib.hid h24; replace pSn := four_on pSn bx; clear bx h24 R23 H5))
              rw [← HPN.out] at R24
              clear pSn
              go_wp2
              go_roundw
              case rel => exact ⟨i + 1, a24, n24, c24, by omega, by go_num, rfl, R24, H7, HB5⟩
              case measure => simp [intOf]; omega
            · obtain rfl : i = j := by omega
              have H5M : Hid (Rw wr a5 n5 c5 mx) := Lib.hid (by have := H5.out; rw [HALL.out] at this; exact this)
              clear H5
              go_wp2_with fail
              refine (law11_is_yes a7 n7 c7 a5 n5 c5 mx _ H7.out H5M.out HMXC.out HMXL.out).mono ?_
              rintro e w6 ⟨rfl, b6⟩
              have HB6 := Lib.hid (below_then HB5.out b6)
              clear b6
              go_wp2_with fail
              refine (law11_works S FS _ (Lib.hid (hT.out.later HB6.out))).mono ?_
              rintro e w7 ⟨rfl, b7⟩
              have HB7 := Lib.hid (below_then HB6.out b7)
              clear b7
              go_wp2
              go_ret
              exact ⟨rfl, HB7.out⟩
theorem law11_mixes (S : RowSaid) (FS : FracSaid) (a : Option Addr) (n c : Nat) (L : List Fx) (b : Option Addr) (m d : Nat) (LL : List (List Fx)) (k : Int) (w : World) (h : Fxs w a n c L) (h8 : Fxss w b m d LL) (hk : isInt k) (hT : Hid (Dec10 w)) : Calls Tryz.prog 5 #[.slice a n c, .slice b m d, .int .i64 k] w (Gives (.bool true) w) := by
  by_cases hb : (n : Int) ≤ 8 ∧ thinI 3 L
  · by_cases hm : 8 < m
    · exact law11_mixes_much S FS a n c L b m d LL k w h h8 hk hT hb hm
    · exact law11_mixes_short S FS a n c L b m d LL k w h h8 hk hT hb (by omega)
  · exact law11_mixes_long S FS a n c L b m d LL k w h h8 hk hT hb
end Go.Proofs.YtjeigdlhjghinaaGreatDoor
