/-
  Several texts of this claim as one, group 8.
-/
import Derived.Test.YthblmpkdcahmkaaRows
import Derived.Test.YthblmpkdcahmkaaG1
import Derived.Test.YthblmpkdcahmkaaG7
import Derived.IntWalk
import Derived.Deep.QuietTactic
import Derived.BigQuiet
import Derived.Deep.AppendSrc
import Derived.Deep.DeepMust
import Derived.Laws.CopyOwn
import Derived.OwnWalk
import Derived.Test.YthblmpkdcahmkaaG2
import Derived.Test.YthblmpkdcahmkaaG3
import Derived.Test.YthblmpkdcahmkaaG6
import Derived.WalkKit
import Derived.Test.YthblmpkdcahmkaaG5
/-
  The contracts of package nat (layer 2) at this seat: what each call returns, for every list of words; nothing that was there has turned.
-/
namespace Go.Proofs.Ythblmpkdcahmkaa
open Go.RowKit

theorem infoU32 : (Try.prog.info? 112).map (fun i => (i.zero, i.size, i.bytes)) = some (some (.int .u32 0), 1, 4) := by kernel_rfl

/-- A row that fills its array, and the array. -/
theorem own_heap {w : World} {base g : Nat} {e : TypeId} {n : Nat} {xs : List Value} (h : w.ownsRow base e 1 (.slice (some ⟨g, 0, none⟩) n n) n xs) : w.heap[g]? = some (.cells xs.toArray e (0, 0)) := by
  rcases h.2 with ⟨h', _⟩ | ⟨g', cap', cur, h', _, hg, _, _, hcs, htake⟩
  · simp at h'
  · simp only [Value.slice.injEq, Option.some.injEq, Addr.mk.injEq, and_true, true_and] at h'
    obtain ⟨rfl, rfl⟩ := h'
    rw [List.take_of_length_le (by rw [Array.length_toList, hcs]; omega)] at htake
    rw [hg, ← htake]
theorem own_ofHeap {w : World} {base g : Nat} {e : TypeId} {n : Nat} {xs : List Value} (h : w.heap[g]? = some (.cells xs.toArray e (0, 0))) (hb : base ≤ g) (hl : xs.length = n) (hm : n ≤ maxLen) : w.ownsRow base e 1 (.slice (some ⟨g, 0, none⟩) n n) n xs :=
  ⟨by omega, .inr ⟨g, n, xs.toArray, rfl, hb, h, Nat.le_refl _, hm, by simp [hl], by rw [List.take_of_length_le (by simp [hl])]⟩⟩
theorem splice_all {L cs : List Value} (h : cs.length = L.length) : splice L 0 cs = cs := by
  unfold splice; rw [List.drop_of_length_le (by omega)]; simp
/-- The address of the first word, and the words as the cells that a copy reads. -/
theorem Wd.some_cells {w w' : World} {a : Option Addr} {n cap : Nat} {l : List Nat} (h : Wd w a n cap l) (h' : Wd w' a n cap l) (hn : 0 < n) : ∃ ad, a = some ad ∧ ∀ j u, (wcells l)[j]? = some u → w'.cell? (ad.add j) = some u := by
  obtain ⟨b, off, rfl, _⟩ := h.at hn
  exact ⟨_, rfl, h'.cells⟩

/-- What a list holds without the noughts at its end. -/
theorem Wd.trim {w : World} {a : Option Addr} {n cap : Nat} {l : List Nat} (h : Wd w a n cap l) : Wd w a (dg (val l)).length cap (dg (val l)) := by
  have h1 := h.take (k := (dg (val l)).length) (by rw [← h.len]; exact dg_length_val_le h.ok)
  rwa [take_dg h.ok] at h1
theorem Wd.trim_le {w : World} {a : Option Addr} {n cap : Nat} {l : List Nat} (h : Wd w a n cap l) : (dg (val l)).length ≤ n := by rw [← h.len]; exact dg_length_val_le h.ok

def TrimPost (a : Option Addr) (cap n : Nat) (l : List Nat) (w : World) (e : Ending) (w' : World) : Prop :=
  ∃ m : Nat, e = .returned (.slice a m cap) ∧ Hid (m = (dg (val l)).length) ∧ m ≤ n ∧ Hid (Wd w a m cap (dg (val l))) ∧ w = w'
theorem trim_post {a : Option Addr} {n cap k : Nat} {l : List Nat} {w : World} (h : Wd w a n cap l) (hk : k = (dg (val l)).length) : TrimPost a cap n l w (.returned (.slice a k cap)) w :=
  ⟨k, rfl, Lib.hid hk, by rw [hk]; exact h.trim_le, Lib.hid (by rw [hk]; exact h.trim), rfl⟩
set_option maxRecDepth 4096 in
set_option maxHeartbeats 400000 in
theorem nat_trim (a : Option Addr) (n cap : Nat) (l : List Nat) (w : World) (h : Wd w a n cap l) :
    Calls Try.prog 82 #[.slice a n cap] w (TrimPost a cap n l w) := by
  obtain ⟨hb1, hb2⟩ := h.bound
  have H := Lib.hid h
  clear h
  go_enter Try.func82, Try.ntmps82
  go_wp2
  go_loop [3] (fun i => ∃ k : Nat, k ≤ n ∧ i = .int .i64 k ∧ Hid (top l k = 0)) (fun i => (intOf i).toNat)
  case atStart => exact ⟨n, by omega, rfl, Lib.hid (top_ge (by have := H.out.len; omega))⟩
  case round =>
    obtain ⟨k, hk, rfl, Ht⟩ := hrel
    cases k with
    | zero =>
      have Hfin := Lib.hid (trim_post (k := 0) H.out (dg_stop (Nat.zero_le _) H.out.ok Ht.out (.inl rfl)).symm)
      cases a with
      | none =>
        obtain ⟨rfl, rfl, rfl⟩ := H.out.ofNone
        go_wp2
        go_ret
        exact Hfin.out
      | some ad =>
        go_wp2
        go_ret
        exact Hfin.out
    | succ k =>
      obtain ⟨b, off, rfl, hc⟩ := H.out.at (by omega)
      have hck := hc k (by omega)
      clear hc
      by_cases hz : atw l k = 0
      · have hzb : (((atw l k : Nat) : Int) == 0) = true := by simp [hz]
        have Hz := Lib.hid hz
        clear hz
        go_wp2
        go_round
        case rel => exact ⟨k, by omega, by go_num, Lib.hid (by rw [top_succ, Hz.out, Ht.out])⟩
        case measure => simp [intOf]
      · have hzb : (((atw l k : Nat) : Int) == 0) = false := by simp [hz]
        have Hfin := Lib.hid (trim_post (k := k + 1) H.out (dg_stop (by rw [H.out.len]; exact hk) H.out.ok Ht.out (.inr (by simpa using hz))).symm)
        clear hz
        go_wp2
        go_ret
        exact Hfin.out
theorem nat_sign_yes (w : World) : Calls Try.prog 83 #[.bool true] w fun e w' => e = .returned (.int .i64 (-1)) ∧ w = w' := by
  go_enter Try.func83, Try.ntmps83
  go_wp2
  go_ret
  exact ⟨rfl, rfl⟩
theorem nat_sign_no (w : World) : Calls Try.prog 83 #[.bool false] w fun e w' => e = .returned (.int .i64 1) ∧ w = w' := by
  go_enter Try.func83, Try.ntmps83
  go_wp2
  go_ret
  exact ⟨rfl, rfl⟩
/-- A copy in a row of the call's own. -/
def NormPost (l : List Nat) (w : World) (e : Ending) (w' : World) : Prop :=
  ∃ g m : Nat, e = .returned (.slice (some ⟨g, 0, none⟩) m m) ∧ Hid (m = (dg (val l)).length) ∧ Hid (w'.ownsRow w.heap.size 112 1 (.slice (some ⟨g, 0, none⟩) m m) m (wcells (dg (val l)))) ∧ Below w.heap.size w w'
set_option maxRecDepth 4096 in
set_option maxHeartbeats 400000 in
theorem nat_norm (a : Option Addr) (n cap : Nat) (l : List Nat) (w : World) (h : Wd w a n cap l) (hn : n ≤ 17592183947264) :
    Calls Try.prog 108 #[.slice a n cap] w (NormPost l w) := by
  obtain ⟨i0, hi, hz0, hz1, hz2⟩ := info_parts infoU32
  obtain ⟨hb1, hb2⟩ := h.bound
  have H := Lib.hid h
  clear h
  go_enter Try.func108, Try.ntmps108
  go_wp2_with fail
  refine (nat_trim _ _ _ _ _ H.out).mono ?_
  rintro e w' ⟨m, rfl, Hm, hmn, HT, rfl⟩
  go_wp2_with (first
    | (at_make; refine wpList_make_full _ rfl _ _ 58 rfl w.heap.size 112 i0 (.int .u32 0) 1 Try.underlying58 hi hz0 hz1 .i64 .i64 _ _ m rfl rfl (by omega) (by omega) (by rw [hz2]; omega) (by unfold maxLen; omega) (Nat.le_refl _) ?_; intro w1 hown1 hgrow1; rw [wcells_made] at hown1; have Hg := Lib.hid (own_heap hown1); have hB1 : Below w.heap.size w w1 := (Below.refl _ _).grown hgrow1 (Nat.le_refl _) (fun k hk => by cases hk); clear hown1 hgrow1)
    | (refine wpList_copy_splice (o := ⟨some 11, _, _, _, _, _⟩) rfl (.tmp 9) (.tmp 10) 58 58 rfl 112 Try.underlying58 (by rw [hi]; simp [hz1]) (some ⟨w.heap.size, 0, none⟩) a m m m cap (by rfl) (by rfl) w.heap.size 0 (wcells (List.replicate m 0)) 112 Hg.out (wcells (dg (val l))) (by rw [wcells_length, ← Hm.out]; simp) (fun h => ⟨rfl, HT.out.some_cells (HT.out.later hB1) (by rw [wcells_length, ← Hm.out] at h; exact h)⟩) (by rw [wcells_length, wcells_length, ← Hm.out]; simp) (wcells_one _) w.heap.size w hB1 (Nat.le_refl _) ?_; intro w2 hg2 hb2))
  go_ret
  refine ⟨w.heap.size, m, rfl, Hm, ?_, hb2⟩
  have hg := hg2.out
  rw [splice_all (by rw [wcells_length, wcells_length, ← Hm.out]; simp)] at hg
  exact Lib.hid (own_ofHeap hg (Nat.le_refl _) (by rw [wcells_length]; exact Hm.out.symm) (by unfold maxLen; omega))
end Go.Proofs.Ythblmpkdcahmkaa

/-
  The contracts of package nat (layer 2) at this seat: comparing, reading as a number, the longest of some.
-/
namespace Go.Proofs.Ythblmpkdcahmkaa
open Go.RowKit

theorem or_low {hi lo : Int} (h0 : 0 ≤ hi) (h : hi ≤ 4294967295) (hl0 : 0 ≤ lo) (hl : lo ≤ 4294967295) : bits .or .u64 lo (hi * 4294967296) = lo + hi * 4294967296 := by
  have e := or_words h0 h hl0 hl
  have c : bits .or .u64 lo (hi * 4294967296) = bits .or .u64 (hi * 4294967296) lo := by
    show IntKind.u64.wrap ((BitVec.ofInt 64 lo ||| BitVec.ofInt 64 (hi * 4294967296)).toNat : Int) = IntKind.u64.wrap ((BitVec.ofInt 64 (hi * 4294967296) ||| BitVec.ofInt 64 lo).toNat : Int)
    rw [BitVec.or_comm]
  rw [c, e, Int.add_comm]
theorem or_none {x : Int} (h0 : 0 ≤ x) (h : x ≤ 4294967295) : bits .or .u64 0 x = x := by
  have e := or_words (hi := 0) (lo := x) (by omega) (by omega) h0 h
  simpa using e

set_option maxRecDepth 4096 in
set_option maxHeartbeats 1000000 in
theorem nat_cmp (a : Option Addr) (n cap : Nat) (la : List Nat) (b : Option Addr) (m cap' : Nat) (lb : List Nat) (w : World) (ha : Wd w a n cap la) (hb : Wd w b m cap' lb) :
    Calls Try.prog 69 #[.slice a n cap, .slice b m cap'] w (Gives (.int .i64 (cmpI (val la) (val lb))) w) := by
  obtain ⟨hb1, hb2⟩ := ha.bound
  obtain ⟨hb3, hb4⟩ := hb.bound
  have Ha := Lib.hid ha
  have Hb := Lib.hid hb
  clear ha hb
  go_enter Try.func69, Try.ntmps69
  go_wp2_with fail
  refine (nat_trim _ _ _ _ _ Ha.out).mono ?_
  rintro e w' ⟨p, rfl, Hp, hp, HA, rfl⟩
  go_wp2_with fail
  refine (nat_trim _ _ _ _ _ Hb.out).mono ?_
  rintro e w' ⟨q, rfl, Hq, hq, HB, rfl⟩
  by_cases hpq : p = q
  · have Hpq := Lib.hid hpq
    subst hpq
    go_wp2
    go_loopw [5] (fun i wr => ∃ k r : Nat, k ≤ p ∧ i = .int .i64 ((k : Int) - 1) ∧ wr = w.drewN r ∧ Hid (top (dg (val la)) k = top (dg (val lb)) k)) (fun i _ => (intOf i + 1).toNat)
    case atStart => exact ⟨p, 0, by omega, by go_num, rfl, Lib.hid (by rw [top_ge (by rw [← Hp.out]; omega), top_ge (by rw [← Hq.out]; omega)])⟩
    case round =>
      obtain ⟨k, r, hk, rfl, rfl, Ht⟩ := hrel
      cases k with
      | zero =>
        have hv : val la = val lb := by have := Ht.out; rw [top_zero, top_zero, val_dg, val_dg] at this; exact this
        have Hfin := Lib.hid (cmpI_eq hv)
        clear hv
        go_wp2
        go_ret
        exact ⟨ret_i64 Hfin.out.symm, below_draws _ _⟩
      | succ k =>
        have e1 : ((k + 1 : Nat) : Int) - 1 = (k : Int) := by omega
        rw [e1]
        clear e1
        obtain ⟨ba, oa, rfl, hca⟩ := HA.out.at (by omega)
        obtain ⟨bb, ob, rfl, hcb⟩ := HB.out.at (by omega)
        have hcak := hca k (by omega)
        have hcbk := hcb k (by omega)
        clear hca hcb
        have hxa := atw_lt (okw_dg (val la)) k
        have hxb := atw_lt (okw_dg (val lb)) k
        obtain ⟨x, hx⟩ : ∃ x, x = atw (dg (val la)) k := ⟨_, rfl⟩
        obtain ⟨y, hy⟩ : ∃ y, y = atw (dg (val lb)) k := ⟨_, rfl⟩
        rw [← hx] at hxa hcak
        rw [← hy] at hxb hcbk
        have Hx := Lib.hid hx
        have Hy := Lib.hid hy
        clear hx hy
        rcases Nat.lt_trichotomy x y with hxy | hxy | hxy
        · have h1 : ((x : Int) != (y : Int)) = true := by simp; omega
          have h2 : decide (x < y) = true := by simp; omega
          have Hfin := Lib.hid (cmpI_lt (cmp_lt (okw_dg _) Ht.out (by rw [← Hx.out, ← Hy.out]; exact hxy)))
          rw [val_dg, val_dg] at Hfin
          clear hxy
          go_wp2
          go_quiet (fail)
          go_wp2
          go_quiet ((go_at_call 83; exact quiet_here (nat_sign_yes _) ⟨_, rfl⟩))
          go_wp2
          go_ret
          exact ⟨ret_i64 Hfin.out.symm, by simp only [World.drewN_drewN]; exact below_draws _ _⟩
        · have h1 : ((x : Int) != (y : Int)) = false := by simp; omega
          have Hxy := Lib.hid hxy
          clear hxy
          go_wp2
          go_quiet (fail)
          go_wp2
          go_roundw
          case rel => exact ⟨k, _, by omega, by go_num, rfl, Lib.hid (top_eq Ht.out (by rw [← Hx.out, ← Hy.out]; exact Hxy.out))⟩
          case measure => simp [intOf]
        · have h1 : ((x : Int) != (y : Int)) = true := by simp; omega
          have h2 : decide (x < y) = false := by simp; omega
          have Hfin := Lib.hid (cmpI_gt (cmp_lt (okw_dg _) Ht.out.symm (by rw [← Hx.out, ← Hy.out]; exact hxy)))
          rw [val_dg, val_dg] at Hfin
          clear hxy
          go_wp2
          go_quiet (fail)
          go_wp2
          go_quiet ((go_at_call 83; exact quiet_here (nat_sign_no _) ⟨_, rfl⟩))
          go_wp2
          go_ret
          exact ⟨ret_i64 Hfin.out.symm, by simp only [World.drewN_drewN]; exact below_draws _ _⟩
  · have h1 : ((p : Int) != (q : Int)) = true := by simp; omega
    by_cases hlt : p < q
    · have h2 : decide (p < q) = true := by simp; omega
      have Hfin := Lib.hid (cmpI_lt (lt_of_dg_length (a := val la) (b := val lb) (by rw [← Hp.out, ← Hq.out]; exact hlt)))
      clear hpq hlt
      go_wp2_with fail
      refine (nat_sign_yes _).mono ?_
      rintro e w' ⟨rfl, rfl⟩
      go_wp2
      go_ret
      exact ⟨ret_i64 Hfin.out.symm, Below.refl _ _⟩
    · have h2 : decide (p < q) = false := by simp; omega
      have Hfin := Lib.hid (cmpI_gt (lt_of_dg_length (a := val lb) (b := val la) (by rw [← Hp.out, ← Hq.out]; omega)))
      clear hpq hlt
      go_wp2_with fail
      refine (nat_sign_no _).mono ?_
      rintro e w' ⟨rfl, rfl⟩
      go_wp2
      go_ret
      exact ⟨ret_i64 Hfin.out.symm, Below.refl _ _⟩
set_option maxRecDepth 4096 in
set_option maxHeartbeats 400000 in
theorem nat_small (a : Option Addr) (n cap : Nat) (l : List Nat) (w : World) (h : Wd w a n cap l) :
    Calls Try.prog 104 #[.slice a n cap] w (Gives (.tuple #[.int .u64 ((smallV (val l) : Nat) : Int), .bool (smallB (val l))]) w) := by
  obtain ⟨hb1, hb2⟩ := h.bound
  have H := Lib.hid h
  clear h
  go_enter Try.func104, Try.ntmps104
  go_wp2_with fail
  refine (nat_trim _ _ _ _ _ H.out).mono ?_
  rintro e w' ⟨m, rfl, Hm, hmn, HT, rfl⟩
  have Hk : Hid (m ≤ 2 ↔ val l < two64) := Lib.hid (by rw [Hm.out]; exact dg_length_pow (k := 2))
  by_cases hm2 : m ≤ 2
  · have Hv : Hid (val l < two64) := Lib.hid (Hk.out.1 hm2)
    have Hl : Hid (val l = atw (dg (val l)) 0 + 4294967296 * atw (dg (val l)) 1) := Lib.hid (by have := val_two (l := dg (val l)) (by rw [← Hm.out]; exact hm2); rwa [val_dg] at this)
    have hx0 := atw_lt (okw_dg (val l)) 0
    have hx1 := atw_lt (okw_dg (val l)) 1
    have h1n : Hid (m ≤ 1 → atw (dg (val l)) 1 = 0) := Lib.hid fun h => atw_ge (by rw [← Hm.out]; exact h)
    have h0n : Hid (m ≤ 0 → atw (dg (val l)) 0 = 0) := Lib.hid fun h => atw_ge (by rw [← Hm.out]; exact h)
    obtain ⟨x, hx⟩ : ∃ x, x = atw (dg (val l)) 0 := ⟨_, rfl⟩
    obtain ⟨y, hy⟩ : ∃ y, y = atw (dg (val l)) 1 := ⟨_, rfl⟩
    have hc0 : 0 < m → ∃ b off, a = some ⟨b, off, none⟩ ∧ w.cell? ⟨b, off, none⟩ = some (.int .u32 (x : Int)) := fun h => by
      obtain ⟨b, off, e, hc⟩ := HT.out.at h
      exact ⟨b, off, e, by rw [hx]; exact hc 0 h⟩
    have hc1 : 1 < m → ∃ b off, a = some ⟨b, off, none⟩ ∧ w.cell? ⟨b, off + 1, none⟩ = some (.int .u32 (y : Int)) := fun h => by
      obtain ⟨b, off, e, hc⟩ := HT.out.at (by omega)
      exact ⟨b, off, e, by rw [hy]; exact hc 1 h⟩
    have Hc0 := Lib.hid hc0
    have Hc1 := Lib.hid hc1
    rw [← hx] at Hl hx0 h0n
    rw [← hy] at Hl hx1 h1n
    clear hx hy hc0 hc1
    have Hfin : Hid (smallV (val l) = x + 4294967296 * y ∧ smallB (val l) = true) := Lib.hid ⟨by unfold smallV; rw [if_pos Hv.out]; exact Hl.out, decide_eq_true Hv.out⟩
    have Ho1 : Hid (bits .or .u64 0 (x : Int) = (x : Int)) := Lib.hid (or_none (by omega) (by omega))
    have Ho2 : Hid (bits .or .u64 (x : Int) ((y : Int) * 4294967296) = (x : Int) + (y : Int) * 4294967296) := Lib.hid (or_low (by omega) (by omega) (by omega) (by omega))
    go_wp2
    go_loop [4, 14] (fun nn ix => (ix = .int .i64 0 ∧ nn = .int .u64 0) ∨ (ix = .int .i64 1 ∧ 1 ≤ m ∧ nn = .int .u64 (x : Int)) ∨ (ix = .int .i64 2 ∧ 2 ≤ m ∧ nn = .int .u64 ((x : Int) + (y : Int) * 4294967296))) (fun _ ix => 2 - (intOf ix).toNat)
    case atStart => exact .inl ⟨rfl, rfl⟩
    case round =>
      rcases hrel with ⟨rfl, rfl⟩ | ⟨rfl, hr, rfl⟩ | ⟨rfl, hr, rfl⟩
      · by_cases h0 : 0 < m
        · obtain ⟨b, off, rfl, hck⟩ := Hc0.out h0
          have ho1 := Ho1.out
          go_wp2
          go_round
          case rel => exact .inr (.inl ⟨rfl, h0, rfl⟩)
          case measure => simp [intOf]
        · have hm0 : m = 0 := by omega
          have hfin := Hfin.out
          rw [h0n.out (by omega), h1n.out (by omega)] at hfin
          have Hfin2 := Lib.hid hfin
          clear hfin Hfin
          subst hm0
          go_wp2
          go_ret2
          rw [Hfin2.out.1, Hfin2.out.2]
          exact ⟨rfl, Below.refl _ _⟩
      · by_cases h0 : 1 < m
        · obtain ⟨b, off, rfl, hck⟩ := Hc1.out h0
          have ho2 := Ho2.out
          go_wp2
          go_round
          case rel => exact .inr (.inr ⟨rfl, h0, rfl⟩)
          case measure => simp [intOf]
        · have hm0 : m = 1 := by omega
          have hfin := Hfin.out
          rw [h1n.out (by omega)] at hfin
          have Hfin2 := Lib.hid hfin
          clear hfin Hfin
          subst hm0
          go_wp2
          go_ret2
          rw [Hfin2.out.1, Hfin2.out.2]
          exact ⟨rfl, Below.refl _ _⟩
      · have hm0 : m = 2 := by omega
        subst hm0
        go_wp2
        go_ret2
        rw [Hfin.out.1, Hfin.out.2]
        exact ⟨by simp; omega, Below.refl _ _⟩
  · have Hfin : Hid (smallV (val l) = 0 ∧ smallB (val l) = false) := Lib.hid ⟨by unfold smallV; rw [if_neg (fun h => hm2 (Hk.out.2 h))], decide_eq_false (fun h => hm2 (Hk.out.2 h))⟩
    have hm3 : (2 : Int) < (m : Int) := by omega
    clear hm2
    go_wp2
    go_ret2
    rw [Hfin.out.1, Hfin.out.2]
    exact ⟨rfl, Below.refl _ _⟩
end Go.Proofs.Ythblmpkdcahmkaa

/-
  The contracts of package nat (layer 2) at this seat: sums.
-/
namespace Go.Proofs.Ythblmpkdcahmkaa
open Go.RowKit

/-- Words in a row of the call's own. -/
def Own (w : World) (base g n cap : Nat) (l : List Nat) : Prop := w.ownsRow base 112 1 (.slice (some ⟨g, 0, none⟩) n cap) n (wcells l) ∧ okw l
theorem Own.wd {w : World} {base g n cap : Nat} {l : List Nat} (h : Own w base g n cap l) : Wd w (some ⟨g, 0, none⟩) n cap l := Wd.own h.1 h.2
theorem Own.len {w : World} {base g n cap : Nat} {l : List Nat} (h : Own w base g n cap l) : l.length = n := h.wd.len
theorem Own.base {w : World} {base g n cap : Nat} {l : List Nat} (h : Own w base g n cap l) : base ≤ g ∧ g < w.heap.size := h.1.lt g rfl
theorem Own.cell {w : World} {base g n cap : Nat} {l : List Nat} (h : Own w base g n cap l) {k : Nat} (hk : k < n) : w.cell? ⟨g, k, none⟩ = some (.int .u32 ((atw l k : Nat) : Int)) :=
  (h.1.cellAt k (by omega)).trans (wcells_at (by rw [h.len]; exact hk))
theorem Own.set {w : World} {base g n cap : Nat} {l : List Nat} (h : Own w base g n cap l) (k r : Nat) (hr : r < 4294967296) : Own (w.setCell ⟨g, k, none⟩ (.int .u32 ((r : Nat) : Int))) base g n cap (l.set k r) := by
  refine ⟨?_, fun x hx => ?_⟩
  · rw [← wcells_set]; exact (h.1.stored k _).1
  · rcases List.mem_or_eq_of_mem_set hx with h1 | h1
    · exact h.2 x h1
    · omega
theorem Own.push {w' : World} {base : Nat} {v' : Value} {n : Nat} {l : List Nat} {r : Nat} (h : w'.ownsRow base 112 1 v' (n + 1) (wcells l ++ [.int .u32 ((r : Nat) : Int)])) (ho : okw l) (hr : r < 4294967296) : ∃ g cap, v' = .slice (some ⟨g, 0, none⟩) (n + 1) cap ∧ Own w' base g (n + 1) cap (l ++ [r]) := by
  have e : wcells l ++ [Value.int .u32 ((r : Nat) : Int)] = wcells (l ++ [r]) := by simp [wcells]
  rw [e] at h
  rcases h.2 with ⟨_, h0⟩ | ⟨g, cap, cur, rfl, h3⟩
  · omega
  · exact ⟨g, cap, rfl, h, okw_snoc ho hr⟩


end Go.Proofs.Ythblmpkdcahmkaa

/-
  Rows of words of the call's own, several side by side: what is written into one leaves the others. Of no program.
-/
namespace Go.Proofs.Ythblmpkdcahmkaa
open Go.RowKit

theorem grown_refl (w : World) (row : Option Nat) : w.grownBy w row := ⟨rfl, rfl, rfl, Nat.le_refl _, fun _ _ _ => rfl⟩
theorem grown_then {a b c : World} {row : Option Nat} (h : a.grownBy b row) (k : b.grownBy c row) : a.grownBy c row :=
  ⟨k.os.trans h.os, k.tape.trans h.tape, k.output.trans h.output, Nat.le_trans h.size k.size, fun i hi hr => (k.block i (Nat.lt_of_lt_of_le hi h.size) hr).trans (h.block i hi hr)⟩
theorem grown_cell (w : World) (g k : Nat) (u : Value) : w.grownBy (w.setCell ⟨g, k, none⟩ u) (some g) :=
  ⟨rfl, rfl, rfl, by simp [World.setCell], fun i _ hr => Below.heap_setCell _ _ _ _ (fun e => hr (by rw [e]))⟩
theorem grown_drewN {a w : World} {row : Option Nat} (h : a.grownBy w row) (n : Nat) : a.grownBy (w.drewN n) row := grown_then h ⟨rfl, rfl, rfl, Nat.le_refl _, fun _ _ _ => rfl⟩
/-- What was there below a world is there below a later one: whatever holds of memory since a world w holds of what has grown besides one own row. -/
theorem grown_below {w0 w w' : World} {g : Nat} (hB : Below w0.heap.size w0 w) (hg : w.grownBy w' (some g)) (hb : w0.heap.size ≤ g) : Below w0.heap.size w0 w' :=
  hB.grown hg hB.size (fun k hk => by cases hk; exact hb)
theorem Own.later {w w' : World} {base g n cap : Nat} {l : List Nat} (h : Own w base g n cap l) (hb : Below w.heap.size w w') : Own w' base g n cap l := by
  refine ⟨⟨h.1.1, ?_⟩, h.2⟩
  rcases h.1.2 with h0 | ⟨g', cap', cur, h1, h2, h3, h4⟩
  · exact .inl h0
  · exact .inr ⟨g', cap', cur, h1, h2, (hb.block g' (Array.getElem?_eq_some_iff.1 h3).1).trans h3, h4⟩
theorem Own.other {w w' : World} {base g g' n cap : Nat} {l : List Nat} (h : Own w base g n cap l) (hg : w.grownBy w' (some g')) (hne : g ≠ g') : Own w' base g n cap l :=
  ⟨h.1.kept hg (.inr (by simp [Value.ownBlock]; exact hne)), h.2⟩
theorem Own.stay {w w' : World} {base g n cap : Nat} {l : List Nat} (h : Own w base g n cap l) (hg : w.grownBy w' none) : Own w' base g n cap l :=
  ⟨h.1.kept hg (.inr (by simp [Value.ownBlock])), h.2⟩
theorem Own.lower {w : World} {base base' g n cap : Nat} {l : List Nat} (h : Own w base g n cap l) (hb : base' ≤ base) : Own w base' g n cap l :=
  ⟨⟨h.1.1, h.1.2.imp id fun ⟨g, cap, cur, h1, h2, h3⟩ => ⟨g, cap, cur, h1, Nat.le_trans hb h2, h3⟩⟩, h.2⟩
theorem ownsRow_lower {w : World} {base base' : Nat} {e : TypeId} {size : Nat} {v : Value} {n : Nat} {xs : List Value} (h : w.ownsRow base e size v n xs) (hb : base' ≤ base) : w.ownsRow base' e size v n xs :=
  ⟨h.1, h.2.imp id fun ⟨g, cap, cur, h1, h2, h3⟩ => ⟨g, cap, cur, h1, Nat.le_trans hb h2, h3⟩⟩
theorem Own.bound {w : World} {base g n cap : Nat} {l : List Nat} (h : Own w base g n cap l) : n ≤ cap ∧ cap ≤ 9223372036854775807 := h.wd.bound
end Go.Proofs.Ythblmpkdcahmkaa

/-
  The document's answer of layer 18, its reader in memory: what is read, looked at, told. Of the small functions: bad, sees, kind, must, level, free, find, small, over.
-/
namespace Go.Proofs.Ythblmpkdcahmkaa
open Go.WideShapes Go.RowKit Go.Deep

theorem below_grown {w w' : World} (h : Below w.heap.size w w') (row : Option Nat) : w.grownBy w' row := ⟨h.os, h.tape, h.output, h.size, fun k hk _ => h.block k hk⟩
theorem Wxs.grown {w w' : World} {a : Option Addr} {n cap : Nat} {L : List Wx} {row : Option Nat} (h : Wxs w a n cap L) (hg : w.grownBy w' row) (hr : ∀ b off, a = some ⟨b, off, none⟩ → 0 < n → row ≠ some b) : Wxs w' a n cap L := by
  refine ⟨h.1, h.2.1, h.2.2.1, h.2.2.2.1, h.2.2.2.2.imp id fun ⟨b, off, e, hc⟩ => ⟨b, off, e, fun j hj => ?_⟩⟩
  have hk : ∀ (o : Nat) u, w.cell? ⟨b, o, none⟩ = some u → w'.cell? ⟨b, o, none⟩ = some u := fun o u hu => by
    have hlt : b < w.heap.size := by
      rcases Nat.lt_or_ge b w.heap.size with h9 | h9
      · exact h9
      · rw [World.cell?, Array.getElem?_eq_none h9] at hu; cases hu
    rw [World.cell?_of_block (a := ⟨b, o, none⟩) (hg.block b hlt (fun e2 => hr b off e (by omega) e2.symm))]
    exact hu
  obtain ⟨h1, h2, h3⟩ := hc j hj
  exact ⟨hk _ _ h1, hk _ _ h2, hk _ _ h3⟩
/-- The cells of a reader. -/
def psCells (a : Option Addr) (n c E : Nat) (nv : Value) (s : Ps) : Array Value := #[.slice a n c, .int .i64 (s.i : Int), .int .i64 (E : Int), .int .i64 (s.deep : Int), nv, .int .i64 s.bad]
/-- A reader in the block g: words, where the text ends, names, what is read so far. -/
structure PS (P : TypeId) (St : TypeId) (w : World) (g : Nat) (a : Option Addr) (n c : Nat) (W : List Lw) (E : Nat) (nv : Value) (N : List (List UInt8)) (s : Ps) : Prop where
  blk : w.heap[g]? = some (.cells (psCells a n c E nv s) P (0, 0))
  words : Wxs w a n c (W.map Lw.x)
  apart : ∀ b off, a = some ⟨b, off, none⟩ → 0 < n → b < g
  names : stC.Own w 0 St nv N
  far : ∀ k, nv.ownBlock = some k → g ≠ k
section
variable {P St : TypeId} {w w' : World} {g : Nat} {a : Option Addr} {n c : Nat} {W : List Lw} {E : Nat} {nv : Value} {N : List (List UInt8)} {s : Ps}
theorem PS.cells (h : PS P St w g a n c W E nv N s) : w.cell? ⟨g, 0, none⟩ = some (.slice a n c) ∧ w.cell? ⟨g, 1, none⟩ = some (.int .i64 (s.i : Int)) ∧ w.cell? ⟨g, 2, none⟩ = some (.int .i64 (E : Int)) ∧ w.cell? ⟨g, 3, none⟩ = some (.int .i64 (s.deep : Int)) ∧ w.cell? ⟨g, 4, none⟩ = some nv ∧ w.cell? ⟨g, 5, none⟩ = some (.int .i64 s.bad) := by
  have hb := h.blk
  exact ⟨blk_cell hb 0, blk_cell hb 1, blk_cell hb 2, blk_cell hb 3, blk_cell hb 4, blk_cell hb 5⟩
theorem PS.free (h : PS P St w g a n c W E nv N s) (j : Nat) : w.frozen? ⟨g, j, none⟩ = false := blk_free h.blk j
theorem PS.lt (h : PS P St w g a n c W E nv N s) : g < w.heap.size := (Array.getElem?_eq_some_iff.1 h.blk).1
theorem PS.turn (h : PS P St w g a n c W E nv N s) (hg : w.grownBy w' (some g)) {s' : Ps} (hb : w'.heap[g]? = some (.cells (psCells a n c E nv s') P (0, 0))) : PS P St w' g a n c W E nv N s' :=
  ⟨hb, h.words.grown hg (fun b off e h0 e2 => by have := h.apart b off e h0; have := Option.some.inj e2; omega), h.apart, h.names.beside hg (fun k hk e => h.far k hk (Option.some.inj e)), h.far⟩
theorem PS.later (h : PS P St w g a n c W E nv N s) (hb : Below w.heap.size w w') : PS P St w' g a n c W E nv N s := h.turn (below_grown hb _) (blk_later h.blk hb)
theorem PS.len (h : PS P St w g a n c W E nv N s) : W.length = n := by have := h.words.len; simpa using this
/-- The next word's cells. -/
theorem PS.word (h : PS P St w g a n c W E nv N s) {x : Lw} (hx : W[s.i]? = some x) : ∃ b off, a = some ⟨b, off, none⟩ ∧ s.i < n ∧ w.cell? ⟨b, off + s.i * 3, none⟩ = some (.int .i64 (x.k : Int)) ∧ w.cell? ⟨b, off + s.i * 3 + 1, none⟩ = some (.string (bs x.t)) ∧ w.cell? ⟨b, off + s.i * 3 + 2, none⟩ = some (.int .i64 (x.p : Int)) := by
  have hl : s.i < W.length := by
    rcases Nat.lt_or_ge s.i W.length with h9 | h9
    · exact h9
    · rw [List.getElem?_eq_none h9] at hx; cases hx
  have hn := h.len
  obtain ⟨b, off, e, h1, h2, h3⟩ := h.words.at (j := s.i) (by omega)
  have e9 : (W.map Lw.x).getD s.i Wx.zero = x.x := by rw [List.getD_eq_getElem?_getD, List.getElem?_map, hx]; rfl
  rw [e9] at h1 h2 h3
  exact ⟨b, off, e, by omega, h1, h2, h3⟩
theorem PS.init {w : World} {base : Nat} (P : TypeId) {at' : Int} (hw : Wxs w a n c (W.map Lw.x)) (hn : stC.Own w base St nv N) : PS P St (w.alloc (.cells (psCells a n c E nv ⟨0, 0, at'⟩) P)) w.heap.size a n c W E nv N ⟨0, 0, at'⟩ := by
  refine ⟨blk_new w _ P, hw.later (below_alloc _ _), fun b off e h0 => ?_, ?_, fun k hk => ?_⟩
  · obtain ⟨b', off', e', h1, _⟩ := hw.at h0
    rw [e] at e'
    obtain ⟨rfl, rfl, _⟩ := Addr.mk.inj (Option.some.inj e')
    rcases Nat.lt_or_ge b w.heap.size with h9 | h9
    · exact h9
    · rw [World.cell?, Array.getElem?_eq_none h9] at h1; cases h1
  · have h9 := hn.later (below_alloc w (.cells (psCells a n c E nv ⟨0, 0, at'⟩) P))
    obtain ⟨⟨h1, h2⟩, h3⟩ := h9
    refine ⟨⟨h1, ?_⟩, h3⟩
    rcases h2 with h0 | ⟨g', cap, cur, e1, _, rest⟩
    · exact .inl h0
    · exact .inr ⟨g', cap, cur, e1, Nat.zero_le _, rest⟩
  · have := hn.lt k hk; omega
/-- A cell of it is written. -/
theorem PS.set1 (h : PS P St w g a n c W E nv N s) (i' : Nat) : PS P St (w.setCell ⟨g, 1, none⟩ (.int .i64 (i' : Int))) g a n c W E nv N { s with i := i' } ∧ w.grownBy (w.setCell ⟨g, 1, none⟩ (.int .i64 (i' : Int))) (some g) := by
  have hg := grown_cell w g 1 (.int .i64 (i' : Int))
  refine ⟨h.turn hg ?_, hg⟩
  have := blk_set h.blk 1 (.int .i64 (i' : Int))
  simpa [psCells] using this
theorem PS.set3 (h : PS P St w g a n c W E nv N s) (d' : Nat) : PS P St (w.setCell ⟨g, 3, none⟩ (.int .i64 (d' : Int))) g a n c W E nv N { s with deep := d' } ∧ w.grownBy (w.setCell ⟨g, 3, none⟩ (.int .i64 (d' : Int))) (some g) := by
  have hg := grown_cell w g 3 (.int .i64 (d' : Int))
  refine ⟨h.turn hg ?_, hg⟩
  have := blk_set h.blk 3 (.int .i64 (d' : Int))
  simpa [psCells] using this
theorem PS.set5 (h : PS P St w g a n c W E nv N s) (b' : Int) : PS P St (w.setCell ⟨g, 5, none⟩ (.int .i64 b')) g a n c W E nv N { s with bad := b' } ∧ w.grownBy (w.setCell ⟨g, 5, none⟩ (.int .i64 b')) (some g) := by
  have hg := grown_cell w g 5 (.int .i64 b')
  refine ⟨h.turn hg ?_, hg⟩
  have := blk_set h.blk 5 (.int .i64 b')
  simpa [psCells] using this
end
/-- Nothing comes back; the reader has gone on to this. -/
def Went (P St : TypeId) (g : Nat) (a : Option Addr) (n c : Nat) (W : List Lw) (E : Nat) (nv : Value) (N : List (List UInt8)) (s' : Ps) (w : World) (e : Ending) (w' : World) : Prop :=
  e = .returned (.tuple #[]) ∧ PS P St w' g a n c W E nv N s' ∧ w.grownBy w' (some g)
set_option maxRecDepth 4096 in
set_option maxHeartbeats 8000000 in
theorem ref18_sees (g : Nat) (a : Option Addr) (n c : Nat) (W : List Lw) (E : Nat) (nv : Value) (N : List (List UInt8)) (s : Ps) (t : List UInt8) (w : World) (h : PS 68 9 w g a n c W E nv N s) :
    Calls Try.prog 55 #[.pointer (some ⟨g, 0, none⟩), .string (bs t)] w (Gives (.bool (pSees W s t)) w) := by
  obtain ⟨e0, e1, e2, e3, e4, e5⟩ := h.cells
  have hl := h.len
  have hbd := h.words.bound
  by_cases hb : s.bad < 0
  · by_cases hi : s.i < n
    · obtain ⟨x, hx⟩ : ∃ x, W[s.i]? = some x := ⟨W[s.i]'(by omega), List.getElem?_eq_getElem _⟩
      obtain ⟨b, off, rfl, hlt, f0, f1, f2⟩ := h.word hx
      obtain ⟨R, hR⟩ : ∃ R, pSees W s t = R := ⟨_, rfl⟩
      have hR2 : R = decide (x.t = t) := by rw [← hR]; unfold pSees; rw [decide_eq_true hb, hx]; rfl
      rw [hR]
      have k1 : (s.i : Int) < (n : Int) := by omega
      have q1 : ((bs x.t).toList == (bs t).toList) = R := by rw [bs_list, bs_list, hR2]; by_cases h9 : x.t = t <;> simp [h9]
      clear hR hR2 hx h hl hlt
      go_enter Try.func55, Try.ntmps55
      go_wp2
      go_region
      go_wp2
      go_ret
      exact ⟨rfl, below_draws _ _⟩
    · have hR2 : pSees W s t = false := by unfold pSees; rw [List.getElem?_eq_none (by omega)]; simp
      rw [hR2]
      have k1 : ¬ (s.i : Int) < (n : Int) := by omega
      clear hR2 h hl
      go_enter Try.func55, Try.ntmps55
      go_wp2
      go_region
      go_wp2
      go_ret
      exact ⟨rfl, below_draws _ _⟩
  · have hR2 : pSees W s t = false := by unfold pSees; rw [decide_eq_false hb]; rfl
    rw [hR2]
    have q9 : decide (s.bad < 0) = false := decide_eq_false hb
    clear hR2 h hl
    go_enter Try.func55, Try.ntmps55
    go_wp2
    go_region
    go_wp2
    go_ret
    exact ⟨rfl, below_draws _ _⟩
set_option maxRecDepth 4096 in
set_option maxHeartbeats 8000000 in
theorem ref18_bad (g : Nat) (a : Option Addr) (n c : Nat) (W : List Lw) (E : Nat) (nv : Value) (N : List (List UInt8)) (s : Ps) (w : World) (h : PS 68 9 w g a n c W E nv N s) :
    Calls Try.prog 57 #[.pointer (some ⟨g, 0, none⟩)] w (Went 68 9 g a n c W E nv N (pBad W E s) w) := by
  obtain ⟨e0, e1, e2, e3, e4, e5⟩ := h.cells
  have hl := h.len
  have hbd := h.words.bound
  have hf := h.free 5
  have H := Lib.hid h
  by_cases hb : 0 ≤ s.bad
  · have hR : pBad W E s = s := if_pos hb
    rw [hR]
    clear hR h hl
    go_enter Try.func57, Try.ntmps57
    go_wp2
    go_end0
    exact ⟨rfl, H.out, grown_refl _ _⟩
  · obtain ⟨h1, g1⟩ := h.set5 (E : Int)
    have H1 := Lib.hid h1
    have G1 := Lib.hid g1
    obtain ⟨x0, x1, x2, x3, x4, x5⟩ := h1.cells
    have xf := h1.free 5
    dsimp only at x1 x3 x5
    by_cases hi : s.i < n
    · obtain ⟨x, hx⟩ : ∃ x, W[s.i]? = some x := ⟨W[s.i]'(by omega), List.getElem?_eq_getElem _⟩
      have hR : pBad W E s = { s with bad := (x.p : Int) } := by unfold pBad; rw [if_neg hb, hx]
      rw [hR]
      obtain ⟨b, off, rfl, hlt, f0, f1, f2⟩ := h1.word (x := x) hx
      dsimp only at f0 f1 f2
      have k1 : (s.i : Int) < (n : Int) := by omega
      clear hR hx h hl hlt h1 g1 H
      go_enter Try.func57, Try.ntmps57
      go_wp2
      go_region
      go_wp2
      go_region
      go_wp2
      go_end0
      have H2 := H1.out.set5 (x.p : Int)
      exact ⟨rfl, H2.1.later (Below.refl _ _).drew.drew, grown_then (grown_then G1.out H2.2) (below_grown (Below.refl _ _).drew.drew _)⟩
    · have hR : pBad W E s = { s with bad := (E : Int) } := by unfold pBad; rw [if_neg hb, List.getElem?_eq_none (by omega)]
      rw [hR]
      have k1 : ¬ (s.i : Int) < (n : Int) := by omega
      clear hR h hl h1 g1 H
      go_enter Try.func57, Try.ntmps57
      go_wp2
      go_region
      go_wp2
      go_end0
      exact ⟨rfl, H1.out.later (below_draws _ _), grown_then G1.out (below_grown (below_draws _ _) _)⟩
end Go.Proofs.Ythblmpkdcahmkaa

/-
  The document's answer of layer 18: kind, must, level, free, find, small, over.
-/
namespace Go.Proofs.Ythblmpkdcahmkaa
open Go.WideShapes Go.RowKit Go.Deep

set_option maxRecDepth 4096 in
set_option maxHeartbeats 8000000 in
theorem ref18_kind_q (g : Nat) (a : Option Addr) (n c : Nat) (W : List Lw) (E : Nat) (nv : Value) (N : List (List UInt8)) (s : Ps) (w : World) (h : PS 68 9 w g a n c W E nv N s) :
    Calls Try.prog 76 #[.pointer (some ⟨g, 0, none⟩)] w (fun e w' => e = .returned (.int .i64 (pKind W s : Int)) ∧ ∃ q, w' = w.drewN q) := by
  obtain ⟨e0, e1, e2, e3, e4, e5⟩ := h.cells
  have hl := h.len
  have hbd := h.words.bound
  by_cases hb : s.bad < 0
  · by_cases hi : s.i < n
    · obtain ⟨x, hx⟩ : ∃ x, W[s.i]? = some x := ⟨W[s.i]'(by omega), List.getElem?_eq_getElem _⟩
      obtain ⟨b, off, rfl, hlt, f0, f1, f2⟩ := h.word hx
      have hR : pKind W s = x.k := by unfold pKind; rw [if_pos hb, hx]
      rw [hR]
      have k1 : (s.i : Int) < (n : Int) := by omega
      clear hR hx h hl hlt
      go_enter Try.func76, Try.ntmps76
      go_wp2
      go_region
      go_wp2
      go_region
      go_wp2
      go_ret
      exact ⟨rfl, 2, rfl⟩
    · have hR : pKind W s = 0 := by unfold pKind; rw [if_pos hb, List.getElem?_eq_none (by omega)]
      rw [hR]
      have k1 : ¬ (s.i : Int) < (n : Int) := by omega
      clear hR h hl
      go_enter Try.func76, Try.ntmps76
      go_wp2
      go_region
      go_wp2
      go_ret
      exact ⟨rfl, 1, rfl⟩
  · have hR : pKind W s = 0 := if_neg hb
    rw [hR]
    have q9 : decide (s.bad < 0) = false := decide_eq_false hb
    clear hR h hl
    go_enter Try.func76, Try.ntmps76
    go_wp2
    go_region
    go_wp2
    go_ret
    exact ⟨rfl, 1, rfl⟩
theorem ref18_kind (g : Nat) (a : Option Addr) (n c : Nat) (W : List Lw) (E : Nat) (nv : Value) (N : List (List UInt8)) (s : Ps) (w : World) (h : PS 68 9 w g a n c W E nv N s) :
    Calls Try.prog 76 #[.pointer (some ⟨g, 0, none⟩)] w (Gives (.int .i64 (pKind W s : Int)) w) := (ref18_kind_q g a n c W E nv N s w h).mono fun _ _ ⟨he, q, hq⟩ => ⟨he, by rw [hq]; exact below_draws _ _⟩
set_option maxRecDepth 4096 in
set_option maxHeartbeats 8000000 in
theorem ref18_must (g : Nat) (a : Option Addr) (n c : Nat) (W : List Lw) (E : Nat) (nv : Value) (N : List (List UInt8)) (s : Ps) (t : List UInt8) (w : World) (h : PS 68 9 w g a n c W E nv N s) (hE : s.i < 9000000000000000000) :
    Calls Try.prog 58 #[.pointer (some ⟨g, 0, none⟩), .string (bs t)] w (Went 68 9 g a n c W E nv N (pMust W E t s) w) := by
  have HS := Lib.hid (ref18_sees g a n c W E nv N s t w h)
  have H := Lib.hid h
  clear h
  by_cases hr : pSees W s t = true
  · have hR : pMust W E t s = { s with i := s.i + 1 } := if_pos hr
    rw [hR]
    rw [hr] at HS
    clear hR hr
    go_enter Try.func58, Try.ntmps58
    go_wp2_with fail
    refine HS.out.mono ?_
    rintro e w1 ⟨rfl, b1⟩
    have H1 := Lib.hid (H.out.later b1)
    have B1 := Lib.hid b1
    obtain ⟨e0, e1, e2, e3, e4, e5⟩ := H1.out.cells
    have hf := H1.out.free 1
    have k1 : IntKind.i64.wrap ((s.i : Int) + 1) = ((s.i + 1 : Nat) : Int) := by rw [IntKind.wrap_i64]; omega
    clear b1 HS H
    go_wp2
    go_end0
    obtain ⟨h2, g2⟩ := H1.out.set1 (s.i + 1)
    exact ⟨rfl, h2, grown_then (below_grown B1.out _) g2⟩
  · have hR : pMust W E t s = pBad W E s := if_neg hr
    rw [hR]
    rw [Bool.not_eq_true] at hr
    rw [hr] at HS
    clear hR hr
    go_enter Try.func58, Try.ntmps58
    go_wp2_with fail
    refine HS.out.mono ?_
    rintro e w1 ⟨rfl, b1⟩
    have HB := Lib.hid (ref18_bad g a n c W E nv N s w1 (H.out.later b1))
    have B1 := Lib.hid b1
    clear b1 HS H
    go_wp2_with fail
    refine HB.out.mono ?_
    rintro e w2 ⟨rfl, h2, g2⟩
    go_wp2
    go_end0
    exact ⟨rfl, h2, grown_then (below_grown B1.out _) g2⟩
set_option maxRecDepth 4096 in
set_option maxHeartbeats 8000000 in
theorem ref18_level (g : Nat) (a : Option Addr) (n c : Nat) (W : List Lw) (E : Nat) (nv : Value) (N : List (List UInt8)) (s : Ps) (w : World) (h : PS 68 9 w g a n c W E nv N s) (hE : s.i < 9000000000000000000) (hd : s.deep < 9000000000000000000) :
    Calls Try.prog 88 #[.pointer (some ⟨g, 0, none⟩)] w (Went 68 9 g a n c W E nv N (pLevel W E s) w) := by
  have H := Lib.hid h
  have k1 : IntKind.i64.wrap ((s.i : Int) + 1) = ((s.i + 1 : Nat) : Int) := by rw [IntKind.wrap_i64]; omega
  have k2 : IntKind.i64.wrap ((s.deep : Int) + 1) = ((s.deep + 1 : Nat) : Int) := by rw [IntKind.wrap_i64]; omega
  obtain ⟨e0, e1, e2, e3, e4, e5⟩ := h.cells
  by_cases hq : 40 ≤ s.deep
  · have hR : pLevel W E s = { pBad W E s with deep := s.deep + 1, i := s.i + 1 } := by unfold pLevel; rw [if_pos hq]
    rw [hR]
    obtain ⟨p1, p2, -⟩ := pBad_i W E s
    have HB := Lib.hid (ref18_bad g a n c W E nv N s w h)
    generalize pBad W E s = s1 at *
    obtain ⟨si, sd, sb⟩ := s1
    obtain rfl : s.i = si := p1.symm
    obtain rfl : s.deep = sd := p2.symm
    have k3 : (40 : Int) ≤ (s.deep : Int) := by omega
    clear hR h p1 p2
    go_enter Try.func88, Try.ntmps88
    go_wp2_with fail
    refine HB.out.mono ?_
    rintro e w1 ⟨rfl, h1, g1⟩
    obtain ⟨x0, x1, x2, x3, x4, x5⟩ := h1.cells
    have xf1 := h1.free 1
    have xf3 := h1.free 3
    obtain ⟨h2, g2⟩ := h1.set3 (s.deep + 1)
    obtain ⟨y0, y1, y2, y3, y4, y5⟩ := h2.cells
    have yf := h2.free 1
    dsimp only at x1 x3 x5 y1 y3 y5
    have H2 := Lib.hid h2
    have G2 := Lib.hid (grown_then g1 g2)
    clear h1 h2 g1 g2 e0 e1 e2 e3 e4 e5
    go_wp2
    go_end0
    obtain ⟨h3, g3⟩ := H2.out.set1 (s.i + 1)
    exact ⟨rfl, h3, grown_then G2.out g3⟩
  · have hR : pLevel W E s = { s with deep := s.deep + 1, i := s.i + 1 } := by unfold pLevel; rw [if_neg hq]
    rw [hR]
    have k3 : ¬ (40 : Int) ≤ (s.deep : Int) := by omega
    have xf1 := h.free 1
    have xf3 := h.free 3
    obtain ⟨h2, g2⟩ := h.set3 (s.deep + 1)
    obtain ⟨y0, y1, y2, y3, y4, y5⟩ := h2.cells
    have yf := h2.free 1
    dsimp only at y1 y3 y5
    have H2 := Lib.hid h2
    have G2 := Lib.hid g2
    clear hR h h2 g2
    go_enter Try.func88, Try.ntmps88
    go_wp2
    go_end0
    obtain ⟨h3, g3⟩ := H2.out.set1 (s.i + 1)
    exact ⟨rfl, h3, grown_then G2.out g3⟩
set_option maxRecDepth 4096 in
set_option maxHeartbeats 8000000 in
theorem ref18_over (g : Nat) (a : Option Addr) (n c : Nat) (W : List Lw) (E : Nat) (nv : Value) (N : List (List UInt8)) (s : Ps) (w : World) (h : PS 68 9 w g a n c W E nv N s) :
    Calls Try.prog 29 #[.pointer (some ⟨g, 0, none⟩)] w (Went 68 9 g a n c W E nv N (pOver W E s) w) := by
  obtain ⟨e0, e1, e2, e3, e4, e5⟩ := h.cells
  have hl := h.len
  have hbd := h.words.bound
  have H := Lib.hid h
  by_cases hb : s.bad < 0
  · by_cases hi : s.i < n
    · have hR : pOver W E s = pBad W E s := if_pos ⟨hb, by omega⟩
      rw [hR]
      have k1 : (s.i : Int) < (n : Int) := by omega
      have HB := Lib.hid (ref18_bad g a n c W E nv N s w.drew (h.later (Below.refl _ _).drew))
      clear hR h hl
      go_enter Try.func29, Try.ntmps29
      go_wp2
      go_region
      go_wp2_with fail
      refine HB.out.mono ?_
      rintro e w1 ⟨rfl, h1, g1⟩
      go_wp2
      go_end0
      exact ⟨rfl, h1, grown_then (below_grown (Below.refl _ _).drew _) g1⟩
    · have hR : pOver W E s = s := if_neg (fun h9 => by omega)
      rw [hR]
      have k1 : ¬ (s.i : Int) < (n : Int) := by omega
      clear hR h hl
      go_enter Try.func29, Try.ntmps29
      go_wp2
      go_region
      go_wp2
      go_end0
      exact ⟨rfl, H.out.later (Below.refl _ _).drew, below_grown (Below.refl _ _).drew _⟩
  · have hR : pOver W E s = s := if_neg (fun h9 => hb h9.1)
    rw [hR]
    have q9 : decide (s.bad < 0) = false := decide_eq_false hb
    clear hR h hl
    go_enter Try.func29, Try.ntmps29
    go_wp2
    go_region
    go_wp2
    go_end0
    exact ⟨rfl, H.out.later (Below.refl _ _).drew, below_grown (Below.refl _ _).drew _⟩
set_option maxRecDepth 4096 in
set_option maxHeartbeats 8000000 in
theorem ref18_free (g : Nat) (a : Option Addr) (n c : Nat) (W : List Lw) (E : Nat) (nv : Value) (N : List (List UInt8)) (s : Ps) (w : World) (h : PS 68 9 w g a n c W E nv N s) :
    Calls Try.prog 56 #[.pointer (some ⟨g, 0, none⟩)] w (Gives (.bool (pFree W s)) w) := by
  have HK := Lib.hid (ref18_kind g a n c W E nv N s w h)
  have H := Lib.hid h
  obtain ⟨R, hR⟩ : ∃ R, pFree W s = R := ⟨_, rfl⟩
  rw [hR]
  have HR := Lib.hid (show (decide (pKind W s = 2) && !pSees W s [116] && !pSees W s [121] && !pSees W s [112] && !pSees W s [108, 101, 116]) = R from hR)
  clear hR h
  generalize pKind W s = k at *
  by_cases hk : k = 2
  · have q1 : ((k : Int) == 2) = true := by simp [hk]
    have HS := Lib.hid fun (t : List UInt8) (w1 : World) (hb : Below w.heap.size w w1) => ref18_sees g a n c W E nv N s t w1 (H.out.later hb)
    generalize ha : pSees W s [116] = r1 at *
    generalize hb : pSees W s [121] = r2 at *
    generalize hc : pSees W s [112] = r3 at *
    generalize hd : pSees W s [108, 101, 116] = r4 at *
    have HS1 := Lib.hid (HS.out [116])
    have HS2 := Lib.hid (HS.out [121])
    have HS3 := Lib.hid (HS.out [112])
    have HS4 := Lib.hid (HS.out [108, 101, 116])
    rw [ha] at HS1
    rw [hb] at HS2
    rw [hc] at HS3
    rw [hd] at HS4
    rw [decide_eq_true hk, Bool.true_and] at HR
    clear HS ha hb hc hd hk
    go_enter Try.func56, Try.ntmps56
    go_wp2_with fail
    refine HK.out.mono ?_
    rintro e w1 ⟨rfl, b1⟩
    have B1 := Lib.hid b1
    clear b1 HK
    go_wp2_with fail
    refine (HS1.out _ B1.out).mono ?_
    rintro e w2 ⟨rfl, b2⟩
    have B2 := Lib.hid (below_then B1.out b2)
    clear b2 B1
    cases r1
    · go_wp2_with fail
      refine (HS2.out _ B2.out).mono ?_
      rintro e w3 ⟨rfl, b3⟩
      have B3 := Lib.hid (below_then B2.out b3)
      clear b3 B2
      cases r2
      · go_wp2_with fail
        refine (HS3.out _ B3.out).mono ?_
        rintro e w4 ⟨rfl, b4⟩
        have B4 := Lib.hid (below_then B3.out b4)
        clear b4 B3
        cases r3
        · go_wp2_with fail
          refine (HS4.out _ B4.out).mono ?_
          rintro e w5 ⟨rfl, b5⟩
          have B5 := Lib.hid (below_then B4.out b5)
          clear b5 B4
          go_wp2
          go_ret
          exact ⟨by rw [← HR.out]; simp, B5.out⟩
        · go_wp2
          go_ret
          exact ⟨by rw [← HR.out]; simp, B4.out⟩
      · go_wp2
        go_ret
        exact ⟨by rw [← HR.out]; simp, B3.out⟩
    · go_wp2
      go_ret
      exact ⟨by rw [← HR.out]; simp, B2.out⟩
  · have q1 : ((k : Int) == 2) = false := by simp; omega
    obtain rfl : R = false := by rw [← HR.out, decide_eq_false hk]; rfl
    clear hk HR
    go_enter Try.func56, Try.ntmps56
    go_wp2_with fail
    refine HK.out.mono ?_
    rintro e w1 ⟨rfl, b1⟩
    go_wp2
    go_ret
    exact ⟨rfl, b1⟩
end Go.Proofs.Ythblmpkdcahmkaa

/-
  The document's answer of layer 18: find, small.
-/
namespace Go.Proofs.Ythblmpkdcahmkaa
open Go.WideShapes Go.RowKit Go.Deep

set_option maxRecDepth 4096 in
set_option maxHeartbeats 8000000 in
theorem ref18_find (g : Nat) (a : Option Addr) (n c : Nat) (W : List Lw) (E : Nat) (nv : Value) (N : List (List UInt8)) (s : Ps) (t : List UInt8) (w : World) (h : PS 68 9 w g a n c W E nv N s) :
    Calls Try.prog 95 #[.pointer (some ⟨g, 0, none⟩), .string (bs t)] w (Same1 (.int .i64 (pFind t N 0)) w) := by
  obtain ⟨e0, e1, e2, e3, e4, e5⟩ := h.cells
  obtain ⟨a9, c9, rfl, h9⟩ := h.names.slice
  have HN := Lib.hid h9
  have hbd := h9.bound
  obtain ⟨R, hR⟩ : ∃ R, pFind t N 0 = R := ⟨_, rfl⟩
  rw [hR]
  have HR := Lib.hid hR
  clear hR h h9
  go_enter Try.func95, Try.ntmps95
  go_wp2
  go_loop [5] (fun iv => ∃ j : Nat, j ≤ N.length ∧ iv = .int .i64 (j : Int) ∧ Hid (pFind t (N.drop j) j = R)) (fun iv => N.length - (intOf iv).toNat)
  case atStart => exact ⟨0, by omega, by go_num, HR⟩
  case round =>
    obtain ⟨j, hj, rfl, HF⟩ := hrel
    by_cases hlt : j < N.length
    · have hji : (j : Int) < (N.length : Int) := by omega
      obtain ⟨x, hx⟩ : ∃ x, N[j]? = some x := ⟨N[j]'hlt, List.getElem?_eq_getElem _⟩
      obtain ⟨b, off, rfl, hc⟩ := HN.out.at (by omega)
      have f0 : w.cell? ⟨b, off + j, none⟩ = some (.string (bs x)) := by
        have h9 := hc j x hx 0 _ rfl
        simpa [stC] using h9
      have HF2 : Hid ((if x = t then (j : Int) else pFind t (N.drop (j + 1)) (j + 1)) = R) := Lib.hid (by
        have h9 := HF.out
        rw [List.drop_eq_getElem_cons hlt, pFind] at h9
        rw [List.getElem?_eq_getElem hlt] at hx
        rw [← Option.some.inj hx]; exact h9)
      clear hx hc HF
      by_cases hq : x = t
      · have q1 : ((bs x).toList == (bs t).toList) = true := by rw [bs_list, bs_list]; simp [hq]
        obtain rfl : R = (j : Int) := by rw [← HF2.out, if_pos hq]
        clear hq HF2
        go_wp2
        go_ret
        exact ⟨rfl, rfl⟩
      · have q1 : ((bs x).toList == (bs t).toList) = false := by rw [bs_list, bs_list]; simp [hq]
        have HF3 : Hid (pFind t (N.drop (j + 1)) (j + 1) = R) := Lib.hid (by rw [← HF2.out, if_neg hq])
        clear hq HF2
        go_wp2
        go_round
        case rel => exact ⟨j + 1, by omega, by go_num, HF3⟩
        case measure => simp [intOf]; omega
    · obtain rfl : j = N.length := by omega
      obtain rfl : R = -1 := by
        have h9 := HF.out
        rw [List.drop_of_length_le (Nat.le_refl _), pFind] at h9
        exact h9.symm
      go_wp2
      go_ret
      exact ⟨rfl, rfl⟩
/-- A number comes back; the reader has gone on to this. -/
def Told18 (P St : TypeId) (g : Nat) (a : Option Addr) (n c : Nat) (W : List Lw) (E : Nat) (nv : Value) (N : List (List UInt8)) (z : Int) (s' : Ps) (w : World) (e : Ending) (w' : World) : Prop :=
  e = .returned (.int .i64 z) ∧ PS P St w' g a n c W E nv N s' ∧ w.grownBy w' (some g)
set_option maxRecDepth 4096 in
set_option maxHeartbeats 8000000 in
theorem ref18_small (g : Nat) (a : Option Addr) (n c : Nat) (W : List Lw) (E : Nat) (nv : Value) (N : List (List UInt8)) (s : Ps) (w : World) (h : PS 68 9 w g a n c W E nv N s) (hW : ∀ x ∈ W, Wk x) (hE : s.i < 9000000000000000000) :
    Calls Try.prog 90 #[.pointer (some ⟨g, 0, none⟩)] w (Told18 68 9 g a n c W E nv N ((pSmall W E s).1 : Int) (pSmall W E s).2 w) := by
  have HK := Lib.hid fun w1 (hb : Below w.heap.size w w1) => ref18_kind_q g a n c W E nv N s w1 (h.later hb)
  have H := Lib.hid h
  obtain ⟨e0, e1, e2, e3, e4, e5⟩ := h.cells
  have hl := h.len
  have hbd := h.words.bound
  by_cases hk : pKind W s = 1
  · obtain ⟨hb, hi⟩ := pKind_i W (s := s) (by omega)
    obtain ⟨x, hx⟩ : ∃ x, W[s.i]? = some x := ⟨W[s.i]'hi, List.getElem?_eq_getElem _⟩
    obtain ⟨b, off, rfl, hlt, f0, f1, f2⟩ := h.word hx
    have hT : pText W s = x.t := by unfold pText; rw [hx]
    have hkx : x.k = 1 := by
      have h9 := hk
      unfold pKind at h9
      rw [if_pos hb, hx] at h9
      exact h9
    have HD := Lib.hid (wk_digits (hW x (List.mem_of_getElem? hx)) hkx)
    have k1 : (s.i : Int) < (n : Int) := by omega
    have k4 : IntKind.i64.wrap ((s.i : Int) + 1) = ((s.i + 1 : Nat) : Int) := by rw [IntKind.wrap_i64]; omega
    have hsz := bs_size x.t
    rw [hk] at HK
    have q1 : (((1 : Nat) : Int) != 1) = false := by decide
    by_cases h3 : x.t.length ≤ 3
    · have hR : pSmall W E s = (readV x.t, { s with i := s.i + 1 }) := by unfold pSmall; rw [if_pos ⟨hk, by rw [hT]; exact h3⟩, hT]
      rw [hR]
      have k2 : ¬ (3 : Int) < (x.t.length : Int) := by omega
      clear hR h hx hl hT hk hkx
      generalize x.t = t at *
      go_enter Try.func90, Try.ntmps90
      go_wp2
      go_quiet ((go_at_call 76; exact quiet_there (HK.out _ (below_draws _ _)) (fun p => ⟨_, World.drewN_drewN ..⟩)))
      go_wp2
      go_region
      go_wp2
      go_loop [3, 5] (fun vv iv => ∃ j v : Nat, j ≤ t.length ∧ iv = .int .i64 (j : Int) ∧ vv = .int .i64 (v : Int) ∧ Hid (readV (t.take j) = v)) (fun _ iv => t.length - (intOf iv).toNat)
      case atStart => exact ⟨0, 0, by omega, by go_num, by go_num, Lib.hid (by simp [readV])⟩
      case round =>
        obtain ⟨j, v, hj, rfl, rfl, HV⟩ := hrel
        by_cases hlt : j < t.length
        · have hji : (j : Int) < (t.length : Int) := by omega
          have hget := bs_get t j hlt (by rw [bs_size]; exact hlt)
          have hdk := alldig_getD HD.out hlt
          have hvl : v < 1000 := by
            have h9 := readV_lt (l := t.take j) (fun x hx => HD.out x (List.mem_of_mem_take hx))
            rw [HV.out] at h9
            have h8 : (10 : Nat) ^ (t.take j).length ≤ 10 ^ 3 := Nat.pow_le_pow_right (by decide) (by rw [List.length_take]; omega)
            omega
          have Hv := Lib.hid (readV_take hlt)
          rw [HV.out] at Hv
          generalize (t.getD j 0).toNat = x at *
          have m1 : IntKind.i64.wrap (10 * (v : Int)) = 10 * (v : Int) := by rw [IntKind.wrap_i64]; omega
          have m2 : IntKind.i64.wrap (10 * (v : Int) + (x : Int)) = 10 * (v : Int) + (x : Int) := by rw [IntKind.wrap_i64]; omega
          have m3 : IntKind.i64.wrap (10 * (v : Int) + (x : Int) - 48) = 10 * (v : Int) + (x : Int) - 48 := by rw [IntKind.wrap_i64]; omega
          have m4 : IntKind.i64.wrap (x : Int) = (x : Int) := by rw [IntKind.wrap_i64]; omega
          have HF : Hid (readV (t.take (j + 1)) = v * 10 + (x - 48)) := Hv
          clear HV Hv
          go_wp2
          go_round
          case rel => exact ⟨j + 1, v * 10 + (x - 48), by omega, by go_num, (by congr 1; omega), HF⟩
          case measure => simp [intOf]; omega
        · obtain rfl : j = t.length := by omega
          have hv : v = readV t := by rw [← HV.out, List.take_of_length_le (Nat.le_refl _)]
          subst hv
          have hf := H.out.free 1
          go_wp2
          go_ret
          obtain ⟨h2, g2⟩ := (H.out.later ((below_draws w _).drew)).set1 (s.i + 1)
          exact ⟨rfl, h2, grown_then (below_grown ((below_draws w _).drew) _) g2⟩
    · have hR : pSmall W E s = (0, pBad W E s) := by unfold pSmall; rw [if_neg (fun h9 => h3 (by rw [← hT]; exact h9.2))]
      rw [hR]
      have k2 : (3 : Int) < (x.t.length : Int) := by omega
      have HB := Lib.hid fun w1 (hb : Below w.heap.size w w1) => ref18_bad g (some ⟨b, off, none⟩) n c W E nv N s w1 (H.out.later hb)
      clear hR h hx hl hT hk hkx
      generalize x.t = t at *
      go_enter Try.func90, Try.ntmps90
      go_wp2
      go_quiet ((go_at_call 76; exact quiet_there (HK.out _ (below_draws _ _)) (fun p => ⟨_, World.drewN_drewN ..⟩)))
      go_wp2_with fail
      refine (HB.out _ (below_draws _ _)).mono ?_
      rintro e w2 ⟨rfl, h2, g2⟩
      go_wp2
      go_ret
      exact ⟨rfl, h2, grown_then (below_grown (below_draws w _) _) g2⟩
  · have hR : pSmall W E s = (0, pBad W E s) := by unfold pSmall; rw [if_neg (fun h9 => hk h9.1)]
    rw [hR]
    have q1 : ((pKind W s : Int) != 1) = true := by simp; omega
    have HB := Lib.hid fun w1 (hb : Below w.heap.size w w1) => ref18_bad g a n c W E nv N s w1 (H.out.later hb)
    generalize pKind W s = kk at *
    clear hR h hl hk
    go_enter Try.func90, Try.ntmps90
    go_wp2
    go_quiet ((go_at_call 76; exact quiet_there (HK.out _ (below_draws _ _)) (fun p => ⟨_, World.drewN_drewN ..⟩)))
    go_wp2_with fail
    refine (HB.out _ (below_draws _ _)).mono ?_
    rintro e w2 ⟨rfl, h2, g2⟩
    go_wp2
    go_ret
    exact ⟨rfl, h2, grown_then (below_grown (below_draws w _) _) g2⟩
end Go.Proofs.Ythblmpkdcahmkaa

/-
  A reader and rows of nodes of one's own side by side (layer 18). Of no program.
-/
namespace Go.Proofs.Ythblmpkdcahmkaa
open Go.WideShapes Go.RowKit Go.Deep

theorem grown_own {w0 w w' : World} {row row' : Option Nat} (h : w0.grownBy w row) (hg : w.grownBy w' row') (hr : ∀ k, row' = some k → w0.heap.size ≤ k) : w0.grownBy w' row := by
  refine ⟨hg.os.trans h.os, hg.tape.trans h.tape, hg.output.trans h.output, Nat.le_trans h.size hg.size, fun k hk hne => ?_⟩
  rw [hg.block k (Nat.lt_of_lt_of_le hk h.size) (fun e => by have := hr k e.symm; omega)]
  exact h.block k hk hne
theorem grown_pass {w0 w w' : World} {row : Option Nat} (h : w0.grownBy w row) (hb : Below w.heap.size w w') : w0.grownBy w' row := grown_then h (below_grown hb row)
/-- A row of one's own of any lower base. -/
theorem Kin.Mine.low {α : Type} {K : Kin α} {w : World} {base base' : Nat} {e : TypeId} {v : Value} {L : List α} (h : K.Mine w base e v L) (hb : base' ≤ base) : K.Mine w base' e v L := by
  obtain ⟨⟨⟨h1, h2⟩, h3⟩, h4⟩ := h
  refine ⟨⟨⟨h1, ?_⟩, h3⟩, h4⟩
  rcases h2 with h0 | ⟨g, cap, cur, e1, hbg, rest⟩
  · exact .inl h0
  · exact .inr ⟨g, cap, cur, e1, Nat.le_trans hb hbg, rest⟩
theorem Cls.Own.ty {α : Type} {C : Cls α} {w : World} {base : Nat} {e : TypeId} {v : Value} {L : List α} (h : C.Own w base e v L) {k : Nat} (hk : v.ownBlock = some k) : ∃ cur, w.heap[k]? = some (.cells cur e (0, 0)) := by
  rcases h.1.2 with ⟨rfl, _⟩ | ⟨g, cap, cur, rfl, hbg, hg, _⟩
  · simp [Value.ownBlock] at hk
  · simp [Value.ownBlock] at hk
    subst hk
    exact ⟨cur, hg⟩
theorem Kin.Mine.lit1 {α : Type} {K : Kin α} (w : World) (e : TypeId) (x : α) (hg : K.good w x) : K.Mine (w.alloc (.cells (K.cells x).toArray e)) w.heap.size e (.slice (some ⟨w.heap.size, 0, none⟩) 1 1) [x] := by
  refine ⟨⟨?_, only_block (heap_alloc_new w _) (fun u hu => K.ok x u (by simpa using hu))⟩, fun y hy => by rw [List.mem_singleton.1 hy]; exact K.later hg (below_alloc _ _)⟩
  have h9 := World.ownsRow_lit (size := K.size) (base := w.heap.size) (e := e) w (K.cells x).toArray 1 (Nat.le_refl _) (by decide) (by simp [K.len])
  simpa using h9
theorem Kin.Mine.void {α : Type} {K : Kin α} (w : World) (e : TypeId) : K.Mine (w.alloc (.cells #[] e)) w.heap.size e (.slice (some ⟨w.heap.size, 0, none⟩) 0 0) [] :=
  ⟨⟨World.ownsRow_lit w #[] 0 (Nat.le_refl _) (by decide) (by simp), only_block (heap_alloc_new w _) (fun u hu => by simp at hu)⟩, fun x hx => by cases hx⟩
section
variable {P St Nt : TypeId} {w w' : World} {g : Nat} {a : Option Addr} {n c : Nat} {W : List Lw} {E : Nat} {nv : Value} {N : List (List UInt8)} {s : Ps}
theorem PS.only (h : PS P St w g a n c W E nv N s) : Only isNode w (.slice (some ⟨g, 0, none⟩) 1 1) := by
  obtain ⟨a9, c9, e, _⟩ := h.names.slice
  refine only_block h.blk fun u hu => ?_
  simp [psCells] at hu
  rcases hu with rfl | rfl | rfl | rfl | rfl | rfl
  · exact .inr ⟨_, _, _, rfl⟩
  · exact .inl ⟨_, rfl⟩
  · exact .inl ⟨_, rfl⟩
  · exact .inl ⟨_, rfl⟩
  · rw [e]; exact .inr ⟨_, _, _, rfl⟩
  · exact .inl ⟨_, rfl⟩
/-- What the reader does leaves a row of nodes as it was. -/
theorem mine_past {base : Nat} {v : Value} {L : List Nd} (h : ndK.Mine w base Nt v L) (hp : PS P St w g a n c W E nv N s) (hg : w.grownBy w' (some g)) (hb : g < base) : ndK.Mine w' base Nt v L :=
  ⟨h.1.beside hg (fun k hk e => by have := h.1.base k hk; have := Option.some.inj e; omega), fun x hx => ndK.aside (v := .slice (some ⟨g, 0, none⟩) 1 1) (h.2 x hx) hp.only hg⟩
theorem good_past {x : Nd} (h : ndK.good w x) (hp : PS P St w g a n c W E nv N s) (hg : w.grownBy w' (some g)) : ndK.good w' x := ndK.aside (v := .slice (some ⟨g, 0, none⟩) 1 1) h hp.only hg
/-- What is appended to a row of nodes leaves the reader as it was. -/
theorem PS.past {α : Type} {K : Kin α} {base : Nat} {v : Value} {L : List α} (hp : PS P St w g a n c W E nv N s) (h : K.Mine w base Nt v L) (hg : w.grownBy w' v.ownBlock) (hb : g < base) (hne : St ≠ Nt) : PS P St w' g a n c W E nv N s := by
  have hlow : ∀ k, v.ownBlock = some k → base ≤ k := h.1.base
  refine ⟨(hg.block g hp.lt (fun e => by have := hlow g e.symm; omega)).trans hp.blk, hp.words.grown hg (fun b off e h0 e2 => by have := hlow b e2; have := hp.apart b off e h0; omega), hp.apart, hp.names.beside hg (fun k hk e => ?_), hp.far⟩
  obtain ⟨cur, h1⟩ := hp.names.ty hk
  obtain ⟨cur', h2⟩ := h.1.ty e
  rw [h1] at h2
  have := (Obj.cells.inj (Option.some.inj h2)).2.1
  exact hne this
/-- An expression comes back, in a row of its own; the reader has gone on to this. -/
def Code18 (P St Nt : TypeId) (g : Nat) (a : Option Addr) (n c : Nat) (W : List Lw) (E : Nat) (nv : Value) (N : List (List UInt8)) (r : List Np × Ps) (w : World) (e : Ending) (w' : World) : Prop :=
  ∃ v L, e = .returned v ∧ ndK.Mine w' w.heap.size Nt v L ∧ L.map Nd.sem = r.1 ∧ thinN 20 L ∧ PS P St w' g a n c W E nv N r.2 ∧ w.grownBy w' (some g)
/-- What the reader's place in memory says. -/
def heldI (w : World) (g : Nat) : Nat := (intOf ((w.cell? ⟨g, 1, none⟩).getD undef)).toNat
theorem PS.held (h : PS P St w g a n c W E nv N s) : heldI w g = s.i := by
  unfold heldI
  rw [h.cells.2.1]
  simp [intOf]
end
end Go.Proofs.Ythblmpkdcahmkaa
