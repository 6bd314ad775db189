/-
  The contracts of package nat (layer 2) at this seat: what each call returns, for every list of words; nothing that was there has turned.
-/
import Derived.Test.YtdhfnlpolelcpaaRows
import Derived.Test.YtdhfnlpolelcpaaNatSaid
import Derived.Test.YtdhfnlpolelcpaaWords2
import Derived.Test.YtdhfnlpolelcpaaLimb
import Derived.IntWalk
import Derived.Deep.QuietTactic
import Derived.BigQuiet
import Derived.Deep.AppendSrc
import Derived.Deep.DeepMust
import Derived.Laws.CopyOwn
namespace Go.Proofs.Ytdhfnlpolelcpaa
open Go.RowKit

theorem infoU32 : (Try.prog.info? 79).map (fun i => (i.zero, i.size, i.bytes)) = some (some (.int .u32 0), 1, 4) := by kernel_rfl

/-- A row that fills its array, and the array. -/
theorem own_heap {w : World} {base g : Nat} {e : TypeId} {n : Nat} {xs : List Value} (h : w.ownsRow base e 1 (.slice (some ⟨g, 0, none⟩) n n) n xs) : w.heap[g]? = some (.cells xs.toArray e (0, 0)) := by
  rcases h.2 with ⟨h', _⟩ | ⟨g', cap', cur, h', _, hg, _, _, hcs, htake⟩
  · simp at h'
  · simp only [Value.slice.injEq, Option.some.injEq, Addr.mk.injEq, and_true, true_and] at h'
    obtain ⟨rfl, rfl⟩ := h'
    rw [List.take_of_length_le (by rw [Array.length_toList, hcs]; omega)] at htake
    rw [hg, ← htake]
theorem own_ofHeap {w : World} {base g : Nat} {e : TypeId} {n : Nat} {xs : List Value} (h : w.heap[g]? = some (.cells xs.toArray e (0, 0))) (hb : base ≤ g) (hl : xs.length = n) (hm : n ≤ maxLen) : w.ownsRow base e 1 (.slice (some ⟨g, 0, none⟩) n n) n xs :=
  ⟨by omega, .inr ⟨g, n, xs.toArray, rfl, hb, h, Nat.le_refl _, hm, by simp [hl], by rw [List.take_of_length_le (by simp [hl])]⟩⟩
theorem splice_all {L cs : List Value} (h : cs.length = L.length) : splice L 0 cs = cs := by
  unfold splice; rw [List.drop_of_length_le (by omega)]; simp
/-- The address of the first word, and the words as the cells that a copy reads. -/
theorem Wd.some_cells {w w' : World} {a : Option Addr} {n cap : Nat} {l : List Nat} (h : Wd w a n cap l) (h' : Wd w' a n cap l) (hn : 0 < n) : ∃ ad, a = some ad ∧ ∀ j u, (wcells l)[j]? = some u → w'.cell? (ad.add j) = some u := by
  obtain ⟨b, off, rfl, _⟩ := h.at hn
  exact ⟨_, rfl, h'.cells⟩

/-- What a list holds without the noughts at its end. -/
theorem Wd.trim {w : World} {a : Option Addr} {n cap : Nat} {l : List Nat} (h : Wd w a n cap l) : Wd w a (dg (val l)).length cap (dg (val l)) := by
  have h1 := h.take (k := (dg (val l)).length) (by rw [← h.len]; exact dg_length_val_le h.ok)
  rwa [take_dg h.ok] at h1
theorem Wd.trim_le {w : World} {a : Option Addr} {n cap : Nat} {l : List Nat} (h : Wd w a n cap l) : (dg (val l)).length ≤ n := by rw [← h.len]; exact dg_length_val_le h.ok

def TrimPost (a : Option Addr) (cap n : Nat) (l : List Nat) (w : World) (e : Ending) (w' : World) : Prop :=
  ∃ m : Nat, e = .returned (.slice a m cap) ∧ Hid (m = (dg (val l)).length) ∧ m ≤ n ∧ Hid (Wd w a m cap (dg (val l))) ∧ w = w'
theorem trim_post {a : Option Addr} {n cap k : Nat} {l : List Nat} {w : World} (h : Wd w a n cap l) (hk : k = (dg (val l)).length) : TrimPost a cap n l w (.returned (.slice a k cap)) w :=
  ⟨k, rfl, Lib.hid hk, by rw [hk]; exact h.trim_le, Lib.hid (by rw [hk]; exact h.trim), rfl⟩
set_option maxRecDepth 4096 in
set_option maxHeartbeats 400000 in
theorem nat_trim (a : Option Addr) (n cap : Nat) (l : List Nat) (w : World) (h : Wd w a n cap l) :
    Calls Try.prog 42 #[.slice a n cap] w (TrimPost a cap n l w) := by
  obtain ⟨hb1, hb2⟩ := h.bound
  have H := Lib.hid h
  clear h
  go_enter Try.func42, Try.ntmps42
  go_wp2
  go_loop [3] (fun i => ∃ k : Nat, k ≤ n ∧ i = .int .i64 k ∧ Hid (top l k = 0)) (fun i => (intOf i).toNat)
  case atStart => exact ⟨n, by omega, rfl, Lib.hid (top_ge (by have := H.out.len; omega))⟩
  case round =>
    obtain ⟨k, hk, rfl, Ht⟩ := hrel
    cases k with
    | zero =>
      have Hfin := Lib.hid (trim_post (k := 0) H.out (dg_stop (Nat.zero_le _) H.out.ok Ht.out (.inl rfl)).symm)
      cases a with
      | none =>
        obtain ⟨rfl, rfl, rfl⟩ := H.out.ofNone
        go_wp2
        go_ret
        exact Hfin.out
      | some ad =>
        go_wp2
        go_ret
        exact Hfin.out
    | succ k =>
      obtain ⟨b, off, rfl, hc⟩ := H.out.at (by omega)
      have hck := hc k (by omega)
      clear hc
      by_cases hz : atw l k = 0
      · have hzb : (((atw l k : Nat) : Int) == 0) = true := by simp [hz]
        have Hz := Lib.hid hz
        clear hz
        go_wp2
        go_round
        case rel => exact ⟨k, by omega, by go_num, Lib.hid (by rw [top_succ, Hz.out, Ht.out])⟩
        case measure => simp [intOf]
      · have hzb : (((atw l k : Nat) : Int) == 0) = false := by simp [hz]
        have Hfin := Lib.hid (trim_post (k := k + 1) H.out (dg_stop (by rw [H.out.len]; exact hk) H.out.ok Ht.out (.inr (by simpa using hz))).symm)
        clear hz
        go_wp2
        go_ret
        exact Hfin.out
theorem nat_sign_yes (w : World) : Calls Try.prog 43 #[.bool true] w fun e w' => e = .returned (.int .i64 (-1)) ∧ w = w' := by
  go_enter Try.func43, Try.ntmps43
  go_wp2
  go_ret
  exact ⟨rfl, rfl⟩
theorem nat_sign_no (w : World) : Calls Try.prog 43 #[.bool false] w fun e w' => e = .returned (.int .i64 1) ∧ w = w' := by
  go_enter Try.func43, Try.ntmps43
  go_wp2
  go_ret
  exact ⟨rfl, rfl⟩
theorem nat_of (x : Nat) (w : World) (hx : x ≤ 18446744073709551615) : Calls Try.prog 32 #[.int .u64 (x : Int)] w (Lst (dg x) w) := by
  have Hv : Hid (val [x % 4294967296, x / 4294967296] = x) := Lib.hid (by simp only [val]; omega)
  have Hlit := Lib.hid (Wd.lit2 w 79 (x := x % 4294967296) (y := x / 4294967296) (by omega) (by omega))
  go_enter Try.func32, Try.ntmps32
  go_wp2_with fail
  refine (nat_trim _ _ _ _ _ Hlit.out).mono ?_
  rintro e w' ⟨m, rfl, Hm, hmn, HT, rfl⟩
  rw [Hv.out] at HT
  go_wp2
  go_ret
  exact ⟨_, _, _, rfl, HT.out, below_alloc _ _⟩
end Go.Proofs.Ytdhfnlpolelcpaa
