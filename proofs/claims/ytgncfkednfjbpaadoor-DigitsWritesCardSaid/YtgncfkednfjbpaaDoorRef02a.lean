/-
  The contracts of the document's answer for layer 2: reading functions.
-/
import Derived.Test.YtgncfkednfjbpaaDoorRows
import Derived.Test.YtgncfkednfjbpaaDoorSlice
import Derived.IntWalk
import Derived.Deep.QuietTactic
import Derived.BigQuiet
namespace Go.Proofs.YtgncfkednfjbpaaDoor
open Go.RowKit

theorem ref02_at (a : Option Addr) (n cap k : Nat) (l : List Nat) (w : World) (h : Wd w a n cap l) (hk : k ≤ 9223372036854775807) :
    Calls Tryd.prog 34 #[.slice a n cap, .int .i64 (k : Int)] w fun e w' => e = .returned (.int .u32 ((atw l k : Nat) : Int)) ∧ w = w' := by
  obtain ⟨hb1, hb2⟩ := h.bound
  by_cases hlt : k < n
  · obtain ⟨b, off, rfl, hc⟩ := h.at (by omega)
    have hck := hc k hlt
    clear hc h
    go_enter Tryd.func34, Tryd.ntmps34
    go_wp2
    go_ret
    exact ⟨rfl, rfl⟩
  · have ha : atw l k = 0 := atw_ge (by have := h.len; omega)
    have Ha := Lib.hid ha
    clear ha h
    go_enter Tryd.func34, Tryd.ntmps34
    go_wp2
    go_ret
    rw [Ha.out]
    exact ⟨rfl, rfl⟩
set_option maxRecDepth 4096 in
set_option maxHeartbeats 400000 in
theorem ref02_same (a : Option Addr) (n cap : Nat) (la : List Nat) (b : Option Addr) (m cap' : Nat) (lb : List Nat) (w : World) (ha : Wd w a n cap la) (hb : Wd w b m cap' lb) :
    Calls Tryd.prog 12 #[.slice a n cap, .slice b m cap'] w fun e w' => e = .returned (.bool (decide (la = lb))) ∧ ∃ q, w' = w.drewN q := by
  obtain ⟨hb1, hb2⟩ := ha.bound
  obtain ⟨hb3, hb4⟩ := hb.bound
  have Ha := Lib.hid ha
  have Hb := Lib.hid hb
  clear ha hb
  by_cases hne : n = m
  · subst hne
    go_enter Tryd.func12, Tryd.ntmps12
    go_wp2
    go_loopw [5] (fun i wr => ∃ k q : Nat, k ≤ n ∧ i = .int .i64 k ∧ wr = w.drewN q ∧ Hid (∀ j, j < k → atw la j = atw lb j)) (fun i _ => n - (intOf i).toNat)
    case atStart => exact ⟨0, 0, by omega, rfl, rfl, Lib.hid (fun j hj => by omega)⟩
    case round =>
      obtain ⟨k, q, hk, rfl, rfl, Heq⟩ := hrel
      by_cases hlt : k < n
      · obtain ⟨ba, oa, rfl, hca⟩ := Ha.out.at (by omega)
        obtain ⟨bb, ob, rfl, hcb⟩ := Hb.out.at (by omega)
        have hcak := hca k hlt
        have hcbk := hcb k hlt
        clear hca hcb
        have hk1 : (0 : Int) ≤ (k : Int) := by omega
        have hk2 : (k : Int) < (n : Int) := by omega
        by_cases hx : atw la k = atw lb k
        · have hxb : (((atw la k : Nat) : Int) != ((atw lb k : Nat) : Int)) = false := by simp [hx]
          have Hx := Lib.hid hx
          clear hx
          go_wp2
          go_quiet (fail)
          go_wp2
          go_roundw
          case rel =>
            exact ⟨k + 1, _, by omega, by go_num, rfl, Lib.hid (fun j hj => by
              by_cases hjk : j < k
              · exact Heq.out j hjk
              · obtain rfl : j = k := by omega
                exact Hx.out)⟩
          case measure => simp [intOf]; omega
        · have hxb : (((atw la k : Nat) : Int) != ((atw lb k : Nat) : Int)) = true := by simp; omega
          have Hx := Lib.hid hx
          clear hx
          go_wp2
          go_quiet (fail)
          go_wp2
          go_ret
          exact ⟨ret_bool (decide_eq_false (list_ne_of_at Hx.out)).symm, q + nq, World.drewN_drewN ..⟩
      · have hkn : k = n := by omega
        have hfin : la = lb := list_eq_of_at (by rw [Ha.out.len, Hb.out.len]) (fun j hj => Heq.out j (by have := Ha.out.len; omega))
        have Hfin := Lib.hid hfin
        clear hkn hfin
        go_wp2
        go_ret
        exact ⟨ret_bool (decide_eq_true Hfin.out).symm, _, rfl⟩
  · have hfin : la ≠ lb := fun e => hne (by rw [← Ha.out.len, ← Hb.out.len, e])
    have hnb : (((n : Nat) : Int) != ((m : Nat) : Int)) = true := by simp; omega
    have Hfin := Lib.hid hfin
    clear hfin hne
    go_enter Tryd.func12, Tryd.ntmps12
    go_wp2
    go_ret
    exact ⟨ret_bool (decide_eq_false Hfin.out).symm, 0, rfl⟩
theorem ref02_same_yes (a : Option Addr) (n cap : Nat) (la : List Nat) (b : Option Addr) (m cap' : Nat) (lb : List Nat) (w : World) (ha : Wd w a n cap la) (hb : Wd w b m cap' lb) (h : la = lb) :
    Calls Tryd.prog 12 #[.slice a n cap, .slice b m cap'] w fun e w' => e = .returned (.bool true) ∧ Below w.heap.size w w' :=
  (ref02_same a n cap la b m cap' lb w ha hb).mono fun e w' ⟨he, q, hw⟩ => ⟨by rw [he, decide_eq_true h], by rw [hw]; exact below_draws _ _⟩
end Go.Proofs.YtgncfkednfjbpaaDoor
