/-
  The document's answer of layer 17: Long, LongField, Codes, Size.
-/
import Derived.Test.YtdhfnlpolelcpaaRef17b
import Derived.WalkKit
import Derived.OwnWalk
namespace Go.Proofs.Ytdhfnlpolelcpaa
open Go.RowKit

/-- A field, as a value. -/
def fiV (a : Option Addr) (n c : Nat) (b : Option Addr) (m d : Nat) : Value := .agg #[.slice a n c, .slice b m d]
/-- All its expressions. -/
def tCodes (K : List Lt) (O : List Sn) : List Sn := K.map Lt.sn ++ O
theorem cells2 {w : World} {g : Nat} {x y : Value} {t : TypeId} (h : w.heap[g]? = some (.cells #[x, y] t (0, 0))) : w.cell? ⟨g, 0, none⟩ = some x ∧ w.cell? ⟨g, 1, none⟩ = some y := ⟨by rw [blk_cell h]; rfl, by rw [blk_cell h]; rfl⟩
theorem blk_stays {w w' : World} {g : Nat} {o : Obj} {row : Option Nat} (h : w.heap[g]? = some o) (hg : w.grownBy w' row) (hn : ∀ k, row = some k → g ≠ k) : w'.heap[g]? = some o := by
  have hlt : g < w.heap.size := (Array.getElem?_eq_some_iff.1 h).1
  rw [hg.block g hlt (fun e => hn g e.symm rfl)]
  exact h
theorem at_some {α : Type} {L : List α} {n k : Nat} (hl : L.length = n) (h : k < n) : ∃ x, L[k]? = some x := ⟨L[k]'(by omega), List.getElem?_eq_getElem _⟩
theorem take_snoc {α : Type} {L : List α} {k : Nat} {x : α} (h : L[k]? = some x) : L.take (k + 1) = L.take k ++ [x] := by
  rw [List.take_add_one, h]; rfl
/-- A Bool; where it is false this holds; the world is as it was, or but for what is new. -/
def ToldS (T : Prop) (w : World) (e : Ending) (w' : World) : Prop := ∃ r : Bool, e = .returned (.bool r) ∧ w = w' ∧ (r = false → T)
def Told (T : Prop) (w : World) (e : Ending) (w' : World) : Prop := ∃ r : Bool, e = .returned (.bool r) ∧ Below w.heap.size w w' ∧ (r = false → T)
set_option maxRecDepth 4096 in
set_option maxHeartbeats 8000000 in
theorem ref17_long (a : Option Addr) (n c : Nat) (L : List Nd) (many words : Nat) (w : World) (h : Nds w a n c L) (hm : many ≤ 1000000) :
    Calls Try.prog 8 #[.slice a n c, .int .i64 (many : Int), .int .i64 (words : Int)] w (ToldS (n ≤ many ∧ thinN words L) w) := by
  have HL := Lib.hid h
  have HLl := Lib.hid h.len
  have hbd := h.bound
  clear h
  go_enter Try.func8, Try.ntmps8
  go_wp2
  go_loop [7] (fun iv => ∃ k : Nat, k ≤ n ∧ k ≤ many ∧ iv = .int .i64 (k : Int) ∧ Hid (∀ x ∈ L.take k, x.l.length ≤ words)) (fun iv => n - (intOf iv).toNat)
  case atStart => exact ⟨0, by omega, by omega, by go_num, Lib.hid (fun x hx => by simp at hx)⟩
  case round =>
    obtain ⟨k, hk, hk2, rfl, HT⟩ := hrel
    by_cases hlt : k < n
    · have hki : (k : Int) < (n : Int) := by omega
      by_cases hlm : k < many
      · have hkm : (k : Int) < (many : Int) := by omega
        obtain ⟨x, hx⟩ := at_some HLl.out hlt
        obtain ⟨b, off, rfl, e0, e1, e2, hw2⟩ := HL.out.get hx
        have hxl := hw2.len
        have HT2 : Hid (x.n ≤ words → ∀ y ∈ L.take (k + 1), y.l.length ≤ words) := Lib.hid (fun hle y hy => by
          rw [take_snoc hx] at hy
          rcases List.mem_append.1 hy with h9 | h9
          · exact HT.out y h9
          · rw [List.mem_singleton.1 h9, hxl]; exact hle)
        clear hw2 hx HT hxl
        by_cases hxw : words < x.n
        · have q1 : (words : Int) < (x.n : Int) := by omega
          go_wp2
          go_ret
          exact ⟨true, rfl, rfl, fun h => (by cases h)⟩
        · have q1 : ¬ (words : Int) < (x.n : Int) := by omega
          have HT3 := Lib.hid (HT2.out (by omega))
          clear HT2
          go_wp2
          go_round
          case rel => exact ⟨k + 1, by omega, by omega, by go_num, HT3⟩
          case measure => simp [intOf]; omega
      · have hkm : decide ((k : Int) < (many : Int)) = false := by simp; omega
        have q1 : (many : Int) < (n : Int) := by omega
        have q2 : ¬ (k : Int) < (many : Int) := by omega
        go_wp2
        go_ret
        exact ⟨true, (by first | rfl | (simp; done) | (simp; omega)), rfl, fun h => (by cases h)⟩
    · obtain rfl : k = n := by omega
      have htk : L.take k = L := List.take_of_length_le (by rw [HLl.out]; exact Nat.le_refl _)
      rw [htk] at HT
      clear htk
      have q1 : ¬ (many : Int) < (k : Int) := by omega
      go_wp2
      go_ret
      exact ⟨false, (by first | rfl | (simp; done) | (simp; omega)), rfl, fun _ => by first | exact ⟨hk2, HT.out⟩ | exact HT.out⟩
set_option maxRecDepth 4096 in
set_option maxHeartbeats 8000000 in
theorem ref17_longField (a : Option Addr) (n c : Nat) (K : List Lt) (b : Option Addr) (m d : Nat) (O : List Sn) (parts many words : Nat) (w : World) (h : Lts w a n c K) (h2 : Sns w b m d O) (hp : parts ≤ 1000000) (hm : many ≤ 1000000) :
    Calls Try.prog 22 #[fiV a n c b m d, .int .i64 (parts : Int), .int .i64 (many : Int), .int .i64 (words : Int)] w (Told (n ≤ parts ∧ m ≤ parts ∧ (∀ x ∈ K, x.t.length ≤ 100 ∧ x.n ≤ many ∧ thinN words x.L) ∧ (∀ x ∈ O, x.n ≤ many ∧ thinN words x.L)) w) := by
  have HKl := Lib.hid h.len
  have HOl := Lib.hid h2.len
  have hbd := h.bound
  have hbd2 := h2.bound
  have HB := Lib.hid (below_alloc w (.cells #[.slice a n c, .slice b m d] 41))
  have HK := Lib.hid (Kin.All.later h HB.out)
  have HO := Lib.hid (Kin.All.later h2 HB.out)
  have HX := Lib.hid (blk_new w #[.slice a n c, .slice b m d] 41)
  clear h h2
  obtain ⟨f0, f1⟩ := cells2 HX.out
  have hHL := Lib.hid fun (L : List Nd) (a : Option Addr) (n c : Nat) (w : World) (h : Nds w a n c L) => ref17_long a n c L many words w h hm
  go_enter Try.func22, Try.ntmps22
  unfold fiV
  by_cases hn : parts < n
  · have q1 : (parts : Int) < (n : Int) := by omega
    have q2 : decide ((parts : Int) < (n : Int)) = true := decide_eq_true q1
    go_wp2
    go_ret
    exact ⟨true, rfl, HB.out, fun h => (by cases h)⟩
  · have q1 : ¬ (parts : Int) < (n : Int) := by omega
    have q2 : decide ((parts : Int) < (n : Int)) = false := decide_eq_false q1
    by_cases hmm : parts < m
    · have q3 : (parts : Int) < (m : Int) := by omega
      go_wp2
      go_ret
      exact ⟨true, (by first | rfl | (simp; done) | (simp; omega)), HB.out, fun h => (by cases h)⟩
    · have q3 : ¬ (parts : Int) < (m : Int) := by omega
      go_wp2
      generalize hW0 : (w.alloc (.cells #[.slice a n c, .slice b m d] 41)) = w0 at *
      have hsz : w.heap.size < w0.heap.size := by rw [← hW0]; simp
      clear hW0
      go_loop [9] (fun iv => ∃ k : Nat, k ≤ n ∧ iv = .int .i64 (k : Int) ∧ Hid (∀ x ∈ K.take k, x.t.length ≤ 100 ∧ x.n ≤ many ∧ thinN words x.L)) (fun iv => n - (intOf iv).toNat)
      case atStart => exact ⟨0, by omega, by go_num, Lib.hid (fun x hx => by simp at hx)⟩
      case round =>
        obtain ⟨k, hk, rfl, HT⟩ := hrel
        by_cases hlt : k < n
        · have hki : (k : Int) < (n : Int) := by omega
          obtain ⟨x, hx⟩ := at_some HKl.out hlt
          obtain ⟨b0, off, rfl, e0, e1, hw2⟩ := Lts.get HK.out hx
          have hst := bs_size x.t
          have hxn := hw2.len
          have HN := Lib.hid hw2
          have HT2 : Hid (x.t.length ≤ 100 → x.n ≤ many → thinN words x.L → ∀ y ∈ K.take (k + 1), y.t.length ≤ 100 ∧ y.n ≤ many ∧ thinN words y.L) := Lib.hid (fun h1 h2 h3 y hy => by
            rw [take_snoc hx] at hy
            rcases List.mem_append.1 hy with h9 | h9
            · exact HT.out y h9
            · rw [List.mem_singleton.1 h9]; exact ⟨h1, h2, h3⟩)
          clear hw2 hx HT
          by_cases hxt : 100 < x.t.length
          · have q4 : (100 : Int) < (x.t.length : Int) := by omega
            go_wp2
            go_ret
            exact ⟨true, rfl, HB.out, fun h => (by cases h)⟩
          · have q4 : ¬ (100 : Int) < (x.t.length : Int) := by omega
            go_wp2_with fail
            refine (hHL.out x.L x.a x.n x.c _ HN.out).mono ?_
            rintro e w2 ⟨r, rfl, rfl, hr⟩
            cases r
            · have hr2 := hr rfl
              have HT3 := Lib.hid (HT2.out (by omega) hr2.1 hr2.2)
              clear HT2 hr hr2
              go_wp2
              go_round
              case rel => exact ⟨k + 1, by omega, by go_num, HT3⟩
              case measure => simp [intOf]; omega
            · clear hr
              go_wp2
              go_ret
              exact ⟨true, rfl, HB.out, fun h => (by cases h)⟩
        · obtain rfl : k = n := by omega
          have htk : K.take k = K := List.take_of_length_le (by rw [HKl.out]; exact Nat.le_refl _)
          rw [htk] at HT
          have HTK := HT
          clear htk
          go_wp2
          go_loop [10] (fun iv => ∃ j : Nat, j ≤ m ∧ iv = .int .i64 (j : Int) ∧ Hid (∀ x ∈ O.take j, x.n ≤ many ∧ thinN words x.L)) (fun iv => m - (intOf iv).toNat)
          case atStart => exact ⟨0, by omega, by go_num, Lib.hid (fun x hx => by simp at hx)⟩
          case round =>
            obtain ⟨j, hj, rfl, HU⟩ := hrel
            by_cases hjt : j < m
            · have hji : (j : Int) < (m : Int) := by omega
              obtain ⟨x, hx⟩ := at_some HOl.out hjt
              obtain ⟨b0, off, rfl, e0, hw2⟩ := Sns.get HO.out hx
              have HN := Lib.hid hw2
              have HU2 : Hid (x.n ≤ many → thinN words x.L → ∀ y ∈ O.take (j + 1), y.n ≤ many ∧ thinN words y.L) := Lib.hid (fun h2 h3 y hy => by
                rw [take_snoc hx] at hy
                rcases List.mem_append.1 hy with h9 | h9
                · exact HU.out y h9
                · rw [List.mem_singleton.1 h9]; exact ⟨h2, h3⟩)
              clear hw2 hx HU
              go_wp2_with fail
              refine (hHL.out x.L x.a x.n x.c _ HN.out).mono ?_
              rintro e w2 ⟨r, rfl, rfl, hr⟩
              cases r
              · have hr2 := hr rfl
                have HU3 := Lib.hid (HU2.out hr2.1 hr2.2)
                clear HU2 hr hr2
                go_wp2
                go_round
                case rel => exact ⟨j + 1, by omega, by go_num, HU3⟩
                case measure => simp [intOf]; omega
              · clear hr
                go_wp2
                go_ret
                exact ⟨true, rfl, HB.out, fun h => (by cases h)⟩
            · obtain rfl : j = m := by omega
              have htk : O.take j = O := List.take_of_length_le (by rw [HOl.out]; exact Nat.le_refl _)
              rw [htk] at HU
              clear htk
              go_wp2
              go_ret
              exact ⟨false, rfl, HB.out, fun _ => ⟨by omega, by omega, HTK.out, HU.out⟩⟩
end Go.Proofs.Ytdhfnlpolelcpaa
