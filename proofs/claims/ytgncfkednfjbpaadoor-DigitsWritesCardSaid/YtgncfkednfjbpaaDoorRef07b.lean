/-
  The contracts of the document's answer for layer 7: Read.
-/
import Derived.Test.YtgncfkednfjbpaaDoorRef07
import Derived.Deep.RegionWith
import Derived.Deep.CutRange
namespace Go.Proofs.YtgncfkednfjbpaaDoor
open Go.RowKit

theorem Wd.ofCell7 {w : World} {g x : Nat} (h : w.cell? ⟨g, 0, none⟩ = some (.int .u32 (x : Int))) (hx : x < 4294967296) : Wd w (some ⟨g, 0, none⟩) 1 1 [x] := by
  refine ⟨rfl, Nat.le_refl _, by omega, okw_cons.2 ⟨hx, okw_nil⟩, fun e => (by cases e), .inr ⟨g, 0, rfl, fun j hj => ?_⟩⟩
  obtain rfl : j = 0 := by omega
  exact h
theorem more7 {w w1 : World} (h : Below w.heap.size w w1) (o : Obj) : Below w.heap.size w (w1.alloc o) := below_then h (below_alloc _ _)
theorem drawn7 {w w1 : World} (h : Below w.heap.size w w1) : Below w.heap.size w w1.drew := h.drew
theorem cell7_newest {w : World} {g x : Nat} {t : TypeId} (hg : g = w.heap.size) : (w.alloc (.cells #[.int .u32 (x : Int)] t)).drew.cell? ⟨g, 0, none⟩ = some (.int .u32 (x : Int)) := by
  subst hg
  show (w.alloc (.cells #[.int .u32 (x : Int)] t)).cell? ⟨w.heap.size, 0, none⟩ = _
  simp
theorem cell7_grown {w : World} {a : Addr} {v : Value} (o : Obj) (h : w.cell? a = some v) : (w.alloc o).drew.cell? a = some v := cell_later (below_alloc w o).drew h
set_option maxRecDepth 4096 in
set_option maxHeartbeats 8000000 in
theorem ref07_read (l : List UInt8) (w : World) (hl : l.length ≤ 100) (hd : Hid (alldig l)) :
    Calls Tryd.prog 13 #[.string (bs l)] w (Lst (dg (readV l)) w) := by
  have hsz := bs_size l
  have HN : Hid (∀ k, k ≤ l.length → (dg (readV (l.take k))).length ≤ 20) := Lib.hid (fun k hk => by
    apply dg_length_le
    have h1 := readV_lt (l := l.take k) (fun x hx => hd.out x (List.mem_of_mem_take hx))
    have h2 : (10 : Nat) ^ (l.take k).length ≤ 10 ^ 100 := Nat.pow_le_pow_right (by decide) (by rw [List.length_take]; omega)
    have h3 : (10 : Nat) ^ 100 ≤ 4294967296 ^ 20 := by decide
    omega)
  go_enter Tryd.func13, Tryd.ntmps13
  go_wp2
  go_loopw [3, 4] (fun v i wr => ∃ (k : Nat) (a : Option Addr) (n c : Nat), k ≤ l.length ∧ i = .int .i64 k ∧ v = .slice a n c ∧ Hid (Wd wr a n c (dg (readV (l.take k)))) ∧ Below w.heap.size w wr) (fun _ i _ => l.length - (intOf i).toNat)
  case atStart => exact ⟨0, _, _, _, by omega, rfl, rfl, Lib.hid (by rw [List.take_zero]; show Wd _ _ _ _ (dg 0); rw [dg_zero]; exact Wd.empty _ _ _ (by omega)), below_alloc _ _⟩
  case round =>
    obtain ⟨k, a, n, c, hk, rfl, rfl, HW, hB⟩ := hrel
    have hn : n ≤ 20 := by rw [← HW.out.len]; exact HN.out k hk
    by_cases hlt : k < l.length
    · have hki : (k : Int) < (l.length : Int) := by omega
      have hget := bs_get l k hlt (by rw [bs_size]; exact hlt)
      have hdk := alldig_getD hd.out hlt
      have Hv := Lib.hid (readV_take hlt)
      generalize readV (l.take k) = v at *
      generalize (l.getD k 0).toNat = x at *
      obtain ⟨d, hdd⟩ : ∃ d : Nat, (x : Int) - 48 = (d : Int) := ⟨x - 48, by omega⟩
      have Hd : Hid (x - 48 = d) := Lib.hid (by omega)
      have hdw : d < 4294967296 := by omega
      have hBr := Lib.hid hB
      have HX : Hid (val (dg v) * val [10] + val [d] = readV (l.take (k + 1))) := Lib.hid (by rw [val_dg, Hv.out, Hd.out]; simp [val])
      have HL : Hid ((dg (val (dg v) * val [10])).length ≤ 21) := Lib.hid (by
        have h1 := dg_mul_length (val (dg v)) (val [10])
        have h2 := HW.out.len
        have h3 := dg_length_val_le (l := [10]) (okw_cons.2 ⟨by decide, okw_nil⟩)
        rw [val_dg] at h1 ⊢
        simp only [List.length_cons, List.length_nil] at h3
        omega)
      clear hB
      have hw1 : IntKind.u32.wrap (x : Int) = (x : Int) := by rw [IntKind.wrap_u32]; omega
      have hw2 : IntKind.u32.wrap (d : Int) = (d : Int) := by rw [IntKind.wrap_u32]; omega
      go_wp2
      go_region_with (first
        | (go_at_call 25; (refine (ref04_mul a n c (dg v) _ 1 1 [10] _ ?q1 (Wd.ofCell7 ?q2 (by omega)) ?q3 ?q4).mono ?_); (case q1 => (refine HW.out.later ?_); (repeat (first | (exact Below.refl _ _) | (refine more7 ?_ _) | (refine drawn7 ?_)))); (case q2 => first | (simp; done) | ((refine cell7_newest ?_); simp; done) | ((refine cell7_grown _ ?_); simp; done)); (case q3 => omega); (case q4 => omega); rintro e w1 ⟨a1, n1, c1, rfl, h1, b1⟩; have hBw : Below wr.heap.size wr w1 := ?q5; rotate_left; (case q5 => (refine below_then ?_ b1); (repeat (first | (exact Below.refl _ _) | (refine more7 ?_ _) | (refine drawn7 ?_)))))
        | (go_at_call 24; (refine (ref02_add a1 n1 c1 (dg (val (dg v) * val [10])) _ 1 1 [d] _ ?q1 (Wd.ofCell7 ?q2 hdw) ?q3 ?q4).mono ?_); (case q1 => first | (exact h1) | (exact h1.later (below_alloc _ _))); (case q2 => first | (simp; done) | ((refine cell_later b1 ?_); first | (simp; done) | ((refine cell7_newest ?_); simp; done) | ((refine cell7_grown _ ?_); simp; done))); (case q3 => have h9 := h1.len; have h8 := HL.out; omega); (case q4 => omega); rintro e w2 ⟨a2, n2, c2, rfl, h2, b2⟩))
      all_goals (
        rw [val_dg, HX.out] at h2
        have HF : Hid (Wd w2 a2 n2 c2 (dg (readV (l.take (k + 1))))) := Lib.hid h2
        have hcc : Below wr.heap.size wr w2 := by
          first
          | exact below_then hBw b2
          | exact below_then (more7 hBw _) b2
        have Hcc := Lib.hid (below_then hBr.out hcc)
        clear h2 b2 hcc h1 b1 hBw
        go_wp2
        go_roundw
        case rel => exact ⟨k + 1, a2, n2, c2, by omega, by go_num, rfl, HF, Hcc.out⟩
        case measure => simp [intOf]; omega)
    · have htk : l.take k = l := List.take_of_length_le (by omega)
      rw [htk] at HW
      clear htk
      go_wp2
      go_ret
      exact ⟨a, n, c, rfl, HW.out, hB⟩
end Go.Proofs.YtgncfkednfjbpaaDoor
