/-
  The walks of the laws of layer 5: QuotWords.
-/
import Derived.Test.YtcihklimngaapaaLaw05Walks
import Derived.Test.YtcihklimngaapaaZeros
namespace Go.Proofs.Ytcihklimngaapaa
open Go.RowKit

theorem ownsRow_later {w w' : World} {base : Nat} {e : TypeId} {size : Nat} {v : Value} {n : Nat} {xs : List Value} (h : w.ownsRow base e size v n xs) (hb : Below w.heap.size w w') : w'.ownsRow base e size v n xs := by
  refine ⟨h.1, ?_⟩
  rcases h.2 with h0 | ⟨g', cap', cur, h1, h2, h3, h4⟩
  · exact .inl h0
  · exact .inr ⟨g', cap', cur, h1, h2, (hb.block g' (Array.getElem?_eq_some_iff.1 h3).1).trans h3, h4⟩
theorem Wd.kept {w w' : World} {a : Option Addr} {n cap : Nat} {l : List Nat} {row : Option Nat} (h : Wd w a n cap l) (hg : w.grownBy w' row) (hne : ∀ ad : Addr, a = some ad → some ad.block ≠ row) : Wd w' a n cap l :=
  ⟨h.1, h.2.1, h.2.2.1, h.2.2.2.1, h.2.2.2.2.1, h.2.2.2.2.2.imp id fun ⟨b, off, e, hc⟩ => ⟨b, off, e, fun j hj => hg.cell (hc j hj) (hne ⟨b, off, none⟩ e)⟩⟩
theorem val_one (x : Nat) : val [x] = x := by simp [val]
theorem infoWord5 : (Try.prog.info? 32).map (fun i => (i.zero, i.size, i.bytes)) = some (some (.int .u32 0), 1, 4) := by kernel_rfl
/-- A rest by a word, filled up to one word. -/
theorem fill_one {r n : Nat} (hn : (dg r).length = n) (hr : r < 4294967296) : n ≤ 1 ∧ dg r ++ List.replicate (1 - n) 0 = [r] := by
  by_cases h0 : r = 0
  · subst h0
    rw [dg_zero] at hn ⊢
    obtain rfl : n = 0 := hn.symm
    exact ⟨by omega, rfl⟩
  · rw [dg_word h0 hr] at hn ⊢
    obtain rfl : n = 1 := hn.symm
    exact ⟨by omega, rfl⟩
theorem law05_words_out (a : Option Addr) (n cap x : Nat) (w : World) (h1 : n ≤ 9223372036854775807) (h : 40 < n) :
    Calls Try.prog 4 #[.slice a n cap, .int .u32 (x : Int)] w (Gives (.bool true) w) := by
  have hbi : (40 : Int) < (n : Int) := by omega
  clear h
  go_enter Try.func4, Try.ntmps4
  go_wp2_with fail
  refine (law05_works _).mono ?_
  rintro e w1 ⟨rfl, b1⟩
  go_wp2
  go_ret
  exact ⟨rfl, b1⟩
theorem law05_words_zero (a : Option Addr) (n cap : Nat) (w : World) (hn : n ≤ 40) :
    Calls Try.prog 4 #[.slice a n cap, .int .u32 0] w (Gives (.bool true) w) := by
  go_enter Try.func4, Try.ntmps4
  go_wp2_with fail
  refine (quot_word_none _ _ _ _).mono ?_
  rintro e w' ⟨rfl, rfl⟩
  go_wp2_with fail
  refine (law05_works _).mono ?_
  rintro e w1 ⟨rfl, b1⟩
  go_wp2
  go_ret
  exact ⟨rfl, b1⟩
set_option maxHeartbeats 2000000 in
theorem law05_words_in (a : Option Addr) (n cap : Nat) (la : List Nat) (x : Nat) (w : World) (ha : Wd w a n cap la) (hn : n ≤ 40) (hx : x < 4294967296) (h0 : 0 < x) :
    Calls Try.prog 4 #[.slice a n cap, .int .u32 (x : Int)] w (Gives (.bool true) w) := by
  obtain ⟨i0, hi, hz0, hz1, hz2⟩ := info_parts infoWord5
  have Ha := Lib.hid ha
  have hxz : ((x : Int) == 0) = false := by simp; omega
  obtain ⟨r, hr⟩ : ∃ r, r = val la % x := ⟨_, rfl⟩
  have hrw : r < 4294967296 := by rw [hr]; exact Nat.lt_trans (Nat.mod_lt _ h0) hx
  have Hr := Lib.hid hr
  clear ha hr
  go_enter Try.func4, Try.ntmps4
  go_wp2_with fail
  refine (quot_word _ _ _ _ x _ Ha.out (by omega) hx h0).mono ?_
  rintro e w1 ⟨a1, n1, c1, rfl, h1, b1⟩
  rw [← Hr.out]
  have H1 := Lib.hid h1
  clear h1
  go_wp2_with fail
  refine (ref05_div _ _ _ _ _ _ _ [x] _ (Ha.out.later (below_then b1 (below_alloc _ _))) (Wd.lit1 w1 32 (x := x) hx) (by omega) (by omega) (Lib.hid (by rw [val_one]; omega))).mono ?_
  rintro e w2 ⟨a2, n2, c2, a3, n3, c3, rfl, h2, h3, b2⟩
  rw [val_one] at h2
  rw [val_one, ← Hr.out] at h3
  have hB2 := below_then b1 (below_then (below_alloc _ _) b2)
  have H1b := Lib.hid (H1.out.later (below_then (below_alloc _ _) b2))
  have H2 := Lib.hid h2
  have hlen := h3.out.1
  rw [wcells_length, Nat.mul_one] at hlen
  obtain ⟨hn3, hfill⟩ := fill_one hlen hrw
  have Hfill := Lib.hid hfill
  have H3 := Lib.hid (ownsRow_lower (base' := w.heap.size) h3.out (by have := b1.size; simp; omega))
  clear h2 h3 b2 b1 H1 hlen hfill
  go_wp2_with fail
  refine (ref02_same_yes _ _ _ _ _ _ _ _ _ H1b.out H2.out rfl).mono ?_
  rintro e w3 ⟨rfl, b3⟩
  have hB3 := below_then hB2 b3
  have H3b := Lib.hid (ownsRow_later H3.out b3)
  clear b3 H1b H2 H3 hB2
  obtain ⟨m, hm⟩ : ∃ m : Nat, (1 : Int) - (n3 : Int) = (m : Int) := ⟨1 - n3, by omega⟩
  have Hm : Hid (1 - n3 = m) := Lib.hid (by omega)
  have hm1 : m ≤ 1 := by omega
  go_wp2_with (at_builtin; refine wpList_append_zeros _ rfl _ _ 22 3 rfl w.heap.size 32 .i64 i0 (.int .u32 0) Try.underlying22 Try.underlying3 hi hz0 hz1 rfl rfl .i64 _ n3 m _ (wcells (dg r)) rfl (H3b.out.alloc _) rfl rfl (by omega) (by omega) (by have := hB3.size; simp; omega) ?_)
  intro v' w4 hown4 hgrow4
  have hblk := (H3b.out.alloc (.cells #[.int .u32 (r : Int)] 32)).lt
  obtain ⟨a4, c4, rfl⟩ := own_slice hown4
  have e4 : wcells (dg r) ++ List.replicate m (Value.int .u32 0) = wcells [r] := by
    have h1 : List.replicate m (Value.int .u32 0) = wcells (List.replicate m 0) := by simp [wcells]
    rw [h1, ← wcells_append, ← Hm.out, Hfill.out]
  rw [e4] at hown4
  have hnm : n3 + m = 1 := by omega
  rw [hnm] at hown4 ⊢
  have HT := Lib.hid (Wd.own hown4 (okw_cons.2 ⟨hrw, okw_nil⟩))
  have hB4a : Below w.heap.size w (w3.alloc (.cells #[.int .u32 (r : Int)] 32)) := below_then hB3 (below_alloc _ _)
  have hB4 : Below w.heap.size w w4 := hB4a.grown hgrow4 hB4a.size (fun k hk => (hblk k hk).1)
  have HL := Lib.hid ((Wd.lit1 w3 32 (x := r) hrw).kept hgrow4 (fun ad h1 h2 => by
    simp only [Option.some.injEq] at h1
    subst h1
    have h3 := H3b.out.lt _ h2.symm
    simp at h3))
  clear hown4 hgrow4 hblk e4 hB4a
  go_wp2_with fail
  refine (ref02_same_yes _ _ _ _ _ _ _ _ _ HL.out HT.out rfl).mono ?_
  rintro e w5 ⟨rfl, b5⟩
  have hB5 := below_then hB4 b5
  clear b5 HL HT hB4
  go_wp2_with fail
  refine (law05_works _).mono ?_
  rintro e w6 ⟨rfl, b6⟩
  go_wp2
  go_ret
  exact ⟨rfl, below_then hB5 b6⟩
theorem law05_words (a : Option Addr) (n cap : Nat) (la : List Nat) (x : Nat) (w : World) (ha : Wd w a n cap la) (hx : x < 4294967296) :
    Calls Try.prog 4 #[.slice a n cap, .int .u32 (x : Int)] w (Gives (.bool true) w) := by
  have p1 := ha.bound
  by_cases h : 40 < n
  · exact law05_words_out a n cap x w (by omega) h
  · rcases Nat.eq_zero_or_pos x with h0 | h0
    · subst h0
      exact law05_words_zero a n cap w (by omega)
    · exact law05_words_in a n cap la x w ha (by omega) hx h0
theorem law05_words_int (a : Option Addr) (n cap : Nat) (la : List Nat) (x : Int) (w : World) (ha : Wd w a n cap la) (h0 : 0 ≤ x) (hx : x ≤ 4294967295) :
    Calls Try.prog 4 #[.slice a n cap, .int .u32 x] w (Gives (.bool true) w) := by
  obtain ⟨y, rfl⟩ := Int.eq_ofNat_of_zero_le h0
  exact law05_words a n cap la y w ha (by omega)
end Go.Proofs.Ytcihklimngaapaa
