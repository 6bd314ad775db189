/-
  The document's answer of layer 14: Div and Gcd, of coefficients of so many words.
-/
import Derived.Test.YtipcgehcineblaaGreatRef14gM
namespace Go.Proofs.YtipcgehcineblaaGreat
open Go.RowKit

/-- What Div hands back: quotient and rest, right; with how long they are at most. -/
def LstDivs (A B : List Rat) (n K S : Nat) (w : World) (e : Ending) (w' : World) : Prop := ∃ (a : Option Addr) (n1 c : Nat) (q : List Rat) (b : Option Addr) (m d : Nat) (r : List Rat), e = .returned (.tuple #[.slice a n1 c, .slice b m d]) ∧ Rw w' a n1 c q ∧ Rw w' b m d r ∧ isDiv A B q r ∧ pnorm q = q ∧ pnorm r = r ∧ r.length ≤ n ∧ (∀ u ∈ r, qlen u + (K + K + 6) ≤ 2 ^ (n + 1 - B.length) * S) ∧ (∀ u ∈ q, qlen u ≤ 2 ^ (n + 1 - B.length) * S) ∧ q.length ≤ n ∧ Below w.heap.size w w'
theorem ints_two {A B : List Rat} {N n m : Nat} (hA : ∀ q ∈ A, qlen q ≤ N) (hB : ∀ q ∈ B, qlen q ≤ N) (hn : A.length ≤ n) (hm : B.length ≤ m) :
    ∃ c : Nat, 0 < c ∧ c ≤ pw (N * (n + m)) ∧ Ints (rscale ((c : Nat) : Rat) A) (pw (N * (n + m))) ∧ Ints (rscale ((c : Nat) : Rat) B) (pw (N * (n + m))) := by
  obtain ⟨c, h1, h2, h3⟩ := ints_of (A ++ B) (fun q hq => (List.mem_append.1 hq).elim (hA q) (hB q))
  have hl : pw (N * (A ++ B).length) ≤ pw (N * (n + m)) := pw_mono (Nat.mul_le_mul_left N (by rw [List.length_append]; omega))
  refine ⟨c, h1, Nat.le_trans h2 hl, fun i => ?_, fun i => ?_⟩
  · by_cases hi : i < A.length
    · obtain ⟨z, g1, g2⟩ := h3 i
      refine ⟨z, ?_, Nat.le_trans g2 hl⟩
      rw [← g1, co_rscale, co_rscale]
      congr 1
      unfold co
      rw [List.getD_eq_getElem?_getD, List.getD_eq_getElem?_getD, List.getElem?_append_left hi]
    · exact ⟨0, by rw [co_far (by rw [rscale_length]; omega)]; rfl, Nat.zero_le _⟩
  · obtain ⟨z, g1, g2⟩ := h3 (A.length + i)
    refine ⟨z, ?_, Nat.le_trans g2 hl⟩
    rw [← g1, co_rscale, co_rscale]
    congr 1
    unfold co
    rw [List.getD_eq_getElem?_getD, List.getD_eq_getElem?_getD, List.getElem?_append_right (by omega), Nat.add_sub_cancel_left]
theorem ref14_div (a : Option Addr) (n c : Nat) (ps : List Rat) (b : Option Addr) (m d : Nat) (rs : List Rat) (N K S : Nat) (w : World) (h : Rw w a n c ps) (k : Rw w b m d rs) (hn : n ≤ 200) (hm : m ≤ 200) (hp : ∀ q ∈ ps, qlen q ≤ N) (hr : ∀ q ∈ rs, qlen q ≤ K)
    (hB : pnorm rs = rs) (h0 : 0 < m) (hS : N + (K + K + 6) = S) (hG : 2 ^ (n + 1 - rs.length) * S ≤ 2000000000) : Calls Tryz.prog 34 #[.slice a n c, .slice b m d] w (LstDivs ps rs n K S w) := by
  have hS2 : S ≤ 2000000000 := Nat.le_trans (Nat.le_mul_of_pos_left S (Nat.two_pow_pos _)) hG
  refine (ref14_div_by a n c ps b m d rs K 2000000000 _ w h k hn hm (fun q hq => Nat.le_trans (hp q hq) (by omega)) hr hB h0 (DivWay.old (n := n) hB (by rw [k.len]; exact h0) hr (by rw [h.len]; exact Nat.le_refl _) hp hS hG) (Nat.le_refl _)).mono fun e w' h9 => ?_
  obtain ⟨a1, n1, c1, q, b1, m1, d1, r, g1, g2, g3, g4, g5, g6, g7, ⟨Q, rfl, t, hD⟩, g9, g10⟩ := h9
  have hlt : r.length < rs.length := by
    have := g4.2
    rwa [plen_right g6, plen_right hB] at this
  obtain ⟨_, _, o3, o4⟩ := hD.over hB hlt
  exact ⟨a1, n1, c1, _, b1, m1, d1, r, g1, g2, g3, g4, g5, g6, g7, o3, o4, g9, g10⟩
theorem ref14_gcd (a : Option Addr) (n c : Nat) (ps : List Rat) (b : Option Addr) (m d : Nat) (rs : List Rat) (N s S : Nat) (w : World) (h : Rw w a n c ps) (k : Rw w b m d rs) (hn : n ≤ 100) (hm : m ≤ 100) (hp : ∀ q ∈ ps, qlen q ≤ N) (hr : ∀ q ∈ rs, qlen q ≤ N) (hN : N ≤ 15728640000)
    (hs : N * (n + m) = s) (hS : (s + 1) * (n + m + 1) = S) (hE : 3 * (s + 2 + 2 * (n + m) * (S + 3)) ≤ 2000000000) : Calls Tryz.prog 33 #[.slice a n c, .slice b m d] w (LstGcd ps rs (S + 2) w) := by
  obtain ⟨g, g1, g2, g3, g4⟩ := ints_two hp hr (Nat.le_of_eq h.len) (Nat.le_of_eq k.len)
  rw [hs] at g2 g3 g4
  have l1 : plen ps ≤ n := by rw [← h.len]; exact plen_le_length ps
  have l2 : plen rs ≤ m := by rw [← k.len]; exact plen_le_length rs
  obtain ⟨S', hS'⟩ : ∃ S', (s + 1) * (plen ps + plen rs + 1) = S' := ⟨_, rfl⟩
  have hSS : S' ≤ S := by rw [← hS, ← hS']; exact Nat.mul_le_mul_left _ (by omega)
  have hEE : s + 2 + 2 * (n + m) * (S' + 3) ≤ s + 2 + 2 * (n + m) * (S + 3) := Nat.add_le_add_left (Nat.mul_le_mul_left _ (by omega)) _
  refine (ref14_gcd_by a n c ps b m d rs _ (S' + 2) _ w h k hn hm (fun q hq => Nat.le_trans (hp q hq) hN) (fun q hq => Nat.le_trans (hr q hq) hN) (GcdWay.new g1 g2 g3 g4 (by omega) hS' (n := n + m) (by omega) (by omega) hEE) hE).mono fun e w' h9 => ?_
  obtain ⟨a1, n1, c1, q, o1, o2, o3, o4, o5, _, o6⟩ := h9
  exact ⟨a1, n1, c1, q, o1, o2, o3, o4, fun u hu => Nat.le_trans (o5 u hu) (by omega), o6⟩
end Go.Proofs.YtipcgehcineblaaGreat
