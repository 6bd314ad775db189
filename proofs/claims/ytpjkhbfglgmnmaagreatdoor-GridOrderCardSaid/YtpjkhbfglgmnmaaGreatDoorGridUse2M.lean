/-
  What package grid owes, said of right matrices beside others; how long products of matrices become.
-/
import Derived.Test.YtpjkhbfglgmnmaaGreatDoorG18
namespace Go.Proofs.YtpjkhbfglgmnmaaGreatDoor
open Go.RowKit

theorem gwidth_mat {n : Nat} {m : List (List Rat)} (h : mat n n m) : gwidth m = n := by
  unfold gwidth
  cases m with
  | nil => have := h.1; simp at this; rw [← this]; rfl
  | cons r s => exact h.2 r (List.mem_cons_self ..)
theorem rect_mat {n w : Nat} {m : List (List Rat)} (h : mat n w m) : rect m := fun r hr => by
  cases m with
  | nil => simp at hr
  | cons x s => rw [h.2 r hr]; exact (h.2 x (List.mem_cons_self ..)).symm
theorem gleft_qlen {n w K B C : Nat} {r : List Rat} {m : List (List Rat)} (hm : mat n w m) (hr : r.length = n) (hn : n ≤ K) (h1 : ∀ q ∈ r, qlen q ≤ B) (h2 : ∀ x ∈ m, ∀ q ∈ x, qlen q ≤ C) : ∀ q ∈ gleft w r m, qlen q ≤ 1 + K * (B + C + 3) := fun q hq => by
  obtain ⟨j, hj, rfl⟩ := List.getElem_of_mem hq
  have hjw : j < w := by rw [gleft_length hm] at hj; exact hj
  have e := (rmix_at hjw (r := r) (m := m) (s := List.replicate w 0) (by rw [List.length_replicate]) hm.2 (by rw [hr, hm.1])).2
  have e0 : (List.replicate w (0 : Rat)).getD j 0 = 0 := by
    rw [List.getD_eq_getElem?_getD, List.getElem?_replicate]; split <;> rfl
  have e1 : (gleft w r m)[j] = (gleft w r m).getD j 0 := by rw [List.getD_eq_getElem?_getD, List.getElem?_eq_getElem hj]; rfl
  have e2 : (gleft w r m).getD j 0 = rdot r (gcol m j) := by
    unfold gleft
    rw [e, e0]; grind
  rw [e1, e2]
  have h3 := qlen_rdot (l := r) (m := gcol m j) h1 (fun q hq => by
    unfold gcol at hq
    obtain ⟨x, hx, rfl⟩ := List.mem_map.1 hq
    exact h2 x hx _ (q_mem (by rw [hm.2 x hx]; exact hjw)))
  rw [hr] at h3
  exact Nat.le_trans h3 (Nat.add_le_add_left (Nat.mul_le_mul_right _ hn) 1)
theorem gmul_qlen {n k w K B C : Nat} {a b : List (List Rat)} (ha : mat n k a) (hb : mat k w b) (hk : k ≤ K) (h1 : ∀ x ∈ a, ∀ q ∈ x, qlen q ≤ B) (h2 : ∀ x ∈ b, ∀ q ∈ x, qlen q ≤ C) : ∀ x ∈ gmul w a b, ∀ q ∈ x, qlen q ≤ 1 + K * (B + C + 3) := fun x hx => by
  unfold gmul at hx
  obtain ⟨r, hr, rfl⟩ := List.mem_map.1 hx
  exact gleft_qlen hb (ha.2 r hr) hk (h1 r hr) h2
theorem mul_rf (S : GridSaid) (a : Option Addr) (n c : Nat) (P : List (List Rat)) (b : Option Addr) (m d : Nat) (MM : List (List Fx)) (N : Nat) (w : World) (h : Rwss w a n c P) (k : Fxss w b m d MM) (hP : ∀ r ∈ P, r.length ≤ 300 ∧ ∀ q ∈ r, qlen q ≤ N) (hM : small 300 N MM) (hn : n ≤ 300) (hm : m ≤ 300) (hb : 1 + m * (N + N + 6) ≤ 2000) (hN : N ≤ 900) (hr : rect P ∧ rect MM ∧ gwidth P = m) :
    Calls Tryz.prog 30 #[.slice a n c, .slice b m d] w (LstRwsV (gmul (gwidth MM) P (MM.map fqs)) (.bool true) w) := by
  obtain ⟨LL, h1, h2, h3⟩ := h.thin (fun r hr => (hP r hr).2)
  have h9 := S.mul_yes a n c LL b m d MM N w h1 k (small_of h2 (fun r hr => (hP r hr).1) h3) hM hn hm hb hN (Lib.hid ⟨(rect_fqs LL).1 (h2 ▸ hr.1), hr.2.1, by rw [← gwidth_fqs, h2]; exact hr.2.2⟩)
  rw [h2] at h9
  exact h9
theorem mul_fr (S : GridSaid) (a : Option Addr) (n c : Nat) (LL : List (List Fx)) (b : Option Addr) (m d : Nat) (Q : List (List Rat)) (N : Nat) (w : World) (h : Fxss w a n c LL) (k : Rwss w b m d Q) (hL : small 300 N LL) (hQ : ∀ r ∈ Q, r.length ≤ 300 ∧ ∀ q ∈ r, qlen q ≤ N) (hn : n ≤ 300) (hm : m ≤ 300) (hb : 1 + m * (N + N + 6) ≤ 2000) (hN : N ≤ 900) (hr : rect LL ∧ rect Q ∧ gwidth LL = m) :
    Calls Tryz.prog 30 #[.slice a n c, .slice b m d] w (LstRwsV (gmul (gwidth Q) (LL.map fqs) Q) (.bool true) w) := by
  obtain ⟨MM, k1, k2, k3⟩ := k.thin (fun r hr => (hQ r hr).2)
  have h9 := S.mul_yes a n c LL b m d MM N w h k1 hL (small_of k2 (fun r hr => (hQ r hr).1) k3) hn hm hb hN (Lib.hid ⟨hr.1, (rect_fqs MM).1 (k2 ▸ hr.2.1), hr.2.2⟩)
  rw [← gwidth_fqs MM, k2] at h9
  exact h9
theorem turn_rw (S : GridSaid) (a : Option Addr) (n c : Nat) (P : List (List Rat)) (w : World) (h : Rwss w a n c P) (hP : ∀ r ∈ P, r.length ≤ 300 ∧ ∀ q ∈ r, qlen q ≤ 1000) (hn : n ≤ 300) (hr : rect P) :
    Calls Tryz.prog 10 #[.slice a n c] w (LstRws (gturn (gwidth P) P) w) := by
  obtain ⟨LL, h1, h2, h3⟩ := h.thin (fun r hr => (hP r hr).2)
  have h9 := S.turn_yes a n c LL w h1 hn (small_of h2 (fun r hr => (hP r hr).1) h3) (Lib.hid ((rect_fqs LL).1 (h2 ▸ hr)))
  rw [← gwidth_fqs LL, h2] at h9
  exact h9
theorem dot_rf2 (S : RowSaid) (a : Option Addr) (n c : Nat) (qs : List Rat) (b : Option Addr) (m d : Nat) (M : List Fx) (N : Nat) (w : World) (h : Rw w a n c qs) (k : Fxs w b m d M) (hn : n ≤ 300) (hnm : n = m) (hq : ∀ q ∈ qs, qlen q ≤ N) (hr : thin N M) (hb : 1 + n * (N + N + 6) ≤ 2000) (hN : N ≤ 900) :
    Calls Tryz.prog 33 #[.slice a n c, .slice b m d] w (LstQV (rdot qs (fqs M)) (.bool true) w) := by
  obtain ⟨L, h1, rfl, h3⟩ := h.thin hq
  exact S.dot_more a n c L b m d M N w h1 k hn h3 hr (Lib.hid hnm) hb hN
theorem dot_fr2 (S : RowSaid) (a : Option Addr) (n c : Nat) (L : List Fx) (b : Option Addr) (m d : Nat) (qs : List Rat) (N : Nat) (w : World) (h : Fxs w a n c L) (k : Rw w b m d qs) (hn : n ≤ 300) (hnm : n = m) (hr : thin N L) (hq : ∀ q ∈ qs, qlen q ≤ N) (hb : 1 + n * (N + N + 6) ≤ 2000) (hN : N ≤ 900) :
    Calls Tryz.prog 33 #[.slice a n c, .slice b m d] w (LstQV (rdot (fqs L) qs) (.bool true) w) := by
  obtain ⟨M, k1, rfl, k3⟩ := k.thin hq
  exact S.dot_more a n c L b m d M N w h k1 hn hr k3 (Lib.hid hnm) hb hN
end Go.Proofs.YtpjkhbfglgmnmaaGreatDoor
