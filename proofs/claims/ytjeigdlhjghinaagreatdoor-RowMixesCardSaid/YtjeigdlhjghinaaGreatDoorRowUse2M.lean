/-
  What package row owes, said of rows that are right and rows that need not be, mixed; contracts said of a world that is later than another one.
-/
import Derived.Test.YtjeigdlhjghinaaGreatDoorG23
import Derived.Test.YtjeigdlhjghinaaGreatDoorRowLenM
import Derived.Test.YtjeigdlhjghinaaGreatDoorG19
namespace Go.Proofs.YtjeigdlhjghinaaGreatDoor
open Go.RowKit

theorem later_lstQ {P : Program} {f : FuncId} {args : Array Value} {v0 v : World} {q : Rat} (hv : Below v0.heap.size v0 v) (h : Calls P f args v (LstQ q v)) :
    Calls P f args v (fun e w' => ∃ (a : Option Addr) (n cap : Nat) (b : Option Addr) (m cap' : Nat), e = .returned (frV (zneg q.num) a n cap b m cap') ∧ Wd w' a n cap (dg q.num.natAbs) ∧ Wd w' b m cap' (dg q.den) ∧ Below v0.heap.size v0 w' ∧ ∀ (g : Nat) (o : Obj), v.heap[g]? = some o → w'.heap[g]? = some o) :=
  h.mono fun _ _ ⟨a, n, c, b, m, d, he, h1, h2, hb⟩ => ⟨a, n, c, b, m, d, he, h1, h2, below_then hv hb, fun _ _ hg => blk_later hg hb⟩
theorem later_lstRw {P : Program} {f : FuncId} {args : Array Value} {v0 v : World} {qs : List Rat} (hv : Below v0.heap.size v0 v) (h : Calls P f args v (LstRw qs v)) :
    Calls P f args v (fun e w' => ∃ (a : Option Addr) (n cap : Nat), e = .returned (.slice a n cap) ∧ Rw w' a n cap qs ∧ Below v0.heap.size v0 w' ∧ ∀ (g : Nat) (o : Obj), v.heap[g]? = some o → w'.heap[g]? = some o) :=
  h.mono fun _ _ ⟨a, n, c, he, h1, hb⟩ => ⟨a, n, c, he, h1, below_then hv hb, fun _ _ hg => blk_later hg hb⟩
theorem dot_rf (S : RowSaid) (a : Option Addr) (n c : Nat) (qs : List Rat) (b : Option Addr) (m d : Nat) (M : List Fx) (w : World) (h : Rw w a n c qs) (k : Fxs w b m d M) (hn : n ≤ 20) (hnm : n = m) (hq : ∀ q ∈ qs, qlen q ≤ 30) (hr : thin 30 M) :
    Calls Tryz.prog 29 #[.slice a n c, .slice b m d] w (LstQV (rdot qs (fqs M)) (.bool true) w) := by
  obtain ⟨L, h1, rfl, h3⟩ := h.thin hq
  exact S.dot_yes a n c L b m d M w h1 k hn (by omega) h3 hr (Lib.hid hnm)
theorem norm_rw (S : RowSaid) (a : Option Addr) (n c : Nat) (qs : List Rat) (w : World) (h : Rw w a n c qs) (hn : n ≤ 300) (hq : ∀ q ∈ qs, qlen q ≤ 1000) : Calls Tryz.prog 21 #[.slice a n c] w (LstQ (rnorm qs) w) := by
  obtain ⟨L, h1, rfl, h3⟩ := h.thin hq
  exact S.norm a n c L w h1 hn h3
theorem add2_fr (S : RowSaid) (a : Option Addr) (n c : Nat) (L : List Fx) (b : Option Addr) (m d : Nat) (rs : List Rat) (w : World) (g : Nat) (hg : w.heap.size = g) (h1 : Fxs w a n c L) (k : Rw w b m d rs) (hn : n ≤ 300) (hnm : n = m) (h3 : thin 100 L) (hr : ∀ q ∈ rs, qlen q ≤ 100) :
    Calls Tryz.prog 27 #[.slice (some ⟨g, 0, none⟩) 2 2] (w.alloc (.cells #[.slice a n c, .slice b m d] 28)) (LstRwV (radd (fqs L) rs) (.bool true) w) := by
  subst hg
  obtain ⟨M, k1, rfl, k3⟩ := k.thin hr
  have hl := h1.len
  have hm := k1.len
  refine (S.add_yes _ 2 2 [L, M] _ (Fxss.lit2 w 28 h1 k1) (by omega) (fun X hX => ?_) (fun x hx y hy => ?_)).mono fun _ _ ⟨a', n', c', he, h5, hb⟩ => ⟨a', n', c', he, h5, below_then (below_alloc _ _) hb⟩
  · simp only [List.mem_cons, List.not_mem_nil, or_false] at hX
    rcases hX with rfl | rfl
    · exact ⟨by omega, h3⟩
    · exact ⟨by omega, k3⟩
  · simp only [List.map_cons, List.map_nil, List.mem_cons, List.not_mem_nil, or_false] at hx hy
    have e1 := fqs_length L
    have e2 := fqs_length M
    rcases hx with rfl | rfl <;> rcases hy with rfl | rfl <;> omega
/-- A sum of three, the first one again at its end. -/
theorem add3_yes (S : RowSaid) (a : Option Addr) (n c : Nat) (L : List Fx) (b : Option Addr) (m d : Nat) (M : List Fx) (a' : Option Addr) (n' c' : Nat) (w : World) (g : Nat) (hg : w.heap.size = g) (h1 : Fxs w a n c L) (k1 : Fxs w b m d M) (h1' : Fxs w a' n' c' L) (hn : n ≤ 300) (hnm : Hid (n = m)) (h3 : thin 100 L) (k3 : thin 100 M) :
    Calls Tryz.prog 27 #[.slice (some ⟨g, 0, none⟩) 3 3] (w.alloc (.cells #[.slice a n c, .slice b m d, .slice a' n' c'] 28)) (LstRwV (radd (radd (fqs L) (fqs M)) (fqs L)) (.bool true) w) := by
  subst hg
  have hnm := hnm.out
  have hl := h1.len
  have hm := k1.len
  refine (S.add_yes _ 3 3 [L, M, L] _ (Fxss.lit3 w 28 h1 k1 h1') (by omega) (fun X hX => ?_) (fun x hx y hy => ?_)).mono fun _ _ ⟨a', n', c', he, h5, hb⟩ => ⟨a', n', c', he, h5, below_then (below_alloc _ _) hb⟩
  · simp only [List.mem_cons, List.not_mem_nil, or_false] at hX
    rcases hX with rfl | rfl | rfl
    · exact ⟨by omega, h3⟩
    · exact ⟨by omega, k3⟩
    · exact ⟨by omega, h3⟩
  · simp only [List.map_cons, List.map_nil, List.mem_cons, List.not_mem_nil, or_false] at hx hy
    have e1 := fqs_length L
    have e2 := fqs_length M
    rcases hx with rfl | rfl | rfl <;> rcases hy with rfl | rfl | rfl <;> omega
theorem add3_no (S : RowSaid) (a : Option Addr) (n c : Nat) (L : List Fx) (b : Option Addr) (m d : Nat) (M : List Fx) (a' : Option Addr) (n' c' : Nat) (w : World) (g : Nat) (hg : w.heap.size = g) (h1 : Fxs w a n c L) (k1 : Fxs w b m d M) (h1' : Fxs w a' n' c' L) (hn : n ≤ 300) (hm3 : m ≤ 300) (hnm : Hid (n ≠ m)) (h3 : thin 100 L) (k3 : thin 100 M) :
    Calls Tryz.prog 27 #[.slice (some ⟨g, 0, none⟩) 3 3] (w.alloc (.cells #[.slice a n c, .slice b m d, .slice a' n' c'] 28)) (LstRwV [] (.bool false) w) := by
  subst hg
  have hnm := hnm.out
  have hl := h1.len
  have hm := k1.len
  refine (S.add_no _ 3 3 [L, M, L] _ (Fxss.lit3 w 28 h1 k1 h1') (by omega) (fun X hX => ?_) (fun hev => ?_)).mono fun _ _ ⟨a', n', c', he, h5, hb⟩ => ⟨a', n', c', he, h5, below_then (below_alloc _ _) hb⟩
  · simp only [List.mem_cons, List.not_mem_nil, or_false] at hX
    rcases hX with rfl | rfl | rfl
    · exact ⟨by omega, h3⟩
    · exact ⟨by omega, k3⟩
    · exact ⟨by omega, h3⟩
  · have e1 := fqs_length L
    have e2 := fqs_length M
    have := hev (fqs L) (by simp) (fqs M) (by simp)
    omega
end Go.Proofs.YtjeigdlhjghinaaGreatDoor
