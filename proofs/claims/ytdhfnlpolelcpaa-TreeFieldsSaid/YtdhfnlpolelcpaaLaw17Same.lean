/-
  Fields that say the same (layer 17). Of no program.
-/
import Derived.Test.YtdhfnlpolelcpaaTreeSaid
namespace Go.Proofs.Ytdhfnlpolelcpaa
open Go.RowKit

/-- What a let says: its name, its nodes. -/
def Lt.tl (x : Lt) : List UInt8 × List Nd := (x.t, x.L)
theorem tl_sem {K K' : List Lt} (h : K'.map Lt.tl = K.map Lt.tl) : K'.map Lt.t = K.map Lt.t ∧ (K'.map Lt.sn).map Sn.sem = (K.map Lt.sn).map Sn.sem := by
  have h1 := congrArg (List.map fun x : List UInt8 × List Nd => x.1) h
  have h2 := congrArg (List.map fun x : List UInt8 × List Nd => x.2.map Nd.sem) h
  simp only [List.map_map] at h1 h2 ⊢
  exact ⟨h1, h2⟩
theorem L_sem {O O' : List Sn} (h : O'.map Sn.L = O.map Sn.L) : O'.map Sn.sem = O.map Sn.sem := by
  have h2 := congrArg (List.map fun x : List Nd => x.map Nd.sem) h
  simp only [List.map_map] at h2
  exact h2
theorem codes_sem {K K' : List Lt} {O O' : List Sn} (h : K'.map Lt.tl = K.map Lt.tl) (g : O'.map Sn.L = O.map Sn.L) : (tCodes K' O').map Sn.sem = (tCodes K O).map Sn.sem := by
  unfold tCodes
  rw [List.map_append, List.map_append, (tl_sem h).2, L_sem g]
theorem codes_L {K K' : List Lt} {O O' : List Sn} (h : K'.map Lt.tl = K.map Lt.tl) (g : O'.map Sn.L = O.map Sn.L) : (tCodes K' O').map Sn.L = (tCodes K O).map Sn.L := by
  have h2 := congrArg (List.map fun x : List UInt8 × List Nd => x.2) h
  unfold tCodes
  simp only [List.map_append, List.map_map] at h2 ⊢
  rw [g]
  exact congrArg (· ++ _) h2
/-- What is said of all expressions holds of those that say the same. -/
theorem codes_all {K K' : List Lt} {O O' : List Sn} (h : K'.map Lt.tl = K.map Lt.tl) (g : O'.map Sn.L = O.map Sn.L) {p : List Nd → Prop} (hp : ∀ x ∈ tCodes K O, p x.L) : ∀ x ∈ tCodes K' O', p x.L := by
  intro x hx
  have h1 : x.L ∈ (tCodes K' O').map Sn.L := List.mem_map.2 ⟨x, hx, rfl⟩
  rw [codes_L h g] at h1
  obtain ⟨y, hy, e⟩ := List.mem_map.1 h1
  rw [← e]
  exact hp y hy
theorem same_iff {K K' J J' : List Lt} {O O' P P' : List Sn} (h : K'.map Lt.tl = K.map Lt.tl) (g : O'.map Sn.L = O.map Sn.L) (h2 : J'.map Lt.tl = J.map Lt.tl) (g2 : P'.map Sn.L = P.map Sn.L) : tSame K' O' J' P' ↔ tSame K O J P := by
  unfold tSame
  rw [codes_sem h g, codes_sem h2 g2, (tl_sem h).1, (tl_sem h2).1]
  have e1 := congrArg List.length g
  have e2 := congrArg List.length g2
  simp only [List.length_map] at e1 e2
  rw [e1, e2]
theorem tSame_self (K : List Lt) (O : List Sn) : tSame K O K O := ⟨rfl, rfl, rfl⟩
/-- The lengths are those of what is held. -/
theorem codes_n {w : World} {a : Option Addr} {n c : Nat} {K : List Lt} {b : Option Addr} {m d : Nat} {O : List Sn} (h : Lts w a n c K) (h2 : Sns w b m d O) : ∀ x ∈ tCodes K O, x.n = x.L.length := fun x hx => by
  unfold tCodes at hx
  rcases List.mem_append.1 hx with h9 | h9
  · obtain ⟨y, hy, rfl⟩ := List.mem_map.1 h9
    exact (h.2 y hy).len.symm
  · exact (h2.2 x h9).len.symm
theorem size_L {X Y : List Sn} (hx : ∀ x ∈ X, x.n = x.L.length) (hy : ∀ x ∈ Y, x.n = x.L.length) (h : X.map Sn.L = Y.map Sn.L) : tSize X = tSize Y := by
  have key : ∀ Z : List Sn, (∀ x ∈ Z, x.n = x.L.length) → tSize Z = ((Z.map Sn.L).map List.length).sum := fun Z hz => by
    unfold tSize
    rw [List.map_map]
    exact congrArg List.sum (List.map_congr_left fun x hx => hz x hx)
  rw [key X hx, key Y hy, h]
/-- What a long field isn't, of all its expressions. -/
theorem not_long {K : List Lt} {O : List Sn} {many words : Nat} (h : ∀ x ∈ K, x.t.length ≤ 100 ∧ x.n ≤ many ∧ thinN words x.L) (g : ∀ x ∈ O, x.n ≤ many ∧ thinN words x.L) : ∀ x ∈ tCodes K O, x.n ≤ many ∧ thinN words x.L := fun x hx => by
  unfold tCodes at hx
  rcases List.mem_append.1 hx with h9 | h9
  · obtain ⟨y, hy, rfl⟩ := List.mem_map.1 h9
    exact (h y hy).2
  · exact g x h9
end Go.Proofs.Ytdhfnlpolelcpaa
