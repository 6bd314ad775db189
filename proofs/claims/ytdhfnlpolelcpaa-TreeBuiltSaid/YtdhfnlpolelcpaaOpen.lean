/-
  An argument of type []uint32, [][]uint32, opened: the words that it holds. Of no program.
-/
import Derived.Test.YtdhfnlpolelcpaaSlice
import Derived.ProofKit
import Derived.OpenShut
import Derived.Deep.Matrix
namespace Go.Proofs.Ytdhfnlpolelcpaa
open Go.ChangeShapes Go.WideShapes Go.ChangeAt Go.RowKit
section
variable {H : Type} {enc : TypeId × Value → H} {P : Program} {W : World} {base : Nat}

theorem words_of_ints {zs : List Int} (h : ∀ n ∈ zs, (Lit.int .u32 n).wf = true) : ∃ l : List Nat, zs = l.map (fun x => ((x : Nat) : Int)) ∧ okw l := by
  refine ⟨zs.map Int.toNat, ?_, ?_⟩
  · rw [List.map_map]
    have : ∀ z ∈ zs, ((fun x => ((x : Nat) : Int)) ∘ Int.toNat) z = z := fun z hz => by
      have := bounds_u32 (h z hz)
      show ((z.toNat : Nat) : Int) = z
      omega
    conv => lhs; rw [← List.map_id zs]
    exact List.map_congr_left (fun z hz => (this z hz).symm)
  · intro x hx
    obtain ⟨z, hz, rfl⟩ := List.mem_map.1 hx
    have := bounds_u32 (h z hz)
    omega
theorem getD_words (l : List Nat) (j : Nat) : (l.map fun x => ((x : Nat) : Int)).getD j 0 = ((atw l j : Nat) : Int) := by
  unfold atw
  rw [List.getD_eq_getElem?_getD, List.getD_eq_getElem?_getD, List.getElem?_map]
  cases l[j]? <;> rfl

/-- Cells that hold integers of kind u32, as words. -/
theorem Wd.ofInts {a : Option Addr} {len cap : Nat} {zs : List Int} (hl : len ≤ cap) (hm : cap ≤ maxLen) (hn : a = none → cap = 0) (hz : len ≤ zs.length) (hw : ∀ n ∈ zs, (Lit.int .u32 n).wf = true)
    (hc : ∀ a', a = some a' → ∀ i, i < len → W.cell? (a'.add i) = some (.int .u32 (zs.getD i 0))) : ∃ l, Wd W a len cap l := by
  obtain ⟨l, rfl, ho⟩ := words_of_ints hw
  have hll : (l.take len).length = len := by rw [List.length_take]; simp at hz; omega
  refine ⟨l.take len, hll, hl, by unfold maxLen at hm; omega, okw_take ho len, hn, ?_⟩
  by_cases h0 : len = 0
  · exact .inl h0
  · cases a with
    | none => have := hn rfl; omega
    | some a' =>
      obtain ⟨b, off, spot⟩ := a'
      have hspot : spot = none := by simpa [Addr.add] using World.cell?_spot (hc _ rfl 0 (by omega))
      subst hspot
      refine .inr ⟨b, off, rfl, fun j hj => ?_⟩
      rw [← add_plain, hc _ rfl j hj, getD_words, atw_take hj]

theorem open_words {t e : TypeId} {v : Value} {d : DataW H} {p : List MemPlace} (ht : P.underlying t = some (.slice e)) (he : P.underlying e = some (.int .u32)) (hce : P.cellsOf e = 1)
    (hv : Value.okWide P W .any base t v) (h : DataW.Trod enc P W 0 (fun _ => true) true t v d p) : ∃ (a : Option Addr) (n cap : Nat) (l : List Nat), v = .slice a n cap ∧ Wd W a n cap l := by
  obtain ⟨a0, len, cap, rfl⟩ := okWide_slice ht hv
  obtain ⟨fuel, hf⟩ := h
  rcases open_ints ht he hce hf with ⟨hcs, _⟩ | ⟨a, len', cap', zs, hcs, _, hl, hm, hz, _, hc, hw⟩
  · simp [Value.cells] at hcs
    obtain ⟨rfl, rfl, rfl⟩ := hcs
    exact ⟨_, _, _, [], rfl, Wd.ofNil W⟩
  · simp [Value.cells] at hcs
    obtain ⟨rfl, rfl, rfl⟩ := hcs
    simp only [if_true] at hz
    obtain ⟨l, hl'⟩ := Wd.ofInts (W := W) (a := some a) hl hm (fun e => by cases e) (by omega) hw (fun a' e i hi => by cases e; exact hc i (by omega))
    exact ⟨_, _, _, l, rfl, hl'⟩

theorem open_rows {t e q : TypeId} {v : Value} {d : DataW H} {p : List MemPlace} (ht : P.underlying t = some (.slice e)) (he : P.underlying e = some (.slice q)) (hq : P.underlying q = some (.int .u32)) (hce : P.cellsOf e = 1) (hcq : P.cellsOf q = 1)
    (hv : Value.okWide P W .any base t v) (h : DataW.Trod enc P W 0 (fun _ => true) true t v d p) : ∃ (a : Option Addr) (n cap : Nat) (ls : List (List Nat)), v = .slice a n cap ∧ Wds W a n cap ls := by
  obtain ⟨a0, len, cap, rfl⟩ := okWide_slice ht hv
  obtain ⟨fuel, hf⟩ := h
  rcases Go.Deep.open_int_rows ht he hq hce hcq hf with ⟨hcs, _⟩ | ⟨a, len', cap', A, L, C, Z, hcs, _, hl, hm, _, hc⟩
  · simp [Value.cells] at hcs
    obtain ⟨rfl, rfl, rfl⟩ := hcs
    exact ⟨_, _, _, [], rfl, rfl, Nat.le_refl _, by omega, fun _ => rfl, .inl rfl⟩
  · simp [Value.cells] at hcs
    obtain ⟨rfl, rfl, rfl⟩ := hcs
    have hrow : ∀ r, r < cap → ∃ l, Wd W (A r) (L r) (C r) l := fun r hr => by
      obtain ⟨_, h2, h3, h4, h5, h6, h7⟩ := hc r hr
      exact Wd.ofInts h2 h3 h6 (by omega) h5 (fun a' e i hi => (h7 a' e).2 i (by omega))
    let F : Nat → List Nat := fun r => if hr : r < cap then (hrow r hr).choose else []
    have hF : ∀ r, r < cap → Wd W (A r) (L r) (C r) (F r) := fun r hr => by simp only [F, hr, dif_pos]; exact (hrow r hr).choose_spec
    refine ⟨_, _, _, (List.range len).map F, rfl, by simp, hl, by unfold maxLen at hm; omega, fun e => (by cases e), ?_⟩
    by_cases h0 : len = 0
    · exact .inl h0
    · have h00 := (hc 0 (by omega)).1
      obtain ⟨b, off, sp⟩ := a
      have hsp : sp = none := by simpa [Addr.add] using World.cell?_spot h00
      subst hsp
      refine .inr ⟨b, off, rfl, fun j hj => ⟨A j, L j, C j, ?_, ?_⟩⟩
      · rw [← add_plain]; exact (hc j (by omega)).1
      · have e1 : ((List.range len).map F).getD j [] = F j := by rw [List.getD_eq_getElem?_getD, List.getElem?_map, List.getElem?_range hj]; rfl
        rw [e1]
        exact hF j (by omega)
/-- An array of two words by value. -/
theorem open_pair {t e : TypeId} {v : Value} {d : DataW H} {p : List MemPlace} (ht : P.underlying t = some (.array 2 e)) (he : P.underlying e = some (.int .u32)) (hct : P.cellsOf t = 2) (hce : P.cellsOf e = 1)
    (hv : Value.okWide P W .any base t v) (h : DataW.Trod enc P W 0 (fun _ => true) true t v d p) : ∃ x y : Nat, v = .agg #[.int .u32 (x : Int), .int .u32 (y : Int)] ∧ x < 4294967296 ∧ y < 4294967296 := by
  obtain ⟨cs, rfl, hsz⟩ : ∃ cs, v = .agg cs ∧ cs.size = P.cellsOf t := by
    simp only [Value.okWide, ht] at hv
    obtain ⟨cs, h1, h2, _⟩ := hv
    exact ⟨cs, h1, h2⟩
  rw [hct] at hsz
  obtain ⟨l⟩ := cs
  match l, hsz with
  | [c0, c1], _ =>
    obtain ⟨fuel, hf⟩ := h
    obtain ⟨xs, m, _, _, _, hl, hel⟩ := DataW.trod_array ht hf
    have h0 := hel 0 (by omega)
    have h1 := hel 1 (by omega)
    rw [hce, List.getElem?_eq_getElem (by omega)] at h0 h1
    obtain ⟨z0, e0, _, w0⟩ := DataW.trod_int he h0
    obtain ⟨z1, e1, _, w1⟩ := DataW.trod_int he h1
    simp [Value.cells] at e0 e1
    subst e0 e1
    have b0 := bounds_u32 w0
    have b1 := bounds_u32 w1
    refine ⟨z0.toNat, z1.toNat, ?_, by omega, by omega⟩
    rw [Int.toNat_of_nonneg b0.1, Int.toNat_of_nonneg b1.1]
end
end Go.Proofs.Ytdhfnlpolelcpaa
