/-
  Several texts of this claim as one, group 6.
-/
import Derived.Test.YthblmpkdcahmkaaG5
import Derived.Test.YthblmpkdcahmkaaG4
import Derived.Test.YthblmpkdcahmkaaG2
import Derived.WalkKit
import Derived.Test.YthblmpkdcahmkaaRows
import Derived.Test.YthblmpkdcahmkaaG1
import Derived.IntWalk
import Derived.Deep.QuietTactic
import Derived.BigQuiet
import Derived.Deep.AppendSrc
import Derived.Deep.DeepMust
import Derived.OwnWalk
import Derived.Deep.RegionHeld3
/-
  Nodes, expressions, fields in memory (layer 17). Of no program.
-/
namespace Go.Proofs.Ythblmpkdcahmkaa
open Go.WideShapes Go.RowKit Go.Deep

theorem Wd.only {w w' : World} {v : Value} {a : Option Addr} {n c : Nat} {l : List Nat} (h : Wd w a n c l) {p : Value → Prop} (ho : Only p w v) (hg : w.grownBy w' v.ownBlock) (hno : ∀ k : Int, ¬ p (.int .u32 k)) : Wd w' a n c l := by
  refine ⟨h.1, h.2.1, h.2.2.1, h.2.2.2.1, h.2.2.2.2.1, h.2.2.2.2.2.imp id fun ⟨b, off, e, hcl⟩ => ⟨b, off, e, fun j hj => ?_⟩⟩
  have h1 := hcl j hj
  have hlt : b < w.heap.size := by
    rcases Nat.lt_or_ge b w.heap.size with h2 | h2
    · exact h2
    · rw [World.cell?, Array.getElem?_eq_none h2] at h1; cases h1
  rw [World.cell?_of_block (hg.block b hlt (fun e2 => hno _ (ho b e2.symm _ _ h1)))]
  exact h1
/-- A node as it stands in memory. -/
structure Nd where
  op : Int
  i : Int
  a : Option Addr
  n : Nat
  c : Nat
  l : List Nat
def Nd.zero : Nd := ⟨0, 0, none, 0, 0, []⟩
instance : Inhabited Nd := ⟨Nd.zero⟩
def Nd.cells (x : Nd) : List Value := [.int .i64 x.op, .int .i64 x.i, .slice x.a x.n x.c]
/-- What it means. -/
def Nd.sem (x : Nd) : Int × Int × Nat := (x.op, x.i, val x.l)
def isNode (u : Value) : Prop := (∃ k : Int, u = .int .i64 k) ∨ ∃ (a : Option Addr) (n c : Nat), u = .slice a n c
def ndK : Kin Nd where
  cells := Nd.cells
  size := 3
  bytes := 40
  p := isNode
  pos := by decide
  len := fun _ => rfl
  one := fun x u hu => by
    simp [Nd.cells] at hu
    rcases hu with rfl | rfl | rfl <;> rfl
  ok := fun x u hu => by
    simp [Nd.cells] at hu
    rcases hu with rfl | rfl | rfl
    · exact .inl ⟨_, rfl⟩
    · exact .inl ⟨_, rfl⟩
    · exact .inr ⟨_, _, _, rfl⟩
  good := fun w x => Wd w x.a x.n x.c x.l
  later := fun h hb => h.later hb
  aside := fun h ho hg => h.only ho hg (fun k h9 => by
    rcases h9 with ⟨k', e⟩ | ⟨a, n, c, e⟩ <;> cases e)
/-- An expression in memory. -/
abbrev Nds (w : World) (a : Option Addr) (n cap : Nat) (L : List Nd) : Prop := ndK.All w a n cap L
theorem Nds.get {w : World} {a : Option Addr} {n cap : Nat} {L : List Nd} (h : Nds w a n cap L) {j : Nat} {x : Nd} (hj : L[j]? = some x) : ∃ b off, a = some ⟨b, off, none⟩ ∧
    w.cell? ⟨b, off + j * 3, none⟩ = some (.int .i64 x.op) ∧ w.cell? ⟨b, off + j * 3 + 1, none⟩ = some (.int .i64 x.i) ∧ w.cell? ⟨b, off + j * 3 + 2, none⟩ = some (.slice x.a x.n x.c) ∧ Wd w x.a x.n x.c x.l := by
  obtain ⟨b, off, e, hc, hg⟩ := Kin.All.at h hj
  exact ⟨b, off, e, hc 0 _ rfl, hc 1 _ rfl, hc 2 _ rfl, hg⟩
theorem Nds.only {w w' : World} {v : Value} {a : Option Addr} {n cap : Nat} {L : List Nd} (h : Nds w a n cap L) {p : Value → Prop} (ho : Only p w v) (hg : w.grownBy w' v.ownBlock) (hno : ∀ (k : IntKind) (n : Int), ¬ p (.int k n)) : Nds w' a n cap L :=
  ⟨h.1.aside ho hg fun _ => ⟨0, _, rfl, hno _ _⟩, fun x hx => (h.2 x hx).only ho hg fun _ => hno _ _⟩
/-- An expression as it stands in a row of such. -/
structure Sn where
  a : Option Addr
  n : Nat
  c : Nat
  L : List Nd
def Sn.zero : Sn := ⟨none, 0, 0, []⟩
instance : Inhabited Sn := ⟨Sn.zero⟩
def Sn.sem (x : Sn) : List (Int × Int × Nat) := x.L.map Nd.sem
def isSlice (u : Value) : Prop := ∃ (a : Option Addr) (n c : Nat), u = .slice a n c
def snK : Kin Sn where
  cells := fun x => [.slice x.a x.n x.c]
  size := 1
  bytes := 24
  p := isSlice
  pos := by decide
  len := fun _ => rfl
  one := fun x u hu => by
    simp at hu
    subst hu; rfl
  ok := fun x u hu => by
    simp at hu
    exact ⟨_, _, _, hu⟩
  good := fun w x => Nds w x.a x.n x.c x.L
  later := fun h hb => Kin.All.later h hb
  aside := fun h ho hg => Nds.only h ho hg fun k n h9 => by
    obtain ⟨a, n, c, e⟩ := h9
    cases e
/-- Expressions side by side in memory. -/
abbrev Sns (w : World) (a : Option Addr) (n cap : Nat) (K : List Sn) : Prop := snK.All w a n cap K
theorem Sns.get {w : World} {a : Option Addr} {n cap : Nat} {K : List Sn} (h : Sns w a n cap K) {j : Nat} {x : Sn} (hj : K[j]? = some x) : ∃ b off, a = some ⟨b, off, none⟩ ∧
    w.cell? ⟨b, off + j, none⟩ = some (.slice x.a x.n x.c) ∧ Nds w x.a x.n x.c x.L := by
  obtain ⟨b, off, e, hc, hg⟩ := Kin.All.at h hj
  have h9 := hc 0 _ rfl
  exact ⟨b, off, e, by simpa [snK] using h9, hg⟩
/-- A let as it stands in memory. -/
structure Lt where
  t : List UInt8
  a : Option Addr
  n : Nat
  c : Nat
  L : List Nd
def Lt.zero : Lt := ⟨[], none, 0, 0, []⟩
instance : Inhabited Lt := ⟨Lt.zero⟩
def Lt.sn (x : Lt) : Sn := ⟨x.a, x.n, x.c, x.L⟩
def isLet (u : Value) : Prop := (∃ s : ByteArray, u = .string s) ∨ ∃ (a : Option Addr) (n c : Nat), u = .slice a n c
def ltK : Kin Lt where
  cells := fun x => [.string (bs x.t), .slice x.a x.n x.c]
  size := 2
  bytes := 40
  p := isLet
  pos := by decide
  len := fun _ => rfl
  one := fun x u hu => by
    simp at hu
    rcases hu with rfl | rfl <;> rfl
  ok := fun x u hu => by
    simp at hu
    rcases hu with rfl | rfl
    · exact .inl ⟨_, rfl⟩
    · exact .inr ⟨_, _, _, rfl⟩
  good := fun w x => Nds w x.a x.n x.c x.L
  later := fun h hb => Kin.All.later h hb
  aside := fun h ho hg => Nds.only h ho hg fun k n h9 => by
    rcases h9 with ⟨s, e⟩ | ⟨a, n, c, e⟩ <;> cases e
/-- Lets side by side in memory. -/
abbrev Lts (w : World) (a : Option Addr) (n cap : Nat) (K : List Lt) : Prop := ltK.All w a n cap K
theorem Lts.get {w : World} {a : Option Addr} {n cap : Nat} {K : List Lt} (h : Lts w a n cap K) {j : Nat} {x : Lt} (hj : K[j]? = some x) : ∃ b off, a = some ⟨b, off, none⟩ ∧
    w.cell? ⟨b, off + j * 2, none⟩ = some (.string (bs x.t)) ∧ w.cell? ⟨b, off + j * 2 + 1, none⟩ = some (.slice x.a x.n x.c) ∧ Nds w x.a x.n x.c x.L := by
  obtain ⟨b, off, e, hc, hg⟩ := Kin.All.at h hj
  exact ⟨b, off, e, hc 0 _ rfl, hc 1 _ rfl, hg⟩
/-- Nodes of at most so many words each. -/
def thinN (N : Nat) (L : List Nd) : Prop := ∀ x ∈ L, x.l.length ≤ N
theorem nd_at {P : Program} {t e : TypeId} (ht : P.underlying t = some (.slice e)) (h : (P.info? e).map (fun i => (i.zero, i.size, i.bytes)) = some (some (.agg #[.int .i64 0, .int .i64 0, .slice none 0 0]), 3, 40)) : ndK.toCls.At P t e :=
  Cls.atOf ndK.toCls ht h rfl (fun u hu => by
    simp [Value.cells] at hu
    rcases hu with rfl | rfl
    · exact .inl ⟨_, rfl⟩
    · exact .inr ⟨_, _, _, rfl⟩)
theorem nd_news (w : World) (x : Nd) (e : TypeId) : ∀ j u, ([x].flatMap ndK.cells)[j]? = some u → (w.alloc (.cells #[.int .i64 x.op, .int .i64 x.i, .slice x.a x.n x.c] e)).cell? ((⟨w.heap.size, 0, none⟩ : Addr).add j) = some u := Cls.news_one (C := ndK.toCls) w x e
end Go.Proofs.Ythblmpkdcahmkaa

/-
  The document's answer of layer 17: Arity, Wrong, Deep, Depth.
-/
namespace Go.Proofs.Ythblmpkdcahmkaa
open Go.RowKit

theorem nd_drop {L : List Nd} {k : Nat} {x : Nd} (h : L[k]? = some x) : (L.map Nd.op).drop k = x.op :: (L.map Nd.op).drop (k + 1) := by
  have hl : k < L.length := by
    rcases Nat.lt_or_ge k L.length with h9 | h9
    · exact h9
    · rw [List.getElem?_eq_none h9] at h; cases h
  rw [List.getElem?_eq_getElem hl] at h
  rw [List.drop_eq_getElem_cons (by rw [List.length_map]; exact hl), List.getElem_map, Option.some.inj h]
theorem at_mid {α : Type} {A S L : List α} {x : α} {k : Nat} (h : L = A ++ ([x] ++ S)) (hk : A.length = k) : L[k]? = some x ∧ k < L.length := by
  subst h hk
  exact ⟨by simp, by simp⟩
end Go.Proofs.Ythblmpkdcahmkaa

/-
  The contracts of the document's answer for layer 2: reading functions.
-/
namespace Go.Proofs.Ythblmpkdcahmkaa
open Go.RowKit

theorem ref02_at (a : Option Addr) (n cap k : Nat) (l : List Nat) (w : World) (h : Wd w a n cap l) (hk : k ≤ 9223372036854775807) :
    Calls Try.prog 61 #[.slice a n cap, .int .i64 (k : Int)] w fun e w' => e = .returned (.int .u32 ((atw l k : Nat) : Int)) ∧ w = w' := by
  obtain ⟨hb1, hb2⟩ := h.bound
  by_cases hlt : k < n
  · obtain ⟨b, off, rfl, hc⟩ := h.at (by omega)
    have hck := hc k hlt
    clear hc h
    go_enter Try.func61, Try.ntmps61
    go_wp2
    go_ret
    exact ⟨rfl, rfl⟩
  · have ha : atw l k = 0 := atw_ge (by have := h.len; omega)
    have Ha := Lib.hid ha
    clear ha h
    go_enter Try.func61, Try.ntmps61
    go_wp2
    go_ret
    rw [Ha.out]
    exact ⟨rfl, rfl⟩
end Go.Proofs.Ythblmpkdcahmkaa

/-
  The contracts of the document's answer for layer 2: functions that make lists.
-/
namespace Go.Proofs.Ythblmpkdcahmkaa
open Go.RowKit

theorem infoWord : (Try.prog.info? 112).map (fun i => (i.zero, i.size, i.bytes)) = some (some (.int .u32 0), 1, 4) := by kernel_rfl

set_option maxRecDepth 4096 in
set_option maxHeartbeats 400000 in
theorem ref02_norm_own (a : Option Addr) (n cap : Nat) (l : List Nat) (w : World) (h : Wd w a n cap l) (hn : n ≤ 17592183947266) :
    Calls Try.prog 93 #[.slice a n cap] w fun e w' => ∃ (a' : Option Addr) (n' cap' : Nat), e = .returned (.slice a' n' cap') ∧ w'.ownsRow w.heap.size 112 1 (.slice a' n' cap') n' (wcells (dg (val l))) ∧ Below w.heap.size w w' := by
  obtain ⟨hb1, hb2⟩ := h.bound
  have H := Lib.hid h
  clear h
  go_enter Try.func93, Try.ntmps93
  go_wp2
  go_loop [3] (fun i => ∃ k : Nat, k ≤ n ∧ i = .int .i64 k ∧ Hid (top l k = 0)) (fun i => (intOf i).toNat)
  case atStart => exact ⟨n, by omega, rfl, Lib.hid (top_ge (by have := H.out.len; omega))⟩
  case round =>
    obtain ⟨k, hk, rfl, Ht⟩ := hrel
    cases k with
    | zero =>
      have hv : val l = 0 := by rw [← top_zero]; exact Ht.out
      have Hv := Lib.hid hv
      clear hv
      obtain ⟨i0, hi, hz0, hz1, hz2⟩ := info_parts infoWord
      cases a with
      | none =>
        obtain ⟨rfl, rfl, rfl⟩ := H.out.ofNone
        go_wp2_with (at_builtin; refine wpList_append_own_none rfl _ _ 58 rfl w.heap.size 112 i0 1 Try.underlying58 hi _ 0 [] rfl (World.ownsRow_lit w #[] 0 (Nat.le_refl _) (by decide) rfl) rfl ?_)
        go_ret
        exact ⟨_, _, _, rfl, by rw [Hv.out, dg_zero]; exact World.ownsRow_lit w #[] 0 (Nat.le_refl _) (by decide) rfl, (Below.refl _ _).alloc (Nat.le_refl _) _⟩
      | some ad =>
        go_wp2_with (at_builtin; refine wpList_append_own _ rfl _ _ 58 rfl w.heap.size 112 i0 (.int .u32 0) 1 4 Try.underlying58 hi hz0 hz1 hz2 rfl (by decide) _ 0 [] rfl (World.ownsRow_lit w #[] 0 (Nat.le_refl _) (by decide) rfl) ad 0 cap [] rfl rfl (by intro j u hu; simp at hu) (by intro u hu; simp at hu) (by decide) (by decide) (by simp) ?_)
        intro v' w1 hown hgrow _
        obtain ⟨a', cap', rfl⟩ := own_slice hown
        go_wp2
        go_ret
        refine ⟨a', 0, cap', rfl, ?_, ?_⟩
        · rw [Hv.out, dg_zero]; exact hown
        · exact ((Below.refl _ _).alloc (Nat.le_refl _) _).grown hgrow (by simp) (by intro k hk; simp [Value.ownBlock] at hk; omega)
    | succ k =>
      obtain ⟨b, off, rfl, hc⟩ := H.out.at (by omega)
      have hck := hc k (by omega)
      clear hc
      by_cases hz : atw l k = 0
      · have hzb : (((atw l k : Nat) : Int) == 0) = true := by simp [hz]
        have Hz := Lib.hid hz
        clear hz
        go_wp2
        go_round
        case rel => exact ⟨k, by omega, by go_num, Lib.hid (by rw [top_succ, Hz.out, Ht.out])⟩
        case measure => simp [intOf]
      · have hzb : (((atw l k : Nat) : Int) == 0) = false := by simp [hz]
        have Hz := Lib.hid hz
        clear hz
        obtain ⟨i0, hi, hz0, hz1, hz2⟩ := info_parts infoWord
        have hT := H.out.take hk
        have hTl : (l.take (k + 1)).length = k + 1 := hT.len
        have hR : l.take (k + 1) = dg (val l) := take_right (by rw [H.out.len]; exact hk) H.out.ok Ht.out (.inr (by simpa using Hz.out))
        have HR := Lib.hid hR
        have HT := Lib.hid hT
        have HTl := Lib.hid hTl
        clear hT hR hTl
        go_wp2_with (at_builtin; refine wpList_append_own _ rfl _ _ 58 rfl w.heap.size 112 i0 (.int .u32 0) 1 4 Try.underlying58 hi hz0 hz1 hz2 rfl (by decide) _ 0 [] rfl (World.ownsRow_lit w #[] 0 (Nat.le_refl _) (by decide) rfl) ⟨b, off, none⟩ (k + 1) cap (wcells (l.take (k + 1))) rfl (by rw [wcells_length, HTl.out, Nat.mul_one]) (HT.out.later ((Below.refl _ _).alloc (Nat.le_refl _) _)).cells (wcells_one _) (by unfold maxLen; omega) (by omega) (by simp) ?_)
        intro v' w1 hown hgrow _
        obtain ⟨a', cap', rfl⟩ := own_slice hown
        go_wp2
        go_ret
        refine ⟨a', _, cap', rfl, ?_, ?_⟩
        · rw [← HR.out]; simpa using hown
        · exact ((Below.refl _ _).alloc (Nat.le_refl _) _).grown hgrow (by simp) (by intro k hk; simp [Value.ownBlock] at hk; omega)
theorem ref02_norm (a : Option Addr) (n cap : Nat) (l : List Nat) (w : World) (h : Wd w a n cap l) (hn : n ≤ 17592183947266) :
    Calls Try.prog 93 #[.slice a n cap] w fun e w' => ∃ (a' : Option Addr) (n' cap' : Nat), e = .returned (.slice a' n' cap') ∧ Wd w' a' n' cap' (dg (val l)) ∧ Below w.heap.size w w' :=
  (ref02_norm_own a n cap l w h hn).mono fun _ _ ⟨a', n', c', he, ho, hB⟩ => ⟨a', n', c', he, Wd.own ho (okw_dg _), hB⟩
set_option maxRecDepth 4096 in
set_option maxHeartbeats 2000000 in
theorem ref02_add (a : Option Addr) (n cap : Nat) (la : List Nat) (b : Option Addr) (m cap' : Nat) (lb : List Nat) (w : World) (ha : Wd w a n cap la) (hb : Wd w b m cap' lb) (hn : n ≤ 17592183947264) (hm : m ≤ 17592183947264) :
    Calls Try.prog 98 #[.slice a n cap, .slice b m cap'] w fun e w' => ∃ (a' : Option Addr) (n' cap' : Nat), e = .returned (.slice a' n' cap') ∧ Wd w' a' n' cap' (dg (val la + val lb)) ∧ Below w.heap.size w w' := by
  obtain ⟨i0, hi, hz0, hz1, hz2⟩ := info_parts infoWord
  have Ha := Lib.hid ha
  have Hb := Lib.hid hb
  clear ha hb
  by_cases hnm : n < m
  · skip
    go_enter Try.func98, Try.ntmps98
    go_wp2_with (at_make; refine wpList_make_full _ rfl _ _ 58 rfl w.heap.size 112 i0 (.int .u32 0) 1 Try.underlying58 hi hz0 hz1 .i64 .i64 _ _ (m + 1) rfl rfl (by omega) (by omega) (by rw [hz2]; omega) (by unfold maxLen; omega) (Nat.le_refl _) ?_; intro w1 hown1 hgrow1)
    rw [wcells_made] at hown1
    have Hown1 := Lib.hid hown1
    have hB1 : Below w.heap.size w w1 := (Below.refl _ _).grown hgrow1 (Nat.le_refl _) (fun k hk => by cases hk)
    clear hown1 hgrow1
    go_loopw [7, 8] (fun s i wr => ∃ (k sn : Nat) (o : List Nat), k ≤ m + 1 ∧ i = .int .i64 k ∧ s = .int .u64 sn ∧ sn ≤ 1 ∧ Hid (o.length = k) ∧ okw o ∧ Hid (val o + 4294967296 ^ k * sn = low la k + low lb k) ∧
        Hid (wr.ownsRow w.heap.size 112 1 (.slice (some ⟨w.heap.size, 0, none⟩) (m + 1) (m + 1)) (m + 1) (wcells (o ++ List.replicate (m + 1 - k) 0))) ∧ Below w.heap.size w wr) (fun _ i _ => m + 1 - (intOf i).toNat)
    case atStart => exact ⟨0, 0, [], by omega, rfl, rfl, by omega, Lib.hid rfl, okw_nil, Lib.hid (by rw [low_zero, low_zero]; rfl), Hown1, hB1⟩
    case round =>
      obtain ⟨k, sn, o, hk, rfl, rfl, hsn, Ho, hok, Hv, Hown, hB⟩ := hrel
      by_cases hlt : k < m + 1
      · have HaW := Lib.hid (Ha.out.later hB)
        have HbW := Lib.hid (Hb.out.later hB)
        have hcell : wr.cell? ⟨w.heap.size, k, none⟩ = some (.int .u32 ((atw (o ++ List.replicate (m + 1 - k) 0) k : Nat) : Int)) := (Hown.out.cellAt k (by omega)).trans (wcells_at (by have := Ho.out; simp; omega))
        have hfro : wr.frozen? ⟨w.heap.size, k, none⟩ = false := Hown.out.frozenAt k
        generalize atw (o ++ List.replicate (m + 1 - k) 0) k = old at hcell
        have hxa := atw_lt Ha.out.ok k
        have hxb := atw_lt Hb.out.ok k
        have hk1 : (k : Int) < (m : Int) + 1 := by omega
        obtain ⟨x, hx⟩ : ∃ x, x = atw la k := ⟨_, rfl⟩
        obtain ⟨y, hy⟩ : ∃ y, y = atw lb k := ⟨_, rfl⟩
        rw [← hx] at hxa
        rw [← hy] at hxb
        have Hx := Lib.hid hx
        have Hy := Lib.hid hy
        clear hx hy
        go_wp2_with (first | (go_at_call 61; (with_reducible refine (ref02_at a n cap k la _ HaW.out (by omega)).mono ?_); rintro e w' ⟨rfl, rfl⟩; rw [← Hx.out]) | (go_at_call 61; (with_reducible refine (ref02_at b m cap' k lb _ HbW.out (by omega)).mono ?_); rintro e w' ⟨rfl, rfl⟩; rw [← Hy.out]))
        go_roundw
        case rel =>
          obtain ⟨h1, h2⟩ := Hown.out.stored k (.int .u32 (((sn + (x + y)) % 4294967296 : Nat) : Int))
          rw [wcells_set, set_next o (m + 1) k _ Ho.out hlt] at h1
          refine ⟨k + 1, (sn + (x + y)) / 4294967296, o ++ [(sn + (x + y)) % 4294967296], by omega, by go_num, by go_num, by omega, Lib.hid (by have := Ho.out; simp; omega), okw_snoc hok (by omega), Lib.hid (add_step Ho.out Hv.out (by rw [Hx.out, Hy.out])), ?_, ?_⟩
          · exact Lib.hid (by simpa using h1)
          · exact hB.setCell (Nat.le_refl _) _
        case measure => simp [intOf]; omega
      · have hkn : k = m + 1 := by omega
        subst hkn
        have hown := Hown.out
        rw [Nat.sub_self, List.replicate_zero, List.append_nil] at hown
        have HW := Lib.hid (Wd.own hown hok)
        have Hfin := Lib.hid (add_end (N := m) Ha.out.ok Hb.out.ok (by rw [Ha.out.len]; omega) (by rw [Hb.out.len]; omega) Ho.out Hv.out)
        clear hown
        go_wp2_with (go_at_call 93; (refine (ref02_norm _ _ _ _ _ HW.out (by omega)).mono ?_); rintro e w' ⟨a', n', c', rfl, hwd, hbel⟩)
        go_ret
        exact ⟨a', n', c', rfl, by rw [Hfin.out] at hwd; exact hwd, hB.trans (hbel.mono hB.size)⟩
  · skip
    go_enter Try.func98, Try.ntmps98
    go_wp2_with (at_make; refine wpList_make_full _ rfl _ _ 58 rfl w.heap.size 112 i0 (.int .u32 0) 1 Try.underlying58 hi hz0 hz1 .i64 .i64 _ _ (n + 1) rfl rfl (by omega) (by omega) (by rw [hz2]; omega) (by unfold maxLen; omega) (Nat.le_refl _) ?_; intro w1 hown1 hgrow1)
    rw [wcells_made] at hown1
    have Hown1 := Lib.hid hown1
    have hB1 : Below w.heap.size w w1 := (Below.refl _ _).grown hgrow1 (Nat.le_refl _) (fun k hk => by cases hk)
    clear hown1 hgrow1
    go_loopw [7, 8] (fun s i wr => ∃ (k sn : Nat) (o : List Nat), k ≤ n + 1 ∧ i = .int .i64 k ∧ s = .int .u64 sn ∧ sn ≤ 1 ∧ Hid (o.length = k) ∧ okw o ∧ Hid (val o + 4294967296 ^ k * sn = low la k + low lb k) ∧
        Hid (wr.ownsRow w.heap.size 112 1 (.slice (some ⟨w.heap.size, 0, none⟩) (n + 1) (n + 1)) (n + 1) (wcells (o ++ List.replicate (n + 1 - k) 0))) ∧ Below w.heap.size w wr) (fun _ i _ => n + 1 - (intOf i).toNat)
    case atStart => exact ⟨0, 0, [], by omega, rfl, rfl, by omega, Lib.hid rfl, okw_nil, Lib.hid (by rw [low_zero, low_zero]; rfl), Hown1, hB1⟩
    case round =>
      obtain ⟨k, sn, o, hk, rfl, rfl, hsn, Ho, hok, Hv, Hown, hB⟩ := hrel
      by_cases hlt : k < n + 1
      · have HaW := Lib.hid (Ha.out.later hB)
        have HbW := Lib.hid (Hb.out.later hB)
        have hcell : wr.cell? ⟨w.heap.size, k, none⟩ = some (.int .u32 ((atw (o ++ List.replicate (n + 1 - k) 0) k : Nat) : Int)) := (Hown.out.cellAt k (by omega)).trans (wcells_at (by have := Ho.out; simp; omega))
        have hfro : wr.frozen? ⟨w.heap.size, k, none⟩ = false := Hown.out.frozenAt k
        generalize atw (o ++ List.replicate (n + 1 - k) 0) k = old at hcell
        have hxa := atw_lt Ha.out.ok k
        have hxb := atw_lt Hb.out.ok k
        have hk1 : (k : Int) < (n : Int) + 1 := by omega
        obtain ⟨x, hx⟩ : ∃ x, x = atw la k := ⟨_, rfl⟩
        obtain ⟨y, hy⟩ : ∃ y, y = atw lb k := ⟨_, rfl⟩
        rw [← hx] at hxa
        rw [← hy] at hxb
        have Hx := Lib.hid hx
        have Hy := Lib.hid hy
        clear hx hy
        go_wp2_with (first | (go_at_call 61; (with_reducible refine (ref02_at a n cap k la _ HaW.out (by omega)).mono ?_); rintro e w' ⟨rfl, rfl⟩; rw [← Hx.out]) | (go_at_call 61; (with_reducible refine (ref02_at b m cap' k lb _ HbW.out (by omega)).mono ?_); rintro e w' ⟨rfl, rfl⟩; rw [← Hy.out]))
        go_roundw
        case rel =>
          obtain ⟨h1, h2⟩ := Hown.out.stored k (.int .u32 (((sn + (x + y)) % 4294967296 : Nat) : Int))
          rw [wcells_set, set_next o (n + 1) k _ Ho.out hlt] at h1
          refine ⟨k + 1, (sn + (x + y)) / 4294967296, o ++ [(sn + (x + y)) % 4294967296], by omega, by go_num, by go_num, by omega, Lib.hid (by have := Ho.out; simp; omega), okw_snoc hok (by omega), Lib.hid (add_step Ho.out Hv.out (by rw [Hx.out, Hy.out])), ?_, ?_⟩
          · exact Lib.hid (by simpa using h1)
          · exact hB.setCell (Nat.le_refl _) _
        case measure => simp [intOf]; omega
      · have hkn : k = n + 1 := by omega
        subst hkn
        have hown := Hown.out
        rw [Nat.sub_self, List.replicate_zero, List.append_nil] at hown
        have HW := Lib.hid (Wd.own hown hok)
        have Hfin := Lib.hid (add_end (N := n) Ha.out.ok Hb.out.ok (by rw [Ha.out.len]; omega) (by rw [Hb.out.len]; omega) Ho.out Hv.out)
        clear hown
        go_wp2_with (go_at_call 93; (refine (ref02_norm _ _ _ _ _ HW.out (by omega)).mono ?_); rintro e w' ⟨a', n', c', rfl, hwd, hbel⟩)
        go_ret
        exact ⟨a', n', c', rfl, by rw [Hfin.out] at hwd; exact hwd, hB.trans (hbel.mono hB.size)⟩
set_option maxRecDepth 4096 in
set_option maxHeartbeats 2000000 in
theorem ref02_cmp (a : Option Addr) (n cap : Nat) (la : List Nat) (b : Option Addr) (m cap' : Nat) (lb : List Nat) (w : World) (ha : Wd w a n cap la) (hb : Wd w b m cap' lb) (hn : n ≤ 17592183947264) (hm : m ≤ 17592183947264) :
    Calls Try.prog 34 #[.slice a n cap, .slice b m cap'] w fun e w' => e = .returned (.int .i64 (cmpI (val la) (val lb))) ∧ w = w' := by
  have Ha := Lib.hid ha
  have Hb := Lib.hid hb
  clear ha hb
  by_cases hnm : n < m
  · skip
    go_enter Try.func34, Try.ntmps34
    go_wp2
    go_loop [5] (fun i => ∃ k : Nat, k ≤ m ∧ i = .int .i64 ((k : Int) - 1) ∧ Hid (top la k = top lb k)) (fun i => (intOf i + 1).toNat)
    case atStart => exact ⟨m, by omega, by go_num, Lib.hid (by rw [top_ge (by rw [Ha.out.len]; omega), top_ge (by rw [Hb.out.len]; omega)])⟩
    case round =>
      obtain ⟨k, hk, rfl, Ht⟩ := hrel
      cases k with
      | zero =>
        have hv : val la = val lb := by rw [← top_zero, ← top_zero]; exact Ht.out
        have Hfin := Lib.hid (cmpI_eq hv)
        clear hv
        go_wp2
        go_ret
        exact ⟨ret_i64 Hfin.out.symm, rfl⟩
      | succ k =>
        have e1 : ((k + 1 : Nat) : Int) - 1 = (k : Int) := by omega
        rw [e1]
        clear e1
        have hxa := atw_lt Ha.out.ok k
        have hxb := atw_lt Hb.out.ok k
        obtain ⟨x, hx⟩ : ∃ x, x = atw la k := ⟨_, rfl⟩
        obtain ⟨y, hy⟩ : ∃ y, y = atw lb k := ⟨_, rfl⟩
        rw [← hx] at hxa
        rw [← hy] at hxb
        have Hx := Lib.hid hx
        have Hy := Lib.hid hy
        clear hx hy
        go_wp2_with (first | (go_at_call 61; (with_reducible refine (ref02_at a n cap k la _ Ha.out (by omega)).mono ?_); rintro e w' ⟨rfl, rfl⟩; rw [← Hx.out]) | (go_at_call 61; (with_reducible refine (ref02_at b m cap' k lb _ Hb.out (by omega)).mono ?_); rintro e w' ⟨rfl, rfl⟩; rw [← Hy.out]))
        · go_ret
          have h : x < y := by omega
          exact ⟨ret_i64 (cmpI_lt (cmp_lt Ha.out.ok Ht.out (by rw [← Hx.out, ← Hy.out]; exact h))).symm, rfl⟩
        · go_ret
          have h : y < x := by omega
          exact ⟨ret_i64 (cmpI_gt (cmp_lt Hb.out.ok Ht.out.symm (by rw [← Hx.out, ← Hy.out]; exact h))).symm, rfl⟩
        · go_round
          case rel =>
            have h : x = y := by omega
            exact ⟨k, by omega, by go_num, Lib.hid (top_eq Ht.out (by rw [← Hx.out, ← Hy.out]; exact h))⟩
          case measure => simp [intOf]
  · skip
    go_enter Try.func34, Try.ntmps34
    go_wp2
    go_loop [5] (fun i => ∃ k : Nat, k ≤ n ∧ i = .int .i64 ((k : Int) - 1) ∧ Hid (top la k = top lb k)) (fun i => (intOf i + 1).toNat)
    case atStart => exact ⟨n, by omega, by go_num, Lib.hid (by rw [top_ge (by rw [Ha.out.len]; omega), top_ge (by rw [Hb.out.len]; omega)])⟩
    case round =>
      obtain ⟨k, hk, rfl, Ht⟩ := hrel
      cases k with
      | zero =>
        have hv : val la = val lb := by rw [← top_zero, ← top_zero]; exact Ht.out
        have Hfin := Lib.hid (cmpI_eq hv)
        clear hv
        go_wp2
        go_ret
        exact ⟨ret_i64 Hfin.out.symm, rfl⟩
      | succ k =>
        have e1 : ((k + 1 : Nat) : Int) - 1 = (k : Int) := by omega
        rw [e1]
        clear e1
        have hxa := atw_lt Ha.out.ok k
        have hxb := atw_lt Hb.out.ok k
        obtain ⟨x, hx⟩ : ∃ x, x = atw la k := ⟨_, rfl⟩
        obtain ⟨y, hy⟩ : ∃ y, y = atw lb k := ⟨_, rfl⟩
        rw [← hx] at hxa
        rw [← hy] at hxb
        have Hx := Lib.hid hx
        have Hy := Lib.hid hy
        clear hx hy
        go_wp2_with (first | (go_at_call 61; (with_reducible refine (ref02_at a n cap k la _ Ha.out (by omega)).mono ?_); rintro e w' ⟨rfl, rfl⟩; rw [← Hx.out]) | (go_at_call 61; (with_reducible refine (ref02_at b m cap' k lb _ Hb.out (by omega)).mono ?_); rintro e w' ⟨rfl, rfl⟩; rw [← Hy.out]))
        · go_ret
          have h : x < y := by omega
          exact ⟨ret_i64 (cmpI_lt (cmp_lt Ha.out.ok Ht.out (by rw [← Hx.out, ← Hy.out]; exact h))).symm, rfl⟩
        · go_ret
          have h : y < x := by omega
          exact ⟨ret_i64 (cmpI_gt (cmp_lt Hb.out.ok Ht.out.symm (by rw [← Hx.out, ← Hy.out]; exact h))).symm, rfl⟩
        · go_round
          case rel =>
            have h : x = y := by omega
            exact ⟨k, by omega, by go_num, Lib.hid (top_eq Ht.out (by rw [← Hx.out, ← Hy.out]; exact h))⟩
          case measure => simp [intOf]
end Go.Proofs.Ythblmpkdcahmkaa

/-
  The document's answer of layer 17: Depth, Parts, Same.
-/
namespace Go.Proofs.Ythblmpkdcahmkaa
open Go.RowKit

/-- A part of an expression in memory. -/
theorem Nds.cut {w : World} {b off n c : Nat} {L : List Nd} (h : Nds w (some ⟨b, off, none⟩) n c L) {i j : Nat} (hi : i ≤ j) (hj : j ≤ n) : Nds w (some ⟨b, off + i * 3, none⟩) (j - i) (c - i) ((L.drop i).take (j - i)) := by
  have hb := Kin.All.bound h
  exact Kin.All.part h hi hj (by omega) (by omega)
theorem Nds.head {w : World} {b off n c : Nat} {L : List Nd} (h : Nds w (some ⟨b, off, none⟩) n c L) {j : Nat} (hj : j ≤ n) : Nds w (some ⟨b, off, none⟩) j c (L.take j) := by
  have h9 := Nds.cut h (Nat.zero_le j) hj
  simpa using h9
/-- Expressions side by side in a literal. -/
theorem sns_one (w : World) (e : TypeId) {a : Option Addr} {n c : Nat} {L : List Nd} (h : Nds w a n c L) : Sns (w.alloc (.cells #[.slice a n c] e)) (some ⟨w.heap.size, 0, none⟩) 1 1 [⟨a, n, c, L⟩] := by
  refine ⟨⟨rfl, Nat.le_refl _, by omega, fun e => (by cases e), .inr ⟨w.heap.size, 0, rfl, fun j x hj i u hu => ?_⟩⟩, fun x hx => ?_⟩
  · match j, hj with
    | 0, hj =>
      simp at hj
      subst hj
      match i, hu with
      | 0, hu =>
        simp [snK] at hu
        subst hu
        simp [snK]
      | i + 1, hu => simp [snK] at hu
    | j + 1, hj => simp at hj
  · rw [List.mem_singleton.1 hx]
    exact Kin.All.later h (below_alloc w _)
theorem sns_two (w : World) (e : TypeId) {a a' : Option Addr} {n c n' c' : Nat} {L L' : List Nd} (h : Nds w a n c L) (h' : Nds w a' n' c' L') : Sns (w.alloc (.cells #[.slice a n c, .slice a' n' c'] e)) (some ⟨w.heap.size, 0, none⟩) 2 2 [⟨a, n, c, L⟩, ⟨a', n', c', L'⟩] := by
  refine ⟨⟨rfl, Nat.le_refl _, by omega, fun e => (by cases e), .inr ⟨w.heap.size, 0, rfl, fun j x hj i u hu => ?_⟩⟩, fun x hx => ?_⟩
  · match j, hj with
    | 0, hj =>
      simp at hj
      subst hj
      match i, hu with
      | 0, hu =>
        simp [snK] at hu
        subst hu
        simp [snK]
      | i + 1, hu => simp [snK] at hu
    | 1, hj =>
      simp at hj
      subst hj
      match i, hu with
      | 0, hu =>
        simp [snK] at hu
        subst hu
        simp [snK]
      | i + 1, hu => simp [snK] at hu
    | j + 2, hj => simp at hj
  · simp at hx
    rcases hx with rfl | rfl
    · exact Kin.All.later h (below_alloc w _)
    · exact Kin.All.later h' (below_alloc w _)
/-- These expressions, side by side. -/
def LstK (LL : List (List Nd)) (w : World) (e : Ending) (w' : World) : Prop :=
  ∃ (a : Option Addr) (n c : Nat) (K : List Sn), e = .returned (.slice a n c) ∧ Sns w' a n c K ∧ K.map Sn.L = LL ∧ Below w.heap.size w w'
theorem nd_sem_drop {L : List Nd} {k : Nat} {x : Nd} (h : L[k]? = some x) : (L.map Nd.sem).drop k = x.sem :: (L.map Nd.sem).drop (k + 1) := by
  have hl : k < L.length := by
    rcases Nat.lt_or_ge k L.length with h9 | h9
    · exact h9
    · rw [List.getElem?_eq_none h9] at h; cases h
  rw [List.getElem?_eq_getElem hl] at h
  rw [List.drop_eq_getElem_cons (by rw [List.length_map]; exact hl), List.getElem_map, Option.some.inj h]
set_option maxRecDepth 4096 in
set_option maxHeartbeats 8000000 in
theorem ref17_same (a : Option Addr) (n c : Nat) (L : List Nd) (b : Option Addr) (m d : Nat) (M : List Nd) (w : World) (h : Nds w a n c L) (h2 : Nds w b m d M) (hL : thinN 1000000 L) (hM : thinN 1000000 M) :
    Calls Try.prog 14 #[.slice a n c, .slice b m d] w (Gives (.bool (decide (L.map Nd.sem = M.map Nd.sem))) w) := by
  have HL := Lib.hid h
  have HM := Lib.hid h2
  have hl1 := h.len
  have hl2 := h2.len
  have hbd := h.bound
  have hbd2 := h2.bound
  have HTL := Lib.hid hL
  have HTM := Lib.hid hM
  clear h h2 hL hM
  obtain ⟨R, hR⟩ : ∃ R, decide (L.map Nd.sem = M.map Nd.sem) = R := ⟨_, rfl⟩
  rw [hR]
  have HR := Lib.hid hR
  clear hR
  by_cases hnm : n = m
  · subst hnm
    have q0 : ((n : Int) != (n : Int)) = false := by simp
    have HL1 := Lib.hid hl1
    have HL2 := Lib.hid hl2
    clear hl1 hl2
    go_enter Try.func14, Try.ntmps14
    go_wp2
    go_loopw [5] (fun iv wr => ∃ k : Nat, k ≤ n ∧ iv = .int .i64 (k : Int) ∧ Hid (R = decide ((L.map Nd.sem).drop k = (M.map Nd.sem).drop k)) ∧ Hid (Below w.heap.size w wr)) (fun iv _ => n - (intOf iv).toNat)
    case atStart => exact ⟨0, by omega, rfl, Lib.hid HR.out.symm, Lib.hid (Below.refl _ _)⟩
    case round =>
      obtain ⟨k, hk, rfl, HK, HB⟩ := hrel
      by_cases hlt : k < n
      · obtain ⟨x, hx⟩ : ∃ x, L[k]? = some x := ⟨L[k]'(by rw [HL1.out]; exact hlt), List.getElem?_eq_getElem _⟩
        obtain ⟨y, hy⟩ : ∃ y, M[k]? = some y := ⟨M[k]'(by rw [HL2.out]; exact hlt), List.getElem?_eq_getElem _⟩
        obtain ⟨b0, o0, rfl, e0, e1, e2, hw1⟩ := Nds.get (Kin.All.later HL.out HB.out) hx
        obtain ⟨b1, o1, rfl, f0, f1, f2, hw2⟩ := Nds.get (Kin.All.later HM.out HB.out) hy
        have hki : (k : Int) < (n : Int) := by omega
        have HK2 : Hid (R = decide (x.sem :: (L.map Nd.sem).drop (k + 1) = y.sem :: (M.map Nd.sem).drop (k + 1))) := Lib.hid (by rw [← nd_sem_drop hx, ← nd_sem_drop hy]; exact HK.out)
        have hx9 := HTL.out x (List.mem_of_getElem? hx)
        have hy9 := HTM.out y (List.mem_of_getElem? hy)
        have hxn := hw1.len
        have hyn := hw2.len
        have HC := Lib.hid fun w (h : Wd w x.a x.n x.c x.l) (h' : Wd w y.a y.n y.c y.l) => ref02_cmp x.a x.n x.c x.l y.a y.n y.c y.l w h h' (by omega) (by omega)
        have HW1 := Lib.hid hw1
        have HW2 := Lib.hid hw2
        obtain ⟨xo, xi, xa, xn, xc, xl⟩ := x
        obtain ⟨yo, yi, ya, yn, yc, yl⟩ := y
        simp only [Nd.sem] at HK2
        dsimp only at e0 e1 e2 f0 f1 f2 HC HW1 HW2
        clear hx hy hw1 hw2 hx9 hy9 hxn hyn HK
        by_cases h0 : xo = yo
        · have q1 : (xo != yo) = false := by simp [h0]
          by_cases h1 : xi = yi
          · have q2 : (xi != yi) = false := by simp [h1]
            obtain ⟨z, hz⟩ : ∃ z, cmpI (val xl) (val yl) = z := ⟨_, rfl⟩
            rw [hz] at HC
            by_cases h2 : z = 0
            · have q3 : (z != 0) = false := by simp [h2]
              have HK3 : Hid (R = decide ((L.map Nd.sem).drop (k + 1) = (M.map Nd.sem).drop (k + 1))) := Lib.hid (by
                rw [HK2.out]
                have hv : val xl = val yl := (by unfold cmpI at hz; split at hz <;> (try split at hz) <;> omega)
                simp [h0, h1, hv])
              clear h0 h1 h2 hz HK2
              go_wp2
              go_quiet ((go_at_call 34; exact quiet_here (HC.out _ (HW1.out.later (below_draws _ _)) (HW2.out.later (below_draws _ _))) ⟨_, rfl⟩))
              go_wp2
              go_roundw
              case rel => exact ⟨k + 1, by omega, by go_num, HK3, Lib.hid (below_then HB.out (below_draws _ _))⟩
              case measure => simp [intOf]; omega
            · have q3 : (z != 0) = true := by simp [h2]
              obtain rfl : R = false := by
                rw [HK2.out]
                have hv : val xl ≠ val yl := fun e => h2 (by rw [← hz, e]; exact cmpI_eq rfl)
                simp [hv]
              clear h0 h1 h2 hz HK2
              go_wp2
              go_quiet ((go_at_call 34; exact quiet_here (HC.out _ (HW1.out.later (below_draws _ _)) (HW2.out.later (below_draws _ _))) ⟨_, rfl⟩))
              go_wp2
              go_ret
              exact ⟨rfl, below_then HB.out (below_draws _ _)⟩
          · have q2 : (xi != yi) = true := by simp [h1]
            obtain rfl : R = false := by
              rw [HK2.out]; simp [h1]
            clear h0 h1 HK2 HC HW1 HW2
            go_wp2
            go_quiet (fail)
            go_wp2
            go_ret
            exact ⟨rfl, below_then HB.out (below_draws _ _)⟩
        · have q1 : (xo != yo) = true := by simp [h0]
          obtain rfl : R = false := by
            rw [HK2.out]; simp [h0]
          clear h0 HK2 HC HW1 HW2
          go_wp2
          go_quiet (fail)
          go_wp2
          go_ret
          exact ⟨rfl, below_then HB.out (below_draws _ _)⟩
      · obtain rfl : k = n := by omega
        obtain rfl : R = true := by
          rw [HK.out, List.drop_of_length_le (by rw [List.length_map, HL1.out]; exact Nat.le_refl _), List.drop_of_length_le (by rw [List.length_map, HL2.out]; exact Nat.le_refl _)]; simp
        go_wp2
        go_ret
        exact ⟨rfl, HB.out⟩
  · have q0 : ((n : Int) != (m : Int)) = true := by simp; omega
    obtain rfl : R = false := by
      rw [← HR.out, decide_eq_false_iff_not]
      intro h
      have := congrArg List.length h
      simp only [List.length_map] at this
      omega
    go_enter Try.func14, Try.ntmps14
    go_wp2
    go_ret
    exact ⟨rfl, Below.refl _ _⟩
end Go.Proofs.Ythblmpkdcahmkaa

/-
  The document's answer of layer 17: Long, LongField, Codes, Size.
-/
namespace Go.Proofs.Ythblmpkdcahmkaa
open Go.RowKit

/-- A field, as a value. -/
def fiV (a : Option Addr) (n c : Nat) (b : Option Addr) (m d : Nat) : Value := .agg #[.slice a n c, .slice b m d]
/-- All its expressions. -/
def tCodes (K : List Lt) (O : List Sn) : List Sn := K.map Lt.sn ++ O
theorem cells2 {w : World} {g : Nat} {x y : Value} {t : TypeId} (h : w.heap[g]? = some (.cells #[x, y] t (0, 0))) : w.cell? ⟨g, 0, none⟩ = some x ∧ w.cell? ⟨g, 1, none⟩ = some y := ⟨by rw [blk_cell h]; rfl, by rw [blk_cell h]; rfl⟩
theorem blk_stays {w w' : World} {g : Nat} {o : Obj} {row : Option Nat} (h : w.heap[g]? = some o) (hg : w.grownBy w' row) (hn : ∀ k, row = some k → g ≠ k) : w'.heap[g]? = some o := by
  have hlt : g < w.heap.size := (Array.getElem?_eq_some_iff.1 h).1
  rw [hg.block g hlt (fun e => hn g e.symm rfl)]
  exact h
theorem at_some {α : Type} {L : List α} {n k : Nat} (hl : L.length = n) (h : k < n) : ∃ x, L[k]? = some x := ⟨L[k]'(by omega), List.getElem?_eq_getElem _⟩
theorem take_snoc {α : Type} {L : List α} {k : Nat} {x : α} (h : L[k]? = some x) : L.take (k + 1) = L.take k ++ [x] := by
  rw [List.take_add_one, h]; rfl
/-- A Bool; where it is false this holds; the world is as it was, or but for what is new. -/
def ToldS (T : Prop) (w : World) (e : Ending) (w' : World) : Prop := ∃ r : Bool, e = .returned (.bool r) ∧ w = w' ∧ (r = false → T)
def Told (T : Prop) (w : World) (e : Ending) (w' : World) : Prop := ∃ r : Bool, e = .returned (.bool r) ∧ Below w.heap.size w w' ∧ (r = false → T)
end Go.Proofs.Ythblmpkdcahmkaa

/-
  Rows of strings. Of no program.
-/
namespace Go.Proofs.Ythblmpkdcahmkaa
open Go.WideShapes Go.RowKit Go.Deep

/-- Rows of strings. -/
def stC : Cls (List UInt8) where
  cells := fun t => [.string (bs t)]
  size := 1
  bytes := 16
  p := fun u => ∃ s : ByteArray, u = .string s
  pos := by decide
  len := fun _ => rfl
  one := fun x u hu => by
    simp at hu
    subst hu; rfl
  ok := fun x u hu => by
    simp at hu
    exact ⟨_, hu⟩
def stK : Kin (List UInt8) := { stC with good := fun _ _ => True, later := fun h _ => h, aside := fun h _ _ => h }
theorem st_mine {w : World} {base : Nat} {e : TypeId} {v : Value} {L : List (List UInt8)} : stK.Mine w base e v L ↔ stC.Own w base e v L := ⟨fun h => h.1, fun h => ⟨h, fun _ _ => trivial⟩⟩
theorem st_at {P : Program} {t e : TypeId} (ht : P.underlying t = some (.slice e)) (h : (P.info? e).map (fun i => (i.zero, i.size, i.bytes)) = some (some (.string ⟨#[]⟩), 1, 16)) : stK.toCls.At P t e :=
  Cls.atOf stK.toCls ht h rfl (fun u hu => by
    simp [Value.cells] at hu
    exact ⟨_, hu⟩)
end Go.Proofs.Ythblmpkdcahmkaa

/-
  What package parse's functions owe (layer 18), as one hypothesis: the contracts that the laws' walks lean on.
-/
namespace Go.Proofs.Ythblmpkdcahmkaa
open Go.RowKit

/-- What a let means. -/
def ltP (x : Lt) : List UInt8 × List Np := (x.t, x.L.map Nd.sem)
/-- A field, and the fault of a place. -/
def FieldF (r : List (List UInt8 × List Np) × List (List Np) × Int) (w : World) (e : Ending) (w' : World) : Prop :=
  ∃ (al : Option Addr) (cl : Nat) (X : List Lt) (ao : Option Addr) (co : Nat) (Y : List Sn), e = .returned (.tuple #[fiV al X.length cl ao Y.length co, lexFault r.2.2]) ∧ Lts w' al X.length cl X ∧ Sns w' ao Y.length co Y ∧ X.map ltP = r.1 ∧ Y.map Sn.sem = r.2.1 ∧
    (∀ x ∈ X, x.n ≤ 100000 ∧ thinN 20 x.L) ∧ (∀ x ∈ Y, x.n ≤ 100000 ∧ thinN 20 x.L) ∧ Below w.heap.size w w'
/-- An expression, and the fault of a place. -/
def CodeF (r : List Np × Int) (w : World) (e : Ending) (w' : World) : Prop :=
  ∃ (a : Option Addr) (c : Nat) (L : List Nd), e = .returned (.tuple #[.slice a L.length c, lexFault r.2]) ∧ Nds w' a L.length c L ∧ L.map Nd.sem = r.1 ∧ thinN 20 L ∧ L.length ≤ 100000 ∧ Below w.heap.size w w'
structure ParseSaid : Prop where
  parse : ∀ (l : List UInt8) (w : World), l.length ≤ 5000 → Calls Try.prog 7 #[.string (bs l)] w (FieldF (pF l) w)
  expr : ∀ (l : List UInt8) (a : Option Addr) (n c : Nat) (N : List (List UInt8)) (w : World), l.length ≤ 5000 → stC.Has w a n c N → n ≤ 100 → Calls Try.prog 12 #[.string (bs l), .slice a n c] w (CodeF (pE N l) w)
end Go.Proofs.Ythblmpkdcahmkaa

/-
  Package tree: Arity, Wrong, Right.
-/
namespace Go.Proofs.Ythblmpkdcahmkaa
open Go.RowKit

/-- The cells of a node in a box. -/
theorem nd_box {w : World} {g : Nat} {x : Nd} {t : TypeId} (h : w.heap[g]? = some (.cells #[.int .i64 x.op, .int .i64 x.i, .slice x.a x.n x.c] t (0, 0))) :
    w.cell? ⟨g, 0, none⟩ = some (.int .i64 x.op) ∧ w.cell? ⟨g, 1, none⟩ = some (.int .i64 x.i) ∧ w.cell? ⟨g, 2, none⟩ = some (.slice x.a x.n x.c) :=
  ⟨blk_cell h 0, blk_cell h 1, blk_cell h 2⟩
set_option maxRecDepth 4096 in
set_option maxHeartbeats 8000000 in
theorem tree_arity (op : Int) (w : World) : Calls Try.prog 70 #[.int .i64 op] w (Same1 (.int .i64 (tAr op)) w) := by
  by_cases h : 1 ≤ op ∧ op ≤ 11
  · rcases (show op = 1 ∨ op = 2 ∨ op = 3 ∨ op = 4 ∨ op = 5 ∨ op = 6 ∨ op = 7 ∨ op = 8 ∨ op = 9 ∨ op = 10 ∨ op = 11 by omega) with rfl | rfl | rfl | rfl | rfl | rfl | rfl | rfl | rfl | rfl | rfl
    all_goals
      clear h
      go_enter Try.func70, Try.ntmps70
      go_wp2
      go_ret
      exact ⟨rfl, rfl⟩
  · have hv : tAr op = (-1) := by unfold tAr; (repeat' split) <;> omega
    rw [hv]
    clear hv
    have k1 : (op == 1) = false := by simp; omega
    have k2 : (op == 2) = false := by simp; omega
    have k3 : (op == 3) = false := by simp; omega
    have k4 : (op == 4) = false := by simp; omega
    have k5 : (op == 5) = false := by simp; omega
    have k6 : (op == 6) = false := by simp; omega
    have k7 : (op == 7) = false := by simp; omega
    have k8 : (op == 8) = false := by simp; omega
    have k9 : (op == 9) = false := by simp; omega
    have k10 : (op == 10) = false := by simp; omega
    have k11 : (op == 11) = false := by simp; omega
    clear h
    go_enter Try.func70, Try.ntmps70
    go_wp2
    go_ret
    exact ⟨rfl, rfl⟩
set_option maxRecDepth 4096 in
set_option maxHeartbeats 8000000 in
theorem tree_wrong (a : Option Addr) (n c : Nat) (L : List Nd) (w : World) (h : Nds w a n c L) (hn : n ≤ 1000000) : Calls Try.prog 48 #[.slice a n c] w (Gives (.int .i64 (tWrong (L.map Nd.op))) w) := by
  have HL := Lib.hid h
  have HLl := Lib.hid h.len
  have hbd := h.bound
  clear h
  obtain ⟨R, hR⟩ : ∃ R, tWrong (L.map Nd.op) = R := ⟨_, rfl⟩
  rw [hR]
  have HR := Lib.hid hR
  clear hR
  have HC := Lib.hid fun op w => tree_arity op w
  go_enter Try.func48, Try.ntmps48
  go_wp2
  go_loopw [3, 9] (fun ov iv wr => ∃ k o : Nat, k ≤ n ∧ o ≤ k ∧ ov = .int .i64 (o : Int) ∧ iv = .int .i64 (k : Int) ∧ Hid (tGo ((L.map Nd.op).drop k) k o = R) ∧ Hid (Below w.heap.size w wr)) (fun _ iv _ => n - (intOf iv).toNat)
  case atStart => exact ⟨0, 0, by omega, by omega, by go_num, by go_num, Lib.hid HR.out, Lib.hid (Below.refl _ _)⟩
  case round =>
    obtain ⟨k, o, hk, ho, rfl, rfl, HG, HB⟩ := hrel
    by_cases hlt : k < n
    · obtain ⟨x, hx⟩ : ∃ x, L[k]? = some x := ⟨L[k]'(by rw [HLl.out]; exact hlt), List.getElem?_eq_getElem _⟩
      obtain ⟨b, off, rfl, e0, e1, e2, -⟩ := Nds.get (Kin.All.later HL.out HB.out) hx
      have hd := nd_drop hx
      have hki : (k : Int) < (n : Int) := by omega
      have HG2 : Hid (tGo (x.op :: (L.map Nd.op).drop (k + 1)) k o = R) := Lib.hid (by rw [← hd]; exact HG.out)
      clear hd hx HG
      have hrg := tAr_range x.op
      obtain ⟨r, hr⟩ : ∃ r, tAr x.op = r := ⟨_, rfl⟩
      have ba := below_alloc wr (.cells #[.int .i64 x.op, .int .i64 x.i, .slice x.a x.n x.c] 60)
      have HB1 := Lib.hid (below_then HB.out ba)
      obtain ⟨x0, x1, x2⟩ := nd_box (x := x) (blk_new wr #[.int .i64 x.op, .int .i64 x.i, .slice x.a x.n x.c] 60)
      have HX := Lib.hid (HC.out x.op)
      have HRr := Lib.hid hr
      rw [hr] at HX hrg
      clear hr ba HB
      by_cases h1 : r < 0
      · obtain rfl : R = (k : Int) := by rw [← HG2.out, tGo, if_pos (by rw [HRr.out]; omega)]
        go_wp2_with fail
        refine (HX.out _).mono ?_
        rintro e w1 ⟨rfl, rfl⟩
        go_wp2
        go_ret
        exact ⟨rfl, HB1.out⟩
      · by_cases h2 : (o : Int) < r
        · obtain rfl : R = (k : Int) := by rw [← HG2.out, tGo, if_pos (by rw [HRr.out]; omega)]
          go_wp2_with fail
          refine (HX.out _).mono ?_
          rintro e w1 ⟨rfl, rfl⟩
          go_wp2
          go_ret
          exact ⟨rfl, HB1.out⟩
        · obtain ⟨q, rfl⟩ : ∃ q : Nat, r = (q : Int) := ⟨r.toNat, by omega⟩
          have HG3 : Hid (tGo ((L.map Nd.op).drop (k + 1)) (k + 1) (o + 1 - q) = R) := Lib.hid (by
            have h9 := HG2.out
            rw [tGo, if_neg (by rw [HRr.out]; omega), HRr.out] at h9
            exact h9)
          have k1 : IntKind.i64.wrap (1 - (q : Int)) = 1 - (q : Int) := by rw [IntKind.wrap_i64]; omega
          have k2 : IntKind.i64.wrap ((o : Int) + (1 - (q : Int))) = ((o + 1 - q : Nat) : Int) := by rw [IntKind.wrap_i64]; omega
          clear HG2 HRr
          go_wp2_with fail
          refine (HX.out _).mono ?_
          rintro e w1 ⟨rfl, rfl⟩
          go_wp2
          go_roundw
          case rel => exact ⟨k + 1, o + 1 - q, by omega, by omega, by go_num, by go_num, HG3, HB1⟩
          case measure => simp [intOf]; omega
    · obtain rfl : k = n := by omega
      have HG2 : Hid ((if o = 1 then (-1 : Int) else (k : Int)) = R) := Lib.hid (by
        have h9 := HG.out
        rw [List.drop_of_length_le (by rw [List.length_map, HLl.out]; exact Nat.le_refl _), tGo] at h9
        exact h9)
      clear HG
      by_cases h1 : o = 1
      · obtain rfl : R = -1 := by rw [← HG2.out, if_pos h1]
        have q1 : ((o : Int) != 1) = false := by simp [h1]
        go_wp2
        go_ret
        exact ⟨rfl, HB.out⟩
      · obtain rfl : R = (k : Int) := by rw [← HG2.out, if_neg h1]
        have q1 : ((o : Int) != 1) = true := by simp; omega
        go_wp2
        go_ret
        exact ⟨rfl, HB.out⟩
set_option maxRecDepth 4096 in
set_option maxHeartbeats 8000000 in
theorem tree_right (a : Option Addr) (n c : Nat) (L : List Nd) (w : World) (h : Nds w a n c L) (hn : n ≤ 1000000) : Calls Try.prog 20 #[.slice a n c] w (Gives (.bool (decide (tWrong (L.map Nd.op) < 0))) w) := by
  have HW := Lib.hid (tree_wrong a n c L w h hn)
  generalize tWrong (L.map Nd.op) = z at *
  clear h
  go_enter Try.func20, Try.ntmps20
  go_wp2_with fail
  refine HW.out.mono ?_
  rintro e w1 ⟨rfl, b1⟩
  go_wp2
  go_ret
  exact ⟨by simp, b1⟩
end Go.Proofs.Ythblmpkdcahmkaa

/-
  The walks of the laws of layer 18: Fault, works.
-/
namespace Go.Proofs.Ythblmpkdcahmkaa
open Go.RowKit

theorem fault_cells18 {w : World} {g : Nat} {a b c d : Int} {t : TypeId} (h : w.heap[g]? = some (.cells #[.int .i64 a, .int .i64 b, .int .i64 c, .int .i64 d] t (0, 0))) :
    w.cell? ⟨g, 0, none⟩ = some (.int .i64 a) ∧ w.cell? ⟨g, 1, none⟩ = some (.int .i64 b) ∧ w.cell? ⟨g, 2, none⟩ = some (.int .i64 c) ∧ w.cell? ⟨g, 3, none⟩ = some (.int .i64 d) :=
  ⟨by rw [blk_cell h]; rfl, by rw [blk_cell h]; rfl, by rw [blk_cell h]; rfl, by rw [blk_cell h]; rfl⟩
theorem pF_one : pF [91, 45, 121, 91, 48, 93, 32, 43, 32, 50, 42, 116, 93] = ([], [[(3, 0, 0), (6, 0, 0), (1, 0, 2), (2, 0, 0), (9, 0, 0), (7, 0, 0)]], -1) := by rfl
theorem pF_two : pF [91, 49] = ([], [], 2) := by rfl
set_option maxRecDepth 4096 in
set_option maxHeartbeats 8000000 in
theorem law18_fault (z : Int) (w : World) : Calls Try.prog 11 #[.int .i64 z] w (Gives (lexFault z) w) := by
  by_cases hz : z < 0
  · have he : lexFault z = faultV 0 0 0 0 := if_pos hz
    rw [he]
    have HG4 := Lib.hid (blk_new w #[.int .i64 0, .int .i64 0, .int .i64 0, .int .i64 0] 28)
    have HB4 := Lib.hid (below_alloc w (.cells #[.int .i64 0, .int .i64 0, .int .i64 0, .int .i64 0] 28))
    clear he
    go_enter Try.func11, Try.ntmps11
    go_wp2
    refine bodyPost_ret (results_cell_row Try.results11 _ _ w.heap.size 28 #[.int .i64 0, .int .i64 0, .int .i64 0, .int .i64 0] (0, 0) _ rfl HG4.out Try.underlying28 rfl (by kernel_rfl)) rfl ?_
    exact ⟨rfl, HB4.out⟩
  · have he : lexFault z = faultV 1 0 0 z := if_neg hz
    rw [he]
    have HG4 := Lib.hid (blk_new w #[.int .i64 1, .int .i64 0, .int .i64 0, .int .i64 z] 28)
    have HB4 := Lib.hid (below_alloc w (.cells #[.int .i64 1, .int .i64 0, .int .i64 0, .int .i64 z] 28))
    clear he
    go_enter Try.func11, Try.ntmps11
    go_wp2
    refine bodyPost_ret (results_cell_row Try.results11 _ _ w.heap.size 28 #[.int .i64 1, .int .i64 0, .int .i64 0, .int .i64 z] (0, 0) _ rfl HG4.out Try.underlying28 rfl (by kernel_rfl)) rfl ?_
    exact ⟨rfl, HB4.out⟩
set_option maxRecDepth 4096 in
set_option maxHeartbeats 8000000 in
theorem law18_works (S : ParseSaid) (w : World) : Calls Try.prog 6 #[] w (Gives (.bool true) w) := by
  have H1 := Lib.hid fun w1 => S.parse [91, 45, 121, 91, 48, 93, 32, 43, 32, 50, 42, 116, 93] w1 (by decide)
  have H2 := Lib.hid fun w1 => S.parse [91, 49] w1 (by decide)
  rw [pF_one] at H1
  rw [pF_two] at H2
  go_enter Try.func6, Try.ntmps6
  go_wp2_with fail
  refine (H1.out _).mono ?_
  rintro e w1 ⟨al, cl, X, ao, co, Y, rfl, hX, hY, kX, kY, -, -, b1⟩
  obtain rfl : X = [] := by simpa using kX
  obtain ⟨y, rfl⟩ : ∃ y, Y = [y] := by
    have h9 : Y.length = 1 := by have h8 := congrArg List.length kY; simpa using h8
    exact List.length_eq_one_iff.1 h9
  have ky : y.L.map Nd.sem = [(3, 0, 0), (6, 0, 0), (1, 0, 2), (2, 0, 0), (9, 0, 0), (7, 0, 0)] := by simpa [Sn.sem] using kY
  dsimp only
  rw [lexFault_none]
  unfold faultV fiV
  have b2 := below_alloc w1 (.cells #[.slice al 0 cl, .slice ao 1 co] 26)
  have b3 := below_alloc (w1.alloc (.cells #[.slice al 0 cl, .slice ao 1 co] 26)) (.cells #[.int .i64 0, .int .i64 0, .int .i64 0, .int .i64 0] 28)
  have HY := Lib.hid ((hY.later b2).later b3)
  have HB := Lib.hid (below_then (below_then b1 b2) b3)
  have HF := Lib.hid (blk_later (blk_new w1 #[.slice al 0 cl, .slice ao 1 co] 26) b3)
  have HR : Hid (((w1.alloc (.cells #[.slice al 0 cl, .slice ao 1 co] 26)).alloc (.cells #[.int .i64 0, .int .i64 0, .int .i64 0, .int .i64 0] 28)).heap[w1.heap.size + 1]? = some (.cells #[.int .i64 0, .int .i64 0, .int .i64 0, .int .i64 0] 28 (0, 0))) := Lib.hid (by
    have h9 := blk_new (w1.alloc (.cells #[.slice al 0 cl, .slice ao 1 co] 26)) #[.int .i64 0, .int .i64 0, .int .i64 0, .int .i64 0] 28
    rw [blk_size] at h9; exact h9)
  clear hX hY kX kY b1 b2 b3
  go_wp2_with fail
  refine (H2.out _).mono ?_
  rintro e w2 ⟨al2, cl2, X2, ao2, co2, Y2, rfl, hX2, hY2, -, -, -, -, b4⟩
  dsimp only
  rw [show lexFault 2 = faultV 1 0 0 2 from rfl]
  unfold faultV fiV
  have b5 := below_alloc w2 (.cells #[.slice al2 X2.length cl2, .slice ao2 Y2.length co2] 26)
  have b6 := below_alloc (w2.alloc (.cells #[.slice al2 X2.length cl2, .slice ao2 Y2.length co2] 26)) (.cells #[.int .i64 1, .int .i64 0, .int .i64 0, .int .i64 2] 28)
  have HYn := Lib.hid (((HY.out.later b4).later b5).later b6)
  have HB2 := Lib.hid (below_then (below_then (below_then HB.out b4) b5) b6)
  have HF2 := Lib.hid (blk_later (blk_later (blk_later HF.out b4) b5) b6)
  have HR2 := Lib.hid (blk_later (blk_later (blk_later HR.out b4) b5) b6)
  have HR3 : Hid (((w2.alloc (.cells #[.slice al2 X2.length cl2, .slice ao2 Y2.length co2] 26)).alloc (.cells #[.int .i64 1, .int .i64 0, .int .i64 0, .int .i64 2] 28)).heap[w2.heap.size + 1]? = some (.cells #[.int .i64 1, .int .i64 0, .int .i64 0, .int .i64 2] 28 (0, 0))) := Lib.hid (by
    have h9 := blk_new (w2.alloc (.cells #[.slice al2 X2.length cl2, .slice ao2 Y2.length co2] 26)) #[.int .i64 1, .int .i64 0, .int .i64 0, .int .i64 2] 28
    rw [blk_size] at h9; exact h9)
  clear hX2 hY2 b4 b5 b6 HY HB HF HR H1 H2
  obtain ⟨b, off, rfl, e0, hn⟩ := Sns.get HYn.out (j := 0) (x := y) rfl
  have hyn : y.n = 6 := by
    have h1 := hn.len
    have h2 := congrArg List.length ky
    simp at h2
    omega
  obtain ⟨z, hz⟩ : ∃ z, y.L[5]? = some z := ⟨y.L[5]'(by have := hn.len; omega), List.getElem?_eq_getElem _⟩
  have hzo : z.op = 7 := by
    have h1 := congrArg (fun l => l[5]?) ky
    simp only [List.getElem?_map, hz] at h1
    simp [Nd.sem] at h1
    exact h1.1
  obtain ⟨b', off', hya, g0, -, -, -⟩ := Nds.get hn hz
  rw [hya, hyn] at e0
  rw [hzo] at g0
  rw [Nat.add_zero] at e0
  obtain ⟨f0, f1⟩ := cells2 HF2.out
  obtain ⟨r0, r1, r2, r3⟩ := fault_cells18 HR2.out
  obtain ⟨s0, s1, s2, s3⟩ := fault_cells18 HR3.out
  have hbd := hn.bound
  have hbd2 := HYn.out.bound
  clear hn hz hzo hya ky
  go_wp2
  go_ret
  exact ⟨rfl, HB2.out⟩
end Go.Proofs.Ythblmpkdcahmkaa

/-
  The document's answer of layer 17: Codes, Size, SameField.
-/
namespace Go.Proofs.Ythblmpkdcahmkaa
open Go.RowKit

/-- Just these expressions, side by side. -/
def LstC (K : List Sn) (w : World) (e : Ending) (w' : World) : Prop :=
  ∃ (a : Option Addr) (n c : Nat), e = .returned (.slice a n c) ∧ Sns w' a n c K ∧ Below w.heap.size w w'
theorem sn_at {P : Program} {t e : TypeId} (ht : P.underlying t = some (.slice e)) (h : (P.info? e).map (fun i => (i.zero, i.size, i.bytes)) = some (some (.slice none 0 0), 1, 24)) : snK.toCls.At P t e :=
  Cls.atOf snK.toCls ht h rfl (fun u hu => by
    simp [Value.cells] at hu
    exact ⟨_, _, _, hu⟩)
theorem sn_news (w : World) (x : Sn) (e : TypeId) : ∀ j u, ([x].flatMap snK.cells)[j]? = some u → (w.alloc (.cells #[.slice x.a x.n x.c] e)).cell? ((⟨w.heap.size, 0, none⟩ : Addr).add j) = some u := Cls.news_one (C := snK.toCls) w x e
theorem infoCodes17 : (Try.prog.info? 45).map (fun i => (i.zero, i.size, i.bytes)) = some (some (.slice none 0 0), 1, 24) := by kernel_rfl
set_option maxRecDepth 4096 in
set_option maxHeartbeats 8000000 in
theorem ref17_codes (a : Option Addr) (n c : Nat) (K : List Lt) (b : Option Addr) (m d : Nat) (O : List Sn) (w : World) (h : Lts w a n c K) (h2 : Sns w b m d O) (hn : n ≤ 1000000) (hm : m ≤ 1000000) :
    Calls Try.prog 30 #[fiV a n c b m d] w (LstC (tCodes K O) w) := by
  have hA := sn_at Try.underlying32 infoCodes17
  have HKl := Lib.hid h.len
  have HOl := Lib.hid h2.len
  have hbd := h.bound
  have hbd2 := h2.bound
  have HK := Lib.hid h
  have HO := Lib.hid h2
  clear h h2
  go_enter Try.func30, Try.ntmps30
  unfold fiV
  go_wp2
  go_loopw [3, 4] (fun v iv wr => ∃ k : Nat, k ≤ n ∧ iv = .int .i64 (k : Int) ∧ Hid (snK.Mine wr (w.heap.size + 1) 45 v ((K.take k).map Lt.sn)) ∧ Hid (Below w.heap.size w wr) ∧ Hid (wr.heap[w.heap.size]? = some (.cells #[.slice a n c, .slice b m d] 34 (0, 0)))) (fun _ iv _ => n - (intOf iv).toNat)
  case atStart => exact ⟨0, by omega, by go_num, Lib.hid (Kin.Mine.nil _ _ _), Lib.hid (below_alloc _ _), Lib.hid (blk_new _ _ _)⟩
  case round =>
    obtain ⟨k, hk, rfl, HX, HB, HR⟩ := hrel
    obtain ⟨f0, f1⟩ := cells2 HR.out
    have hbs : w.heap.size + 1 ≤ wr.heap.size := (Array.getElem?_eq_some_iff.1 HR.out).1
    have HTl : Hid (((K.take k).map Lt.sn).length = k) := Lib.hid (by rw [List.length_map, List.length_take, HKl.out]; omega)
    by_cases hlt : k < n
    · have hki : (k : Int) < (n : Int) := by omega
      obtain ⟨x, hx⟩ := at_some HKl.out hlt
      obtain ⟨b0, off, rfl, e0, e1, hw2⟩ := Lts.get (Kin.All.later HK.out HB.out) hx
      have HN := Lib.hid hw2
      have HT2 : Hid ((K.take (k + 1)).map Lt.sn = (K.take k).map Lt.sn ++ [x.sn]) := Lib.hid (by rw [take_snoc hx]; simp)
      clear hw2 hx
      go_wp2_with (at_builtin; refine Kin.wpList_append hA rfl _ _ rfl (w.heap.size + 1) _ ((K.take k).map Lt.sn) rfl (Kin.Mine.later HX.out (below_alloc wr _)) ⟨wr.heap.size, 0, none⟩ 1 1 [x.sn] rfl rfl (sn_news wr x.sn _) (fun y hy => by rw [List.mem_singleton.1 hy]; exact Kin.All.later HN.out (below_alloc wr _)) (by rw [HTl.out]; unfold maxLen; omega) (by rw [HTl.out]; show (k + 1) * 24 ≤ _; omega) (by simp; omega) ?_)
      intro v' w5 hrow hgrow hnew
      have HX5 := Lib.hid hrow
      have HB5 : Hid (Below w.heap.size w w5) := Lib.hid ((below_then HB.out (below_alloc wr _)).grown hgrow (by simp; omega) (fun g hg => by have := Kin.Mine.base HX.out g hg; omega))
      have HR5 := Lib.hid (blk_stays (blk_later HR.out (below_alloc wr _)) hgrow (fun g hg => by have := Kin.Mine.base HX.out g hg; omega))
      clear hrow hgrow hnew
      go_wp2
      go_roundw
      case rel => exact ⟨k + 1, by omega, by go_num, Lib.hid (by rw [HT2.out, List.map_take]; exact HX5.out), HB5, HR5⟩
      case measure => simp [intOf]; omega
    · obtain rfl : k = n := by omega
      have htk : K.take k = K := List.take_of_length_le (by rw [HKl.out]; exact Nat.le_refl _)
      rw [htk] at HX HTl
      have HO9 := Lib.hid (Kin.All.later HO.out HB.out)
      clear htk
      cases b with
      | none =>
        have hd0 : d = 0 := HO.out.1.2.2.2.1 rfl
        have hm0 : m = 0 := by omega
        subst hd0 hm0
        obtain rfl : O = [] := List.eq_nil_of_length_eq_zero HOl.out
        go_wp2_with (at_builtin; refine Kin.wpList_append_none hA rfl _ _ rfl (w.heap.size + 1) _ (K.map Lt.sn) rfl HX.out rfl ?_)
        go_wp2
        go_ret
        obtain ⟨a9, c9, rfl, h9⟩ := HX.out.slice
        exact ⟨a9, _, c9, rfl, by unfold tCodes; rw [List.append_nil]; exact h9, HB.out⟩
      | some ad =>
        by_cases hm0 : m = 0
        · subst hm0
          obtain rfl : O = [] := List.eq_nil_of_length_eq_zero HOl.out
          go_wp2_with (at_builtin; refine Kin.wpList_append hA rfl _ _ rfl (w.heap.size + 1) _ (K.map Lt.sn) rfl HX.out ad 0 d [] rfl rfl (fun j u hu => by simp at hu) (fun y hy => by cases hy) (by rw [HTl.out]; unfold maxLen; omega) (by rw [HTl.out]; show (k + 0) * 24 ≤ _; omega) hbs ?_)
          intro v' w5 hrow hgrow hnew
          have HX5 := Lib.hid hrow
          have HB5 : Hid (Below w.heap.size w w5) := Lib.hid (HB.out.grown hgrow (by omega) (fun g hg => by have := Kin.Mine.base HX.out g hg; omega))
          clear hrow hgrow hnew
          go_wp2
          go_ret
          obtain ⟨a9, c9, rfl, h9⟩ := HX5.out.slice
          exact ⟨a9, _, c9, rfl, (by unfold tCodes; rw [List.append_nil]; simpa using h9), HB5.out⟩
        · obtain ⟨b0, off, e9, _⟩ := HO9.out.1.at (by omega)
          obtain rfl := Option.some.inj e9
          go_wp2_with (at_builtin; refine Kin.wpList_append hA rfl _ _ rfl (w.heap.size + 1) _ (K.map Lt.sn) rfl HX.out ⟨b0, off, none⟩ m d O rfl HOl.out HO9.out.1.news HO9.out.2 (by rw [HTl.out]; unfold maxLen; omega) (by rw [HTl.out]; show (k + m) * 24 ≤ _; omega) hbs ?_)
          intro v' w5 hrow hgrow hnew
          have HX5 := Lib.hid hrow
          have HB5 : Hid (Below w.heap.size w w5) := Lib.hid (HB.out.grown hgrow (by omega) (fun g hg => by have := Kin.Mine.base HX.out g hg; omega))
          clear hrow hgrow hnew
          go_wp2
          go_ret
          obtain ⟨a9, c9, rfl, h9⟩ := HX5.out.slice
          exact ⟨a9, _, c9, rfl, h9, HB5.out⟩
/-- How many nodes some expressions have. -/
def tSize (K : List Sn) : Nat := (K.map fun x => x.n).sum
theorem tSize_le {K : List Sn} {N : Nat} (h : ∀ x ∈ K, x.n ≤ N) : tSize K ≤ K.length * N := by
  induction K with
  | nil => exact Nat.zero_le _
  | cons x r ih =>
    have h1 := h x (by simp)
    have h2 := ih fun y hy => h y (by simp [hy])
    unfold tSize at h2 ⊢
    rw [List.map_cons, List.sum_cons, List.length_cons, Nat.add_mul]
    omega
theorem tSize_snoc (K : List Sn) (x : Sn) : tSize (K ++ [x]) = tSize K + x.n := by unfold tSize; simp
end Go.Proofs.Ythblmpkdcahmkaa
