/-
  Several texts of this claim as one, group 22.
-/
import Derived.Test.YtjeigdlhjghinaaGreatDoorG21
import Derived.Test.YtjeigdlhjghinaaGreatDoorG19
import Derived.Test.YtjeigdlhjghinaaGreatDoorG8
import Derived.RangeFuncBox
import Derived.OwnWalkIn
import Derived.Test.YtjeigdlhjghinaaGreatDoorG10
import Derived.Test.YtjeigdlhjghinaaGreatDoorG3
import Derived.Test.YtjeigdlhjghinaaGreatDoorG18
import Derived.Shelf.Strings.Search3
import Derived.RangeFuncOwn
import Derived.RangeFuncCalls
import Derived.RangeFuncLeaves
import Derived.Shelf.Abstract
import Derived.Shelf.RegionOpen
import Derived.WalkKit
import Derived.TacticsInMore
import Derived.LoopNIn
import Derived.LoopIn
/-
  Package row at this seat: what Read keeps between its rounds; an append within a fence. Of no program.
-/
namespace Go.Proofs.YtjeigdlhjghinaaGreatDoor
open Go.RowKit

def offOf : List (List UInt8) → Nat
  | [] => 0
  | p :: r => p.length + 1 + offOf r
theorem offOf_append : ∀ a b : List (List UInt8), offOf (a ++ b) = offOf a + offOf b
  | [], b => by show offOf b = 0 + offOf b; omega
  | p :: r, b => by
    show p.length + 1 + offOf (r ++ b) = p.length + 1 + offOf r + offOf b
    rw [offOf_append r b]; omega
theorem offOf_more (a : List (List UInt8)) (p : List UInt8) : offOf (a ++ [p]) = offOf a + (p.length + 1) := by
  rw [offOf_append]; rfl
theorem offOf_pieces : ∀ {l : List UInt8}, offOf (pieces l) = l.length + 1 := by
  intro l
  induction hn : l.length using Nat.strongRecOn generalizing l with
  | ind n ih =>
    by_cases hc : commaAt l < l.length
    · rw [pieces_more hc]
      have h1 := ih (l.drop (commaAt l + 1)).length (by rw [List.length_drop]; omega) rfl
      show (l.take (commaAt l)).length + 1 + offOf (pieces (l.drop (commaAt l + 1))) = n + 1
      rw [h1, List.length_take, List.length_drop]
      omega
    · have := commaAt_le l
      rw [pieces_one (by omega)]
      show l.length + 1 + 0 = n + 1
      omega
theorem offOf_prefix {a b : List (List UInt8)} (h : a <+: b) : offOf a ≤ offOf b := by
  obtain ⟨c, rfl⟩ := h
  rw [offOf_append]; omega
theorem offOf_ge : ∀ a : List (List UInt8), a.length ≤ offOf a
  | [] => Nat.le_refl _
  | p :: r => by
    have := offOf_ge r
    show r.length + 1 ≤ p.length + 1 + offOf r
    omega
theorem good_kind : ∀ {a b : List (List UInt8)} (off : Nat), (∀ p ∈ a, figKind p = 0) → kindOf (a ++ b) = kindOf b ∧ placeOf off (a ++ b) = placeOf (off + offOf a) b
  | [], b, off, _ => ⟨rfl, by show placeOf off b = placeOf (off + 0) b; rw [Nat.add_zero]⟩
  | p :: r, b, off, h => by
    have hp := h p (List.mem_cons_self ..)
    obtain ⟨h1, h2⟩ := good_kind (a := r) (b := b) (off + p.length + 1) (fun x hx => h x (List.mem_cons_of_mem _ hx))
    refine ⟨?_, ?_⟩
    · show kindOf (p :: (r ++ b)) = _
      rw [kindOf, if_neg (by rw [hp]; exact fun e => e rfl)]; exact h1
    · show placeOf off (p :: (r ++ b)) = placeOf (off + (p.length + 1 + offOf r)) b
      rw [placeOf, if_neg (by rw [hp]; exact fun e => e rfl), h2]
      congr 1; omega
theorem read_good {l : List UInt8} (hl : l ≠ []) (h : ∀ p ∈ pieces l, figKind p = 0) : rowKind l = 0 ∧ rowPlace l = 0 ∧ rowVals l = (pieces l).map figVal := by
  have hk : kindOf (pieces l) = 0 := by
    have h1 := (good_kind (b := []) 0 h).1
    rw [List.append_nil] at h1
    rw [h1]; rfl
  refine ⟨?_, ?_, ?_⟩
  · unfold rowKind; rw [if_neg hl]; exact hk
  · unfold rowPlace; rw [if_neg hl]; exact place_none _ _ hk
  · unfold rowVals; rw [if_neg (by rintro (h | h); exact hl h; exact h hk)]
theorem read_bad {l : List UInt8} (hl : l ≠ []) {pre : List (List UInt8)} {p : List UInt8} (hp : pre ++ [p] <+: pieces l) (h : ∀ x ∈ pre, figKind x = 0) (hk : figKind p ≠ 0) : rowKind l = figKind p ∧ rowPlace l = (offOf pre : Int) + figPlace p ∧ rowVals l = [] := by
  obtain ⟨r, hr⟩ := hp
  rw [List.append_assoc] at hr
  obtain ⟨h1, h2⟩ := good_kind (b := [p] ++ r) 0 h
  rw [hr] at h1 h2
  have h3 : kindOf ([p] ++ r) = figKind p := by
    show kindOf (p :: r) = _
    rw [kindOf, if_pos hk]
  have h4 : placeOf (0 + offOf pre) ([p] ++ r) = (offOf pre : Int) + figPlace p := by
    show placeOf _ (p :: r) = _
    rw [placeOf, if_pos hk, Nat.zero_add]
  rw [h3] at h1
  rw [h4] at h2
  refine ⟨?_, ?_, ?_⟩
  · unfold rowKind; rw [if_neg hl]; exact h1
  · unfold rowPlace; rw [if_neg hl]; exact h2
  · unfold rowVals; rw [if_pos (.inr (by rw [h1]; exact hk))]
theorem fig_none (p : List UInt8) (h : figKind p = 0) : figPlace p = 0 := by
  unfold figKind at h
  unfold figPlace
  split
  · rename_i h1; rw [if_pos h1] at h; exact absurd h (by decide)
  · rename_i h1
    rw [if_neg h1] at h
    split
    · rfl
    · rename_i h2
      rw [if_neg h2] at h
      split
      · rename_i h3; rw [if_pos h3] at h; exact absurd h (by decide)
      · rename_i h3
        rw [if_neg h3] at h
        split
        · rename_i h4; rw [if_pos h4] at h; exact absurd h (by decide)
        · rfl
theorem clean_other {A : World} {X : Nat} {o : Obj} (h : A.heap[X]? = some o) (ho : o.isCells = false) (n c : Nat) : clean A (.slice (some ⟨X, 0, none⟩) n c) := fun g hg j k hk => by
  simp [Value.ownBlock] at hg
  subst hg
  obtain ⟨o2, h2, h3⟩ := cells_of_cell hk
  rw [show A.heap[X]? = _ from h] at h2
  cases h2
  rw [ho] at h3
  cases h3
/-- A row stays where another block, below its base, is turned that holds no words. -/
theorem Row.turned {w w' : World} {base : Nat} {e : TypeId} {v : Value} {qs : List Rat} (h : Row w base e v qs) {X : Nat} (hX : X < base) (hc : clean w (.slice (some ⟨X, 0, none⟩) 1 1)) (hg : w.grownBy w' (some X)) : Row w' base e v qs := by
  obtain ⟨L, h1, h2, h3⟩ := h
  refine ⟨L, h1.kept (fun k hk hlt => hg.block k hlt (fun e => by simp at e; omega)), h2, fun x hx => ⟨Fx.aside (h3 x hx).1 hc hg, (h3 x hx).2⟩⟩
theorem Row.own_cells {w : World} {base : Nat} {e : TypeId} {v : Value} {qs : List Rat} (h : Row w base e v qs) : ∀ k, v.ownBlock = some k → base ≤ k ∧ ∃ o, w.heap[k]? = some o ∧ o.isCells = true := by
  obtain ⟨L, ⟨h1, _⟩, _⟩ := h
  intro k hk
  rcases h1.2 with ⟨rfl, _⟩ | ⟨g, cap, cur, rfl, hb, hgg, _⟩
  · simp [Value.ownBlock] at hk
  · simp [Value.ownBlock] at hk
    subst hk
    exact ⟨hb, _, hgg, rfl⟩
theorem Rounds.refl (N B : Nat) (W : World) : Rounds N B W W := ⟨fun _ _ _ h _ => h, rfl⟩
theorem Rounds.later {N B : Nat} {W A A' : World} (h : Rounds N B W A) (hb : Below A.heap.size A A') (hB : B < A.heap.size) : Rounds N B W A' :=
  ⟨fun k o hk h1 h2 => blk_later (h.1 k o hk h1 h2) hb, (hb.cell (p := ⟨B, 0, none⟩) hB).trans h.2⟩
theorem Rounds.grown {N B : Nat} {W A A' : World} (h : Rounds N B W A) {row : Option Nat} (hg : A.grownBy A' row) (hrow : ∀ k, row = some k → k ≠ B ∧ ∃ o, A.heap[k]? = some o ∧ o.isCells = true) (hB : B < A.heap.size) : Rounds N B W A' := by
  refine ⟨fun k o hk h1 h2 => ?_, ?_⟩
  · have h3 := h.1 k o hk h1 h2
    refine (hg.block k (Array.getElem?_eq_some_iff.1 h3).1 (fun e => ?_)).trans h3
    obtain ⟨_, o2, h4, h5⟩ := hrow k e.symm
    rw [h3] at h4
    cases h4
    rw [h2] at h5
    cases h5
  · exact (World.cell?_of_block (hg.block B hB (fun e => (hrow B e.symm).1 rfl))).trans h.2
theorem Rounds.set {N B : Nat} {W A : World} (h : Rounds N B W A) {g : Nat} (hg : g < N) (hgB : g ≠ B) (j : Nat) (v : Value) : Rounds N B W (A.setCell ⟨g, j, none⟩ v) :=
  ⟨fun k o hk h1 h2 => (Below.heap_setCell A ⟨g, j, none⟩ v k (show k ≠ g by omega)).trans (h.1 k o hk h1 h2), (World.cell?_of_block (Below.heap_setCell A ⟨g, j, none⟩ v B (fun e => hgB e.symm))).trans h.2⟩
theorem run_append_clean {P : Program} (w : World) (t ty : TypeId)
    (base : Nat) (e : TypeId) (i : TypeInfo) (z : Value) (size bytes : Nat) (ht : P.underlying t = some (.slice e)) (hi : P.info? e = some i) (hz : i.zero = some z)
    (hsize : i.size = size) (hby : i.bytes = bytes) (hzs : z.cells.size = size) (hsz : 0 < size)
    (v : Value) (n : Nat) (xs : List Value) (hown : w.ownsRow base e size v n xs)
    (ad : Addr) (m c : Nat) (news : List Value) (hl : news.length = m * size) (hnews : ∀ j u, news[j]? = some u → w.cell? (ad.add j) = some u) (h1 : ∀ u ∈ news, u.oneCell' = true)
    (h63 : n + m ≤ maxLen) (hbytes : (n + m) * bytes ≤ 140737488355328) (hbase : base ≤ w.heap.size) (hm : 0 < m) (hcl : clean w v) (hzc : noWords z.cells.toList) (hnc : noWords news) (hxc : noWords xs) :
    ∃ v' w', (Builtin.append_ #[t, t] ty #[v, .slice (some ad) m c]).run P w = .ok v' w' ∧ w'.ownsRow base e size v' (n + m) (xs ++ news) ∧ w.grownBy w' v.ownBlock ∧ clean w' v' := by
  obtain ⟨v', w', hr, h2, h3, h4⟩ := run_append_own (P := P) w base t ty e i z size bytes ht hi hz hsize hby hzs hsz v n xs hown ad m c news hl hnews h1 h63 hbytes hbase
  refine ⟨v', w', hr, h2, h3, ?_⟩
  subst hsize hby
  rcases hown.2 with ⟨rfl, rfl⟩ | ⟨g, cap, cur, rfl, hbg, hg, hnc', hcm, hcs, htake⟩
  · have er := run_append_nil (P := P) w t ty e i z ht hi hz ad m c news hl hnews hm (by simp only [maxLen] at h63; omega) (by simp only [Nat.zero_add] at hbytes; omega)
    rw [er] at hr
    simp only [Result.ok.injEq] at hr
    obtain ⟨rfl, rfl⟩ := hr
    exact clean_block (heap_alloc_new w.drew _) (by simp only [Array.toList_append]; exact noWords_append hnc (noWords_zeros hzc _))
  · by_cases hroom : n + m ≤ cap
    · have er := run_append_room (P := P) w t ty e i ht hi g n cap cur hg ad m c news hl hnews h1 hroom (by rw [hl, hcs, ← Nat.add_mul]; exact Nat.mul_le_mul_right _ hroom)
      rw [er] at hr
      simp only [Result.ok.injEq] at hr
      obtain ⟨rfl, rfl⟩ := hr
      have hcu : noWords cur.toList := fun u hu k e2 => by
        obtain ⟨j, hj, e3⟩ := List.getElem_of_mem hu
        refine hcl g rfl j k ?_
        rw [cell_of_row w g j cur e (0, 0) hg, ← e2, ← e3]
        simp
      refine clean_block (setRow_heap w g cur _ e _ hg) ?_
      refine noWords_append (noWords_append (fun u hu => hcu u (List.mem_of_mem_take hu)) hnc) (fun u hu => hcu u (List.mem_of_mem_drop hu))
    · have holds : ∀ j u, xs[j]? = some u → w.cell? ((⟨g, 0, none⟩ : Addr).add j) = some u := hown.cells (g := g) rfl
      have er := run_append_grow (P := P) w t ty e i z ht hi hz ⟨g, 0, none⟩ n cap xs hown.1 holds ad m c news hl hnews (by omega) (by simp only [maxLen] at h63; omega) (growslice_fits (by omega) hbytes)
      rw [er] at hr
      simp only [Result.ok.injEq] at hr
      obtain ⟨rfl, rfl⟩ := hr
      exact clean_block (heap_alloc_new w.drew _) (by simp only [Array.toList_append]; exact noWords_append (noWords_append hxc hnc) (noWords_zeros hzc _))
theorem run_append_row {P : Program} (w : World) (base : Nat) (t ty e : TypeId) (i : TypeInfo) (ht : P.underlying t = some (.slice e)) (hi : P.info? e = some i) (hz : i.zero = some (.agg #[.bool false, .slice none 0 0, .slice none 0 0]))
    (hsize : i.size = 3) (hby : i.bytes = 56) (v : Value) (qs : List Rat) (hrow : Row w base e v qs)
    (ad : Addr) (q : Rat) (a : Option Addr) (n c : Nat) (b : Option Addr) (m d : Nat)
    (hnews : ∀ j u, (rx q a n c b m d).cells[j]? = some u → w.cell? (ad.add j) = some u) (ha : Wd w a n c (dg q.num.natAbs)) (hb : Wd w b m d (dg q.den))
    (hlen : qs.length ≤ 1000000) (hbase : base ≤ w.heap.size) :
    ∃ v' w', (Builtin.append_ #[t, t] ty #[v, .slice (some ad) 1 1]).run P w = .ok v' w' ∧ Row w' base e v' (qs ++ [q]) ∧ w.grownBy w' v.ownBlock := by
  obtain ⟨L, ⟨h1, hcl⟩, h2, h3⟩ := hrow
  have hl : L.length = qs.length := by rw [← h2, List.length_map]
  have hzc : noWords (Value.agg #[.bool false, .slice none 0 0, .slice none 0 0]).cells.toList := by
    intro u hu k
    simp [Value.cells] at hu
    rcases hu with rfl | rfl <;> simp
  obtain ⟨v', w', hr, r2, r3, h5⟩ := run_append_clean (P := P) w t ty base e i (.agg #[.bool false, .slice none 0 0, .slice none 0 0]) 3 56 ht hi hz hsize hby rfl (by decide) v L.length (L.flatMap Fx.cells) h1 ad 1 1 (rx q a n c b m d).cells rfl hnews (cells_one _) (by unfold maxLen; omega) (by omega) hbase (by decide) hcl hzc (noWords_cells _) (noWords_flat _)
  refine ⟨v', w', hr, ⟨L ++ [rx q a n c b m d], ⟨by simpa [List.flatMap_append] using r2, h5⟩, by rw [List.map_append, h2]; simp [rx_q], fun y hy => ?_⟩, r3⟩
  rcases List.mem_append.1 hy with hy | hy
  · exact ⟨Fx.aside (h3 y hy).1 hcl r3, (h3 y hy).2⟩
  · rw [List.mem_singleton.1 hy]
    exact ⟨⟨ha.aside hcl r3, hb.aside hcl r3⟩, rx_right _ _ _ _ _ _ _⟩
theorem wpListIn_append_row {F : Fence} {nn : Nat} {P : Program} (w : World) {ops : Array Oper} {rest : List Oper} {o : Oper} {act : Act} {Q : Exit → Act → World → Prop}
    (hgd : o.guard = none) (s x : Operand) (t : TypeId) (hop : o.op = Op.call { callee := Callee.builtin Builtin.append, args := #[s, x], argTypes := #[t, t] })
    (base : Nat) (e : TypeId) (i : TypeInfo) (ht : P.underlying t = some (.slice e)) (hi : P.info? e = some i) (hz : i.zero = some (.agg #[.bool false, .slice none 0 0, .slice none 0 0]))
    (hsize : i.size = 3) (hby : i.bytes = 56) (v : Value) (qs : List Rat) (hs : act.eval s = v) (hrow : Row w base e v qs)
    (ad : Addr) (q : Rat) (a : Option Addr) (n c : Nat) (b : Option Addr) (m d : Nat) (hx : act.eval x = .slice (some ad) 1 1)
    (hnews : ∀ j u, (rx q a n c b m d).cells[j]? = some u → w.cell? (ad.add j) = some u) (ha : Wd w a n c (dg q.num.natAbs)) (hb : Wd w b m d (dg q.den))
    (hlen : qs.length ≤ 1000000) (hbase : base ≤ w.heap.size)
    (hK : ∀ g cap w', Row w' base e (.slice (some ⟨g, 0, none⟩) (qs.length + 1) cap) (qs ++ [q]) → w.grownBy w' v.ownBlock → wpListIn F nn P ops Q rest (act.put o.dst (.slice (some ⟨g, 0, none⟩) (qs.length + 1) cap)) w') :
    wpListIn F nn P ops Q (o :: rest) act w := by
  refine wpListIn_plain hgd fun K hK' => ?_
  obtain ⟨v', w', hrun, r1, r2⟩ := run_append_row (P := P) w base t o.type e i ht hi hz hsize hby v qs hrow ad q a n c b m d hnews ha hb hlen hbase
  obtain ⟨g, cap, rfl, -, -⟩ := r1.form (by rw [List.length_append]; exact Nat.succ_pos _)
  rw [List.length_append] at hrun r1
  unfold Oper.wpIn
  refine ⟨?_, ?_⟩
  · simp [Oper.about, hop, resolve, Target.leads, Sem.run_pure]
  · rw [Oper.semAt_plain F _ _ (by rw [hop]; intro c hc'; cases hc')]
    simp [execOp, hop, resolve, invoke, builtin, hs, hx, hrun, Result.andThen]
    exact hK' _ _ (hK g cap w' r1 r2)
end Go.Proofs.YtjeigdlhjghinaaGreatDoor

/-
  Package row at this seat: strings.SplitSeq by a comma: the library's own text, walked: what it hands to the rounds.
-/
namespace Go.Proofs.YtjeigdlhjghinaaGreatDoor
open Go.RowKit Go.Shelf
attribute [local go_sem] Oper.semAt_some

theorem index_comma : ∀ l : List UInt8, Lib.indexByte l 44 = if commaAt l < l.length then ((commaAt l : Nat) : Int) else -1
  | [] => rfl
  | x :: r => by
    have ih := index_comma r
    have hle := commaAt_le r
    unfold Lib.indexByte
    rw [commaAt]
    by_cases h : x.toNat = 44
    · have hx : (x == 44) = true := by rw [show x = 44 from UInt8.toNat_inj.1 h]; rfl
      rw [if_pos hx, if_pos h, List.length_cons, if_pos (by omega)]; rfl
    · have hx : ¬ (x == 44) = true := fun e => h (by rw [beq_iff_eq.1 e]; rfl)
      rw [if_neg hx, if_neg h, ih, List.length_cons]
      by_cases hr : commaAt r < r.length
      · rw [if_pos hr, if_pos (show commaAt r + 1 < r.length + 1 by omega), if_neg (by intro e; have := beq_iff_eq.1 e; omega)]; omega
      · rw [if_neg hr, if_neg (show ¬ commaAt r + 1 < r.length + 1 by omega)]; rfl
def row_index_ren : Go.Shelf.Ren := ⟨fun | 143 => 143 | 217 => 189 | 219 => 170 | 224 => 173 | 225 => 174 | 266 => 201 | 267 => 190 | 314 => 202 | n => n, fun | 3 => 3 | 4 => 4 | 5 => 5 | 9 => 9 | 46 => 164 | 51 => 91 | 146 => 161 | n => n, fun | 1 => 2 | n => n⟩
theorem row_index : Go.Proofs.Lays.n143 Tryz.prog row_index_ren := {
  mixed := by kernel_rfl
  f143 := Tryz.func143.trans (congrArg some (by kernel_rfl))
  f217 := Tryz.func189.trans (congrArg some (by kernel_rfl))
  f219 := Tryz.func170.trans (congrArg some (by kernel_rfl))
  f224 := Tryz.func173.trans (congrArg some (by kernel_rfl))
  f225 := Tryz.func174.trans (congrArg some (by kernel_rfl))
  f266 := Tryz.func201.trans (congrArg some (by kernel_rfl))
  f267 := Tryz.func190.trans (congrArg some (by kernel_rfl))
  f314 := Tryz.func202.trans (congrArg some (by kernel_rfl))
  t3 := Tryz.underlying3
  a3 := Tryz.isAgg3
  z3 := Tryz.sizeOf3
  v3 := Tryz.zeroValue3
  t4 := Tryz.underlying4
  a4 := Tryz.isAgg4
  z4 := Tryz.sizeOf4
  v4 := Tryz.zeroValue4
  t5 := Tryz.underlying5
  a5 := Tryz.isAgg5
  z5 := Tryz.sizeOf5
  v5 := Tryz.zeroValue5
  t9 := Tryz.underlying9
  a9 := Tryz.isAgg9
  z9 := Tryz.sizeOf9
  v9 := Tryz.zeroValue9
  t46 := Tryz.underlying164
  a46 := Tryz.isAgg164
  z46 := Tryz.sizeOf164
  v46 := Tryz.zeroValue164
  t51 := Tryz.underlying91
  a51 := Tryz.isAgg91
  z51 := Tryz.sizeOf91
  v51 := Tryz.zeroValue91
  t146 := Tryz.underlying161
  a146 := Tryz.isAgg161
  z146 := Tryz.sizeOf161
  v146 := Tryz.zeroValue161
  g1 := by kernel_rfl }
theorem row_index_at (l : List UInt8) (w : World) : Calls Tryz.prog 143 #[.string (bs l), .string ⟨#[44]⟩] w (fun e w' => e = .returned (.int .i64 (if commaAt l < l.length then ((commaAt l : Nat) : Int) else -1)) ∧ w' = w) := by
  refine (Any.strings_Index_one row_index (bs l) 44 w).mono fun e w' ⟨he, hw⟩ => ⟨?_, hw⟩
  rw [he, ← index_comma]; rfl
set_option maxRecDepth 4096 in
theorem row_splitSeq (s sep : ByteArray) (w : World) : Calls Tryz.prog 103 #[.string s, .string sep, .int .i64 0] w (fun e w' => e = .returned (.func (.func 141) #[] #[.pointer (some ⟨w.heap.size + 1, 0, none⟩), .pointer (some ⟨w.heap.size, 0, none⟩), .pointer (some ⟨w.heap.size + 1 + 1, 0, none⟩)]) ∧ w' = ((w.alloc (.cells #[.string s] 9)).alloc (.cells #[.string sep] 9)).alloc (.cells #[.int .i64 0] 3)) := by
  go_enter Tryz.func103, Tryz.ntmps103
  go_wp2
  go_ret
  exact ⟨rfl, rfl⟩
theorem row_SplitSeq (s sep : ByteArray) (w : World) : Calls Tryz.prog 71 #[.string s, .string sep] w (fun e w' => e = .returned (.func (.func 141) #[] #[.pointer (some ⟨w.heap.size + 1, 0, none⟩), .pointer (some ⟨w.heap.size, 0, none⟩), .pointer (some ⟨w.heap.size + 1 + 1, 0, none⟩)]) ∧ w' = ((w.alloc (.cells #[.string s] 9)).alloc (.cells #[.string sep] 9)).alloc (.cells #[.int .i64 0] 3)) := by
  go_enter Tryz.func71, Tryz.ntmps71
  go_wp2_with fail
  refine (row_splitSeq s sep _).mono ?_
  rintro e w1 ⟨rfl, rfl⟩
  go_wp2
  go_ret
  exact ⟨rfl, rfl⟩
/-- How long the text is that a box holds. -/
def heldLen (w : World) (B : Nat) : Nat := match w.cell? ⟨B, 0, none⟩ with
  | some (.string x) => x.size
  | _ => 0
theorem heldLen_eq {w : World} {B : Nat} {l : List UInt8} (h : w.cell? ⟨B, 0, none⟩ = some (.string (bs l))) : heldLen w B = l.length := by
  unfold heldLen
  rw [h]
  exact bs_size l
set_option maxRecDepth 100000 in
set_option maxHeartbeats 4000000 in
theorem row_split (l B : Nat) (ll : List UInt8) (J : List (List UInt8) → World → Prop) (Jx : World → Prop) (W0 : World)
    (hst : ∀ pre A x, J pre A → J pre (A.setCell ⟨B, 0, none⟩ (.string x)))
    (hbox : ∀ pre A, J pre A → A.cell? ⟨B + 1, 0, none⟩ = some (.string ⟨#[44]⟩) ∧ A.cell? ⟨B + 1 + 1, 0, none⟩ = some (.int .i64 0) ∧ A.frozen? ⟨B, 0, none⟩ = false)
    (hY : ∀ pre p A, J pre A → pre ++ [p] <+: pieces ll → YieldAt Fence.wide 1 Tryz.prog l #[.string (bs p)] A (fun e A' => (e = .returned (.bool true) ∧ J (pre ++ [p]) A' ∧ A'.cell? ⟨B, 0, none⟩ = A.cell? ⟨B, 0, none⟩) ∨ (e = .returned (.bool false) ∧ Jx A')))
    (hll : ll.length ≤ 1000000) (h0 : J [] W0) (hs : W0.cell? ⟨B, 0, none⟩ = some (.string (bs ll))) :
    CallsIn Fence.wide 2 Tryz.prog 141 #[.func (.yield l) #[] #[], .pointer (some ⟨B + 1, 0, none⟩), .pointer (some ⟨B, 0, none⟩), .pointer (some ⟨B + 1 + 1, 0, none⟩)] W0 (fun e W' => (∃ v, e = .returned v) ∧ (J (pieces ll) W' ∨ Jx W')) := by
  have HST := Lib.hid hst
  have HBX := Lib.hid hbox
  have HYY := Lib.hid hY
  have H0 := Lib.hid h0
  have HS0 := Lib.hid hs
  obtain ⟨k1, k2, k3⟩ := hbox [] W0 h0
  clear hst hbox hY h0 hs
  refine callsIn_of_wp Tryz.func141 rfl trivial ?_ rfl
  simp only [Tryz.ntmps141, List.size_toArray, List.length_cons, List.length_nil, Nat.reduceAdd, Nat.reduceSub, Array.replicate_succ, Array.replicate_zero, List.push_toArray, List.append_toArray, List.nil_append, List.cons_append]
  gi_wp2
  clear k1 k2 k3
  gi_loopw [] (fun wr => ∃ (pre : List (List UInt8)) (rest : List UInt8), rest.length ≤ 1000000 ∧ Hid (pieces ll = pre ++ pieces rest) ∧ Hid (wr.cell? ⟨B, 0, none⟩ = some (.string (bs rest))) ∧ Hid (J pre wr)) (fun wr => heldLen wr B)
  case atStart => exact ⟨[], ll, hll, Lib.hid rfl, HS0, H0⟩
  case round =>
    obtain ⟨pre, rest, hrl, HP, HS, HJ⟩ := hrel
    obtain ⟨k1, k2, k3⟩ := HBX.out pre wr HJ.out
    have k0 := HS.out
    have hz := bs_size rest
    have hcl := commaAt_le rest
    by_cases hc : commaAt rest < rest.length
    · have hpm := pieces_more hc
      have HPM : Hid (pieces rest = rest.take (commaAt rest) :: pieces (rest.drop (commaAt rest + 1))) := Lib.hid hpm
      have hif : (if commaAt rest < rest.length then ((commaAt rest : Nat) : Int) else -1) = ((commaAt rest : Nat) : Int) := if_pos hc
      have HIX := Lib.hid (show ∀ w' : World, Calls Tryz.prog 143 #[.string (bs rest), .string ⟨#[44]⟩] w' (fun e w'' => e = .returned (.int .i64 ((commaAt rest : Nat) : Int)) ∧ w'' = w') from fun w' => by
        have h9 := row_index_at rest w'
        rwa [hif] at h9)
      obtain ⟨c, hce⟩ : ∃ c, commaAt rest = c := ⟨_, rfl⟩
      rw [hce] at HPM HIX hc hcl
      have et := bs_take rest c
      have ed := bs_drop rest (c + 1)
      have HPRE : Hid (pre ++ [rest.take c] <+: pieces ll) := Lib.hid ⟨pieces (rest.drop (c + 1)), by rw [HP.out, HPM.out]; simp⟩
      obtain ⟨fn, tmps, assign, body, hy, hR⟩ := HYY.out pre (rest.take c) wr HJ.out HPRE.out
      have HRR := Lib.hid hR
      have hc0 : (0 : Int) ≤ (c : Int) := by omega
      have hc1 : (c : Int) ≤ (rest.length : Int) := by omega
      have hc2 : (c : Int) + 1 ≤ (rest.length : Int) := by omega
      have hc3 : (0 : Int) ≤ (c : Int) + 1 := by omega
      have hw0 : wrap64 (c : Int) = (c : Int) := by unfold wrap64; omega
      have hw1 : wrap64 ((c : Int) + 1) = (c : Int) + 1 := by unfold wrap64; omega
      have hn0 : ((c : Int) + 1).toNat = c + 1 := by omega
      clear hpm hif hce hR
      gi_wp2_with (first
        | (refine ⟨trivial, ?_⟩; gi_at_call 143; refine (callsIn_wide.2 (HIX.out _)).mono ?_; rintro e w' ⟨rfl, rfl⟩))
      refine HRR.out.mono ?_
      rintro e W3 (⟨rfl, hJ3, hk3⟩ | ⟨rfl, hx3⟩)
      · have HJ3 := Lib.hid hJ3
        clear k0 k1 k2 k3 hJ3
        have k0 := hk3.trans HS.out
        obtain ⟨k1, k2, k3⟩ := HBX.out _ W3 HJ3.out
        have HS9 : Hid ((W3.setCell ⟨B, 0, none⟩ (.string (bs (rest.drop (c + 1))))).cell? ⟨B, 0, none⟩ = some (.string (bs (rest.drop (c + 1))))) := Lib.hid (World.cell?_setCell_same _ _ _ k0)
        have HJ9 := Lib.hid (HST.out _ W3 (bs (rest.drop (c + 1))) HJ3.out)
        have HP9 : Hid (pieces ll = (pre ++ [rest.take c]) ++ pieces (rest.drop (c + 1))) := Lib.hid (by rw [HP.out, HPM.out]; simp)
        have hl9 : (rest.drop (c + 1)).length = rest.length - (c + 1) := List.length_drop
        have HM9 := Lib.hid (heldLen_eq HS9.out)
        have HM8 := Lib.hid (heldLen_eq HS.out)
        clear hk3 HS HJ HP HPM HPRE HRR HIX
        gi_wp2
        go_roundw
        case rel => exact ⟨pre ++ [rest.take c], rest.drop (c + 1), by omega, HP9, HS9, HJ9⟩
        case measure => rw [HM9.out, HM8.out]; omega
      · clear HRR HIX
        gi_wp2
        refine bodyPost_ret (results_none rfl _ _ _) rfl ?_
        exact ⟨⟨_, rfl⟩, .inr hx3⟩
    · have HPM : Hid (pieces rest = [rest]) := Lib.hid (pieces_one (by omega))
      have hif : (if commaAt rest < rest.length then ((commaAt rest : Nat) : Int) else -1) = -1 := if_neg hc
      have HIX := Lib.hid (show ∀ w' : World, Calls Tryz.prog 143 #[.string (bs rest), .string ⟨#[44]⟩] w' (fun e w'' => e = .returned (.int .i64 (-1)) ∧ w'' = w') from fun w' => by
        have h9 := row_index_at rest w'
        rwa [hif] at h9)
      have HPF : Hid (pieces ll = pre ++ [rest]) := Lib.hid (by rw [HP.out, HPM.out])
      obtain ⟨fn, tmps, assign, body, hy, hR⟩ := HYY.out pre rest wr HJ.out (by rw [HPF.out]; exact List.prefix_refl _)
      have HRR := Lib.hid hR
      clear hif hR hc hcl
      gi_wp2_with (first
        | (refine ⟨trivial, ?_⟩; gi_at_call 143; refine (callsIn_wide.2 (HIX.out _)).mono ?_; rintro e w' ⟨rfl, rfl⟩))
      refine HRR.out.mono ?_
      rintro e W3 (⟨rfl, hJ3, hk3⟩ | ⟨rfl, hx3⟩)
      · have HJ3 := Lib.hid hJ3
        clear k0 k1 k2 k3 hJ3 hk3 HRR HIX
        gi_wp2
        go_end0
        exact ⟨⟨_, rfl⟩, .inl (by rw [HPF.out]; exact HJ3.out)⟩
      · clear HRR HIX
        gi_wp2
        go_end0
        exact ⟨⟨_, rfl⟩, .inr hx3⟩
theorem row_splits (B : Nat) (ll : List UInt8) (hll : ll.length ≤ 1000000) : Splits Tryz.prog 141 #[.pointer (some ⟨B + 1, 0, none⟩), .pointer (some ⟨B, 0, none⟩), .pointer (some ⟨B + 1 + 1, 0, none⟩)] B ll := fun l J Jx W0 h1 h2 h3 h4 h5 => row_split l B ll J Jx W0 h1 h2 h3 hll h4 h5
end Go.Proofs.YtjeigdlhjghinaaGreatDoor
