/-
  Several texts of this claim as one, group 18.
-/
import Derived.Test.YtjeigdlhjghinaaGreatDoorG15
import Derived.Test.YtjeigdlhjghinaaGreatDoorG13
import Derived.Test.YtjeigdlhjghinaaGreatDoorG10
import Derived.Test.YtjeigdlhjghinaaGreatDoorG11
import Derived.Deep.AppendLies
import Derived.Laws.MakeOwn
import Derived.OwnWalk
import Derived.Test.YtjeigdlhjghinaaGreatDoorRows
import Derived.Lib.LaidTab
import Derived.Test.YtjeigdlhjghinaaGreatDoorG14
/-
  Plain mathematics: rows of fractions: sums, products, norms; rows as texts, and what a text of them says. Nothing of the program.
-/
namespace Go.Proofs.YtjeigdlhjghinaaGreatDoor

/-- The sum, place by place; each so many times; the sum of the products; the norm. -/
def radd : List Rat → List Rat → List Rat
  | x :: l, y :: m => (x + y) :: radd l m
  | _, _ => []
def rscale (c : Rat) (l : List Rat) : List Rat := l.map (fun x => c * x)
def rdot : List Rat → List Rat → Rat
  | x :: l, y :: m => x * y + rdot l m
  | _, _ => 0
def rnormFrom (m : Rat) : List Rat → Rat
  | [] => m
  | x :: l => rnormFrom (if m < qabs x then qabs x else m) l
def rnorm (l : List Rat) : Rat := rnormFrom 0 l
theorem radd_length : ∀ (l m : List Rat), l.length = m.length → (radd l m).length = l.length
  | [], [], _ => rfl
  | x :: l, y :: m, h => by
    have := radd_length l m (by simpa using h)
    simp only [radd, List.length_cons, this]
  | [], y :: m, h => by simp at h
  | x :: l, [], h => by simp at h
theorem rscale_length (c : Rat) (l : List Rat) : (rscale c l).length = l.length := List.length_map _
/-- SHARED OUT. -/
theorem rdot_shares (k : Rat) : ∀ x y z : List Rat, x.length = y.length → rdot (radd x (rscale k y)) z = rdot x z + k * rdot y z
  | [], [], z, _ => by
    show rdot [] z = rdot [] z + k * rdot [] z
    have h : rdot [] z = 0 := by cases z <;> rfl
    rw [h]; grind
  | x :: l, y :: m, [], _ => by
    show (0 : Rat) = 0 + k * 0
    grind
  | x :: l, y :: m, z :: r, h => by
    have ih := rdot_shares k l m r (by simpa using h)
    show (x + k * y) * z + rdot (radd l (rscale k m)) r = (x * z + rdot l r) + k * (y * z + rdot m r)
    rw [ih]; grind
  | [], y :: m, _, h => by simp at h
  | x :: l, [], _, h => by simp at h
theorem qabs_nonneg (q : Rat) : 0 ≤ qabs q := by
  have h := (qabs_parts q).2.2
  have h2 : ¬ (qabs q).num < 0 := of_decide_eq_false h
  exact Rat.num_nonneg.1 (by omega)
theorem qabs_cases (q : Rat) : qabs q = q ∧ 0 ≤ q ∨ qabs q = -q ∧ q < 0 := by
  unfold qabs
  by_cases h : q.num < 0
  · rw [if_pos h]; exact .inr ⟨rfl, Rat.not_le.1 (fun h2 => by have := Rat.num_nonneg.2 h2; omega)⟩
  · rw [if_neg h]; exact .inl ⟨rfl, Rat.num_nonneg.1 (by omega)⟩
theorem qabs_add (p q : Rat) : qabs (p + q) ≤ qabs p + qabs q := by
  rcases qabs_cases p with ⟨h1, h2⟩ | ⟨h1, h2⟩ <;> rcases qabs_cases q with ⟨h3, h4⟩ | ⟨h3, h4⟩ <;> rcases qabs_cases (p + q) with ⟨h5, h6⟩ | ⟨h5, h6⟩ <;> rw [h1, h3, h5] <;> grind
theorem rnormFrom_ge (m : Rat) (l : List Rat) : m ≤ rnormFrom m l := by
  induction l generalizing m with
  | nil => exact Rat.le_refl
  | cons x l ih =>
    rw [rnormFrom]
    split
    · rename_i h
      exact Rat.le_trans (Rat.le_of_lt h) (ih _)
    · exact ih _
theorem rnormFrom_mem {m x : Rat} {l : List Rat} (h : x ∈ l) : qabs x ≤ rnormFrom m l := by
  induction l generalizing m with
  | nil => simp at h
  | cons y l ih =>
    rw [rnormFrom]
    rcases List.mem_cons.1 h with rfl | h
    · split
      · exact rnormFrom_ge _ _
      · rename_i h2
        exact Rat.le_trans (Rat.not_lt.1 h2) (rnormFrom_ge _ _)
    · exact ih h
theorem rnormFrom_le {m b : Rat} {l : List Rat} (hm : m ≤ b) (h : ∀ x ∈ l, qabs x ≤ b) : rnormFrom m l ≤ b := by
  induction l generalizing m with
  | nil => exact hm
  | cons y l ih =>
    rw [rnormFrom]
    refine ih ?_ (fun x hx => h x (List.mem_cons_of_mem _ hx))
    split
    · exact h y (List.mem_cons_self ..)
    · exact hm
theorem rnorm_nonneg (l : List Rat) : 0 ≤ rnorm l := rnormFrom_ge _ _
theorem mem_radd : ∀ {l m : List Rat} {z : Rat}, z ∈ radd l m → ∃ x ∈ l, ∃ y ∈ m, z = x + y
  | [], [], _, h => by simp [radd] at h
  | [], _ :: _, _, h => by simp [radd] at h
  | _ :: _, [], _, h => by simp [radd] at h
  | x :: l, y :: m, z, h => by
    rw [radd] at h
    rcases List.mem_cons.1 h with rfl | h
    · exact ⟨x, List.mem_cons_self .., y, List.mem_cons_self .., rfl⟩
    · obtain ⟨u, hu, v, hv, e⟩ := mem_radd h
      exact ⟨u, List.mem_cons_of_mem _ hu, v, List.mem_cons_of_mem _ hv, e⟩
/-- The norm of a sum is at most the sum of the norms. -/
theorem rnorm_add (l m : List Rat) : rnorm (radd l m) ≤ rnorm l + rnorm m := by
  refine rnormFrom_le ?_ (fun z hz => ?_)
  · have h1 := rnorm_nonneg l
    have h2 := rnorm_nonneg m
    grind
  · obtain ⟨x, hx, y, hy, rfl⟩ := mem_radd hz
    have h1 : qabs x ≤ rnorm l := rnormFrom_mem hx
    have h2 : qabs y ≤ rnorm m := rnormFrom_mem hy
    have h3 := qabs_add x y
    grind
theorem rdot_self_nonneg : ∀ l : List Rat, 0 ≤ rdot l l
  | [] => Rat.le_refl
  | x :: l => by
    have ih := rdot_self_nonneg l
    have h : 0 ≤ x * x := by
      rcases Rat.le_total (a := 0) (b := x) with h | h
      · exact Rat.mul_nonneg h h
      · have h2 : 0 ≤ -x := by grind
        have := Rat.mul_nonneg h2 h2
        grind
    rw [rdot]; grind
/-- The place of the first comma; how long the text is, if there is none. -/
def commaAt : List UInt8 → Nat
  | [] => 0
  | x :: r => if x.toNat = 44 then 0 else commaAt r + 1
theorem commaAt_le : ∀ l : List UInt8, commaAt l ≤ l.length
  | [] => Nat.le_refl _
  | x :: r => by
    have := commaAt_le r
    rw [commaAt]; split
    · exact Nat.zero_le _
    · simp only [List.length_cons]; omega
theorem commaAt_more : ∀ {l : List UInt8} {k : Nat}, k ≤ commaAt l → k < l.length → (l.getD k 0).toNat ≠ 44 → k + 1 ≤ commaAt l
  | [], k, _, hk, _ => by simp at hk
  | x :: r, k, h, hk, hx => by
    rw [commaAt] at h ⊢
    split at h
    · rename_i hc
      have : k = 0 := by omega
      subst this
      exact absurd hc (by simpa using hx)
    · rename_i hc
      rw [if_neg hc]
      cases k with
      | zero => omega
      | succ k =>
        have := commaAt_more (l := r) (k := k) (by omega) (by simpa using hk) (by simpa using hx)
        omega
theorem commaAt_here : ∀ {l : List UInt8} {k : Nat}, k ≤ commaAt l → k < l.length → (l.getD k 0).toNat = 44 → commaAt l = k
  | [], k, _, hk, _ => by simp at hk
  | x :: r, k, h, hk, hx => by
    rw [commaAt] at h ⊢
    split at h
    · rename_i hc
      rw [if_pos hc]; omega
    · rename_i hc
      rw [if_neg hc]
      cases k with
      | zero => exact absurd (by simpa using hx) hc
      | succ k =>
        have := commaAt_here (l := r) (k := k) (by omega) (by simpa using hk) (by simpa using hx)
        omega
/-- The pieces between the commas: one more than there are commas. -/
def pieces (l : List UInt8) : List (List UInt8) :=
  if _h : commaAt l < l.length then l.take (commaAt l) :: pieces (l.drop (commaAt l + 1)) else [l]
termination_by l.length
decreasing_by rw [List.length_drop]; omega
theorem pieces_one {l : List UInt8} (h : commaAt l = l.length) : pieces l = [l] := by rw [pieces, dif_neg (by omega)]
theorem pieces_more {l : List UInt8} (h : commaAt l < l.length) : pieces l = l.take (commaAt l) :: pieces (l.drop (commaAt l + 1)) := by rw [pieces, dif_pos h]
/-- The kind and the place of the first fault among the pieces; the fractions, if there is none. -/
def kindOf : List (List UInt8) → Int
  | [] => 0
  | p :: r => if figKind p ≠ 0 then figKind p else kindOf r
def placeOf (off : Nat) : List (List UInt8) → Int
  | [] => 0
  | p :: r => if figKind p ≠ 0 then (off : Int) + figPlace p else placeOf (off + p.length + 1) r
def rowKind (l : List UInt8) : Int := if l = [] then 0 else kindOf (pieces l)
def rowPlace (l : List UInt8) : Int := if l = [] then 0 else placeOf 0 (pieces l)
def rowVals (l : List UInt8) : List Rat := if l = [] ∨ kindOf (pieces l) ≠ 0 then [] else (pieces l).map figVal
/-- A row as a text. -/
def rowTxt : List Rat → List UInt8
  | [] => []
  | [q] => ftxt q
  | q :: r => ftxt q ++ 44 :: rowTxt r
def nocomma (l : List UInt8) : Prop := ∀ x ∈ l, x.toNat ≠ 44
theorem nocomma_ftxt (q : Rat) : nocomma (ftxt q) := by
  have key : ∀ n : Nat, nocomma (txt n) := fun n x hx => by have := alldig_txt n x hx; omega
  intro x hx
  unfold ftxt ztxt at hx
  rcases List.mem_append.1 hx with h | h
  · split at h
    · rcases List.mem_cons.1 h with rfl | h
      · decide
      · exact key _ x h
    · exact key _ x h
  · split at h
    · simp at h
    · rcases List.mem_cons.1 h with rfl | h
      · decide
      · exact key _ x h
theorem ftxt_ne (q : Rat) : ftxt q ≠ [] := fun h => by
  unfold ftxt ztxt at h
  have h1 := (List.append_eq_nil_iff.1 h).1
  split at h1
  · simp at h1
  · exact txt_ne _ h1
theorem commaAt_append : ∀ {a : List UInt8}, nocomma a → ∀ r, commaAt (a ++ r) = a.length + commaAt r
  | [], _, r => by simp
  | x :: a, h, r => by
    have hx := h x (List.mem_cons_self ..)
    have := commaAt_append (a := a) (fun y hy => h y (List.mem_cons_of_mem _ hy)) r
    rw [List.cons_append, commaAt, if_neg hx, this, List.length_cons]; omega
theorem pieces_txt : ∀ {l : List Rat}, l ≠ [] → pieces (rowTxt l) = l.map ftxt
  | [], h => absurd rfl h
  | [q], _ => by
    rw [rowTxt, pieces_one]
    · rfl
    · have := commaAt_append (nocomma_ftxt q) []
      rw [List.append_nil] at this
      rw [this]; rfl
  | q :: p :: r, _ => by
    have ih := pieces_txt (l := p :: r) (by simp)
    rw [rowTxt]
    · have h1 : commaAt (ftxt q ++ 44 :: rowTxt (p :: r)) = (ftxt q).length := by
        rw [commaAt_append (nocomma_ftxt q), commaAt, if_pos (by decide)]; rfl
      rw [pieces_more (by rw [h1, List.length_append, List.length_cons]; omega), h1, take_append_left, drop_append_more, ih]
      rfl
    · simp
theorem rowTxt_ne {l : List Rat} (h : l ≠ []) : rowTxt l ≠ [] := by
  match l, h with
  | [q], _ => exact ftxt_ne q
  | q :: p :: r, _ =>
    rw [rowTxt]
    · simp
    · simp
/-- What is written of a row is read as its values. -/
theorem row_back {l : List Rat} (h : ∀ q ∈ l, (txt q.num.natAbs).length ≤ 60 ∧ (txt q.den).length ≤ 60) : rowKind (rowTxt l) = 0 ∧ rowPlace (rowTxt l) = 0 ∧ rowVals (rowTxt l) = l := by
  by_cases hl : l = []
  · subst hl
    exact ⟨rfl, rfl, rfl⟩
  · have h1 := rowTxt_ne hl
    have hk : ∀ m : List Rat, (∀ q ∈ m, (txt q.num.natAbs).length ≤ 60 ∧ (txt q.den).length ≤ 60) → kindOf (m.map ftxt) = 0 ∧ (∀ off, placeOf off (m.map ftxt) = 0) ∧ (m.map ftxt).map figVal = m := by
      intro m
      induction m with
      | nil => intro _; exact ⟨rfl, fun _ => rfl, rfl⟩
      | cons q m ih =>
        intro hm
        obtain ⟨a1, a2⟩ := hm q (List.mem_cons_self ..)
        obtain ⟨e1, e2, e3⟩ := fig_back a1 a2
        obtain ⟨i1, i2, i3⟩ := ih (fun p hp => hm p (List.mem_cons_of_mem _ hp))
        refine ⟨?_, fun off => ?_, ?_⟩
        · rw [List.map_cons, kindOf, if_neg (by omega), i1]
        · rw [List.map_cons, placeOf, if_neg (by omega), i2]
        · rw [List.map_cons, List.map_cons, e3, i3]
    obtain ⟨k1, k2, k3⟩ := hk l h
    unfold rowKind rowPlace rowVals
    rw [pieces_txt hl, if_neg h1, if_neg h1, if_neg (fun hh => hh.elim h1 (fun hh => hh k1)), k1, k2, k3]
    exact ⟨rfl, rfl, rfl⟩
end Go.Proofs.YtjeigdlhjghinaaGreatDoor

/-
  Rows of right fractions in memory: in a row of the call's own, appended to; as they are handed on. Of no program.
-/
namespace Go.Proofs.YtjeigdlhjghinaaGreatDoor
open Go.RowKit

/-- A right fraction, as it lies in memory. -/
def rx (q : Rat) (a : Option Addr) (n c : Nat) (b : Option Addr) (m d : Nat) : Fx := ⟨zneg q.num, a, n, c, dg q.num.natAbs, b, m, d, dg q.den⟩
theorem rx_q (q : Rat) (a : Option Addr) (n c : Nat) (b : Option Addr) (m d : Nat) : (rx q a n c b m d).q = q := qval_dg q
def Fx.right (x : Fx) : Prop := x.s = zneg x.q.num ∧ x.la = dg x.q.num.natAbs ∧ x.lb = dg x.q.den
theorem rx_right (q : Rat) (a : Option Addr) (n c : Nat) (b : Option Addr) (m d : Nat) : (rx q a n c b m d).right := by
  unfold Fx.right
  rw [rx_q]
  exact ⟨rfl, rfl, rfl⟩
/-- A row of right fractions: its values. -/
def Rw (w : World) (a : Option Addr) (n cap : Nat) (qs : List Rat) : Prop := ∃ L, Fxs w a n cap L ∧ L.map Fx.q = qs ∧ ∀ x ∈ L, x.right
theorem Rw.later {w w' : World} {a : Option Addr} {n cap : Nat} {qs : List Rat} (h : Rw w a n cap qs) (hb : Below w.heap.size w w') : Rw w' a n cap qs := by
  obtain ⟨L, h1, h2, h3⟩ := h
  exact ⟨L, h1.later hb, h2, h3⟩
theorem Rw.len {w : World} {a : Option Addr} {n cap : Nat} {qs : List Rat} (h : Rw w a n cap qs) : qs.length = n := by
  obtain ⟨L, h1, h2, _⟩ := h
  rw [← h2, List.length_map]; exact h1.len
/-- What comes back. -/
def LstRw (qs : List Rat) (w : World) (e : Ending) (w' : World) : Prop := ∃ (a : Option Addr) (n cap : Nat), e = .returned (.slice a n cap) ∧ Rw w' a n cap qs ∧ Below w.heap.size w w'
def LstRwV (qs : List Rat) (v : Value) (w : World) (e : Ending) (w' : World) : Prop := ∃ (a : Option Addr) (n cap : Nat), e = .returned (.tuple #[.slice a n cap, v]) ∧ Rw w' a n cap qs ∧ Below w.heap.size w w'
/-- A row of the call's own that is being made. -/
def Row (w : World) (base : Nat) (e : TypeId) (v : Value) (qs : List Rat) : Prop := ∃ L, OwnC w base e v L ∧ L.map Fx.q = qs ∧ ∀ x ∈ L, x.ok w ∧ x.right
theorem Row.nil (w : World) (base : Nat) (e : TypeId) : Row w base e (.slice none 0 0) [] := ⟨[], OwnC.nil _ _ _, rfl, fun x hx => by simp at hx⟩
theorem Row.later {w w' : World} {base : Nat} {e : TypeId} {v : Value} {qs : List Rat} (h : Row w base e v qs) (hb : Below w.heap.size w w') : Row w' base e v qs := by
  obtain ⟨L, h1, h2, h3⟩ := h
  exact ⟨L, h1.later hb, h2, fun x hx => ⟨(h3 x hx).1.later hb, (h3 x hx).2⟩⟩
theorem Row.out {w : World} {base : Nat} {e : TypeId} {v : Value} {qs : List Rat} (h : Row w base e v qs) : ∃ (a : Option Addr) (cap : Nat), v = .slice a qs.length cap ∧ Rw w a qs.length cap qs := by
  obtain ⟨L, h1, h2, h3⟩ := h
  obtain ⟨a, cap, rfl, hf⟩ := h1.slice (fun x hx => (h3 x hx).1)
  have hl : L.length = qs.length := by rw [← h2, List.length_map]
  rw [hl] at hf ⊢
  exact ⟨a, cap, rfl, L, hf, h2, fun x hx => (h3 x hx).2⟩
/-- One more fraction behind a row of the call's own. -/
theorem wpList_append_row {P : Program} (w : World) {ops : Array Oper} {rest : List Oper} {o : Oper} {act : Act} {Q : Exit → Act → World → Prop} (hgd : o.guard = none) (s x : Operand) (t : TypeId)
    (ho : o.op = .call { callee := .builtin .append, args := #[s, x], argTypes := #[t, t] })
    (base : Nat) (e : TypeId) (i : TypeInfo) (ht : P.underlying t = some (.slice e)) (hi : P.info? e = some i) (hz : i.zero = some (.agg #[.bool false, .slice none 0 0, .slice none 0 0]))
    (hsize : i.size = 3) (hby : i.bytes = 56) (v : Value) (qs : List Rat) (hs : act.eval s = v) (hrow : Row w base e v qs)
    (ad : Addr) (q : Rat) (a : Option Addr) (n c : Nat) (b : Option Addr) (m d : Nat) (hx : act.eval x = .slice (some ad) 1 1)
    (hnews : ∀ j u, (rx q a n c b m d).cells[j]? = some u → w.cell? (ad.add j) = some u) (ha : Wd w a n c (dg q.num.natAbs)) (hb : Wd w b m d (dg q.den))
    (hlen : qs.length ≤ 1000000) (hbase : base ≤ w.heap.size)
    (h : ∀ v' w', Row w' base e v' (qs ++ [q]) → w.grownBy w' v.ownBlock → (∀ k, v.ownBlock = some k → base ≤ k) → clean w v → wpList P ops Q rest (act.put o.dst v') w') : wpList P ops Q (o :: rest) act w := by
  obtain ⟨L, h1, h2, h3⟩ := hrow
  have hl : L.length = qs.length := by rw [← h2, List.length_map]
  have hzw : noWords (Value.agg #[.bool false, .slice none 0 0, .slice none 0 0]).cells.toList := by
    intro u hu k
    simp [Value.cells] at hu
    rcases hu with rfl | rfl <;> simp
  refine wpList_append_clean w hgd s x t ho base e i (.agg #[.bool false, .slice none 0 0, .slice none 0 0]) 3 56 ht hi hz hsize hby rfl (by decide) v L.length (L.flatMap Fx.cells) hs h1.1 ad 1 1 (rx q a n c b m d).cells hx rfl hnews (cells_one _) (by unfold maxLen; omega) (by omega) hbase (by decide) h1.2 hzw (noWords_cells _) (noWords_flat _) ?_
  intro v' w' hown hgrow hcl
  refine h v' w' ⟨L ++ [rx q a n c b m d], ⟨by simpa [List.flatMap_append] using hown, hcl⟩, by rw [List.map_append, h2]; simp [rx_q], fun y hy => ?_⟩ hgrow (fun k hk => h1.base k hk) h1.2
  rcases List.mem_append.1 hy with hy | hy
  · exact ⟨Fx.aside (h3 y hy).1 h1.2 hgrow, (h3 y hy).2⟩
  · rw [List.mem_singleton.1 hy]
    exact ⟨⟨ha.aside h1.2 hgrow, hb.aside h1.2 hgrow⟩, rx_right _ _ _ _ _ _ _⟩
theorem rx_news (w : World) (q : Rat) (a : Option Addr) (n c : Nat) (b : Option Addr) (m d : Nat) (e : TypeId) : ∀ j u, (rx q a n c b m d).cells[j]? = some u → (w.alloc (.cells #[.bool (zneg q.num), .slice a n c, .slice b m d] e)).cell? ((⟨w.heap.size, 0, none⟩ : Addr).add j) = some u := cells_news w (rx q a n c b m d) e
end Go.Proofs.YtjeigdlhjghinaaGreatDoor

/-
  Rows of rows of fractions in memory; how long the fractions of a row become; sums of many rows. Of no program.
-/
namespace Go.Proofs.YtjeigdlhjghinaaGreatDoor
open Go.RowKit

/-- In the world w the slice ⟨a, n, cap⟩ of slices holds just these rows of fractions. -/
def Fxss (w : World) (a : Option Addr) (n cap : Nat) (ls : List (List Fx)) : Prop :=
  ls.length = n ∧ n ≤ cap ∧ cap ≤ 9223372036854775807 ∧ (a = none → cap = 0) ∧ (n = 0 ∨ ∃ b off, a = some ⟨b, off, none⟩ ∧ ∀ j, j < n → ∃ a' n' c', w.cell? ⟨b, off + j, none⟩ = some (.slice a' n' c') ∧ Fxs w a' n' c' (ls.getD j []))
theorem Fxss.len {w : World} {a : Option Addr} {n cap : Nat} {l : List (List Fx)} (h : Fxss w a n cap l) : l.length = n := h.1
theorem Fxss.bound {w : World} {a : Option Addr} {n cap : Nat} {l : List (List Fx)} (h : Fxss w a n cap l) : n ≤ cap ∧ cap ≤ 9223372036854775807 := ⟨h.2.1, h.2.2.1⟩
theorem Fxss.at {w : World} {a : Option Addr} {n cap : Nat} {l : List (List Fx)} (h : Fxss w a n cap l) {j : Nat} (hj : j < n) : ∃ b off, a = some ⟨b, off, none⟩ ∧ ∃ a' n' c', w.cell? ⟨b, off + j, none⟩ = some (.slice a' n' c') ∧ Fxs w a' n' c' (l.getD j []) := by
  rcases h.2.2.2.2 with h0 | ⟨b, off, e, hc⟩
  · omega
  · exact ⟨b, off, e, hc j hj⟩
theorem Fxss.later {w w' : World} {a : Option Addr} {n cap : Nat} {l : List (List Fx)} (h : Fxss w a n cap l) (hb : Below w.heap.size w w') : Fxss w' a n cap l :=
  ⟨h.1, h.2.1, h.2.2.1, h.2.2.2.1, h.2.2.2.2.imp id fun ⟨b, off, e, hc⟩ => ⟨b, off, e, fun j hj => by
    obtain ⟨a', n', c', h1, h2⟩ := hc j hj
    exact ⟨a', n', c', cell_later hb h1, h2.later hb⟩⟩⟩
theorem Fxss.ofNil (w : World) : Fxss w none 0 0 [] := ⟨rfl, Nat.le_refl _, by omega, fun _ => rfl, .inl rfl⟩
theorem Fxss.lit2 (w : World) (e : TypeId) {a1 a2 : Option Addr} {n1 n2 c1 c2 : Nat} {l1 l2 : List Fx} (h1 : Fxs w a1 n1 c1 l1) (h2 : Fxs w a2 n2 c2 l2) :
    Fxss (w.alloc (.cells #[.slice a1 n1 c1, .slice a2 n2 c2] e)) (some ⟨w.heap.size, 0, none⟩) 2 2 [l1, l2] := by
  have hb : Below w.heap.size w (w.alloc (.cells #[.slice a1 n1 c1, .slice a2 n2 c2] e)) := (Below.refl _ _).alloc (Nat.le_refl _) _
  refine ⟨rfl, Nat.le_refl _, by omega, fun h => (by cases h), .inr ⟨w.heap.size, 0, rfl, fun j hj => ?_⟩⟩
  match j, hj with
  | 0, _ => exact ⟨a1, n1, c1, by simp, h1.later hb⟩
  | 1, _ => exact ⟨a2, n2, c2, by simp, h2.later hb⟩
theorem Fxss.lit3 (w : World) (e : TypeId) {a1 a2 a3 : Option Addr} {n1 n2 n3 c1 c2 c3 : Nat} {l1 l2 l3 : List Fx} (h1 : Fxs w a1 n1 c1 l1) (h2 : Fxs w a2 n2 c2 l2) (h3 : Fxs w a3 n3 c3 l3) :
    Fxss (w.alloc (.cells #[.slice a1 n1 c1, .slice a2 n2 c2, .slice a3 n3 c3] e)) (some ⟨w.heap.size, 0, none⟩) 3 3 [l1, l2, l3] := by
  have hb : Below w.heap.size w (w.alloc (.cells #[.slice a1 n1 c1, .slice a2 n2 c2, .slice a3 n3 c3] e)) := (Below.refl _ _).alloc (Nat.le_refl _) _
  refine ⟨rfl, Nat.le_refl _, by omega, fun h => (by cases h), .inr ⟨w.heap.size, 0, rfl, fun j hj => ?_⟩⟩
  match j, hj with
  | 0, _ => exact ⟨a1, n1, c1, by simp, h1.later hb⟩
  | 1, _ => exact ⟨a2, n2, c2, by simp, h2.later hb⟩
  | 2, _ => exact ⟨a3, n3, c3, by simp, h3.later hb⟩

/-- Of at most N words each. -/
def thin (N : Nat) (L : List Fx) : Prop := ∀ x ∈ L, x.n ≤ N ∧ x.m ≤ N
theorem thin.mono {M N : Nat} {L : List Fx} (h : thin M L) (hn : M ≤ N) : thin N L := fun x hx => ⟨Nat.le_trans (h x hx).1 hn, Nat.le_trans (h x hx).2 hn⟩
theorem Fx.ok.fr {w : World} {x : Fx} {N : Nat} (h : x.ok w) (hn : x.n ≤ N) (hm : x.m ≤ N) : Fr w (frV x.s x.a x.n x.c x.b x.m x.d) x.q N := Fr.of h.1 h.2 hn hm rfl
/-- Their values. -/
def fqs (L : List Fx) : List Rat := L.map Fx.q
theorem fqs_length (L : List Fx) : (fqs L).length = L.length := List.length_map _
theorem fqs_at (L : List Fx) (j : Nat) (hj : j < L.length) : (fqs L)[j]? = some (L.getD j Fx.zero).q := by
  unfold fqs
  rw [List.getElem?_map, List.getD_eq_getElem?_getD, List.getElem?_eq_getElem hj]; rfl
theorem Rw.thin {w : World} {a : Option Addr} {n cap : Nat} {qs : List Rat} (h : Rw w a n cap qs) {N : Nat} (hq : ∀ q ∈ qs, qlen q ≤ N) : ∃ L, Fxs w a n cap L ∧ fqs L = qs ∧ Go.Proofs.YtjeigdlhjghinaaGreatDoor.thin N L := by
  obtain ⟨L, h1, h2, h3⟩ := h
  refine ⟨L, h1, h2, fun x hx => ?_⟩
  obtain ⟨h4, h5, h6⟩ := h3 x hx
  have h7 := hq x.q (h2 ▸ List.mem_map.2 ⟨x, hx, rfl⟩)
  obtain ⟨h8, h9⟩ := h1.ok hx
  have := h8.len
  have := h9.len
  have := qlen_num x.q
  have := qlen_den x.q
  rw [h5] at *
  rw [h6] at *
  constructor <;> omega
/-- The sum of rows of one length. -/
def raddAll : List (List Rat) → List Rat
  | [] => []
  | l :: r => r.foldl radd l
/-- Have they all one length? -/
def even (LL : List (List Rat)) : Prop := ∀ x ∈ LL, ∀ y ∈ LL, x.length = y.length
instance (LL : List (List Rat)) : Decidable (even LL) := by unfold even; infer_instance
/-- A row of noughts, with a 1 at a place. -/
def rcut (n : Int) : Nat := (min n 300).toNat
def runit (k : Nat) (i : Int) : List Rat := if 0 ≤ i ∧ i < k then (List.replicate k 0).set i.toNat 1 else List.replicate k 0
/-- The sum of rows, each taken so many times. -/
def rmix : List Rat → List Rat → List (List Rat) → List Rat
  | s, c :: cs, l :: ls => rmix (radd s (rscale c l)) cs ls
  | s, _, _ => s
/-- The greatest size. -/
def fsize (x : Fx) : Nat := blen (val x.la) + blen (val x.lb)
def rsizeFrom (m : Nat) : List Fx → Nat
  | [] => m
  | x :: r => rsizeFrom (max m (fsize x)) r
end Go.Proofs.YtjeigdlhjghinaaGreatDoor

/-
  Rows of fractions: what lies at a place; a row's first so many; copies of fractions that are any. Of no program.
-/
namespace Go.Proofs.YtjeigdlhjghinaaGreatDoor
open Go.RowKit

theorem fx_mem {L : List Fx} {k : Nat} (h : k < L.length) : L.getD k Fx.zero ∈ L := by
  rw [List.getD_eq_getElem?_getD, List.getElem?_eq_getElem h]; exact List.getElem_mem h
theorem fx_more {L : List Fx} {k : Nat} (h : k < L.length) : L.take (k + 1) = L.take k ++ [L.getD k Fx.zero] := by
  rw [List.take_succ_eq_append_getElem h, List.getD_eq_getElem?_getD, List.getElem?_eq_getElem h]; rfl
theorem q_mem {L : List Rat} {k : Nat} (h : k < L.length) : L.getD k 0 ∈ L := by
  rw [List.getD_eq_getElem?_getD, List.getElem?_eq_getElem h]; exact List.getElem_mem h
theorem q_more {L : List Rat} {k : Nat} (h : k < L.length) : L.take (k + 1) = L.take k ++ [L.getD k 0] := by
  rw [List.take_succ_eq_append_getElem h, List.getD_eq_getElem?_getD, List.getElem?_eq_getElem h]; rfl
theorem fqs_getD {L : List Fx} {k : Nat} (h : k < L.length) : (fqs L).getD k 0 = (L.getD k Fx.zero).q := by
  rw [List.getD_eq_getElem?_getD, fqs_at L k h]; rfl
theorem take_len {α : Type} {L : List α} {k : Nat} (h : k ≤ L.length) : (L.take k).length = k := by rw [List.length_take]; omega
theorem three_on {w w' : World} {p q r : Addr} {x y z : Value} (h : w.cell? p = some x ∧ w.cell? q = some y ∧ w.cell? r = some z) (hb : Below w.heap.size w w') : w'.cell? p = some x ∧ w'.cell? q = some y ∧ w'.cell? r = some z := ⟨cell_later hb h.1, cell_later hb h.2.1, cell_later hb h.2.2⟩
/-- What lies at a place of a row of right fractions. -/
theorem Rw.at {w : World} {a : Option Addr} {n cap : Nat} {qs : List Rat} (h : Rw w a n cap qs) {j : Nat} (hj : j < n) : ∃ b off, a = some ⟨b, off, none⟩ ∧ ∃ (a' : Option Addr) (n' c' : Nat) (b' : Option Addr) (m' d' : Nat),
    (w.cell? ⟨b, off + j * 3, none⟩ = some (.bool (zneg (qs.getD j 0).num)) ∧ w.cell? ⟨b, off + j * 3 + 1, none⟩ = some (.slice a' n' c') ∧ w.cell? ⟨b, off + j * 3 + 2, none⟩ = some (.slice b' m' d')) ∧
    Wd w a' n' c' (dg (qs.getD j 0).num.natAbs) ∧ Wd w b' m' d' (dg (qs.getD j 0).den) := by
  obtain ⟨L, h1, h2, h3⟩ := h
  obtain ⟨b, off, rfl, e0, e1, e2, hok⟩ := h1.at hj
  have hl : j < L.length := by rw [h1.len]; exact hj
  have hq : qs.getD j 0 = (L.getD j Fx.zero).q := by rw [← h2]; exact fqs_getD hl
  obtain ⟨r1, r2, r3⟩ := h3 _ (fx_mem hl)
  rw [hq, ← r1, ← r2, ← r3]
  exact ⟨b, off, rfl, _, _, _, _, _, _, ⟨e0, e1, e2⟩, hok.1, hok.2⟩
theorem Rw.bound {w : World} {a : Option Addr} {n cap : Nat} {qs : List Rat} (h : Rw w a n cap qs) : n ≤ cap ∧ cap ≤ 9223372036854775807 := by
  obtain ⟨L, h1, _⟩ := h
  exact h1.bound
theorem Rw.nil (w : World) : Rw w none 0 0 [] := ⟨[], ⟨rfl, Nat.le_refl _, by omega, fun _ => rfl, fun x hx => by (simp at hx), .inl rfl⟩, rfl, fun x hx => by simp at hx⟩
/-- Copies of fractions, side by side in a row of the call's own. -/
def Cop (w : World) (base : Nat) (e : TypeId) (v : Value) (L : List Fx) : Prop := OwnC w base e v L ∧ ∀ x ∈ L, x.ok w
theorem Cop.nil (w : World) (base : Nat) (e : TypeId) : Cop w base e (.slice none 0 0) [] := ⟨OwnC.nil _ _ _, fun x hx => by simp at hx⟩
theorem Cop.later {w w' : World} {base : Nat} {e : TypeId} {v : Value} {L : List Fx} (h : Cop w base e v L) (hb : Below w.heap.size w w') : Cop w' base e v L := ⟨h.1.later hb, fun x hx => (h.2 x hx).later hb⟩
theorem Cop.out {w : World} {base : Nat} {e : TypeId} {v : Value} {L : List Fx} (h : Cop w base e v L) : ∃ (a : Option Addr) (cap : Nat), v = .slice a L.length cap ∧ Fxs w a L.length cap L := h.1.slice h.2
theorem wpList_append_cop {P : Program} (w : World) {ops : Array Oper} {rest : List Oper} {o : Oper} {act : Act} {Q : Exit → Act → World → Prop} (hgd : o.guard = none) (s x : Operand) (t : TypeId)
    (ho : o.op = .call { callee := .builtin .append, args := #[s, x], argTypes := #[t, t] })
    (base : Nat) (e : TypeId) (i : TypeInfo) (ht : P.underlying t = some (.slice e)) (hi : P.info? e = some i) (hz : i.zero = some (.agg #[.bool false, .slice none 0 0, .slice none 0 0]))
    (hsize : i.size = 3) (hby : i.bytes = 56) (v : Value) (L : List Fx) (hs : act.eval s = v) (hrow : Cop w base e v L)
    (ad : Addr) (y : Fx) (hx : act.eval x = .slice (some ad) 1 1)
    (hnews : ∀ j u, y.cells[j]? = some u → w.cell? (ad.add j) = some u) (hy : y.ok w)
    (hlen : L.length ≤ 1000000) (hbase : base ≤ w.heap.size)
    (h : ∀ v' w', Cop w' base e v' (L ++ [y]) → w.grownBy w' v.ownBlock → (∀ k, v.ownBlock = some k → base ≤ k) → clean w v → wpList P ops Q rest (act.put o.dst v') w') : wpList P ops Q (o :: rest) act w := by
  obtain ⟨h1, h3⟩ := hrow
  have hzw : noWords (Value.agg #[.bool false, .slice none 0 0, .slice none 0 0]).cells.toList := by
    intro u hu k
    simp [Value.cells] at hu
    rcases hu with rfl | rfl <;> simp
  refine wpList_append_clean w hgd s x t ho base e i (.agg #[.bool false, .slice none 0 0, .slice none 0 0]) 3 56 ht hi hz hsize hby rfl (by decide) v L.length (L.flatMap Fx.cells) hs h1.1 ad 1 1 y.cells hx rfl hnews (cells_one _) (by unfold maxLen; omega) (by omega) hbase (by decide) h1.2 hzw (noWords_cells _) (noWords_flat _) ?_
  intro v' w' hown hgrow hcl
  refine h v' w' ⟨⟨by simpa [List.flatMap_append] using hown, hcl⟩, fun z hz => ?_⟩ hgrow (fun k hk => h1.base k hk) h1.2
  rcases List.mem_append.1 hz with hz | hz
  · exact Fx.aside (h3 z hz) h1.2 hgrow
  · rw [List.mem_singleton.1 hz]
    exact Fx.aside hy h1.2 hgrow
theorem clean_store {w : World} {g k cap j : Nat} {u x : Value} (h : clean w (.slice (some ⟨g, 0, none⟩) k cap)) (hx : w.cell? ⟨g, j, none⟩ = some x) (hu : ∀ y : Int, u ≠ .int .u32 y) : clean (w.setCell ⟨g, j, none⟩ u) (.slice (some ⟨g, 0, none⟩) k cap) := by
  intro g' hg' i y hc
  have h2 := h g' hg' i y
  simp [Value.ownBlock] at hg'
  subst hg'
  by_cases hij : i = j
  · subst hij
    rw [World.cell?_setCell_same _ _ _ hx] at hc
    exact hu y (Option.some.inj hc)
  · rw [World.cell?_setCell_other _ ⟨g, j, none⟩ ⟨g, i, none⟩ _ (fun e => hij (congrArg Addr.off e).symm)] at hc
    exact h2 hc
theorem fr_flat_set : ∀ (L : List Fx) (i : Nat) (x : Fx), i < L.length → (L.set i x).flatMap Fx.cells = (((L.flatMap Fx.cells).set (i * 3) (.bool x.s)).set (i * 3 + 1) (.slice x.a x.n x.c)).set (i * 3 + 2) (.slice x.b x.m x.d)
  | [], _, _, h => by simp at h
  | y :: L, 0, x, _ => by simp [Fx.cells]
  | y :: L, i + 1, x, h => by
    have h1 := fr_flat_set L i x (by simpa using h)
    have h2 : (y :: L).flatMap Fx.cells = .bool y.s :: .slice y.a y.n y.c :: .slice y.b y.m y.d :: L.flatMap Fx.cells := by simp [Fx.cells]
    rw [h2, List.set_cons_succ, List.flatMap_cons, h1]
    have e0 : (i + 1) * 3 = i * 3 + 1 + 1 + 1 := by omega
    rw [e0]
    simp [Fx.cells]
/-- A fraction put at a place of a row of the call's own. -/
theorem Row.stored {w : World} {base : Nat} {e : TypeId} {g k cap : Nat} {qs : List Rat} (h : Row w base e (.slice (some ⟨g, 0, none⟩) k cap) qs) (hk : k = qs.length) {i : Nat} (hi : i < qs.length) (q : Rat) (a : Option Addr) (n c : Nat) (b : Option Addr) (m d : Nat) (ha : Wd w a n c (dg q.num.natAbs)) (hb : Wd w b m d (dg q.den)) :
    Row (((w.setCell ⟨g, i * 3, none⟩ (.bool (zneg q.num))).setCell ⟨g, i * 3 + 1, none⟩ (.slice a n c)).setCell ⟨g, i * 3 + 2, none⟩ (.slice b m d)) base e (.slice (some ⟨g, 0, none⟩) k cap) (qs.set i q) ∧
    w.grownBy (((w.setCell ⟨g, i * 3, none⟩ (.bool (zneg q.num))).setCell ⟨g, i * 3 + 1, none⟩ (.slice a n c)).setCell ⟨g, i * 3 + 2, none⟩ (.slice b m d)) (some g) := by
  obtain ⟨L, ⟨h1, h2⟩, h3, h4⟩ := h
  have hL : L.length = qs.length := by rw [← h3, List.length_map]
  have hkL : k = L.length := hk.trans hL.symm
  subst hkL
  have hf := flat_length L
  obtain ⟨c0, c1, c2⟩ := flat_at L i (by omega)
  have p0 := h1.cellAt (i * 3) (by omega)
  have p1 := h1.cellAt (i * 3 + 1) (by omega)
  have p2 := h1.cellAt (i * 3 + 2) (by omega)
  rw [c0] at p0; rw [c1] at p1; rw [c2] at p2
  obtain ⟨s0, g0⟩ := h1.stored (i * 3) (.bool (zneg q.num))
  obtain ⟨s1, g1⟩ := s0.stored (i * 3 + 1) (.slice a n c)
  obtain ⟨s2, g2⟩ := s1.stored (i * 3 + 2) (.slice b m d)
  have l0 := clean_store (j := i * 3) (u := .bool (zneg q.num)) h2 p0 (fun y e => by cases e)
  have l1 := clean_store (j := i * 3 + 1) (u := .slice a n c) l0 ((World.cell?_setCell_other _ ⟨g, i * 3, none⟩ ⟨g, i * 3 + 1, none⟩ _ (fun e => by simp at e)).trans p1) (fun y e => by cases e)
  have l2 := clean_store (j := i * 3 + 2) (u := .slice b m d) l1 (((World.cell?_setCell_other _ ⟨g, i * 3 + 1, none⟩ ⟨g, i * 3 + 2, none⟩ _ (fun e => by simp at e)).trans (World.cell?_setCell_other _ ⟨g, i * 3, none⟩ ⟨g, i * 3 + 2, none⟩ _ (fun e => by simp at e))).trans p2) (fun y e => by cases e)
  have hg := (g0.trans g1).trans g2
  refine ⟨⟨L.set i (rx q a n c b m d), ⟨?_, l2⟩, ?_, fun x hx => ?_⟩, hg⟩
  · rw [fr_flat_set L i _ (by omega), List.length_set]
    exact s2
  · rw [List.map_set, rx_q, h3]
  · rcases List.mem_or_eq_of_mem_set hx with hx | rfl
    · exact ⟨Fx.aside (h4 x hx).1 h2 hg, (h4 x hx).2⟩
    · exact ⟨⟨ha.aside h2 hg, hb.aside h2 hg⟩, rx_right _ _ _ _ _ _ _⟩
theorem Row.block {w : World} {base : Nat} {e : TypeId} {v : Value} {qs : List Rat} (h : Row w base e v qs) : ∀ k, v.ownBlock = some k → base ≤ k ∧ k < w.heap.size := by
  obtain ⟨L, h1, _⟩ := h
  exact h1.1.lt
/-- A row that nobody else holds comes back. -/
def LstRow (e9 : TypeId) (qs : List Rat) (w : World) (e : Ending) (w' : World) : Prop := ∃ v, e = .returned v ∧ Row w' w.heap.size e9 v qs ∧ Below w.heap.size w w'
theorem LstRow.out {e9 : TypeId} {qs : List Rat} {w w' : World} {e : Ending} (h : LstRow e9 qs w e w') : LstRw qs w e w' := by
  obtain ⟨v, rfl, h, hb⟩ := h
  obtain ⟨a, cap, rfl, h9⟩ := h.out
  exact ⟨a, _, cap, rfl, h9, hb⟩
def thinI (N : Int) (L : List Fx) : Prop := ∀ x ∈ L, (x.n : Int) ≤ N ∧ (x.m : Int) ≤ N
theorem thinI.out {N : Nat} {L : List Fx} (h : thinI (N : Int) L) : thin N L := fun x hx => by
  have := h x hx
  omega
theorem Row.whole {w : World} {base : Nat} {e : TypeId} {v : Value} {T : List Rat} {k : Nat} (h : Row w base e v (T.take k)) (hk : T.length = k) : Row w base e v T := by
  rwa [List.take_of_length_le (Nat.le_of_eq hk)] at h
theorem Cop.whole {w : World} {base : Nat} {e : TypeId} {v : Value} {T : List Fx} {k : Nat} (h : Cop w base e v (T.take k)) (hk : T.length = k) : Cop w base e v T := by
  rwa [List.take_of_length_le (Nat.le_of_eq hk)] at h
theorem Row.form {w : World} {base : Nat} {e : TypeId} {v : Value} {qs : List Rat} (h : Row w base e v qs) (hn : 0 < qs.length) : ∃ g cap, v = .slice (some ⟨g, 0, none⟩) qs.length cap ∧ base ≤ g ∧ g < w.heap.size := by
  obtain ⟨L, ⟨h1, _⟩, h3, _⟩ := h
  have hL : L.length = qs.length := by rw [← h3, List.length_map]
  obtain ⟨g, cap, h5, h6, h7⟩ := h1.form (by omega)
  exact ⟨g, cap, by rw [h5, hL], h6, h7⟩
/-- The cells of a row of the call's own can be written. -/
theorem Row.free {w : World} {base : Nat} {e : TypeId} {g k cap : Nat} {qs : List Rat} (h : Row w base e (.slice (some ⟨g, 0, none⟩) k cap) qs) (hk : k = qs.length) {i : Nat} (hi : i < qs.length) :
    ∃ x y z, (w.cell? ⟨g, i * 3, none⟩ = some x ∧ w.cell? ⟨g, i * 3 + 1, none⟩ = some y ∧ w.cell? ⟨g, i * 3 + 2, none⟩ = some z) ∧ w.frozen? ⟨g, i * 3, none⟩ = false ∧ w.frozen? ⟨g, i * 3 + 1, none⟩ = false ∧ w.frozen? ⟨g, i * 3 + 2, none⟩ = false := by
  obtain ⟨L, ⟨h1, _⟩, h3, _⟩ := h
  have hL : L.length = qs.length := by rw [← h3, List.length_map]
  have hkL : k = L.length := hk.trans hL.symm
  subst hkL
  obtain ⟨c0, c1, c2⟩ := flat_at L i (by omega)
  have p0 := h1.cellAt (i * 3) (by omega)
  have p1 := h1.cellAt (i * 3 + 1) (by omega)
  have p2 := h1.cellAt (i * 3 + 2) (by omega)
  rw [c0] at p0; rw [c1] at p1; rw [c2] at p2
  exact ⟨_, _, _, ⟨p0, p1, p2⟩, h1.frozenAt _, h1.frozenAt _, h1.frozenAt _⟩
end Go.Proofs.YtjeigdlhjghinaaGreatDoor

/-
  A made row of fractions that is filled place by place: the fractions so far, noughts (empty ones) behind. Of no program.
-/
namespace Go.Proofs.YtjeigdlhjghinaaGreatDoor
open Go.RowKit

def zcells : Array Value := #[.bool false, .slice none 0 0, .slice none 0 0]
theorem flat_zeros : ∀ n : Nat, (madeCells zcells (n * 3)).toList = (List.replicate n Fx.zero).flatMap Fx.cells := by
  intro n
  refine List.ext_getElem? fun j => ?_
  have hf := flat_length (List.replicate n Fx.zero)
  rw [List.length_replicate] at hf
  by_cases hj : j < n * 3
  · obtain ⟨q, r, rfl, hr⟩ : ∃ q r, j = q * 3 + r ∧ r < 3 := ⟨j / 3, j % 3, by omega, by omega⟩
    have hq : q < n := by omega
    obtain ⟨c0, c1, c2⟩ := flat_at (List.replicate n Fx.zero) q (by rw [List.length_replicate]; exact hq)
    have hz : (List.replicate n Fx.zero).getD q Fx.zero = Fx.zero := by
      rw [List.getD_eq_getElem?_getD, List.getElem?_replicate]; split <;> rfl
    rw [hz] at c0 c1 c2
    have hl : (madeCells zcells (n * 3)).toList[q * 3 + r]? = some (zcells[r]!) := by
      have h3 : (q * 3 + r) % zcells.size = r := by
        show (q * 3 + r) % 3 = r
        omega
      simp only [madeCells, Array.toList_map, Array.toList_range, List.getElem?_map, List.getElem?_range hj, Option.map_some, h3]
    rw [hl]
    match r, hr with
    | 0, _ => exact c0.symm
    | 1, _ => exact c1.symm
    | 2, _ => exact c2.symm
  · rw [List.getElem?_eq_none (by rw [Array.length_toList, size_madeCells]; omega), List.getElem?_eq_none (by omega)]
/-- A made row: the fractions L so far, r empty ones behind. -/
def HalfC (w : World) (base : Nat) (e : TypeId) (v : Value) (L : List Fx) (r : Nat) : Prop := OwnC w base e v (L ++ List.replicate r Fx.zero) ∧ ∀ x ∈ L, x.ok w
theorem HalfC.later {w w' : World} {base : Nat} {e : TypeId} {v : Value} {L : List Fx} {r : Nat} (h : HalfC w base e v L r) (hb : Below w.heap.size w w') : HalfC w' base e v L r := ⟨h.1.later hb, fun x hx => (h.2 x hx).later hb⟩
theorem HalfC.done {w : World} {base : Nat} {e : TypeId} {v : Value} {L : List Fx} (h : HalfC w base e v L 0) : Cop w base e v L := by
  obtain ⟨h1, h2⟩ := h
  rw [List.replicate_zero, List.append_nil] at h1
  exact ⟨h1, h2⟩
theorem halfC_made (w : World) (base : Nat) (e : TypeId) (n : Nat) (hn : n ≤ maxLen) (hb : base ≤ w.heap.size) :
    HalfC (w.alloc (.cells (madeCells zcells (n * 3)) e)) base e (.slice (some ⟨w.heap.size, 0, none⟩) n n) [] n := by
  have hh := heap_alloc_new w (.cells (madeCells zcells (n * 3)) e)
  have hf := flat_length (List.replicate n Fx.zero)
  rw [List.length_replicate] at hf
  refine ⟨⟨?_, clean_block hh ?_⟩, fun x hx => by simp at hx⟩
  · rw [List.nil_append, List.length_replicate]
    refine ⟨hf, .inr ⟨w.heap.size, n, madeCells zcells (n * 3), rfl, hb, hh, Nat.le_refl _, hn, size_madeCells _ _, ?_⟩⟩
    rw [flat_zeros, List.take_of_length_le (Nat.le_of_eq hf)]
  · rw [flat_zeros]
    exact noWords_flat _
theorem wpList_make_fracs {P : Program} (w : World) {ops : Array Oper} {rest : List Oper} {o : Oper} {a : Act} {Q : Exit → Act → World → Prop}
    (hg : o.guard = none) (l c : Operand) (t : TypeId) (hop : o.op = Op.makeSlice t l c)
    (base : Nat) (e : TypeId) (i : TypeInfo) (h1 : P.underlying t = some (.slice e)) (h2 : P.info? e = some i) (h3 : i.zero = some (.agg #[.bool false, .slice none 0 0, .slice none 0 0])) (h4 : i.size = 3) (h5 : i.bytes = 56)
    (kl kc : IntKind) (L C : Int) (n : Nat) (hl : a.eval l = .int kl L) (hc : a.eval c = .int kc C) (hL : L = (n : Int)) (hC : C = (n : Int)) (b3 : n ≤ 1000000) (b4 : base ≤ w.heap.size)
    (hK : ∀ w', HalfC w' base e (.slice (some ⟨w.heap.size, 0, none⟩) n n) [] n → w.grownBy w' none → w'.heap.size = w.heap.size + 1 → wpList P ops Q rest (a.put o.dst (.slice (some ⟨w.heap.size, 0, none⟩) n n)) w') :
    wpList P ops Q (o :: rest) a w := by
  refine wpList_plain hg fun K hK' => ?_
  have hb' : (i.bytes : Int) * (n : Int) ≤ 281474976710656 := by rw [h5]; omega
  have hrun := run_make (P := P) w t e i _ h1 h2 h3 kl kc n n (by omega) (by omega) hb' (by omega)
  simp only [Int.toNat_natCast, h4] at hrun
  subst hL
  subst hC
  unfold Oper.wp
  simp [execOp, hop, hl, hc, hrun, Result.andThen]
  exact hK' _ _ (hK _ (halfC_made w base e n (by unfold maxLen; omega) b4) (World.grownBy_alloc w _ none) (World.size_alloc _ _))
theorem owns_len {w : World} {base : Nat} {e : TypeId} {g n cap K : Nat} {xs : List Value} (h1 : w.ownsRow base e 3 (.slice (some ⟨g, 0, none⟩) n cap) K xs) : n = K := by
  rcases h1.2 with ⟨e1, e2⟩ | ⟨g', cap', cur, e1, _⟩
  · cases e1
  · simp only [Value.slice.injEq] at e1
    exact e1.2.1
theorem half_cell {w : World} {base : Nat} {e : TypeId} {g n cap : Nat} {L : List Fx} {r : Nat} (h : HalfC w base e (.slice (some ⟨g, 0, none⟩) n cap) L (r + 1)) {k : Nat} (hk : k = L.length) :
    (w.cell? ⟨g, k * 3, none⟩ = some (.bool false) ∧ w.cell? ⟨g, k * 3 + 1, none⟩ = some (.slice none 0 0) ∧ w.cell? ⟨g, k * 3 + 2, none⟩ = some (.slice none 0 0)) ∧ w.frozen? ⟨g, k * 3, none⟩ = false ∧ w.frozen? ⟨g, k * 3 + 1, none⟩ = false ∧ w.frozen? ⟨g, k * 3 + 2, none⟩ = false := by
  obtain ⟨⟨h1, _⟩, _⟩ := h
  subst hk
  obtain rfl := owns_len h1
  have hl : (L ++ List.replicate (r + 1) Fx.zero).length = L.length + (r + 1) := by rw [List.length_append, List.length_replicate]
  have hz : (L ++ List.replicate (r + 1) Fx.zero).getD L.length Fx.zero = Fx.zero := by
    rw [List.getD_eq_getElem?_getD, List.getElem?_append_right (Nat.le_refl _), Nat.sub_self]; rfl
  obtain ⟨c0, c1, c2⟩ := flat_at (L ++ List.replicate (r + 1) Fx.zero) L.length (by omega)
  rw [hz] at c0 c1 c2
  have hf := flat_length (L ++ List.replicate (r + 1) Fx.zero)
  have p0 := h1.cellAt (L.length * 3) (by omega)
  have p1 := h1.cellAt (L.length * 3 + 1) (by omega)
  have p2 := h1.cellAt (L.length * 3 + 2) (by omega)
  rw [c0] at p0; rw [c1] at p1; rw [c2] at p2
  exact ⟨⟨p0, p1, p2⟩, h1.frozenAt _, h1.frozenAt _, h1.frozenAt _⟩
/-- The next fraction put at its place. -/
theorem HalfC.stored {w : World} {base : Nat} {e : TypeId} {g n cap : Nat} {L : List Fx} {r : Nat} (h : HalfC w base e (.slice (some ⟨g, 0, none⟩) n cap) L (r + 1)) {k : Nat} (hk : k = L.length) (x : Fx) (hx : x.ok w) :
    HalfC (((w.setCell ⟨g, k * 3, none⟩ (.bool x.s)).setCell ⟨g, k * 3 + 1, none⟩ (.slice x.a x.n x.c)).setCell ⟨g, k * 3 + 2, none⟩ (.slice x.b x.m x.d)) base e (.slice (some ⟨g, 0, none⟩) n cap) (L ++ [x]) r ∧
    w.grownBy (((w.setCell ⟨g, k * 3, none⟩ (.bool x.s)).setCell ⟨g, k * 3 + 1, none⟩ (.slice x.a x.n x.c)).setCell ⟨g, k * 3 + 2, none⟩ (.slice x.b x.m x.d)) (some g) := by
  obtain ⟨⟨p0, p1, p2⟩, -⟩ := half_cell h hk
  obtain ⟨⟨h1, h2⟩, h4⟩ := h
  subst hk
  have hl : (L ++ List.replicate (r + 1) Fx.zero).length = L.length + (r + 1) := by rw [List.length_append, List.length_replicate]
  obtain rfl := owns_len h1
  have hset : (L ++ List.replicate (r + 1) Fx.zero).set L.length x = (L ++ [x]) ++ List.replicate r Fx.zero := by
    rw [List.set_append_right _ _ (Nat.le_refl _), Nat.sub_self, List.replicate_succ, List.set_cons_zero, List.append_assoc]; rfl
  obtain ⟨s0, g0⟩ := h1.stored (L.length * 3) (.bool x.s)
  obtain ⟨s1, g1⟩ := s0.stored (L.length * 3 + 1) (.slice x.a x.n x.c)
  obtain ⟨s2, g2⟩ := s1.stored (L.length * 3 + 2) (.slice x.b x.m x.d)
  have l0 := clean_store (j := L.length * 3) (u := .bool x.s) h2 p0 (fun y e => by cases e)
  have l1 := clean_store (j := L.length * 3 + 1) (u := .slice x.a x.n x.c) l0 ((World.cell?_setCell_other _ ⟨g, L.length * 3, none⟩ ⟨g, L.length * 3 + 1, none⟩ _ (fun e => by simp at e)).trans p1) (fun y e => by cases e)
  have l2 := clean_store (j := L.length * 3 + 2) (u := .slice x.b x.m x.d) l1 (((World.cell?_setCell_other _ ⟨g, L.length * 3 + 1, none⟩ ⟨g, L.length * 3 + 2, none⟩ _ (fun e => by simp at e)).trans (World.cell?_setCell_other _ ⟨g, L.length * 3, none⟩ ⟨g, L.length * 3 + 2, none⟩ _ (fun e => by simp at e))).trans p2) (fun y e => by cases e)
  have hg := (g0.trans g1).trans g2
  refine ⟨⟨⟨?_, l2⟩, fun y hy => ?_⟩, hg⟩
  · rw [← hset, fr_flat_set _ _ _ (by omega), List.length_set]
    exact s2
  · rcases List.mem_append.1 hy with hy | hy
    · exact Fx.aside (h4 y hy) h2 hg
    · rw [List.mem_singleton.1 hy]
      exact Fx.aside hx h2 hg
/-- A made row: right fractions so far. -/
def Half (w : World) (base : Nat) (e : TypeId) (v : Value) (qs : List Rat) (r : Nat) : Prop := ∃ L, HalfC w base e v L r ∧ L.map Fx.q = qs ∧ ∀ x ∈ L, x.right
theorem Half.later {w w' : World} {base : Nat} {e : TypeId} {v : Value} {qs : List Rat} {r : Nat} (h : Half w base e v qs r) (hb : Below w.heap.size w w') : Half w' base e v qs r := by
  obtain ⟨L, h1, h2, h3⟩ := h
  exact ⟨L, h1.later hb, h2, h3⟩
theorem Half.start {w : World} {base : Nat} {e : TypeId} {v : Value} {r : Nat} (h : HalfC w base e v [] r) : Half w base e v [] r := ⟨[], h, rfl, fun x hx => by simp at hx⟩
theorem Half.done {w : World} {base : Nat} {e : TypeId} {v : Value} {qs : List Rat} (h : Half w base e v qs 0) : Row w base e v qs := by
  obtain ⟨L, h1, h2, h3⟩ := h
  exact ⟨L, h1.done.1, h2, fun x hx => ⟨h1.done.2 x hx, h3 x hx⟩⟩
theorem Half.cell {w : World} {base : Nat} {e : TypeId} {g n cap : Nat} {qs : List Rat} {r : Nat} (h : Half w base e (.slice (some ⟨g, 0, none⟩) n cap) qs (r + 1)) {k : Nat} (hk : k = qs.length) :
    (w.cell? ⟨g, k * 3, none⟩ = some (.bool false) ∧ w.cell? ⟨g, k * 3 + 1, none⟩ = some (.slice none 0 0) ∧ w.cell? ⟨g, k * 3 + 2, none⟩ = some (.slice none 0 0)) ∧ w.frozen? ⟨g, k * 3, none⟩ = false ∧ w.frozen? ⟨g, k * 3 + 1, none⟩ = false ∧ w.frozen? ⟨g, k * 3 + 2, none⟩ = false := by
  obtain ⟨L, h1, h2, h3⟩ := h
  exact half_cell h1 (by rw [hk, ← h2, List.length_map])
theorem Half.stored {w : World} {base : Nat} {e : TypeId} {g n cap : Nat} {qs : List Rat} {r : Nat} (h : Half w base e (.slice (some ⟨g, 0, none⟩) n cap) qs (r + 1)) {k : Nat} (hk : k = qs.length) (q : Rat) (a : Option Addr) (m c : Nat) (b : Option Addr) (l d : Nat) (ha : Wd w a m c (dg q.num.natAbs)) (hb : Wd w b l d (dg q.den)) :
    Half (((w.setCell ⟨g, k * 3, none⟩ (.bool (zneg q.num))).setCell ⟨g, k * 3 + 1, none⟩ (.slice a m c)).setCell ⟨g, k * 3 + 2, none⟩ (.slice b l d)) base e (.slice (some ⟨g, 0, none⟩) n cap) (qs ++ [q]) r ∧
    w.grownBy (((w.setCell ⟨g, k * 3, none⟩ (.bool (zneg q.num))).setCell ⟨g, k * 3 + 1, none⟩ (.slice a m c)).setCell ⟨g, k * 3 + 2, none⟩ (.slice b l d)) (some g) := by
  obtain ⟨L, h1, h2, h3⟩ := h
  obtain ⟨h5, h6⟩ := h1.stored (k := k) (by rw [hk, ← h2, List.length_map]) (rx q a m c b l d) ⟨ha, hb⟩
  refine ⟨⟨L ++ [rx q a m c b l d], h5, by rw [List.map_append, h2]; simp [rx_q], fun y hy => ?_⟩, h6⟩
  rcases List.mem_append.1 hy with hy | hy
  · exact h3 y hy
  · rw [List.mem_singleton.1 hy]
    exact rx_right _ _ _ _ _ _ _
theorem Half.whole {w : World} {base : Nat} {e : TypeId} {v : Value} {T : List Rat} {k r : Nat} (h : Half w base e v (T.take k) r) (hk : T.length = k) (hr : r = 0) : Row w base e v T := by
  subst hr
  exact h.done.whole hk
end Go.Proofs.YtjeigdlhjghinaaGreatDoor

/-
  What package row's functions owe (layer 11), as one hypothesis: the contracts that the laws' walks lean on.
-/
namespace Go.Proofs.YtjeigdlhjghinaaGreatDoor
open Go.RowKit

structure RowSaid : Prop where
  zero : ∀ (n : Int) (w : World), isInt n → Calls Tryz.prog 13 #[.int .i64 n] w (LstRw (List.replicate (rcut n) 0) w)
  unit : ∀ (n i : Int) (w : World), isInt n → isInt i → Calls Tryz.prog 15 #[.int .i64 n, .int .i64 i] w (LstRw (runit (rcut n) i) w)
  same : ∀ (a : Option Addr) (n c : Nat) (L : List Fx) (b : Option Addr) (m d : Nat) (M : List Fx) (w : World), Fxs w a n c L → Fxs w b m d M → n ≤ 300 → m ≤ 300 → thin 1000 L → thin 1000 M → Calls Tryz.prog 17 #[.slice a n c, .slice b m d] w (Gives (.bool (decide (fqs L = fqs M))) w)
  add_yes : ∀ (a : Option Addr) (n c : Nat) (LL : List (List Fx)) (w : World), Fxss w a n c LL → n ≤ 10 → (∀ L ∈ LL, L.length ≤ 300 ∧ thin 100 L) → even (LL.map fqs) → Calls Tryz.prog 27 #[.slice a n c] w (LstRwV (raddAll (LL.map fqs)) (.bool true) w)
  add_no : ∀ (a : Option Addr) (n c : Nat) (LL : List (List Fx)) (w : World), Fxss w a n c LL → n ≤ 10 → (∀ L ∈ LL, L.length ≤ 300 ∧ thin 100 L) → ¬ even (LL.map fqs) → Calls Tryz.prog 27 #[.slice a n c] w (LstRwV [] (.bool false) w)
  sub_yes : ∀ (a : Option Addr) (n c : Nat) (L : List Fx) (b : Option Addr) (m d : Nat) (M : List Fx) (w : World), Fxs w a n c L → Fxs w b m d M → n ≤ 300 → m ≤ 300 → thin 60 L → thin 60 M → Hid (n = m) → Calls Tryz.prog 28 #[.slice a n c, .slice b m d] w (LstRwV (radd (fqs L) (rscale (-1) (fqs M))) (.bool true) w)
  sub_no : ∀ (a : Option Addr) (n c : Nat) (L : List Fx) (b : Option Addr) (m d : Nat) (M : List Fx) (w : World), Fxs w a n c L → Fxs w b m d M → n ≤ 300 → m ≤ 300 → thin 60 L → thin 60 M → Hid (n ≠ m) → Calls Tryz.prog 28 #[.slice a n c, .slice b m d] w (LstRwV [] (.bool false) w)
  scale : ∀ (v : Value) (q : Rat) (a : Option Addr) (n c : Nat) (L : List Fx) (w : World), Fr w v q 300 → Fxs w a n c L → n ≤ 300 → thin 300 L → Calls Tryz.prog 30 #[v, .slice a n c] w (LstRw (rscale q (fqs L)) w)
  dot_yes : ∀ (a : Option Addr) (n c : Nat) (L : List Fx) (b : Option Addr) (m d : Nat) (M : List Fx) (w : World), Fxs w a n c L → Fxs w b m d M → n ≤ 20 → m ≤ 20 → thin 30 L → thin 30 M → Hid (n = m) → Calls Tryz.prog 29 #[.slice a n c, .slice b m d] w (LstQV (rdot (fqs L) (fqs M)) (.bool true) w)
  dot_no : ∀ (a : Option Addr) (n c : Nat) (L : List Fx) (b : Option Addr) (m d : Nat) (M : List Fx) (w : World), Fxs w a n c L → Fxs w b m d M → n ≤ 20 → m ≤ 20 → thin 30 L → thin 30 M → Hid (n ≠ m) → Calls Tryz.prog 29 #[.slice a n c, .slice b m d] w (LstQV 0 (.bool false) w)
  mix_yes : ∀ (a : Option Addr) (n c : Nat) (L : List Fx) (b : Option Addr) (m d : Nat) (LL : List (List Fx)) (k : Int) (w : World), Fxs w a n c L → Fxss w b m d LL → n ≤ 10 → m ≤ 10 → thin 4 L → (∀ M ∈ LL, M.length ≤ 10 ∧ thin 4 M) → isInt k → Hid (n = m ∧ 0 ≤ k ∧ k ≤ 300 ∧ ∀ M ∈ LL, (M.length : Int) = k) →
    Calls Tryz.prog 37 #[.slice a n c, .slice b m d, .int .i64 k] w (LstRwV (rmix (List.replicate k.toNat 0) (fqs L) (LL.map fqs)) (.bool true) w)
  mix_no : ∀ (a : Option Addr) (n c : Nat) (L : List Fx) (b : Option Addr) (m d : Nat) (LL : List (List Fx)) (k : Int) (w : World), Fxs w a n c L → Fxss w b m d LL → n ≤ 10 → m ≤ 10 → thin 4 L → (∀ M ∈ LL, M.length ≤ 10 ∧ thin 4 M) → isInt k → Hid (¬ (n = m ∧ 0 ≤ k ∧ k ≤ 300 ∧ ∀ M ∈ LL, (M.length : Int) = k)) →
    Calls Tryz.prog 37 #[.slice a n c, .slice b m d, .int .i64 k] w (LstRwV [] (.bool false) w)
  norm : ∀ (a : Option Addr) (n c : Nat) (L : List Fx) (w : World), Fxs w a n c L → n ≤ 300 → thin 1000 L → Calls Tryz.prog 21 #[.slice a n c] w (LstQ (rnorm (fqs L)) w)
  size : ∀ (a : Option Addr) (n c : Nat) (L : List Fx) (w : World), Fxs w a n c L → n ≤ 300 → thin 1000 L → Calls Tryz.prog 23 #[.slice a n c] w (Gives (.int .i64 ((rsizeFrom 0 L : Nat) : Int)) w)
  text : ∀ (a : Option Addr) (n c : Nat) (L : List Fx) (w : World), Fxs w a n c L → n ≤ 300 → thin 100 L → Hid (Dec10 w) → Calls Tryz.prog 40 #[.slice a n c] w (Gives (.string (bs (rowTxt (fqs L)))) w)
  read : ∀ (l : List UInt8) (w : World), l.length ≤ 5000 → (∀ p ∈ pieces l, p.length ≤ 1000) → Calls Tryz.prog 38 #[.string (bs l)] w (LstRwV (rowVals l) (faultV (rowKind l) 0 0 (rowPlace l)) w)
end Go.Proofs.YtjeigdlhjghinaaGreatDoor

/-
  What a row lists of the library's tables, wherever it stands on the list. Of no program.
-/
namespace Go.Proofs.YtjeigdlhjghinaaGreatDoor

theorem laidMet_rest {P : Program} {x : String × DataW Unit} {r : List (String × DataW Unit)} {w : World} (h : laidMet P (x :: r) w) : laidMet P r w := by
  obtain ⟨ps, hv, hnd, hrows⟩ := h
  obtain ⟨n, d⟩ := x
  obtain ⟨g, t, cs, fuel, p, q, _, _, _, _, hq, rfl⟩ := hv
  exact ⟨q, hq, List.Nodup.sublist (List.sublist_append_right _ _) hnd, fun b off hm => hrows b off (List.mem_append_right _ hm)⟩
theorem laidMet_drop {P : Program} {w : World} (k : Nat) {laid : List (String × DataW Unit)} (h : laidMet P laid w) : laidMet P (laid.drop k) w := by
  induction k generalizing laid with
  | zero => exact h
  | succ k ih =>
    cases laid with
    | nil => exact h
    | cons x r => exact ih (laidMet_rest h)
theorem tab_of_laid {P : Program} {W : World} {laid : List (String × DataW Unit)} {k : IntKind} {zs : List Int} {g : Nat} {t e : TypeId} {n : Nat} (K : Nat) (nm : String) (hl : laid.drop K = (nm, Lib.tabData k zs) :: laid.drop (K + 1))
    (hg : P.globalNamed nm = some g) (hty : (P.globals[g]?).map (·.type) = some t) (ht : P.underlying t = some (.array n e)) (he : P.underlying e = some (.int k)) (hce : P.cellsOf e = 1) (hct : P.cellsOf t = n)
    (h : laidMet P laid W) (name : String) (hn : P.globalNamed name = some g) : Lib.TabIs P W name k zs := by
  have h1 := laidMet_drop K h
  rw [hl] at h1
  have h2 := Lib.tabIs_of_head hg hty ht he hce hct h1
  unfold Lib.TabIs World.var? at h2 ⊢
  rw [hn]
  rwa [hg] at h2
end Go.Proofs.YtjeigdlhjghinaaGreatDoor

/-
  Package row at this seat: Zero, Unit.
-/
namespace Go.Proofs.YtjeigdlhjghinaaGreatDoor
open Go.RowKit

theorem infoFracR : (Tryz.prog.info? 41).map (fun i => (i.zero, i.size, i.bytes)) = some (some (.agg #[.bool false, .slice none 0 0, .slice none 0 0]), 3, 56) := by kernel_rfl
theorem rcut_lt9 {n : Int} : ((min (max n 0) 300 : Int) = ((rcut n : Nat) : Int)) := by unfold rcut; omega
theorem rcut_le9 (n : Int) : rcut n ≤ 300 := by unfold rcut; omega
theorem reps_more9 {k m : Nat} (h : k < m) : (List.replicate m (0 : Rat)).take (k + 1) = (List.replicate m (0 : Rat)).take k ++ [0] := by
  rw [List.take_replicate, List.take_replicate, Nat.min_eq_left (by omega), Nat.min_eq_left (by omega), List.replicate_succ']
set_option maxRecDepth 4096 in
set_option maxHeartbeats 4000000 in
theorem row_zero_row (z : Int) (w : World) (_hz : isInt z) : Calls Tryz.prog 13 #[.int .i64 z] w (LstRow 41 (List.replicate (rcut z) 0) w) := by
  obtain ⟨n, hnz⟩ : ∃ n, rcut z = n := ⟨_, rfl⟩
  have hn3 : n ≤ 300 := hnz ▸ rcut_le9 z
  have hM : (min (max z 0) 300 : Int) = (n : Int) := hnz ▸ rcut_lt9
  rw [hnz]
  clear hnz
  obtain ⟨T, hT⟩ : ∃ T, List.replicate n (0 : Rat) = T := ⟨_, rfl⟩
  have HTm : Hid (∀ k, k < n → T.take (k + 1) = T.take k ++ [0]) := Lib.hid (fun k hk => hT ▸ reps_more9 hk)
  have HTL : Hid (T.length = n) := Lib.hid (by rw [← hT, List.length_replicate])
  rw [hT]
  clear hT
  obtain ⟨tk, hq0⟩ : ∃ q : Rat, ((0 : Int) : Rat) = q := ⟨_, rfl⟩
  have HQ0 : Hid (tk = 0) := Lib.hid (by rw [← hq0]; rfl)
  have EQ := Lib.hid hq0
  clear hq0
  obtain ⟨i0, hi, hz0, hz1, hz2⟩ := info_parts infoFracR
  go_enter Tryz.func13, Tryz.ntmps13
  go_wp2_with (at_make; refine wpList_make_fracs _ rfl _ _ 28 rfl (w.heap.size) 41 i0 Tryz.underlying28 hi hz0 hz1 hz2 _ _ _ _ n rfl rfl (by omega) (by omega) (by omega) (by simp) ?_; intro wm hmade hgm hszm)
  have HO0 := Lib.hid (Half.start hmade)
  have HB0 : Hid (Below w.heap.size w wm) := Lib.hid ((Below.refl _ _).grown hgm (Nat.le_refl _) (fun k hk => by cases hk))
  clear hmade hgm hM
  go_loopw [11] (fun iv wr => ∃ k r : Nat, k + r = n ∧ iv = .int .i64 (k : Int) ∧ Hid (Half wr w.heap.size 41 (.slice (some ⟨w.heap.size, 0, none⟩) n n) (T.take k) r) ∧ Hid (Below w.heap.size w wr) ∧ w.heap.size < wr.heap.size) (fun iv _ => n - (intOf iv).toNat)
  case atStart => exact ⟨0, n, by omega, rfl, HO0, HB0, by omega⟩
  case round =>
    clear HO0 HB0
    obtain ⟨k, r, hk, rfl, HO, HB, hsz⟩ := hrel
    by_cases hlt : k < n
    · have hkT : k < T.length := by rw [HTL.out]; exact hlt
      obtain ⟨r, rfl⟩ : ∃ r', r = r' + 1 := ⟨r - 1, by omega⟩
      have HT : Hid (T.take (k + 1) = T.take k ++ [tk]) := Lib.hid (by rw [HTm.out k hlt, HQ0.out])
      have hki : (k : Int) < (n : Int) := by omega
      have hk0 : (0 : Int) ≤ (k : Int) := by omega
      go_wp2_with fail
      refine (frac_of 0 _ (by decide)).mono ?_
      rintro e w4 ⟨a4, n4, c4, b4, m4, d4, rfl, h4, g4, bw⟩
      rw [EQ.out] at h4 g4 ⊢
      replace HB := Lib.hid (below_then HB.out bw)
      replace HO := Lib.hid (HO.out.later bw)
      have hsz4 : w.heap.size < w4.heap.size := Nat.lt_of_lt_of_le hsz bw.size
      clear bw hsz
      obtain ⟨⟨p0, p1, p2⟩, f0, f1, f2⟩ := HO.out.cell (k := k) (by rw [take_len (Nat.le_of_lt hkT)])
      obtain ⟨hst, hgr⟩ := HO.out.stored (k := k) (by rw [take_len (Nat.le_of_lt hkT)]) tk a4 n4 c4 b4 m4 d4 h4 g4
      rw [← HT.out] at hst
      have HS := Lib.hid hst
      have HB5 := Lib.hid (HB.out.grown hgr HB.out.size (fun g' hg' => by simp at hg'; omega))
      have hsz5 := Nat.lt_of_lt_of_le hsz4 hgr.size
      clear hst hgr h4 g4 HO HB HT
      unfold frV
      go_wp2
      go_roundw
      case rel => exact ⟨k + 1, r, by omega, by go_num, HS, HB5, hsz5⟩
      case measure => simp [intOf]; omega
    · obtain rfl : k = n := by omega
      have HF := Lib.hid (HO.out.whole HTL.out (by omega))
      clear HO
      go_wp2
      go_ret
      exact ⟨_, rfl, HF.out, HB.out⟩
theorem row_zero (z : Int) (w : World) (hz : isInt z) : Calls Tryz.prog 13 #[.int .i64 z] w (LstRw (List.replicate (rcut z) 0) w) := (row_zero_row z w hz).mono fun _ _ h => h.out
theorem runit_yes9 {k j : Nat} (h : j < k) : runit k (j : Int) = (List.replicate k 0).set j 1 := by
  unfold runit
  rw [if_pos (by omega), Int.toNat_natCast]
theorem runit_no9 {k : Nat} {i : Int} (h : ¬ (0 ≤ i ∧ i < k)) : runit k i = List.replicate k 0 := by
  unfold runit
  rw [if_neg h]
set_option maxRecDepth 4096 in
set_option maxHeartbeats 4000000 in
theorem row_unit (z i : Int) (w : World) (hz : isInt z) (_hi : isInt i) : Calls Tryz.prog 15 #[.int .i64 z, .int .i64 i] w (LstRw (runit (rcut z) i) w) := by
  obtain ⟨n, hnz⟩ : ∃ n, rcut z = n := ⟨_, rfl⟩
  have hn3 : n ≤ 300 := hnz ▸ rcut_le9 z
  have HZ : ∀ w', Calls Tryz.prog 13 #[.int .i64 z] w' (LstRow 41 (List.replicate n 0) w') := fun w' => hnz ▸ row_zero_row z w' hz
  rw [hnz]
  clear hnz hz
  obtain ⟨T, hT⟩ : ∃ T, List.replicate n (0 : Rat) = T := ⟨_, rfl⟩
  have HTL : Hid (T.length = n) := Lib.hid (by rw [← hT, List.length_replicate])
  obtain ⟨q1, hq1⟩ : ∃ q : Rat, ((1 : Int) : Rat) = q := ⟨_, rfl⟩
  have EQ := Lib.hid hq1
  by_cases hin : 0 ≤ i ∧ i < n
  · obtain ⟨j, rfl⟩ : ∃ j : Nat, i = (j : Int) := ⟨i.toNat, by omega⟩
    have hj : j < n := by omega
    have hji : (j : Int) < (n : Int) := by omega
    have hj0 : (0 : Int) ≤ (j : Int) := by omega
    have ER : Hid (runit n (j : Int) = T.set j q1) := Lib.hid (by rw [runit_yes9 hj, ← hT, ← hq1]; rfl)
    rw [ER.out]
    rw [hT] at HZ
    clear hT hq1 hin
    go_enter Tryz.func15, Tryz.ntmps15
    go_wp2_with fail
    refine (HZ _).mono ?_
    rintro e w1 ⟨v, rfl, hrow, b⟩
    obtain ⟨g, cap, rfl, hg1, hg2⟩ := hrow.form (by rw [HTL.out]; omega)
    rw [HTL.out] at hrow ⊢
    have HO := Lib.hid hrow
    have HB := Lib.hid b
    clear hrow b
    go_wp2_with fail
    refine (frac_of 1 _ (by decide)).mono ?_
    rintro e w2 ⟨a4, n4, c4, b4, m4, d4, rfl, h4, g4, bw⟩
    rw [EQ.out] at h4 g4 ⊢
    replace HB := Lib.hid (below_then HB.out bw)
    replace HO := Lib.hid (HO.out.later bw)
    have hg3 : g < w2.heap.size := Nat.lt_of_lt_of_le hg2 bw.size
    clear bw hg2
    obtain ⟨x, y, u, ⟨p0, p1, p2⟩, f0, f1, f2⟩ := HO.out.free HTL.out.symm (i := j) (by rw [HTL.out]; exact hj)
    obtain ⟨hst, hgr⟩ := HO.out.stored HTL.out.symm (i := j) (by rw [HTL.out]; exact hj) q1 a4 n4 c4 b4 m4 d4 h4 g4
    have HS := Lib.hid hst
    have HB5 := Lib.hid (HB.out.grown hgr HB.out.size (fun g' hg' => by simp at hg'; omega))
    clear hst hgr h4 g4 HO HB
    unfold frV
    go_wp2
    go_ret
    obtain ⟨a9, c9, e9, h9⟩ := HS.out.out
    rw [List.length_set, HTL.out] at e9 h9
    cases e9
    exact ⟨_, n, _, rfl, h9, HB5.out⟩
  · rw [runit_no9 hin, hT]
    clear EQ hq1
    go_enter Tryz.func15, Tryz.ntmps15
    go_wp2_with fail
    refine (HZ _).mono ?_
    rintro e w1 ⟨v, rfl, hrow, b⟩
    obtain ⟨a9, c9, rfl, h9⟩ := hrow.out
    rw [hT, HTL.out] at h9 ⊢
    have HF := Lib.hid h9
    have HB := Lib.hid b
    clear hrow b h9
    by_cases h0 : 0 ≤ i
    · have h1 : ¬ i < (n : Int) := fun h => hin ⟨h0, h⟩
      clear hin
      go_wp2
      go_ret
      exact ⟨a9, n, c9, rfl, HF.out, HB.out⟩
    · clear hin
      go_wp2
      go_ret
      exact ⟨a9, n, c9, rfl, HF.out, HB.out⟩
end Go.Proofs.YtjeigdlhjghinaaGreatDoor
