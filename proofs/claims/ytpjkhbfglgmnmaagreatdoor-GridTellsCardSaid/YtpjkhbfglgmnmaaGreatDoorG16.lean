/-
  Several texts of this claim as one, group 16.
-/
import Derived.Test.YtpjkhbfglgmnmaaGreatDoorG12
import Derived.Test.YtpjkhbfglgmnmaaGreatDoorG13
import Derived.Test.YtpjkhbfglgmnmaaGreatDoorG15
import Derived.Test.YtpjkhbfglgmnmaaGreatDoorG4
/-
  Plain mathematics of layer 12: matrices of rational numbers as lists of rows; the product of three. Of no program.
-/
namespace Go.Proofs.YtpjkhbfglgmnmaaGreatDoor

def sumTo : Nat → (Nat → Rat) → Rat
  | 0, _ => 0
  | n + 1, f => sumTo n f + f n
theorem sumTo_first : ∀ (n : Nat) (f : Nat → Rat), sumTo (n + 1) f = f 0 + sumTo n (fun k => f (k + 1))
  | 0, f => by show (0 : Rat) + f 0 = f 0 + 0; grind
  | n + 1, f => by
    show sumTo (n + 1) f + f (n + 1) = f 0 + (sumTo n (fun k => f (k + 1)) + f (n + 1))
    rw [sumTo_first n f]; grind
theorem sumTo_congr : ∀ {n : Nat} {f g : Nat → Rat}, (∀ k, k < n → f k = g k) → sumTo n f = sumTo n g
  | 0, _, _, _ => rfl
  | n + 1, f, g, h => by
    show sumTo n f + f n = sumTo n g + g n
    rw [sumTo_congr (fun k hk => h k (by omega)), h n (by omega)]
theorem sumTo_zero : ∀ n : Nat, sumTo n (fun _ => 0) = 0
  | 0 => rfl
  | n + 1 => by show sumTo n _ + 0 = 0; rw [sumTo_zero n]; grind
theorem sumTo_add : ∀ (n : Nat) (f g : Nat → Rat), sumTo n (fun k => f k + g k) = sumTo n f + sumTo n g
  | 0, _, _ => by show (0 : Rat) = 0 + 0; grind
  | n + 1, f, g => by
    show sumTo n (fun k => f k + g k) + (f n + g n) = (sumTo n f + f n) + (sumTo n g + g n)
    rw [sumTo_add n f g]; grind
theorem sumTo_mul (c : Rat) : ∀ (n : Nat) (f : Nat → Rat), sumTo n (fun k => c * f k) = c * sumTo n f
  | 0, _ => by show (0 : Rat) = c * 0; grind
  | n + 1, f => by
    show sumTo n (fun k => c * f k) + c * f n = c * (sumTo n f + f n)
    rw [sumTo_mul c n f]; grind
theorem sumTo_swap : ∀ (n m : Nat) (f : Nat → Nat → Rat), sumTo n (fun i => sumTo m (fun j => f i j)) = sumTo m (fun j => sumTo n (fun i => f i j))
  | 0, m, f => (sumTo_zero m).symm
  | n + 1, m, f => by
    show sumTo n (fun i => sumTo m (fun j => f i j)) + sumTo m (fun j => f n j) = sumTo m (fun j => sumTo n (fun i => f i j) + f n j)
    rw [sumTo_swap n m f, ← sumTo_add]
theorem rdot_sum : ∀ {l m : List Rat}, l.length = m.length → rdot l m = sumTo l.length (fun k => l.getD k 0 * m.getD k 0)
  | [], [], _ => by rw [rdot]; rfl; simp
  | x :: l, y :: m, h => by
    have ih := rdot_sum (l := l) (m := m) (by simpa using h)
    rw [rdot, ih, List.length_cons, sumTo_first]
    rfl
  | [], _ :: _, h => by simp at h
  | _ :: _, [], h => by simp at h

/-- So many rows, each so long. -/
def mat (n w : Nat) (m : List (List Rat)) : Prop := m.length = n ∧ ∀ r ∈ m, r.length = w
def ent (m : List (List Rat)) (i j : Nat) : Rat := (m.getD i []).getD j 0
theorem mat.row {n w : Nat} {m : List (List Rat)} (h : mat n w m) {i : Nat} (hi : i < n) : (m.getD i []).length = w := by
  have hl : i < m.length := by rw [h.1]; exact hi
  rw [List.getD_eq_getElem?_getD, List.getElem?_eq_getElem hl]
  exact h.2 _ (List.getElem_mem hl)
theorem getD_ext {l m : List Rat} (hl : l.length = m.length) (h : ∀ k, k < l.length → l.getD k 0 = m.getD k 0) : l = m := by
  refine List.ext_getElem hl fun k h1 h2 => ?_
  have := h k h1
  rwa [List.getD_eq_getElem?_getD, List.getD_eq_getElem?_getD, List.getElem?_eq_getElem h1, List.getElem?_eq_getElem h2] at this
theorem mat_ext {n w : Nat} {a b : List (List Rat)} (ha : mat n w a) (hb : mat n w b) (h : ∀ i j, i < n → j < w → ent a i j = ent b i j) : a = b := by
  refine List.ext_getElem (ha.1.trans hb.1.symm) fun i h1 h2 => ?_
  have hi : i < n := by rw [← ha.1]; exact h1
  have r1 := ha.row hi
  have r2 := hb.row hi
  have e := getD_ext (r1.trans r2.symm) (fun k hk => h i k hi (by omega))
  rwa [List.getD_eq_getElem?_getD, List.getD_eq_getElem?_getD, List.getElem?_eq_getElem h1, List.getElem?_eq_getElem h2] at e
theorem ent_map {α : Type} {l : List α} {f : α → List Rat} {i : Nat} (hi : i < l.length) (j : Nat) : ent (l.map f) i j = (f l[i]).getD j 0 := by
  unfold ent
  rw [List.getD_eq_getElem?_getD (l := l.map f), List.getElem?_map, List.getElem?_eq_getElem hi]; rfl
/-- A column; what was turned; a row and a matrix; a matrix and a column; a product; a sum. -/
def gcol (m : List (List Rat)) (j : Nat) : List Rat := m.map (fun r => r.getD j 0)
def gturn (w : Nat) (m : List (List Rat)) : List (List Rat) := (List.range w).map (gcol m)
def gleft (w : Nat) (r : List Rat) (m : List (List Rat)) : List Rat := rmix (List.replicate w 0) r m
def gapply (m : List (List Rat)) (c : List Rat) : List Rat := m.map (fun r => rdot r c)
def gmul (w : Nat) (a b : List (List Rat)) : List (List Rat) := a.map (fun r => gleft w r b)
def gadd : List (List Rat) → List (List Rat) → List (List Rat)
  | x :: a, y :: b => radd x y :: gadd a b
  | _, _ => []
theorem gcol_length (m : List (List Rat)) (j : Nat) : (gcol m j).length = m.length := List.length_map _
theorem gcol_getD {m : List (List Rat)} {j k : Nat} (hk : k < m.length) : (gcol m j).getD k 0 = ent m k j := by
  unfold gcol ent
  rw [List.getD_eq_getElem?_getD, List.getElem?_map, List.getElem?_eq_getElem hk, List.getD_eq_getElem?_getD (l := m), List.getElem?_eq_getElem hk]; rfl
theorem radd_at : ∀ {l m : List Rat} {k : Nat}, k < l.length → k < m.length → (radd l m).getD k 0 = l.getD k 0 + m.getD k 0
  | x :: l, y :: m, 0, _, _ => rfl
  | x :: l, y :: m, k + 1, h, h' => by
    have := radd_at (l := l) (m := m) (k := k) (by simpa using h) (by simpa using h')
    simpa [radd] using this
  | [], _, _, h, _ => by simp at h
  | _ :: _, [], _, _, h => by simp at h
theorem rscale_at {c : Rat} {l : List Rat} {k : Nat} (h : k < l.length) : (rscale c l).getD k 0 = c * l.getD k 0 := by
  unfold rscale
  rw [List.getD_eq_getElem?_getD, List.getElem?_map, List.getD_eq_getElem?_getD, List.getElem?_eq_getElem h]; rfl
theorem rmix_at {w j : Nat} (hj : j < w) : ∀ {r : List Rat} {m : List (List Rat)} {s : List Rat}, s.length = w → (∀ x ∈ m, x.length = w) → r.length = m.length → (rmix s r m).length = w ∧ (rmix s r m).getD j 0 = s.getD j 0 + rdot r (gcol m j)
  | [], [], s, hs, _, _ => by
    rw [rmix]
    · refine ⟨hs, ?_⟩
      show _ = _ + rdot [] []
      rw [rdot]
      · grind
      · simp
    · simp
  | c :: r, x :: m, s, hs, hm, hl => by
    have hx := hm x (List.mem_cons_self ..)
    have h1 : (radd s (rscale c x)).length = w := by rw [radd_length _ _ (by rw [rscale_length]; omega)]; exact hs
    obtain ⟨h2, h3⟩ := rmix_at hj (r := r) (m := m) h1 (fun y hy => hm y (List.mem_cons_of_mem _ hy)) (by simpa using hl)
    rw [rmix]
    refine ⟨h2, ?_⟩
    rw [h3, radd_at (by omega) (by rw [rscale_length]; omega), rscale_at (by omega)]
    show s.getD j 0 + c * x.getD j 0 + rdot r (gcol m j) = s.getD j 0 + rdot (c :: r) (x.getD j 0 :: gcol m j)
    rw [rdot]; grind
  | [], _ :: _, _, _, _, h => by simp at h
  | _ :: _, [], _, _, _, h => by simp at h
theorem rmix_long {w : Nat} : ∀ {r : List Rat} {m : List (List Rat)} {s : List Rat}, s.length = w → (∀ x ∈ m, x.length = w) → (rmix s r m).length = w
  | [], m, s, hs, _ => by rw [rmix]; exact hs; simp
  | c :: r, [], s, hs, _ => by rw [rmix]; exact hs; simp
  | c :: r, x :: m, s, hs, hm => by
    rw [rmix]
    exact rmix_long (by rw [radd_length _ _ (by rw [rscale_length, hm x (List.mem_cons_self ..)]; exact hs)]; exact hs) (fun y hy => hm y (List.mem_cons_of_mem _ hy))
theorem gleft_length {w n : Nat} {r : List Rat} {m : List (List Rat)} (hm : mat n w m) : (gleft w r m).length = w := rmix_long (by rw [List.length_replicate]) hm.2
theorem gleft_at {w n j : Nat} {r : List Rat} {m : List (List Rat)} (hm : mat n w m) (hr : r.length = n) (hj : j < w) : (gleft w r m).getD j 0 = sumTo n (fun k => r.getD k 0 * ent m k j) := by
  have h := (rmix_at hj (r := r) (m := m) (s := List.replicate w 0) (by rw [List.length_replicate]) hm.2 (by rw [hr, hm.1])).2
  unfold gleft
  rw [h, rdot_sum (by rw [gcol_length, hr, hm.1]), hr]
  have e0 : (List.replicate w (0 : Rat)).getD j 0 = 0 := by
    rw [List.getD_eq_getElem?_getD, List.getElem?_replicate]; split <;> rfl
  rw [e0, sumTo_congr (g := fun k => r.getD k 0 * ent m k j) (fun k hk => by rw [gcol_getD (by rw [hm.1]; exact hk)])]
  grind
theorem gapply_length (m : List (List Rat)) (c : List Rat) : (gapply m c).length = m.length := List.length_map _
theorem gapply_at {n w i : Nat} {m : List (List Rat)} {c : List Rat} (hm : mat n w m) (hc : c.length = w) (hi : i < n) : (gapply m c).getD i 0 = sumTo w (fun k => ent m i k * c.getD k 0) := by
  have hl : i < m.length := by rw [hm.1]; exact hi
  have hr := hm.row hi
  unfold gapply ent
  rw [List.getD_eq_getElem?_getD, List.getElem?_map, List.getElem?_eq_getElem hl]
  rw [List.getD_eq_getElem?_getD, List.getElem?_eq_getElem hl] at hr ⊢
  show rdot m[i] c = _
  have hr' : m[i].length = w := hr
  rw [rdot_sum (by rw [hr', hc]), hr']; rfl
/-- A row, a matrix and a column. -/
theorem left_apply {n w : Nat} {r c : List Rat} {m : List (List Rat)} (hm : mat n w m) (hr : r.length = n) (hc : c.length = w) : rdot (gleft w r m) c = rdot r (gapply m c) := by
  rw [rdot_sum (by rw [gleft_length hm, hc]), rdot_sum (by rw [gapply_length, hr, hm.1]), gleft_length hm, hr]
  rw [sumTo_congr (g := fun j => sumTo n (fun k => r.getD k 0 * ent m k j * c.getD j 0)) (fun j hj => by
    rw [gleft_at hm hr hj, Rat.mul_comm, ← sumTo_mul]
    exact sumTo_congr fun k _ => by grind)]
  rw [sumTo_congr (n := n) (g := fun k => sumTo w (fun j => r.getD k 0 * ent m k j * c.getD j 0)) (fun k hk => by
    rw [gapply_at hm hc hk, ← sumTo_mul]
    exact sumTo_congr fun j _ => by grind)]
  exact sumTo_swap w n _
theorem gmul_mat {n k w : Nat} {a b : List (List Rat)} (ha : mat n k a) (hb : mat k w b) : mat n w (gmul w a b) := by
  refine ⟨by unfold gmul; rw [List.length_map]; exact ha.1, fun r hr => ?_⟩
  unfold gmul at hr
  obtain ⟨x, _, rfl⟩ := List.mem_map.1 hr
  exact gleft_length hb
theorem gmul_ent {n k w i j : Nat} {a b : List (List Rat)} (ha : mat n k a) (hb : mat k w b) (hi : i < n) (hj : j < w) : ent (gmul w a b) i j = sumTo k (fun l => ent a i l * ent b l j) := by
  have hl : i < a.length := by rw [ha.1]; exact hi
  have hr := ha.row hi
  unfold gmul
  rw [ent_map hl]
  rw [List.getD_eq_getElem?_getD, List.getElem?_eq_getElem hl] at hr
  have hr' : a[i].length = k := hr
  rw [gleft_at hb hr' hj]
  refine sumTo_congr fun l _ => ?_
  unfold ent
  rw [List.getD_eq_getElem?_getD (l := a), List.getElem?_eq_getElem hl]; rfl
theorem gturn_mat {n w : Nat} {m : List (List Rat)} (hm : mat n w m) : mat w n (gturn w m) := by
  refine ⟨by unfold gturn; rw [List.length_map, List.length_range], fun r hr => ?_⟩
  unfold gturn at hr
  obtain ⟨x, _, rfl⟩ := List.mem_map.1 hr
  rw [gcol_length]; exact hm.1
theorem gturn_ent {n w i j : Nat} {m : List (List Rat)} (hm : mat n w m) (hi : i < w) (hj : j < n) : ent (gturn w m) i j = ent m j i := by
  unfold gturn
  rw [ent_map (by rw [List.length_range]; exact hi), List.getElem_range, gcol_getD (by rw [hm.1]; exact hj)]
/-- What was turned, in the other order. -/
theorem turn_mul {n k w : Nat} {a b : List (List Rat)} (ha : mat n k a) (hb : mat k w b) : gturn w (gmul w a b) = gmul n (gturn w b) (gturn k a) := by
  refine mat_ext (gturn_mat (gmul_mat ha hb)) (gmul_mat (gturn_mat hb) (gturn_mat ha)) fun i j hi hj => ?_
  rw [gturn_ent (gmul_mat ha hb) hi hj, gmul_ent ha hb hj hi, gmul_ent (gturn_mat hb) (gturn_mat ha) hi hj]
  refine sumTo_congr fun l hl => ?_
  rw [gturn_ent hb hi hl, gturn_ent ha hl hj]; grind
/-- Whichever two are multiplied first. -/
theorem mul_mul {n k l w : Nat} {a b c : List (List Rat)} (ha : mat n k a) (hb : mat k l b) (hc : mat l w c) : gmul w (gmul l a b) c = gmul w a (gmul w b c) := by
  refine mat_ext (gmul_mat (gmul_mat ha hb) hc) (gmul_mat ha (gmul_mat hb hc)) fun i j hi hj => ?_
  rw [gmul_ent (gmul_mat ha hb) hc hi hj, gmul_ent ha (gmul_mat hb hc) hi hj]
  rw [sumTo_congr (g := fun p => sumTo k (fun q => ent a i q * ent b q p * ent c p j)) (fun p hp => by
    rw [gmul_ent ha hb hi hp, Rat.mul_comm, ← sumTo_mul]
    exact sumTo_congr fun q _ => by grind)]
  rw [sumTo_congr (n := k) (g := fun q => sumTo l (fun p => ent a i q * ent b q p * ent c p j)) (fun q hq => by
    rw [gmul_ent hb hc hq hj, ← sumTo_mul]
    exact sumTo_congr fun p _ => by grind)]
  exact sumTo_swap l k _
end Go.Proofs.YtpjkhbfglgmnmaaGreatDoor

/-
  Rows of right rows in memory (matrices): what layer 12's functions are handed and give. Of no program.
-/
namespace Go.Proofs.YtpjkhbfglgmnmaaGreatDoor
open Go.RowKit

/-- In the world w the slice ⟨a, n, cap⟩ of slices holds just the right fractions of these values. -/
def Rwss (w : World) (a : Option Addr) (n cap : Nat) (Q : List (List Rat)) : Prop := ∃ LL, Fxss w a n cap LL ∧ LL.map fqs = Q ∧ ∀ L ∈ LL, ∀ x ∈ L, x.right
theorem Rwss.later {w w' : World} {a : Option Addr} {n cap : Nat} {Q : List (List Rat)} (h : Rwss w a n cap Q) (hb : Below w.heap.size w w') : Rwss w' a n cap Q := by
  obtain ⟨LL, h1, h2, h3⟩ := h
  exact ⟨LL, h1.later hb, h2, h3⟩
theorem Rwss.len {w : World} {a : Option Addr} {n cap : Nat} {Q : List (List Rat)} (h : Rwss w a n cap Q) : Q.length = n := by
  obtain ⟨LL, h1, h2, _⟩ := h
  rw [← h2, List.length_map, h1.len]
theorem Rwss.bound {w : World} {a : Option Addr} {n cap : Nat} {Q : List (List Rat)} (h : Rwss w a n cap Q) : n ≤ cap ∧ cap ≤ 9223372036854775807 := by
  obtain ⟨LL, h1, _, _⟩ := h
  exact h1.bound
theorem ll_getD_mem {α : Type} {LL : List (List α)} {k : Nat} (h : k < LL.length) : LL.getD k [] ∈ LL := by
  rw [List.getD_eq_getElem?_getD, List.getElem?_eq_getElem h]; exact List.getElem_mem h
theorem fqs_row {LL : List (List Fx)} {k : Nat} (h : k < LL.length) : fqs (LL.getD k []) = (LL.map fqs).getD k [] := by
  rw [List.getD_eq_getElem?_getD, List.getD_eq_getElem?_getD, List.getElem?_map, List.getElem?_eq_getElem h]; rfl
theorem Rwss.at {w : World} {a : Option Addr} {n cap : Nat} {Q : List (List Rat)} (h : Rwss w a n cap Q) {j : Nat} (hj : j < n) : ∃ b off, a = some ⟨b, off, none⟩ ∧ ∃ a' n' c', w.cell? ⟨b, off + j, none⟩ = some (.slice a' n' c') ∧ Rw w a' n' c' (Q.getD j []) := by
  obtain ⟨LL, h1, h2, h3⟩ := h
  obtain ⟨b, off, e, a', n', c', h4, h5⟩ := h1.at hj
  have hl : j < LL.length := by rw [h1.len]; exact hj
  exact ⟨b, off, e, a', n', c', h4, LL.getD j [], h5, by rw [← h2]; exact fqs_row hl, h3 _ (ll_getD_mem hl)⟩
theorem Rwss.thin {w : World} {a : Option Addr} {n cap : Nat} {Q : List (List Rat)} (h : Rwss w a n cap Q) {N : Nat} (hq : ∀ r ∈ Q, ∀ q ∈ r, qlen q ≤ N) : ∃ LL, Fxss w a n cap LL ∧ LL.map fqs = Q ∧ ∀ L ∈ LL, Go.Proofs.YtpjkhbfglgmnmaaGreatDoor.thin N L := by
  obtain ⟨LL, h1, h2, h3⟩ := h
  refine ⟨LL, h1, h2, fun L hL x hx => ?_⟩
  obtain ⟨i, hi, rfl⟩ := List.getElem_of_mem hL
  obtain ⟨_, _, _, a', n', c', _, h5⟩ := h1.at (j := i) (by rw [← h1.len]; exact hi)
  rw [List.getD_eq_getElem?_getD, List.getElem?_eq_getElem hi] at h5
  have hr : Rw w a' n' c' (fqs LL[i]) := ⟨LL[i], h5, rfl, h3 _ (List.getElem_mem hi)⟩
  obtain ⟨q1, q2, q3⟩ := h3 _ (List.getElem_mem hi) x hx
  have h7 := hq (fqs LL[i]) (h2 ▸ List.mem_map.2 ⟨LL[i], List.getElem_mem hi, rfl⟩) x.q (List.mem_map.2 ⟨x, hx, rfl⟩)
  obtain ⟨h8, h9⟩ := h5.ok hx
  have := h8.len
  have := h9.len
  have := qlen_num x.q
  have := qlen_den x.q
  rw [q2] at *
  rw [q3] at *
  constructor <;> omega
theorem Rwss.nil (w : World) : Rwss w none 0 0 [] := ⟨[], Fxss.ofNil w, rfl, fun L hL => by simp at hL⟩
/-- A call that gives a matrix of these values, right, and leaves what was there. -/
def LstRws (Q : List (List Rat)) (w : World) (e : Ending) (w' : World) : Prop := ∃ (a : Option Addr) (n cap : Nat), e = .returned (.slice a n cap) ∧ Rwss w' a n cap Q ∧ Below w.heap.size w w'
def LstRwsV (Q : List (List Rat)) (v : Value) (w : World) (e : Ending) (w' : World) : Prop := ∃ (a : Option Addr) (n cap : Nat), e = .returned (.tuple #[.slice a n cap, v]) ∧ Rwss w' a n cap Q ∧ Below w.heap.size w w'
/-- Right rows side by side in a row of the call's own. -/
def OwnR (w : World) (base : Nat) (e : TypeId) (v : Value) (Q : List (List Rat)) : Prop := ∃ LL, OwnF w base e v LL ∧ LL.map fqs = Q ∧ ∀ L ∈ LL, ∀ x ∈ L, x.right
theorem OwnR.nil (w : World) (base : Nat) (e : TypeId) : OwnR w base e (.slice none 0 0) [] := ⟨[], OwnF.nil _ _ _, rfl, fun L hL => by simp at hL⟩
theorem OwnR.later {w w' : World} {base : Nat} {e : TypeId} {v : Value} {Q : List (List Rat)} (h : OwnR w base e v Q) (hb : Below w.heap.size w w') : OwnR w' base e v Q := by
  obtain ⟨LL, h1, h2, h3⟩ := h
  exact ⟨LL, h1.later hb, h2, h3⟩
theorem OwnR.out {w : World} {base : Nat} {e : TypeId} {v : Value} {Q : List (List Rat)} (h : OwnR w base e v Q) : ∃ (a : Option Addr) (cap : Nat), v = .slice a Q.length cap ∧ Rwss w a Q.length cap Q := by
  obtain ⟨LL, h1, h2, h3⟩ := h
  obtain ⟨a, cap, e1, h4⟩ := h1.out
  have hl : LL.length = Q.length := by rw [← h2, List.length_map]
  rw [hl] at e1 h4
  exact ⟨a, cap, e1, LL, h4, h2, h3⟩
/-- One more right row behind the others. -/
theorem run_append_rowR {P : Program} (w : World) (t ty : TypeId)
    (base : Nat) (e : TypeId) (i : TypeInfo) (ht : P.underlying t = some (.slice e)) (hi : P.info? e = some i) (hz : i.zero = some (.slice none 0 0))
    (hsize : i.size = 1) (hby : i.bytes = 24) (v : Value) (Q : List (List Rat)) (hrow : OwnR w base e v Q)
    (ad : Addr) (a : Option Addr) (n c : Nat) (qs : List Rat)
    (hnew : w.cell? ad = some (.slice a n c)) (had : ad.add 0 = ad) (hL : Rw w a n c qs)
    (hlen : Q.length ≤ 1000000) (hbase : base ≤ w.heap.size) :
    ∃ v' w', (Builtin.append_ #[t, t] ty #[v, .slice (some ad) 1 1]).run P w = .ok v' w' ∧ OwnR w' base e v' (Q ++ [qs]) ∧ w.grownBy w' v.ownBlock ∧ (∀ k, v.ownBlock = some k → base ≤ k) ∧ Fresh w v v' := by
  obtain ⟨LL, h1, h2, h3⟩ := hrow
  obtain ⟨L, h4, h5, h6⟩ := hL
  obtain ⟨v', w', hr, k1, k2⟩ := run_append_row2 (P := P) w t ty base e i ht hi hz hsize hby v LL h1 ad a n c L hnew had h4 (by rw [← h2, List.length_map] at hlen; exact hlen) hbase
  refine ⟨v', w', hr, ⟨LL ++ [L], k1, ?_, fun M hM => ?_⟩, k2⟩
  · rw [List.map_append, h2]; simp only [List.map_cons, List.map_nil]; rw [show fqs L = qs from h5]
  · rcases List.mem_append.1 hM with hM | hM
    · exact h3 M hM
    · rw [List.mem_singleton.1 hM]; exact h6
theorem wpList_append_rowR {P : Program} (w : World) {ops : Array Oper} {rest : List Oper} {o : Oper} {act : Act} {Q9 : Exit → Act → World → Prop} (hgd : o.guard = none) (s x : Operand) (t : TypeId)
    (ho : o.op = .call { callee := .builtin .append, args := #[s, x], argTypes := #[t, t] })
    (base : Nat) (e : TypeId) (i : TypeInfo) (ht : P.underlying t = some (.slice e)) (hi : P.info? e = some i) (hz : i.zero = some (.slice none 0 0))
    (hsize : i.size = 1) (hby : i.bytes = 24) (v : Value) (Q : List (List Rat)) (hs : act.eval s = v) (hrow : OwnR w base e v Q)
    (ad : Addr) (a : Option Addr) (n c : Nat) (qs : List Rat) (hx : act.eval x = .slice (some ad) 1 1)
    (hnew : w.cell? ad = some (.slice a n c)) (had : ad.add 0 = ad) (hL : Rw w a n c qs)
    (hlen : Q.length ≤ 1000000) (hbase : base ≤ w.heap.size)
    (h : ∀ v' w', OwnR w' base e v' (Q ++ [qs]) → w.grownBy w' v.ownBlock → (∀ k, v.ownBlock = some k → base ≤ k) → Fresh w v v' → wpList P ops Q9 rest (act.put o.dst v') w') : wpList P ops Q9 (o :: rest) act w := by
  obtain ⟨v', w', hr, h1, h2, h3, h4⟩ := run_append_rowR (P := P) w t o.type base e i ht hi hz hsize hby v Q hrow ad a n c qs hnew had hL hlen hbase
  exact wpList_append_run w hgd ho hs hx hr (h v' w' h1 h2 h3 h4)
/-- Have they all the first one's length? How wide? -/
def rect {α : Type} (m : List (List α)) : Prop := ∀ r ∈ m, r.length = (m.getD 0 []).length
instance {α : Type} (m : List (List α)) : Decidable (rect m) := by unfold rect; infer_instance
def gwidth {α : Type} (m : List (List α)) : Nat := (m.getD 0 []).length
theorem rect_fqs (LL : List (List Fx)) : rect (LL.map fqs) ↔ rect LL := by
  have h0 : ((LL.map fqs).getD 0 []).length = (LL.getD 0 []).length := by
    cases LL with
    | nil => rfl
    | cons L r => exact fqs_length L
  unfold rect
  rw [h0]
  constructor
  · intro h r hr
    have := h (fqs r) (List.mem_map.2 ⟨r, hr, rfl⟩)
    rwa [fqs_length] at this
  · intro h r hr
    obtain ⟨x, hx, rfl⟩ := List.mem_map.1 hr
    rw [fqs_length]; exact h x hx
theorem gwidth_fqs (LL : List (List Fx)) : gwidth (LL.map fqs) = gwidth LL := by
  cases LL with
  | nil => rfl
  | cons L r => exact fqs_length L
theorem rect.mat {m : List (List Rat)} (h : rect m) : mat m.length (gwidth m) m := ⟨rfl, h⟩
/-- The one that changes nothing. -/
def gcut (n : Int) : Nat := (min n 6).toNat
def gident (k : Nat) : List (List Rat) := (List.range k).map (fun (i : Nat) => runit k (i : Int))
end Go.Proofs.YtpjkhbfglgmnmaaGreatDoor

/-
  A made row of slices that is filled place by place with rows of right fractions. Of no program.
-/
namespace Go.Proofs.YtpjkhbfglgmnmaaGreatDoor
open Go.RowKit

/-- A made row of the call's own: n slices, any. -/
def Slots (w : World) (base : Nat) (e : TypeId) (g n : Nat) (XS : List Sx) : Prop :=
  w.ownsRow base e 1 (.slice (some ⟨g, 0, none⟩) n n) n (XS.map Sx.val) ∧ holdsSlices w (.slice (some ⟨g, 0, none⟩) n n) ∧ XS.length = n
theorem slots_own {w w' : World} {base : Nat} {e : TypeId} {size : Nat} {v : Value} {n : Nat} {xs : List Value} (h : w.ownsRow base e size v n xs) (hb : Below w.heap.size w w') : w'.ownsRow base e size v n xs := by
  refine ⟨h.1, ?_⟩
  rcases h.2 with hn | ⟨g, cap, cur, rfl, hbg, hgg, rest⟩
  · exact .inl hn
  · exact .inr ⟨g, cap, cur, rfl, hbg, (hb.block g (Array.getElem?_eq_some_iff.1 hgg).1).trans hgg, rest⟩
theorem Slots.lt {w : World} {base : Nat} {e : TypeId} {g n : Nat} {XS : List Sx} (h : Slots w base e g n XS) : base ≤ g ∧ g < w.heap.size := h.1.lt g rfl
theorem Slots.later {w w' : World} {base : Nat} {e : TypeId} {g n : Nat} {XS : List Sx} (h : Slots w base e g n XS) (hb : Below w.heap.size w w') : Slots w' base e g n XS := by
  refine ⟨slots_own h.1 hb, fun g2 hg2 j u hu => ?_, h.2.2⟩
  have hl := h.lt
  simp [Value.ownBlock] at hg2
  subst hg2
  rw [World.cell?_of_block (a := ⟨g, j, none⟩) (hb.block g hl.2)] at hu
  exact h.2.1 g rfl j u hu
theorem slots_made (w : World) (base : Nat) (e : TypeId) (n : Nat) (hn : n ≤ maxLen) (hb : base ≤ w.heap.size) :
    Slots (w.alloc (.cells (madeCells #[.slice none 0 0] n) e)) base e w.heap.size n (List.replicate n Sx.zero) := by
  have hh := heap_alloc_new w (.cells (madeCells #[.slice none 0 0] n) e)
  have h1 := ownsRow_made w base e (.slice none 0 0) n n (Nat.le_refl _) hn hb
  refine ⟨by rw [List.map_replicate]; exact h1, holdsSlices_block hh ?_, List.length_replicate⟩
  rw [toList_madeCells_one]
  intro u hu
  exact ⟨_, _, _, (List.eq_of_mem_replicate hu)⟩
theorem Slots.cell {w : World} {base : Nat} {e : TypeId} {g n : Nat} {XS : List Sx} (h : Slots w base e g n XS) {k : Nat} (hk : k < n) : w.cell? ⟨g, k, none⟩ = some (XS.getD k Sx.zero).val ∧ w.frozen? ⟨g, k, none⟩ = false := by
  have hl : k < XS.length := by rw [h.2.2]; exact hk
  refine ⟨?_, h.1.frozenAt k⟩
  rw [h.1.cellAt k (by omega), List.getElem?_map, List.getElem?_eq_getElem hl, List.getD_eq_getElem?_getD, List.getElem?_eq_getElem hl]; rfl
theorem holdsSlices_store {w : World} {g n k : Nat} {a : Option Addr} {m c : Nat} {x : Value} (h : holdsSlices w (.slice (some ⟨g, 0, none⟩) n n)) (hx : w.cell? ⟨g, k, none⟩ = some x) : holdsSlices (w.setCell ⟨g, k, none⟩ (.slice a m c)) (.slice (some ⟨g, 0, none⟩) n n) := by
  intro g2 hg2 j u hu
  have h2 := h g2 hg2 j
  simp [Value.ownBlock] at hg2
  subst hg2
  by_cases hjk : j = k
  · subst hjk
    rw [World.cell?_setCell_same _ _ _ hx] at hu
    exact ⟨_, _, _, (Option.some.inj hu).symm⟩
  · rw [World.cell?_setCell_other _ ⟨g, k, none⟩ ⟨g, j, none⟩ _ (fun e => hjk (congrArg Addr.off e).symm)] at hu
    exact h2 u hu
theorem Slots.put {w : World} {base : Nat} {e : TypeId} {g n : Nat} {XS : List Sx} (h : Slots w base e g n XS) {k : Nat} (hk : k < n) (a : Option Addr) (m c : Nat) :
    Slots (w.setCell ⟨g, k, none⟩ (.slice a m c)) base e g n (XS.set k ⟨a, m, c⟩) ∧ w.grownBy (w.setCell ⟨g, k, none⟩ (.slice a m c)) (some g) := by
  obtain ⟨h1, h2⟩ := h.1.stored k (.slice a m c)
  refine ⟨⟨?_, holdsSlices_store h.2.1 (h.cell hk).1, by rw [List.length_set]; exact h.2.2⟩, h2⟩
  rw [List.map_set]
  exact h1
/-- The rows that the first slices lead to. -/
def Rows (w : World) (XS : List Sx) (Q : List (List Rat)) : Prop := ∀ j, j < Q.length → Rw w (XS.getD j Sx.zero).a (XS.getD j Sx.zero).n (XS.getD j Sx.zero).c (Q.getD j [])
theorem Rows.later {w w' : World} {XS : List Sx} {Q : List (List Rat)} (h : Rows w XS Q) (hb : Below w.heap.size w w') : Rows w' XS Q := fun j hj => (h j hj).later hb
theorem Rw.aside {w w' : World} {v : Value} {a : Option Addr} {n c : Nat} {qs : List Rat} (h : Rw w a n c qs) (hc : holdsSlices w v) (hg : w.grownBy w' v.ownBlock) : Rw w' a n c qs := by
  obtain ⟨L, h1, h2, h3⟩ := h
  exact ⟨L, h1.aside hc hg, h2, h3⟩
theorem Rows.set {w : World} {XS : List Sx} {Q : List (List Rat)} (h : Rows w XS Q) (x : Sx) {k : Nat} (hk : k = Q.length) : Rows w (XS.set k x) Q := fun j hj => by
  have e : (XS.set k x).getD j Sx.zero = XS.getD j Sx.zero := by rw [List.getD_eq_getElem?_getD, List.getElem?_set_ne (by omega), ← List.getD_eq_getElem?_getD]
  rw [e]; exact h j hj
theorem Rows.more {w : World} {XS : List Sx} {Q : List (List Rat)} (h : Rows w XS Q) {x : Sx} (hx : XS.getD Q.length Sx.zero = x) {q : List Rat} (hq : Rw w x.a x.n x.c q) : Rows w XS (Q ++ [q]) := fun j hj => by
  rw [List.length_append] at hj
  simp only [List.length_cons, List.length_nil] at hj
  by_cases hjl : j < Q.length
  · rw [show (Q ++ [q]).getD j [] = Q.getD j [] by rw [List.getD_eq_getElem?_getD, List.getElem?_append_left hjl, ← List.getD_eq_getElem?_getD]]
    exact h j hjl
  · obtain rfl : j = Q.length := by omega
    rw [show (Q ++ [q]).getD Q.length [] = q by rw [List.getD_eq_getElem?_getD, List.getElem?_append_right (Nat.le_refl _), Nat.sub_self]; rfl, hx]
    exact hq
/-- A made row of slices: right rows so far. -/
def HalfR (w : World) (base : Nat) (e : TypeId) (g n : Nat) (Q : List (List Rat)) : Prop := ∃ XS, Slots w base e g n XS ∧ Rows w XS Q
/-- The same, with the slice x behind them. -/
def HalfW (w : World) (base : Nat) (e : TypeId) (g n : Nat) (Q : List (List Rat)) (x : Sx) : Prop := ∃ XS, Slots w base e g n XS ∧ Rows w XS Q ∧ XS.getD Q.length Sx.zero = x ∧ Q.length < n
theorem HalfR.later {w w' : World} {base : Nat} {e : TypeId} {g n : Nat} {Q : List (List Rat)} (h : HalfR w base e g n Q) (hb : Below w.heap.size w w') : HalfR w' base e g n Q := by
  obtain ⟨XS, h1, h2⟩ := h
  exact ⟨XS, h1.later hb, h2.later hb⟩
theorem HalfW.later {w w' : World} {base : Nat} {e : TypeId} {g n : Nat} {Q : List (List Rat)} {x : Sx} (h : HalfW w base e g n Q x) (hb : Below w.heap.size w w') : HalfW w' base e g n Q x := by
  obtain ⟨XS, h1, h2, h3⟩ := h
  exact ⟨XS, h1.later hb, h2.later hb, h3⟩
theorem HalfR.cell {w : World} {base : Nat} {e : TypeId} {g n : Nat} {Q : List (List Rat)} (h : HalfR w base e g n Q) {k : Nat} (hk : k < n) : ∃ (a : Option Addr) (m c : Nat), w.cell? ⟨g, k, none⟩ = some (.slice a m c) ∧ w.frozen? ⟨g, k, none⟩ = false := by
  obtain ⟨XS, h1, _⟩ := h
  exact ⟨_, _, _, h1.cell hk⟩
theorem HalfR.lt {w : World} {base : Nat} {e : TypeId} {g n : Nat} {Q : List (List Rat)} (h : HalfR w base e g n Q) : base ≤ g ∧ g < w.heap.size := by
  obtain ⟨XS, h1, _⟩ := h
  exact h1.lt
theorem HalfR.raw {w : World} {base : Nat} {e : TypeId} {g n : Nat} {Q : List (List Rat)} (h : HalfR w base e g n Q) {k : Nat} (hk : k = Q.length) (hkn : k < n) (a : Option Addr) (m c : Nat) :
    HalfW (w.setCell ⟨g, k, none⟩ (.slice a m c)) base e g n Q ⟨a, m, c⟩ ∧ w.grownBy (w.setCell ⟨g, k, none⟩ (.slice a m c)) (some g) := by
  obtain ⟨XS, h1, h2⟩ := h
  obtain ⟨h3, h4⟩ := h1.put hkn a m c
  refine ⟨⟨_, h3, fun j hj => ((h2.set ⟨a, m, c⟩ hk) j hj).aside h1.2.1 h4, ?_, hk ▸ hkn⟩, h4⟩
  rw [← hk, List.getD_eq_getElem?_getD, List.getElem?_set_self (by rw [h1.2.2]; exact hkn)]; rfl
theorem HalfW.cell {w : World} {base : Nat} {e : TypeId} {g n : Nat} {Q : List (List Rat)} {x : Sx} (h : HalfW w base e g n Q x) {k : Nat} (hk : k = Q.length) : w.cell? ⟨g, k, none⟩ = some (.slice x.a x.n x.c) := by
  obtain ⟨XS, h1, _, h3, h4⟩ := h
  have h5 := (h1.cell (k := k) (by omega)).1
  rw [hk, h3] at h5
  rw [hk]; exact h5
theorem HalfW.close {w : World} {base : Nat} {e : TypeId} {g n : Nat} {Q : List (List Rat)} {x : Sx} (h : HalfW w base e g n Q x) {q : List Rat} (hq : Rw w x.a x.n x.c q) : HalfR w base e g n (Q ++ [q]) := by
  obtain ⟨XS, h1, h2, h3, _⟩ := h
  exact ⟨XS, h1, h2.more h3 hq⟩
theorem HalfR.stored {w : World} {base : Nat} {e : TypeId} {g n : Nat} {Q : List (List Rat)} (h : HalfR w base e g n Q) {k : Nat} (hk : k = Q.length) (hkn : k < n) {a : Option Addr} {m c : Nat} {q : List Rat} (hq : Rw w a m c q) :
    HalfR (w.setCell ⟨g, k, none⟩ (.slice a m c)) base e g n (Q ++ [q]) ∧ w.grownBy (w.setCell ⟨g, k, none⟩ (.slice a m c)) (some g) := by
  obtain ⟨h1, h2⟩ := h.raw hk hkn a m c
  obtain ⟨XS, h3, _⟩ := h
  exact ⟨h1.close (hq.aside h3.2.1 h2), h2⟩
theorem HalfR.made (w : World) (base : Nat) (e : TypeId) (n : Nat) (hn : n ≤ maxLen) (hb : base ≤ w.heap.size) : HalfR (w.alloc (.cells (madeCells #[.slice none 0 0] n) e)) base e w.heap.size n [] := ⟨_, slots_made w base e n hn hb, fun j hj => by simp at hj⟩
theorem pick {α : Type} {P : Nat → List α → Prop} : ∀ n : Nat, (∀ j, j < n → ∃ L, P j L) → ∃ LL : List (List α), LL.length = n ∧ ∀ j, j < n → P j (LL.getD j [])
  | 0, _ => ⟨[], rfl, fun j hj => by omega⟩
  | n + 1, h => by
    obtain ⟨LL, h1, h2⟩ := pick n (fun j hj => h j (by omega))
    obtain ⟨L, h3⟩ := h n (by omega)
    refine ⟨LL ++ [L], by rw [List.length_append, h1]; rfl, fun j hj => ?_⟩
    by_cases hjn : j < n
    · rw [show (LL ++ [L]).getD j [] = LL.getD j [] by rw [List.getD_eq_getElem?_getD, List.getElem?_append_left (by omega), ← List.getD_eq_getElem?_getD]]
      exact h2 j hjn
    · obtain rfl : j = n := by omega
      rw [show (LL ++ [L]).getD j [] = L by rw [List.getD_eq_getElem?_getD, List.getElem?_append_right (by omega), show j - LL.length = 0 by omega]; rfl]
      exact h3
/-- The whole row, as it is handed on. -/
theorem HalfR.whole {w : World} {base : Nat} {e : TypeId} {g n : Nat} {T : List (List Rat)} {k : Nat} (h : HalfR w base e g n (T.take k)) (hT : T.length = k) (hk : k = n) (hn : n ≤ 1000000) : Rwss w (some ⟨g, 0, none⟩) n n T := by
  rw [List.take_of_length_le (Nat.le_of_eq hT)] at h
  obtain ⟨XS, h1, h2⟩ := h
  have hTn : T.length = n := hT.trans hk
  obtain ⟨LL, h3, h4⟩ := pick (α := Fx) (P := fun j L => Fxs w (XS.getD j Sx.zero).a (XS.getD j Sx.zero).n (XS.getD j Sx.zero).c L ∧ L.map Fx.q = T.getD j [] ∧ ∀ x ∈ L, x.right) n (fun j hj => h2 j (by omega))
  refine ⟨LL, ⟨h3, Nat.le_refl _, by omega, fun e => (by cases e), ?_⟩, ?_, fun L hL => ?_⟩
  · refine .inr ⟨g, 0, rfl, fun j hj => ⟨_, _, _, ?_, (h4 j hj).1⟩⟩
    have h9 := (h1.cell hj).1
    rw [Nat.zero_add]; exact h9
  · refine List.ext_getElem (by rw [List.length_map, h3, hTn]) fun j h5 h6 => ?_
    have h7 := (h4 j (by omega)).2.1
    rw [List.getD_eq_getElem?_getD, List.getElem?_eq_getElem (show j < LL.length by omega), List.getD_eq_getElem?_getD, List.getElem?_eq_getElem h6] at h7
    rw [List.getElem_map]
    exact h7
  · obtain ⟨j, hj, rfl⟩ := List.getElem_of_mem hL
    have h7 := (h4 j (by omega)).2.2
    rw [List.getD_eq_getElem?_getD, List.getElem?_eq_getElem hj] at h7
    exact h7
theorem wpList_make_slots {P : Program} (w : World) {ops : Array Oper} {rest : List Oper} {o : Oper} {a : Act} {Q : Exit → Act → World → Prop}
    (hg : o.guard = none) (l c : Operand) (t : TypeId) (hop : o.op = Op.makeSlice t l c)
    (base : Nat) (e : TypeId) (i : TypeInfo) (h1 : P.underlying t = some (.slice e)) (h2 : P.info? e = some i) (h3 : i.zero = some (.slice none 0 0)) (h4 : i.size = 1) (h5 : i.bytes = 24)
    (kl kc : IntKind) (L C : Int) (n : Nat) (hl : a.eval l = .int kl L) (hc : a.eval c = .int kc C) (hL : L = (n : Int)) (hC : C = (n : Int)) (b3 : n ≤ 1000000) (b4 : base ≤ w.heap.size)
    (hK : ∀ w', HalfR w' base e w.heap.size n [] → w.grownBy w' none → w'.heap.size = w.heap.size + 1 → wpList P ops Q rest (a.put o.dst (.slice (some ⟨w.heap.size, 0, none⟩) n n)) w') :
    wpList P ops Q (o :: rest) a w := by
  refine wpList_plain hg fun K hK' => ?_
  have hb' : (i.bytes : Int) * (n : Int) ≤ 281474976710656 := by rw [h5]; omega
  have hrun := run_make (P := P) w t e i _ h1 h2 h3 kl kc n n (by omega) (by omega) hb' (by omega)
  simp only [Int.toNat_natCast, h4, Nat.mul_one] at hrun
  subst hL
  subst hC
  unfold Oper.wp
  simp [execOp, hop, hl, hc, hrun, Result.andThen]
  exact hK' _ _ (hK _ (HalfR.made w base e n (by unfold maxLen; omega) b4) (World.grownBy_alloc w _ none) (World.size_alloc _ _))
/-- A cell is written in both of two worlds. -/
theorem below_put {w w1 : World} (hb : Below w.heap.size w w1) (p : Addr) (u : Value) : Below (w.setCell p u).heap.size (w.setCell p u) (w1.setCell p u) := by
  have e1 : ∀ x : World, (x.setCell p u).heap.size = x.heap.size := fun x => by unfold World.setCell; simp
  refine ⟨hb.os, hb.tape, hb.output, by rw [e1, e1]; exact hb.size, fun k hk => ?_⟩
  rw [e1] at hk
  have h := hb.block k hk
  unfold World.setCell
  simp only [Array.getElem?_modify]
  split
  · subst_vars; rw [h]
  · exact h
/-- A fraction put at a place of a row of copies. -/
theorem Cop.stored {w : World} {base : Nat} {e : TypeId} {g k cap : Nat} {L : List Fx} (h : Cop w base e (.slice (some ⟨g, 0, none⟩) k cap) L) (hk : k = L.length) {i : Nat} (hi : i < L.length) (q : Rat) (a : Option Addr) (n c : Nat) (b : Option Addr) (m d : Nat) (ha : Wd w a n c (dg q.num.natAbs)) (hb : Wd w b m d (dg q.den)) :
    Cop (((w.setCell ⟨g, i * 3, none⟩ (.bool (zneg q.num))).setCell ⟨g, i * 3 + 1, none⟩ (.slice a n c)).setCell ⟨g, i * 3 + 2, none⟩ (.slice b m d)) base e (.slice (some ⟨g, 0, none⟩) k cap) (L.set i (rx q a n c b m d)) ∧
    w.grownBy (((w.setCell ⟨g, i * 3, none⟩ (.bool (zneg q.num))).setCell ⟨g, i * 3 + 1, none⟩ (.slice a n c)).setCell ⟨g, i * 3 + 2, none⟩ (.slice b m d)) (some g) := by
  obtain ⟨⟨h1, h2⟩, h4⟩ := h
  subst hk
  have hf := flat_length L
  obtain ⟨c0, c1, c2⟩ := flat_at L i (by omega)
  have p0 := h1.cellAt (i * 3) (by omega)
  have p1 := h1.cellAt (i * 3 + 1) (by omega)
  have p2 := h1.cellAt (i * 3 + 2) (by omega)
  rw [c0] at p0; rw [c1] at p1; rw [c2] at p2
  obtain ⟨s0, g0⟩ := h1.stored (i * 3) (.bool (zneg q.num))
  obtain ⟨s1, g1⟩ := s0.stored (i * 3 + 1) (.slice a n c)
  obtain ⟨s2, g2⟩ := s1.stored (i * 3 + 2) (.slice b m d)
  have l0 := clean_store (j := i * 3) (u := .bool (zneg q.num)) h2 p0 (fun y e => by cases e)
  have l1 := clean_store (j := i * 3 + 1) (u := .slice a n c) l0 ((World.cell?_setCell_other _ ⟨g, i * 3, none⟩ ⟨g, i * 3 + 1, none⟩ _ (fun e => by simp at e)).trans p1) (fun y e => by cases e)
  have l2 := clean_store (j := i * 3 + 2) (u := .slice b m d) l1 (((World.cell?_setCell_other _ ⟨g, i * 3 + 1, none⟩ ⟨g, i * 3 + 2, none⟩ _ (fun e => by simp at e)).trans (World.cell?_setCell_other _ ⟨g, i * 3, none⟩ ⟨g, i * 3 + 2, none⟩ _ (fun e => by simp at e))).trans p2) (fun y e => by cases e)
  have hg := (g0.trans g1).trans g2
  refine ⟨⟨⟨?_, l2⟩, fun x hx => ?_⟩, hg⟩
  · rw [fr_flat_set L i _ (by omega), List.length_set]
    exact s2
  · rcases List.mem_or_eq_of_mem_set hx with hx | rfl
    · exact Fx.aside (h4 x hx) h2 hg
    · exact ⟨ha.aside h2 hg, hb.aside h2 hg⟩
theorem Cop.cell {w : World} {base : Nat} {e : TypeId} {g k cap : Nat} {L : List Fx} (h : Cop w base e (.slice (some ⟨g, 0, none⟩) k cap) L) (hk : k = L.length) {i : Nat} (hi : i < L.length) :
    (w.cell? ⟨g, i * 3, none⟩ = some (.bool (L.getD i Fx.zero).s) ∧ w.cell? ⟨g, i * 3 + 1, none⟩ = some (.slice (L.getD i Fx.zero).a (L.getD i Fx.zero).n (L.getD i Fx.zero).c) ∧ w.cell? ⟨g, i * 3 + 2, none⟩ = some (.slice (L.getD i Fx.zero).b (L.getD i Fx.zero).m (L.getD i Fx.zero).d)) ∧ w.frozen? ⟨g, i * 3, none⟩ = false ∧ w.frozen? ⟨g, i * 3 + 1, none⟩ = false ∧ w.frozen? ⟨g, i * 3 + 2, none⟩ = false := by
  obtain ⟨⟨h1, _⟩, _⟩ := h
  subst hk
  obtain ⟨c0, c1, c2⟩ := flat_at L i (by omega)
  have p0 := h1.cellAt (i * 3) (by omega)
  have p1 := h1.cellAt (i * 3 + 1) (by omega)
  have p2 := h1.cellAt (i * 3 + 2) (by omega)
  rw [c0] at p0; rw [c1] at p1; rw [c2] at p2
  exact ⟨⟨p0, p1, p2⟩, h1.frozenAt _, h1.frozenAt _, h1.frozenAt _⟩
/-- A row of copies whose first k are right and have the values of T, and whose others are those of T. -/
def Turned (L T : List Fx) (k : Nat) : Prop := L.length = T.length ∧ (∀ j, j < k → (L.getD j Fx.zero).right ∧ (L.getD j Fx.zero).q = (T.getD j Fx.zero).q) ∧ ∀ j, k ≤ j → L.getD j Fx.zero = T.getD j Fx.zero
theorem Turned.start (T : List Fx) : Turned T T 0 := ⟨rfl, fun j hj => by omega, fun _ _ => rfl⟩
theorem Turned.more {L T : List Fx} {k : Nat} (h : Turned L T k) (hk : k < T.length) (q : Rat) (hq : q = (T.getD k Fx.zero).q) (a : Option Addr) (n c : Nat) (b : Option Addr) (m d : Nat) : Turned (L.set k (rx q a n c b m d)) T (k + 1) := by
  obtain ⟨h1, h2, h3⟩ := h
  refine ⟨by rw [List.length_set]; exact h1, fun j hj => ?_, fun j hj => ?_⟩
  · by_cases hjk : j = k
    · subst hjk
      rw [List.getD_eq_getElem?_getD, List.getElem?_set_self (by omega)]
      exact ⟨rx_right .., (rx_q ..).trans hq⟩
    · rw [List.getD_eq_getElem?_getD, List.getElem?_set_ne (by omega), ← List.getD_eq_getElem?_getD]
      exact h2 j (by omega)
  · rw [List.getD_eq_getElem?_getD, List.getElem?_set_ne (by omega), ← List.getD_eq_getElem?_getD]
    exact h3 j (by omega)
theorem Turned.done {L T : List Fx} {k : Nat} (h : Turned L T k) (hk : k = T.length) : fqs L = fqs T ∧ ∀ x ∈ L, x.right := by
  obtain ⟨h1, h2, _⟩ := h
  subst hk
  constructor
  · refine getD_ext (by rw [fqs_length, fqs_length, h1]) fun j hj => ?_
    rw [fqs_length] at hj
    rw [fqs_getD hj, fqs_getD (by omega)]
    exact (h2 j (by omega)).2
  · intro x hx
    obtain ⟨j, hj, rfl⟩ := List.getElem_of_mem hx
    have := (h2 j (by omega)).1
    rwa [List.getD_eq_getElem?_getD, List.getElem?_eq_getElem hj] at this
end Go.Proofs.YtpjkhbfglgmnmaaGreatDoor

/-
  What package grid's functions owe (layer 12), as one hypothesis: the contracts that the laws' walks lean on.
-/
namespace Go.Proofs.YtpjkhbfglgmnmaaGreatDoor
open Go.RowKit

/-- Of at most so many rows, each of at most so many fractions of at most N words each. -/
def small (K N : Nat) (LL : List (List Fx)) : Prop := ∀ L ∈ LL, L.length ≤ K ∧ thin N L
structure GridSaid : Prop where
  right : ∀ (a : Option Addr) (n c : Nat) (LL : List (List Fx)) (w : World), Fxss w a n c LL → Calls Tryz.prog 15 #[.slice a n c] w (Gives (.bool (decide (rect LL))) w)
  width : ∀ (a : Option Addr) (n c : Nat) (LL : List (List Fx)) (w : World), Fxss w a n c LL → Calls Tryz.prog 16 #[.slice a n c] w (Gives (.int .i64 ((gwidth LL : Nat) : Int)) w)
  ident : ∀ (k : Int) (w : World), isInt k → Calls Tryz.prog 20 #[.int .i64 k] w (LstRws (gident (gcut k)) w)
  same : ∀ (a : Option Addr) (n c : Nat) (LL : List (List Fx)) (b : Option Addr) (m d : Nat) (MM : List (List Fx)) (w : World), Fxss w a n c LL → Fxss w b m d MM → n ≤ 300 → m ≤ 300 → small 300 1000 LL → small 300 1000 MM → Calls Tryz.prog 18 #[.slice a n c, .slice b m d] w (Gives (.bool (decide (LL.map fqs = MM.map fqs))) w)
  turn_yes : ∀ (a : Option Addr) (n c : Nat) (LL : List (List Fx)) (w : World), Fxss w a n c LL → n ≤ 300 → small 300 1000 LL → Hid (rect LL) → Calls Tryz.prog 10 #[.slice a n c] w (LstRws (gturn (gwidth LL) (LL.map fqs)) w)
  turn_no : ∀ (a : Option Addr) (n c : Nat) (LL : List (List Fx)) (w : World), Fxss w a n c LL → n ≤ 300 → small 300 1000 LL → Hid (¬ rect LL) → Calls Tryz.prog 10 #[.slice a n c] w (LstRws [] w)
  left_yes : ∀ (a : Option Addr) (n c : Nat) (L : List Fx) (b : Option Addr) (m d : Nat) (LL : List (List Fx)) (N : Nat) (w : World), Fxs w a n c L → Fxss w b m d LL → thin N L → small 300 N LL → n ≤ 300 → 1 + n * (N + N + 6) ≤ 2000 → N ≤ 900 → Hid (rect LL ∧ n = m) → Calls Tryz.prog 23 #[.slice a n c, .slice b m d] w (LstRwV (gleft (gwidth LL) (fqs L) (LL.map fqs)) (.bool true) w)
  left_no : ∀ (a : Option Addr) (n c : Nat) (L : List Fx) (b : Option Addr) (m d : Nat) (LL : List (List Fx)) (w : World), Fxs w a n c L → Fxss w b m d LL → n ≤ 10 → m ≤ 10 → thin 4 L → small 10 4 LL → Hid (¬ (rect LL ∧ n = m)) → Calls Tryz.prog 23 #[.slice a n c, .slice b m d] w (LstRwV [] (.bool false) w)
  apply_yes : ∀ (b : Option Addr) (m d : Nat) (LL : List (List Fx)) (a : Option Addr) (n c : Nat) (L : List Fx) (N : Nat) (w : World), Fxss w b m d LL → Fxs w a n c L → small 300 N LL → thin N L → m ≤ 300 → n ≤ 300 → 1 + n * (N + N + 6) ≤ 2000 → N ≤ 900 → Hid (rect LL ∧ n = gwidth LL) → Calls Tryz.prog 25 #[.slice b m d, .slice a n c] w (LstRwV (gapply (LL.map fqs) (fqs L)) (.bool true) w)
  apply_no : ∀ (b : Option Addr) (m d : Nat) (LL : List (List Fx)) (a : Option Addr) (n c : Nat) (L : List Fx) (w : World), Fxss w b m d LL → Fxs w a n c L → n ≤ 10 → m ≤ 10 → small 10 4 LL → thin 4 L → Hid (¬ (rect LL ∧ n = gwidth LL)) → Calls Tryz.prog 25 #[.slice b m d, .slice a n c] w (LstRwV [] (.bool false) w)
  mul_yes : ∀ (a : Option Addr) (n c : Nat) (LL : List (List Fx)) (b : Option Addr) (m d : Nat) (MM : List (List Fx)) (N : Nat) (w : World), Fxss w a n c LL → Fxss w b m d MM → small 300 N LL → small 300 N MM → n ≤ 300 → m ≤ 300 → 1 + m * (N + N + 6) ≤ 2000 → N ≤ 900 → Hid (rect LL ∧ rect MM ∧ gwidth LL = m) → Calls Tryz.prog 30 #[.slice a n c, .slice b m d] w (LstRwsV (gmul (gwidth MM) (LL.map fqs) (MM.map fqs)) (.bool true) w)
  mul_no : ∀ (a : Option Addr) (n c : Nat) (LL : List (List Fx)) (b : Option Addr) (m d : Nat) (MM : List (List Fx)) (w : World), Fxss w a n c LL → Fxss w b m d MM → n ≤ 10 → m ≤ 10 → small 10 4 LL → small 10 4 MM → Hid (¬ (rect LL ∧ rect MM ∧ gwidth LL = m)) → Calls Tryz.prog 30 #[.slice a n c, .slice b m d] w (LstRwsV [] (.bool false) w)
  add_yes : ∀ (a : Option Addr) (n c : Nat) (LL : List (List Fx)) (b : Option Addr) (m d : Nat) (MM : List (List Fx)) (w : World), Fxss w a n c LL → Fxss w b m d MM → n ≤ 300 → m ≤ 300 → small 300 100 LL → small 300 100 MM → Hid (rect LL ∧ rect MM ∧ n = m ∧ gwidth LL = gwidth MM) → Calls Tryz.prog 31 #[.slice a n c, .slice b m d] w (LstRwsV (gadd (LL.map fqs) (MM.map fqs)) (.bool true) w)
  add_no : ∀ (a : Option Addr) (n c : Nat) (LL : List (List Fx)) (b : Option Addr) (m d : Nat) (MM : List (List Fx)) (w : World), Fxss w a n c LL → Fxss w b m d MM → n ≤ 300 → m ≤ 300 → small 300 100 LL → small 300 100 MM → Hid (¬ (rect LL ∧ rect MM ∧ n = m ∧ gwidth LL = gwidth MM)) → Calls Tryz.prog 31 #[.slice a n c, .slice b m d] w (LstRwsV [] (.bool false) w)
end Go.Proofs.YtpjkhbfglgmnmaaGreatDoor

/-
  Package grid at this seat: Width, Right, column.
-/
namespace Go.Proofs.YtpjkhbfglgmnmaaGreatDoor
open Go.RowKit

theorem infoRowG : (Tryz.prog.info? 41).map (fun i => (i.zero, i.size, i.bytes)) = some (some (.slice none 0 0), 1, 24) := by kernel_rfl
theorem info_partsG {P : Program} {e : TypeId} (h : (P.info? e).map (fun i => (i.zero, i.size, i.bytes)) = some (some (.slice none 0 0), 1, 24)) : ∃ i, P.info? e = some i ∧ i.zero = some (.slice none 0 0) ∧ i.size = 1 ∧ i.bytes = 24 := by
  cases hh : P.info? e with
  | none => rw [hh] at h; simp at h
  | some i =>
    rw [hh] at h
    simp only [Option.map_some, Option.some.injEq, Prod.mk.injEq] at h
    exact ⟨i, rfl, h.1, h.2.1, h.2.2⟩
theorem ll_nextG {α : Type} {LL : List (List α)} {k : Nat} (h : k < LL.length) : LL.take (k + 1) = LL.take k ++ [LL.getD k []] := by
  rw [List.take_succ_eq_append_getElem h, List.getD_eq_getElem?_getD, List.getElem?_eq_getElem h]; rfl
theorem width_small {LL : List (List Fx)} {K N : Nat} (h : small K N LL) : gwidth LL ≤ K := by
  unfold gwidth
  cases LL with
  | nil => exact Nat.zero_le _
  | cons x r => exact (h x (List.mem_cons_self ..)).1
theorem rect_at {LL : List (List Fx)} {wd : Nat} (h : rect LL) (hw : gwidth LL = wd) : ∀ M ∈ LL, M.length = wd := fun M hM => (h M hM).trans hw
theorem colF_small {LL : List (List Fx)} {K N i : Nat} (h : small K N LL) (hi : ∀ M ∈ LL, i < M.length) : thin N (colF LL i) := colF_thin (fun M hM => (h M hM).2) hi
set_option maxRecDepth 4096 in
set_option maxHeartbeats 4000000 in
theorem grid_width (a : Option Addr) (n c : Nat) (LL : List (List Fx)) (w : World) (h : Fxss w a n c LL) : Calls Tryz.prog 16 #[.slice a n c] w (Gives (.int .i64 ((gwidth LL : Nat) : Int)) w) := by
  have hbd := h.bound
  have HLl := Lib.hid h.len
  by_cases h0 : n = 0
  · have hw : gwidth LL = 0 := by
      have := HLl.out
      rw [h0] at this
      rw [List.length_eq_zero_iff.1 this]; rfl
    rw [hw]
    subst h0
    clear h hw
    go_enter Tryz.func16, Tryz.ntmps16
    go_wp2
    go_ret
    exact ⟨rfl, Below.refl _ _⟩
  · obtain ⟨bb, off, hbe, a', n', c', e0, h1⟩ := h.at (j := 0) (by omega)
    have hw : gwidth LL = n' := h1.len
    rw [hw]
    have q1 : ((n : Int) == 0) = false := by simp; omega
    have q2 : ¬ (n : Int) = 0 := by omega
    have hki : (0 : Int) < (n : Int) := by omega
    have hkn : 0 < n := by omega
    have e1 : w.cell? ⟨bb, off, none⟩ = some (.slice a' n' c') := by simpa using e0
    have hbd1 := h1.bound
    subst hbe
    clear h h1 hw e0
    go_enter Tryz.func16, Tryz.ntmps16
    go_wp2
    go_ret
    exact ⟨rfl, Below.refl _ _⟩
set_option maxRecDepth 4096 in
set_option maxHeartbeats 4000000 in
theorem grid_right (a : Option Addr) (n c : Nat) (LL : List (List Fx)) (r : Bool) (w : World) (h : Fxss w a n c LL) (hr : Hid (r = true ↔ rect LL)) : Calls Tryz.prog 15 #[.slice a n c] w (Gives (.bool r) w) := by
  have HK := Lib.hid h
  have HLl := Lib.hid h.len
  have hbd := h.bound
  obtain ⟨wd, hwd⟩ : ∃ wd, gwidth LL = wd := ⟨_, rfl⟩
  have HRD : Hid (r = true ↔ ∀ M ∈ LL, M.length = wd) := Lib.hid (by rw [← hwd]; exact hr.out)
  have HW := Lib.hid (show Calls Tryz.prog 16 #[.slice a n c] w (Gives (.int .i64 (wd : Int)) w) from hwd ▸ grid_width a n c LL w h)
  clear h hr hwd
  go_enter Tryz.func15, Tryz.ntmps15
  go_wp2_with fail
  refine (HW.out).mono ?_
  rintro e w1 ⟨rfl, b1⟩
  have HB1 := Lib.hid b1
  clear b1 HW
  go_wp2
  go_loopw [9] (fun iv wr => ∃ k : Nat, k ≤ n ∧ iv = .int .i64 (k : Int) ∧ Hid (∀ M ∈ LL.take k, M.length = wd) ∧ Hid (Below w.heap.size w wr)) (fun iv _ => n - (intOf iv).toNat)
  case atStart => exact ⟨0, by omega, rfl, Lib.hid (fun M hM => by simp at hM), HB1⟩
  case round =>
    obtain ⟨k, hk, rfl, HA, HB⟩ := hrel
    by_cases hlt : k < n
    · obtain ⟨bb, off, hbe, a', n', c', e0, h1⟩ := (HK.out.later HB.out).at hlt
      have hl1 := h1.len
      have hbd1 := h1.bound
      have HT := Lib.hid (ll_nextG (show k < LL.length by rw [HLl.out]; exact hlt))
      have HM : Hid (LL.getD k [] ∈ LL) := Lib.hid (ll_getD_mem (by rw [HLl.out]; exact hlt))
      have HL1 := Lib.hid hl1
      have hki : (k : Int) < (n : Int) := by omega
      subst hbe
      clear h1 hl1
      by_cases hnz : n' = wd
      · have HA9 : Hid (∀ M ∈ LL.take (k + 1), M.length = wd) := Lib.hid (fun M hM => by
          rw [HT.out] at hM
          rcases List.mem_append.1 hM with hM | hM
          · exact HA.out M hM
          · rw [List.mem_singleton.1 hM, HL1.out]; exact hnz)
        have hq : ((n' : Int) == (wd : Int)) = true := by simp [hnz]
        clear hnz HA HT HM HL1
        go_wp2
        go_roundw
        case rel => exact ⟨k + 1, by omega, by go_num, HA9, HB⟩
        case measure => simp [intOf]; omega
      · have hrf : r = false := by
          cases r with
          | false => rfl
          | true => exact absurd (HRD.out.1 rfl _ HM.out) (by rw [HL1.out]; exact hnz)
        subst hrf
        have hq : ((n' : Int) == (wd : Int)) = false := by simp; omega
        have hq2 : ¬ (n' : Int) = (wd : Int) := by omega
        clear HA HT HM HL1
        go_wp2
        go_ret
        exact ⟨rfl, HB.out⟩
    · obtain rfl : k = n := by omega
      have hrt : r = true := HRD.out.2 (fun M hM => HA.out M (by rw [List.take_of_length_le (by rw [HLl.out]; exact Nat.le_refl _)]; exact hM))
      subst hrt
      go_wp2
      go_ret
      exact ⟨rfl, HB.out⟩
set_option maxRecDepth 4096 in
set_option maxHeartbeats 4000000 in
theorem grid_column (a : Option Addr) (n c : Nat) (LL : List (List Fx)) (i : Nat) (w : World) (h : Fxss w a n c LL) (hn : n ≤ 1000) (hi9 : ∀ M ∈ LL, i < M.length) : Calls Tryz.prog 39 #[.slice a n c, .int .i64 (i : Int)] w (fun e w' => e = .returned (.slice (some ⟨w.heap.size, 0, none⟩) n n) ∧ Cop w' w.heap.size 58 (.slice (some ⟨w.heap.size, 0, none⟩) n n) (colF LL i) ∧ Below w.heap.size w w') := by
  have HK := Lib.hid h
  have HLl := Lib.hid h.len
  have hbd := h.bound
  have HI := Lib.hid hi9
  clear h hi9
  obtain ⟨T, hT⟩ : ∃ T, colF LL i = T := ⟨_, rfl⟩
  have HTL : Hid (T.length = n) := Lib.hid (by rw [← hT, colF_length, HLl.out])
  have HTA : Hid (∀ k, k < n → T.getD k Fx.zero = (LL.getD k []).getD i Fx.zero) := Lib.hid (fun k hk => hT ▸ colF_at (by rw [HLl.out]; exact hk))
  rw [hT]
  clear hT
  obtain ⟨i0, hi, hz0, hz1, hz2⟩ := info_parts infoFracR
  go_enter Tryz.func39, Tryz.ntmps39
  go_wp2_with (at_make; refine wpList_make_fracs _ rfl _ _ 41 rfl (w.heap.size) 58 i0 Tryz.underlying41 hi hz0 hz1 hz2 _ _ _ _ n rfl rfl (by omega) (by omega) (by omega) (by simp) ?_; intro wm hmade hgm hszm)
  have HO0 := Lib.hid hmade
  have HB0 : Hid (Below w.heap.size w wm) := Lib.hid ((Below.refl _ _).grown hgm (Nat.le_refl _) (fun k hk => by cases hk))
  clear hmade hgm
  go_loopw [12] (fun iv wr => ∃ k r : Nat, k + r = n ∧ iv = .int .i64 (k : Int) ∧ Hid (HalfC wr w.heap.size 58 (.slice (some ⟨w.heap.size, 0, none⟩) n n) (T.take k) r) ∧ Hid (Below w.heap.size w wr) ∧ w.heap.size < wr.heap.size) (fun iv _ => n - (intOf iv).toNat)
  case atStart => exact ⟨0, n, by omega, rfl, HO0, HB0, by omega⟩
  case round =>
    clear HO0 HB0
    obtain ⟨k, r, hk, rfl, HO, HB, hsz⟩ := hrel
    by_cases hlt : k < n
    · have hkT : k < T.length := by rw [HTL.out]; exact hlt
      obtain ⟨r, rfl⟩ : ∃ r', r = r' + 1 := ⟨r - 1, by omega⟩
      have HT : Hid (T.take (k + 1) = T.take k ++ [T.getD k Fx.zero]) := Lib.hid (fx_more hkT)
      obtain ⟨bb, off, rfl, a', n', c', e0, h1⟩ := HK.out.at hlt
      have e0' := cell_later HB.out e0
      have hin : i < n' := by rw [← h1.len]; exact HI.out _ (ll_mem (by rw [HLl.out]; exact hlt))
      have hbd1 := h1.bound
      obtain ⟨b2, off2, rfl, q0, q1, q2, hok⟩ := h1.at hin
      rw [← HTA.out k hlt] at q0 q1 q2 hok
      generalize T.getD k Fx.zero = x at *
      obtain ⟨sx, ax, nx, cx, lax, bx, mx, dx, lbx⟩ := x
      simp only at q0 q1 q2
      obtain ⟨q0, q1, q2⟩ := three_on ⟨q0, q1, q2⟩ HB.out
      have HX := Lib.hid (hok.later HB.out)
      have hki : (k : Int) < (n : Int) := by omega
      have hii : (i : Int) < (n' : Int) := by omega
      obtain ⟨⟨p0, p1, p2⟩, f0, f1, f2⟩ := half_cell HO.out (k := k) (by rw [take_len (Nat.le_of_lt hkT)])
      obtain ⟨hst, hgr⟩ := HO.out.stored (k := k) (by rw [take_len (Nat.le_of_lt hkT)]) _ HX.out
      rw [← HT.out] at hst
      have HS := Lib.hid hst
      have HB5 := Lib.hid (HB.out.grown hgr HB.out.size (fun g' hg' => by simp at hg'; omega))
      have hsz5 := Nat.lt_of_lt_of_le hsz hgr.size
      clear hst hgr HO HB HT h1 hok e0 HX
      go_wp2
      go_roundw
      case rel => exact ⟨k + 1, r, by omega, by go_num, HS, HB5, hsz5⟩
      case measure => simp [intOf]; omega
    · obtain rfl : k = n := by omega
      obtain rfl : r = 0 := by omega
      have HF := Lib.hid (HO.out.done.whole HTL.out)
      clear HO
      go_wp2
      go_ret
      exact ⟨rfl, HF.out, HB.out⟩
theorem grid_column_out (a : Option Addr) (n c : Nat) (LL : List (List Fx)) (i : Nat) (w : World) (h : Fxss w a n c LL) (hn : n ≤ 1000) (hi9 : ∀ M ∈ LL, i < M.length) : Calls Tryz.prog 39 #[.slice a n c, .int .i64 (i : Int)] w (fun e w' => ∃ (a' : Option Addr) (c' : Nat), e = .returned (.slice a' n c') ∧ Fxs w' a' n c' (colF LL i) ∧ Below w.heap.size w w') := (grid_column a n c LL i w h hn hi9).mono fun e w' ⟨h1, h2, h3⟩ => by
  obtain ⟨a9, c9, e9, h9⟩ := h2.out
  rw [colF_length, h.len] at e9 h9
  cases e9
  exact ⟨_, _, h1, h9, h3⟩
end Go.Proofs.YtpjkhbfglgmnmaaGreatDoor

/-
  Package grid at this seat: Ident.
-/
namespace Go.Proofs.YtpjkhbfglgmnmaaGreatDoor
open Go.RowKit

theorem gident_getDG {n k : Nat} (h : k < n) : (gident n).getD k [] = runit n (k : Int) := by
  unfold gident
  rw [List.getD_eq_getElem?_getD, List.getElem?_map, List.getElem?_range h]; rfl
theorem gident_lengthG (n : Nat) : (gident n).length = n := by unfold gident; rw [List.length_map, List.length_range]
set_option maxRecDepth 4096 in
set_option maxHeartbeats 4000000 in
theorem grid_ident (z : Int) (w : World) (_hz : isInt z) : Calls Tryz.prog 20 #[.int .i64 z] w (LstRws (gident (gcut z)) w) := by
  obtain ⟨n, hnz⟩ : ∃ n, gcut z = n := ⟨_, rfl⟩
  have hn6 : n ≤ 6 := by rw [← hnz]; unfold gcut; omega
  have hM : (min (max z 0) 6 : Int) = (n : Int) := by rw [← hnz]; unfold gcut; omega
  rw [hnz]
  clear hnz
  obtain ⟨T, hT⟩ : ∃ T, gident n = T := ⟨_, rfl⟩
  have HTL : Hid (T.length = n) := Lib.hid (by rw [← hT]; exact gident_lengthG n)
  have HTE := Lib.hid hT
  rw [hT]
  have HU : ∀ (k : Nat) (w' : World), k < n → Calls Tryz.prog 35 #[.int .i64 (n : Int), .int .i64 (k : Int)] w' (LstRw (T.getD k []) w') := fun k w' hk => by
    have h9 := rowSaid.unit (n : Int) (k : Int) w' (by unfold isInt; omega) (by unfold isInt; omega)
    rw [show rcut (n : Int) = n by unfold rcut; omega] at h9
    rw [← HTE.out, gident_getDG hk]; exact h9
  clear hT
  obtain ⟨i1, hi1, hj0, hj1, hj2⟩ := info_partsG infoRowG
  go_enter Tryz.func20, Tryz.ntmps20
  go_wp2_with (at_make; refine wpList_make_slots _ rfl _ _ 26 rfl (w.heap.size) 41 i1 Tryz.underlying26 hi1 hj0 hj1 hj2 _ _ _ _ n rfl rfl (by omega) (by omega) (by omega) (by simp) ?_; intro wm hmade hgm hszm)
  have HO0 := Lib.hid hmade
  have HB0 : Hid (Below w.heap.size w wm) := Lib.hid ((Below.refl _ _).grown hgm (Nat.le_refl _) (fun k hk => by cases hk))
  clear hmade hgm
  go_loopw [11] (fun iv wr => ∃ k : Nat, k ≤ n ∧ iv = .int .i64 (k : Int) ∧ Hid (HalfR wr w.heap.size 41 w.heap.size n (T.take k)) ∧ Hid (Below w.heap.size w wr) ∧ w.heap.size < wr.heap.size) (fun iv _ => n - (intOf iv).toNat)
  case atStart => exact ⟨0, by omega, rfl, HO0, HB0, by omega⟩
  case round =>
    clear HO0 HB0
    obtain ⟨k, hk, rfl, HO, HB, hsz⟩ := hrel
    by_cases hlt : k < n
    · have hkT : k < T.length := by rw [HTL.out]; exact hlt
      have HT : Hid (T.take (k + 1) = T.take k ++ [T.getD k []]) := Lib.hid (ll_nextG hkT)
      have hki : (k : Int) < (n : Int) := by omega
      have hk0 : (0 : Int) ≤ (k : Int) := by omega
      go_wp2_with fail
      refine (HU k _ hlt).mono ?_
      rintro e w4 ⟨a4, n4, c4, rfl, h4, bw⟩
      replace HB := Lib.hid (below_then HB.out bw)
      replace HO := Lib.hid (HO.out.later bw)
      have hsz4 : w.heap.size < w4.heap.size := Nat.lt_of_lt_of_le hsz bw.size
      clear bw hsz
      obtain ⟨u0, u1, u2, p0, f0⟩ := HO.out.cell hlt
      obtain ⟨hst, hgr⟩ := HO.out.stored (k := k) (by rw [take_len (Nat.le_of_lt hkT)]) hlt h4
      rw [← HT.out] at hst
      have HS := Lib.hid hst
      have HB5 := Lib.hid (HB.out.grown hgr HB.out.size (fun g' hg' => by simp at hg'; omega))
      have hsz5 := Nat.lt_of_lt_of_le hsz4 hgr.size
      clear hst hgr HO HB HT h4
      go_wp2
      go_roundw
      case rel => exact ⟨k + 1, by omega, by go_num, HS, HB5, hsz5⟩
      case measure => simp [intOf]; omega
    · obtain rfl : k = n := by omega
      have HF9 := Lib.hid (HO.out.whole HTL.out rfl (by omega))
      clear HO
      go_wp2
      go_ret
      exact ⟨_, _, _, rfl, HF9.out, HB.out⟩
end Go.Proofs.YtpjkhbfglgmnmaaGreatDoor
