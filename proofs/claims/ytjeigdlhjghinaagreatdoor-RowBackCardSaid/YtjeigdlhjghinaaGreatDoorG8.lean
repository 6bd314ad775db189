/-
  Several texts of this claim as one, group 8.
-/
import Derived.Test.YtjeigdlhjghinaaGreatDoorG6
import Derived.Test.YtjeigdlhjghinaaGreatDoorG7
import Derived.Test.YtjeigdlhjghinaaGreatDoorG5
import Derived.Deep.RegionHeld3
import Derived.Test.YtjeigdlhjghinaaGreatDoorG4
import Derived.Shelf.Strconv.AppendInt10
import Derived.Lib.AppendIntMem
import Derived.Lib.AppendStr
import Derived.Laws.IdiomStrings
import Derived.Laws.Slices
import Derived.OwnWalk
import Derived.BigCall
import Derived.BigGuard
import Derived.Test.YtjeigdlhjghinaaGreatDoorG2
import Derived.Deep.AppendSrc
import Derived.Deep.RegionWith
import Derived.Test.YtjeigdlhjghinaaGreatDoorG3
/-
  The contracts of the document's answer for layer 8: Floor.
-/
namespace Go.Proofs.YtjeigdlhjghinaaGreatDoor
open Go.RowKit

theorem results_rows2 {P : Program} {fn : Func} {p q : Tmp} {ty tz : TypeId} (h : fn.results = #[.cell p ty, .cell q tz]) (tmps : Array Value) (w : World) (g k : Nat) (t s : TypeId) (cs ds : Array Value) (fr fs : Nat × Nat) (d e : TypeDesc)
    (hp : tmps.getD p undef = .pointer (some ⟨g, 0, none⟩)) (hg : w.heap[g]? = some (.cells cs t fr))
    (hu : P.underlying ty = some d) (hd : (match d with | .struct _ | .array _ _ => true | _ => false) = true) (hi : (P.info? ty).map (·.size) = some cs.size)
    (hq : tmps.getD q undef = .pointer (some ⟨k, 0, none⟩)) (hk : w.heap[k]? = some (.cells ds s fs))
    (hu2 : P.underlying tz = some e) (hd2 : (match e with | .struct _ | .array _ _ => true | _ => false) = true) (hi2 : (P.info? tz).map (·.size) = some ds.size) :
    (results fn tmps).run P w = .ok (.tuple #[.agg cs, .agg ds]) w := by
  have hp' : tmps[p]?.getD undef = .pointer (some ⟨g, 0, none⟩) := by simpa using hp
  have hq' : tmps[q]?.getD undef = .pointer (some ⟨k, 0, none⟩) := by simpa using hq
  simp [results, h, hp', hq', asAddr, Sem.run_bind, Result.andThen, run_loadVar_row w g t ty cs fr d hg hu hd hi, run_loadVar_row w k s tz ds fs e hk hu2 hd2 hi2]
theorem blk_apart2 {w : World} {A g : Nat} {o : Obj} (h : w.heap[A]? = some o) (hne : A ≠ g) (u v : Value) : ((w.setCell ⟨g, 0, none⟩ u).setCell ⟨g, 1, none⟩ v).heap[A]? = some o := blk_apart (blk_apart h hne 0 u) hne 1 v
end Go.Proofs.YtjeigdlhjghinaaGreatDoor

/-
  Package whole at this seat: Floor.
-/
namespace Go.Proofs.YtjeigdlhjghinaaGreatDoor
open Go.RowKit

end Go.Proofs.YtjeigdlhjghinaaGreatDoor

/-
  Package whole at this seat: Floor, of numbers with one sign.
-/
namespace Go.Proofs.YtjeigdlhjghinaaGreatDoor
open Go.RowKit

end Go.Proofs.YtjeigdlhjghinaaGreatDoor

/-
  Package whole at this seat: Floor, of numbers with two signs, where nothing is left.
-/
namespace Go.Proofs.YtjeigdlhjghinaaGreatDoor
open Go.RowKit

end Go.Proofs.YtjeigdlhjghinaaGreatDoor

/-
  Package whole at this seat: Floor, of numbers with two signs, where something is left.
-/
namespace Go.Proofs.YtjeigdlhjghinaaGreatDoor
open Go.RowKit

end Go.Proofs.YtjeigdlhjghinaaGreatDoor

/-
  Package whole at this seat: what strings.CutPrefix does with a minus ahead.
-/
namespace Go.Proofs.YtjeigdlhjghinaaGreatDoor
open Go.RowKit

/-- Whether a minus stands ahead. -/
def minusAhead : List UInt8 → Bool
  | [] => false
  | x :: _ => decide (x.toNat = 45)
theorem bs_first (x : UInt8) (r : List UInt8) : (bs (x :: r)).extract 0 1 = bs [x] := by
  unfold bs; rw [ByteArray.extract_mk]; simp
set_option maxRecDepth 4096 in
theorem lite_HasPrefix_nil (w : World) : Calls Tryz.prog 152 #[.string (bs []), .string (bs [45])] w (fun e w' => e = .returned (.bool false) ∧ w' = w) := by
  have h0 := bs_size []
  have h1 := bs_size [45]
  go_enter Tryz.func152, Tryz.ntmps152
  go_wp2
  go_ret
  exact ⟨rfl, rfl⟩
set_option maxRecDepth 4096 in
theorem lite_HasPrefix_cons (x : UInt8) (r : List UInt8) (w : World) (hl : r.length ≤ 1000) : Calls Tryz.prog 152 #[.string (bs (x :: r)), .string (bs [45])] w (fun e w' => e = .returned (.bool (decide (x.toNat = 45))) ∧ w' = w) := by
  have h0 := bs_size (x :: r)
  have h1 := bs_size [45]
  have hx := bs_first x r
  simp only [List.length_cons, List.length_nil] at h0 h1
  go_enter Tryz.func152, Tryz.ntmps152
  go_wp2
  go_ret
  refine ⟨?_, rfl⟩
  show Ending.returned (.bool ((bs [x]).toList == (bs [45]).toList)) = _
  rw [bs_list, bs_list]
  by_cases h : x.toNat = 45
  · rw [show x = 45 from UInt8.toNat_inj.1 h]; rfl
  · rw [decide_eq_false h, show ([x] == [45]) = false from by simp; intro e; exact h (by rw [e]; rfl)]
theorem lite_HasPrefix (l : List UInt8) (w : World) (hl : l.length ≤ 1000) : Calls Tryz.prog 152 #[.string (bs l), .string (bs [45])] w (fun e w' => e = .returned (.bool (minusAhead l)) ∧ w' = w) := by
  cases l with
  | nil => exact lite_HasPrefix_nil w
  | cons x r => exact lite_HasPrefix_cons x r w (by simp at hl; omega)
/-- What stands behind a minus. -/
def cutMinus (l : List UInt8) : List UInt8 := if minusAhead l = true then l.drop 1 else l
theorem cut_len (l : List UInt8) : (cutMinus l).length ≤ l.length ∧ l.length ≤ (cutMinus l).length + 1 := by
  unfold cutMinus; split <;> simp <;> omega
theorem cut_ok {l : List UInt8} (h : wrongI (cutMinus l) < 0) : zval (minusAhead l) (readV (cutMinus l)) = zread l := by
  cases l with
  | nil => exact absurd h (by decide)
  | cons x r =>
    unfold cutMinus minusAhead zread at *
    by_cases hx : x.toNat = 45
    · simp only [hx, decide_true, if_true, List.drop_succ_cons, List.drop_zero] at *
    · simp only [hx, decide_false, if_false, Bool.false_eq_true] at *
theorem cut_bad {l : List UInt8} (h : 0 ≤ wrongI (cutMinus l)) : wrongI (cutMinus l) + ((l.length : Int) - ((cutMinus l).length : Int)) = zwrong l := by
  cases l with
  | nil => rfl
  | cons x r =>
    unfold cutMinus minusAhead zwrong at *
    by_cases hx : x.toNat = 45
    · simp only [hx, decide_true, if_true, List.drop_succ_cons, List.drop_zero, List.length_cons] at *
      rw [if_neg (by omega)]
      omega
    · simp only [hx, decide_false, if_false, Bool.false_eq_true] at *
      omega
theorem cut_wrong (l : List UInt8) : zwrong l < 0 ↔ wrongI (cutMinus l) < 0 := by
  cases l with
  | nil => decide
  | cons x r =>
    unfold cutMinus minusAhead zwrong
    by_cases hx : x.toNat = 45
    · simp only [hx, decide_true, if_true, List.drop_succ_cons, List.drop_zero]
      split <;> omega
    · simp only [hx, decide_false, if_false, Bool.false_eq_true]
set_option maxRecDepth 4096 in
theorem lite_CutPrefix (l : List UInt8) (w : World) (hl : l.length ≤ 1000) : Calls Tryz.prog 175 #[.string (bs l), .string (bs [45])] w (fun e w' => e = .returned (.tuple #[.string (bs (cutMinus l)), .bool (minusAhead l)]) ∧ w' = w) := by
  go_enter Tryz.func175, Tryz.ntmps175
  go_wp2_with fail
  refine (lite_HasPrefix l _ hl).mono ?_
  rintro e w' ⟨rfl, rfl⟩
  by_cases hm : minusAhead l = true
  · cases l with
    | nil => exact absurd hm (by decide)
    | cons x r =>
      have HC : Hid (cutMinus (x :: r) = r) := Lib.hid (by unfold cutMinus; rw [if_pos hm]; rfl)
      have Hm := Lib.hid hm
      have h0 := bs_size (x :: r)
      have h1 := bs_size [45]
      have hx := bs_rest x r
      simp only [List.length_cons, List.length_nil] at h0 h1 hl
      rw [hm]
      clear hm
      go_wp2
      go_ret2
      exact ⟨by rw [HC.out, Hm.out]; rfl, rfl⟩
  · have hm : minusAhead l = false := by simpa using hm
    have HC : Hid (cutMinus l = l) := Lib.hid (by unfold cutMinus; rw [hm]; rfl)
    have Hm := Lib.hid hm
    rw [hm]
    clear hm
    go_wp2
    go_ret2
    exact ⟨by rw [HC.out, Hm.out]; rfl, rfl⟩
theorem strings_CutPrefix (l : List UInt8) (w : World) (hl : l.length ≤ 1000) : Calls Tryz.prog 148 #[.string (bs l), .string (bs [45])] w (fun e w' => e = .returned (.tuple #[.string (bs (cutMinus l)), .bool (minusAhead l)]) ∧ w' = w) := by
  go_enter Tryz.func148, Tryz.ntmps148
  go_wp2_with fail
  refine (lite_CutPrefix l _ hl).mono ?_
  rintro e w' ⟨rfl, rfl⟩
  go_wp2
  go_ret2
  exact ⟨rfl, rfl⟩
end Go.Proofs.YtjeigdlhjghinaaGreatDoor

/-
  Plain mathematics: decimal digits in groups of nine. Nothing of the program.
-/
namespace Go.Proofs.YtjeigdlhjghinaaGreatDoor

/-- The last k digits of a number. -/
def lowd : Nat → Nat → List UInt8
  | 0, _ => []
  | k + 1, n => lowd k (n / 10) ++ [dig (n % 10)]
theorem lowd_length (k n : Nat) : (lowd k n).length = k := by
  induction k generalizing n with
  | zero => rfl
  | succ k ih => rw [lowd, List.length_append, ih]; rfl
theorem txt_split (k n : Nat) (h : 10 ^ k ≤ n) : txt n = txt (n / 10 ^ k) ++ lowd k n := by
  induction k generalizing n with
  | zero => rw [lowd, List.append_nil, Nat.pow_zero, Nat.div_one]
  | succ k ih =>
    have hp : 0 < 10 ^ k := Nat.pow_pos (by decide)
    rw [Nat.pow_succ] at h
    rw [txt_big (by omega), ih (n / 10) (by omega), lowd, Nat.div_div_eq_div_mul, Nat.pow_succ, Nat.mul_comm 10, List.append_assoc]
theorem lowd_mod (k n : Nat) : lowd k (n % 10 ^ k) = lowd k n := by
  induction k generalizing n with
  | zero => rfl
  | succ k ih =>
    have h1 : n % 10 ^ (k + 1) / 10 = n / 10 % 10 ^ k := by
      rw [Nat.pow_succ, Nat.mul_comm, Nat.mod_mul_right_div_self]
    have h2 : n % 10 ^ (k + 1) % 10 = n % 10 := by rw [Nat.pow_succ]; exact Nat.mod_mod_of_dvd _ (Nat.dvd_mul_left _ _)
    rw [lowd, lowd, h1, h2, ih]
/-- A number in groups of nine digits, the lowest ones first. -/
def bil (n : Nat) : List Nat := if h : n < 1000000000 then [n] else (n % 1000000000) :: bil (n / 1000000000)
termination_by n
decreasing_by omega
theorem bil_small {n : Nat} (h : n < 1000000000) : bil n = [n] := by rw [bil]; simp [h]
theorem bil_big {n : Nat} (h : 1000000000 ≤ n) : bil n = (n % 1000000000) :: bil (n / 1000000000) := by rw [bil]; simp [show ¬ n < 1000000000 by omega]
def tx : List Nat → List UInt8
  | [] => []
  | [g] => txt g
  | g :: h :: r => tx (h :: r) ++ lowd 9 g
theorem bil_ne (n : Nat) : ∃ g r, bil n = g :: r := by
  by_cases h : n < 1000000000
  · exact ⟨_, _, bil_small h⟩
  · exact ⟨_, _, bil_big (by omega)⟩
theorem tx_cons (g : Nat) (r : List Nat) (h : r ≠ []) : tx (g :: r) = tx r ++ lowd 9 g := by
  cases r with
  | nil => exact absurd rfl h
  | cons x r => rfl
theorem tx_bil (n : Nat) : tx (bil n) = txt n := by
  induction n using Nat.strongRecOn with
  | _ n ih =>
    by_cases h : n < 1000000000
    · rw [bil_small h]; rfl
    · obtain ⟨g, r, hg⟩ := bil_ne (n / 1000000000)
      rw [bil_big (by omega), tx_cons _ _ (by rw [hg]; simp), ih _ (by omega), txt_split 9 n (by omega), show (10 : Nat) ^ 9 = 1000000000 from by decide]
      have := lowd_mod 9 n
      rw [show (10 : Nat) ^ 9 = 1000000000 from by decide] at this
      rw [this]
theorem bil_lt (n : Nat) : ∀ g ∈ bil n, g < 1000000000 := by
  induction n using Nat.strongRecOn with
  | _ n ih =>
    by_cases h : n < 1000000000
    · rw [bil_small h]; intro g hg; simp at hg; omega
    · rw [bil_big (by omega)]
      intro g hg
      rcases List.mem_cons.1 hg with h1 | h1
      · omega
      · exact ih _ (by omega) g h1
theorem atw_bil (n k : Nat) : atw (bil n) k < 1000000000 := by
  by_cases h : k < (bil n).length
  · unfold atw
    rw [List.getD_eq_getElem?_getD, List.getElem?_eq_getElem h]
    exact bil_lt n _ (List.getElem_mem h)
  · unfold atw
    rw [List.getD_eq_getElem?_getD, List.getElem?_eq_none (by omega)]
    decide
theorem bil_length_le {n k : Nat} (h : n < 2 ^ k) : (bil n).length ≤ k + 1 := by
  induction k generalizing n with
  | zero => rw [bil_small (by simp at h; omega)]; simp
  | succ k ih =>
    by_cases h1 : n < 1000000000
    · rw [bil_small h1]; simp
    · rw [bil_big (by omega), List.length_cons]
      have := ih (n := n / 1000000000) (by rw [Nat.pow_succ] at h; omega)
      omega
/-- Nine digits, noughts ahead and all. -/
theorem pad_txt {g : Nat} (h : g < 1000000000) : txt (1000000000 + g) = 49 :: lowd 9 g := by
  have h1 := lowd_mod 9 (1000000000 + g)
  have hp : (10 : Nat) ^ 9 = 1000000000 := by decide
  rw [txt_split 9 _ (by omega), ← h1, hp, show (1000000000 + g) / 1000000000 = 1 by omega, show (1000000000 + g) % 1000000000 = g by omega, txt_small (by decide)]
  rfl
/-- Groups are written from the highest one down: s is the text of those from place k on. -/
def TxAt (L : List Nat) (k : Nat) (s : List UInt8) : Prop := k < L.length ∧ s = tx (L.drop k)
theorem tx_start {L : List Nat} {m : Nat} (h : L.length = m + 1) : TxAt L m (txt (atw L m)) := by
  refine ⟨by omega, ?_⟩
  rw [List.drop_eq_getElem_cons (show m < L.length by omega), List.drop_of_length_le (show L.length ≤ m + 1 by omega)]
  unfold atw
  rw [List.getD_eq_getElem?_getD, List.getElem?_eq_getElem (show m < L.length by omega)]
  rfl
theorem tx_step {L : List Nat} {k : Nat} {s : List UInt8} (h : TxAt L (k + 1) s) : TxAt L k (s ++ lowd 9 (atw L k)) := by
  obtain ⟨h1, h2⟩ := h
  refine ⟨by omega, ?_⟩
  have h3 : L.drop (k + 1) ≠ [] := by
    intro h4
    have := congrArg List.length h4
    rw [List.length_drop] at this
    simp at this
    omega
  rw [List.drop_eq_getElem_cons (show k < L.length by omega), tx_cons _ _ h3, ← h2]
  unfold atw
  rw [List.getD_eq_getElem?_getD, List.getElem?_eq_getElem (show k < L.length by omega)]
  rfl
theorem tx_end {n : Nat} {s : List UInt8} (h : TxAt (bil n) 0 s) : s = txt n := by
  rw [h.2, List.drop_zero, tx_bil]
theorem tx_length {n k : Nat} {s : List UInt8} (h : TxAt (bil n) k s) : s.length ≤ (txt n).length := by
  have key : ∀ (k : Nat) (s : List UInt8), TxAt (bil n) k s → s.length ≤ (txt n).length := by
    intro k
    induction k with
    | zero => intro s h; rw [tx_end h]; exact Nat.le_refl _
    | succ k ih =>
      intro s h
      have := ih _ (tx_step h)
      rw [List.length_append] at this
      omega
  exact key k s h
end Go.Proofs.YtjeigdlhjghinaaGreatDoor

/-
  Numerals by the library (strconv.AppendUint, FormatUint at base 10) at this seat, out of the shelf's contracts.
-/
namespace Go.Proofs.YtjeigdlhjghinaaGreatDoor
open Go.RowKit

theorem dec_txt (u : Nat) : Lib.decDigits u = txt u := by
  induction u using Nat.strongRecOn with
  | _ u ih =>
    by_cases h : u < 10
    · rw [Lib.decDigits, dif_pos h, txt_small h]; rfl
    · rw [Lib.decDigits, dif_neg h, txt_big (by omega), ih _ (by omega)]; rfl
def dec_lays_ren : Go.Shelf.Ren := ⟨fun | 129 => 204 | 283 => 192 | 284 => 193 | 285 => 194 | 286 => 195 | 288 => 179 | 317 => 203 | 318 => 205 | 319 => 206 | 320 => 207 | 337 => 212 | 338 => 213 | n => n, fun | 0 => 0 | 3 => 3 | 4 => 4 | 5 => 5 | 9 => 9 | 20 => 20 | 37 => 146 | 46 => 164 | 51 => 91 | 53 => 99 | 171 => 219 | 173 => 222 | 212 => 227 | 213 => 228 | 232 => 231 | 233 => 232 | n => n, fun | 17 => 3 | 18 => 4 | 19 => 5 | n => n⟩
theorem dec_lays : Go.Proofs.LaysM.n288 Tryz.prog dec_lays_ren := {
  mixed := by kernel_rfl
  f129 := Tryz.func204.trans (congrArg some (by kernel_rfl))
  f283 := Tryz.func192.trans (congrArg some (by kernel_rfl))
  f284 := Tryz.func193.trans (congrArg some (by kernel_rfl))
  f285 := Tryz.func194.trans (congrArg some (by kernel_rfl))
  f286 := Tryz.func195.trans (congrArg some (by kernel_rfl))
  f288 := Tryz.func179.trans (congrArg some (by kernel_rfl))
  f317 := Tryz.func203.trans (congrArg some (by kernel_rfl))
  f318 := Tryz.func205.trans (congrArg some (by kernel_rfl))
  f319 := Tryz.func206.trans (congrArg some (by kernel_rfl))
  f320 := Tryz.func207.trans (congrArg some (by kernel_rfl))
  f337 := Tryz.func212.trans (congrArg some (by kernel_rfl))
  f338 := Tryz.func213.trans (congrArg some (by kernel_rfl))
  t0 := Tryz.underlying0
  a0 := Tryz.isAgg0
  z0 := Tryz.sizeOf0
  v0 := Tryz.zeroValue0
  t3 := Tryz.underlying3
  a3 := Tryz.isAgg3
  z3 := Tryz.sizeOf3
  v3 := Tryz.zeroValue3
  t4 := Tryz.underlying4
  a4 := Tryz.isAgg4
  z4 := Tryz.sizeOf4
  v4 := Tryz.zeroValue4
  t5 := Tryz.underlying5
  a5 := Tryz.isAgg5
  z5 := Tryz.sizeOf5
  v5 := Tryz.zeroValue5
  t9 := Tryz.underlying9
  a9 := Tryz.isAgg9
  z9 := Tryz.sizeOf9
  v9 := Tryz.zeroValue9
  t20 := Tryz.underlying20
  a20 := Tryz.isAgg20
  z20 := Tryz.sizeOf20
  v20 := Tryz.zeroValue20
  t37 := Tryz.underlying146
  a37 := Tryz.isAgg146
  z37 := Tryz.sizeOf146
  v37 := Tryz.zeroValue146
  t46 := Tryz.underlying164
  a46 := Tryz.isAgg164
  z46 := Tryz.sizeOf164
  v46 := Tryz.zeroValue164
  t51 := Tryz.underlying91
  a51 := Tryz.isAgg91
  z51 := Tryz.sizeOf91
  v51 := Tryz.zeroValue91
  t53 := Tryz.underlying99
  a53 := Tryz.isAgg99
  z53 := Tryz.sizeOf99
  v53 := Tryz.zeroValue99
  t171 := Tryz.underlying219
  a171 := Tryz.isAgg219
  z171 := Tryz.sizeOf219
  v171 := Tryz.zeroValue219
  t173 := Tryz.underlying222
  a173 := Tryz.isAgg222
  z173 := Tryz.sizeOf222
  v173 := Tryz.zeroValue222
  t212 := Tryz.underlying227
  a212 := Tryz.isAgg227
  z212 := Tryz.sizeOf227
  v212 := Tryz.zeroValue227
  t213 := Tryz.underlying228
  a213 := Tryz.isAgg228
  z213 := Tryz.sizeOf228
  t232 := Tryz.underlying231
  a232 := Tryz.isAgg231
  z232 := Tryz.sizeOf231
  v232 := Tryz.zeroValue231
  t233 := Tryz.underlying232
  a233 := Tryz.isAgg232
  z233 := Tryz.sizeOf232
  v233 := Tryz.zeroValue232
  g17 := by kernel_rfl
  g18 := by kernel_rfl
  g19 := by kernel_rfl
  i0 := by kernel_rfl
  i3 := by kernel_rfl
  i4 := by kernel_rfl
  i5 := by kernel_rfl
  i9 := by kernel_rfl
  i20 := by kernel_rfl
  i37 := by kernel_rfl
  i46 := by kernel_rfl
  i51 := by kernel_rfl
  i53 := by kernel_rfl
  i171 := by kernel_rfl
  i173 := by kernel_rfl
  i212 := by kernel_rfl
  i232 := by kernel_rfl
  i233 := by kernel_rfl
  m17 := by kernel_rfl
  m18 := by kernel_rfl
  m19 := by kernel_rfl }
theorem Dec10.tab {w : World} (h : Dec10 w) : ∀ {name}, Tryz.prog.globalNamed name = some (dec_lays_ren.g 17) → Lib.TabIs Tryz.prog w name .u64 Lib.pow10Tab := fun hn => h _ hn
/-- A number's digits behind what a row of the call's own holds. -/
theorem dec_append0 (B n u : Nat) (hu64 : u < 18446744073709551616) (sv : Value) (xs : List Value) (w : World) (hown : w.ownsRow B 5 1 sv n xs) (hB : B ≤ w.heap.size) (hn : n ≤ 1000000) (hT : Dec10 w) :
    Calls Tryz.prog 179 #[sv, .int .u64 u, .int .i64 10] w fun e w' => ∃ v', e = .returned v' ∧ w'.ownsRow B 5 1 v' (n + (txt u).length) (xs ++ Lib.byteCells (txt u)) ∧ Below B w w' := by
  have h := Any.internal_strconv_AppendUint_10 dec_lays B n u hu64 sv xs w hown hB (by omega) (hT.tab dec_lays.m17)
  rw [dec_txt] at h
  exact h.mono fun e w' ⟨v', he, ho, hb, _⟩ => ⟨v', he, ho, hb⟩
end Go.Proofs.YtjeigdlhjghinaaGreatDoor

/-
  The public strconv.AppendUint and FormatUint at base 10.
-/
namespace Go.Proofs.YtjeigdlhjghinaaGreatDoor
open Go.RowKit

set_option maxRecDepth 4096 in
theorem dec_append (B n u : Nat) (hu64 : u < 18446744073709551616) (sv : Value) (xs : List Value) (w : World) (hown : w.ownsRow B 5 1 sv n xs) (hB : B ≤ w.heap.size) (hn : n ≤ 1000000) (hT : Hid (Dec10 w)) :
    Calls Tryz.prog 158 #[sv, .int .u64 u, .int .i64 10] w fun e w' => ∃ v', e = .returned v' ∧ w'.ownsRow B 5 1 v' (n + (txt u).length) (xs ++ Lib.byteCells (txt u)) ∧ Below B w w' := by
  have Ho := Lib.hid hown
  clear hown
  go_enter Tryz.func158, Tryz.ntmps158
  go_wp2_with (go_at_call 179; refine (dec_append0 B n u hu64 sv xs _ Ho.out hB hn hT.out).mono ?_; rintro e w1 ⟨v1, rfl, h1, b1⟩; refine Hid.out ?_)
  refine Lib.hid ?_
  go_wp2
  go_ret
  exact ⟨v1, rfl, h1, b1⟩
set_option maxRecDepth 100000 in
set_option maxHeartbeats 6400000 in
/-- From 100 on: the numeral is laid in an array of the call's own and read as a text. -/
theorem dec_format0 (u : Nat) (hu : 100 ≤ u) (hu64 : u < 18446744073709551616) (w : World) (hT : Hid (Dec10 w)) :
    Calls Tryz.prog 196 #[.int .u64 u, .int .i64 10] w (Gives (.string (bs (txt u))) w) := by
  have hu1 : 1 ≤ u := by omega
  have hnd20 : Lib.nDigits u ≤ 20 := by have := Lib.numDigits_eq u hu1 hu64; split at this <;> omega
  have hal : Tryz.prog.arrayLen 219 = 24 := by kernel_rfl
  have hel : Tryz.prog.elem 219 = 5 := by kernel_rfl
  have hsl : ∀ W, (Instr.sliceAt 219 (.pointer (some ⟨w.heap.size, 0, none⟩)) none (some (.int .i64 (Lib.nDigits u : Int))) none).run Tryz.prog W = .ok (.slice (some ⟨w.heap.size, 0, none⟩) (Lib.nDigits u) 24) W := fun W => by
    rw [run_sliceAt_array_h W 219 ⟨w.heap.size, 0, none⟩ Tryz.underlying219 .i64 (Lib.nDigits u : Int) (by omega) (by rw [hal]; omega), hel, hal]
    go_simp
  have hH0 := Lib.holds_zero0 w 219 (Lib.nDigits u) (by omega)
  have hfmt := Any.internal_strconv_formatBase10 (P := Tryz.prog) (ρ := dec_lays_ren) { dec_lays with } w.heap.size 0 24 u (Array.replicate (Lib.nDigits u) 0) (w.alloc (.cells Lib.zeros24 219)) hH0 (by rw [Array.size_replicate]; exact Lib.lt_pow_nDigits u) hu64 (by rw [Array.size_replicate]; omega)
  rw [Array.size_replicate] at hfmt
  have HH0 := Lib.hid hH0
  have Hfmt := Lib.hid hfmt
  have iu : (100 : Int) ≤ (u : Int) := by omega
  clear hH0 hal hel hfmt
  go_enter Tryz.func196, Tryz.ntmps196
  go_wp2_with (first
    | (go_at_call 193; refine (Any.internal_strconv_numDigits (P := Tryz.prog) (ρ := dec_lays_ren) { dec_lays with } u hu1 hu64 _ (Lib.tabIs_alloc (hT.out.tab dec_lays.m17) _)).mono ?_; rintro e w' ⟨rfl, rfl⟩)
    | (go_at_call 194; refine Hfmt.out.mono ?_; rintro e w' ⟨rfl, k, v', dk, rfl, hF⟩; refine Hid.out ?_))
  refine Lib.hid ?_
  have hcv : (convert 146 9 (.slice (some ⟨w.heap.size, 0, none⟩) (Lib.nDigits u) 24)).run Tryz.prog ((Sort.putRow (fun (b : UInt8) => Value.int .u8 (b.toNat : Int)) (w.alloc (.cells Lib.zeros24 219)) w.heap.size 0 dk).drewN k) = .ok (.string (bs (txt u))) ((Sort.putRow (fun (b : UInt8) => Value.int .u8 (b.toNat : Int)) (w.alloc (.cells Lib.zeros24 219)) w.heap.size 0 dk).drewN k) := by
    have h := run_convert_bytes_back (P := Tryz.prog) ((Sort.putRow (fun (b : UInt8) => Value.int .u8 (b.toNat : Int)) (w.alloc (.cells Lib.zeros24 219)) w.heap.size 0 dk).drewN k) 146 9 5 ⟨w.heap.size, 0, none⟩ 24 (Lib.decDigits u) Tryz.underlying146 Tryz.underlying5 Tryz.underlying9 (fun j hj => by
      rw [Lib.row_is_numeral hF j hj, Lib.add_plain, World.cell?_drewN]
      exact Sort.cell?_putRow (fun (b : UInt8) => Value.int .u8 (b.toNat : Int)) _ w.heap.size 0 _ dk HH0.out (by rw [hF.size, Array.size_replicate]) j (by rw [hF.size]; rw [Lib.decDigits_length] at hj; exact hj))
    rw [Lib.decDigits_length, dec_txt] at h
    exact h
  obtain ⟨os, eo⟩ := Lib.fin_at w (.cells Lib.zeros24 219) dk k 0
  have hnx : Below w.heap.size w ((Sort.putRow (fun (b : UInt8) => Value.int .u8 (b.toNat : Int)) (w.alloc (.cells Lib.zeros24 219)) w.heap.size 0 dk).drewN k) := by rw [eo]; exact Lib.below_grow w.heap.size w (Nat.le_refl _) k os
  generalize (Sort.putRow (fun (b : UInt8) => Value.int .u8 (b.toNat : Int)) (w.alloc (.cells Lib.zeros24 219)) w.heap.size 0 dk).drewN k = W2 at hcv hnx ⊢
  clear eo HH0 Hfmt
  go_wp2
  go_ret
  exact ⟨rfl, hnx⟩
theorem dec_format (u : Nat) (hu : 100 ≤ u) (hu64 : u < 18446744073709551616) (w : World) (hT : Hid (Dec10 w)) :
    Calls Tryz.prog 180 #[.int .u64 u, .int .i64 10] w (Gives (.string (bs (txt u))) w) := by
  go_enter Tryz.func180, Tryz.ntmps180
  go_wp2_with (go_at_call 196; refine (dec_format0 u hu hu64 _ hT).mono ?_; rintro e w1 ⟨rfl, b1⟩)
  go_ret
  exact ⟨rfl, b1⟩
end Go.Proofs.YtjeigdlhjghinaaGreatDoor

/-
  Package digits at this seat: full, groups.
-/
namespace Go.Proofs.YtjeigdlhjghinaaGreatDoor
open Go.RowKit

theorem Wd.heldA {w : World} {a : Option Addr} {n cap : Nat} {l : List Nat} (h : Wd w a n cap l) : heldVal w (.slice a n cap) = val l := by
  cases a with
  | none => obtain ⟨rfl, rfl, rfl⟩ := h.ofNone; rfl
  | some ad =>
    by_cases hn : n = 0
    · subst hn
      have h0 : l = [] := List.eq_nil_of_length_eq_zero h.len
      subst h0
      rfl
    · obtain ⟨b, off, e, _⟩ := h.at (by omega)
      cases e
      exact h.held
set_option maxRecDepth 4096 in
theorem digits_full (g : Nat) (hg : g < 1000000000) (w : World) (hT : Hid (Dec10 w)) :
    Calls Tryz.prog 159 #[.int .u32 (g : Int)] w (Gives (.string (bs (lowd 9 g))) w) := by
  obtain ⟨u, hu⟩ : ∃ u : Nat, 1000000000 + (g : Int) = (u : Int) := ⟨1000000000 + g, by omega⟩
  have HU : Hid (txt u = 49 :: lowd 9 g) := Lib.hid (by rw [show u = 1000000000 + g by omega]; exact pad_txt hg)
  have hu1 : 100 ≤ u := by omega
  have hu2 : u < 18446744073709551616 := by omega
  have hsz := bs_size (49 :: lowd 9 g)
  have htl := bs_rest 49 (lowd 9 g)
  simp only [List.length_cons, lowd_length] at hsz htl
  go_enter Tryz.func159, Tryz.ntmps159
  go_wp2_with (go_at_call 180; refine (dec_format u hu1 hu2 _ hT).mono ?_; rintro e w1 ⟨rfl, b1⟩; rw [HU.out])
  go_ret
  exact ⟨rfl, b1⟩
set_option maxRecDepth 4096 in
set_option maxHeartbeats 2000000 in
theorem digits_groups (a : Option Addr) (n cap : Nat) (l : List Nat) (w : World) (h : Wd w a n cap l) (hn : n ≤ 1000) :
    Calls Tryz.prog 157 #[.slice a n cap] w (Lst (bil (val l)) w) := by
  obtain ⟨i0, hi, hz0, hz1, hz2⟩ := info_parts infoU32
  have HL : Hid ((bil (val l)).length ≤ 32001) := Lib.hid (by
    have h1 := val_lt h.ok
    rw [h.len, pow32] at h1
    have h2 := bil_length_le h1
    omega)
  have H := Lib.hid h
  clear h
  go_enter Tryz.func157, Tryz.ntmps157
  go_wp2
  go_loopw [0, 3] (fun av gv wr => ∃ (a' : Option Addr) (n' c' : Nat) (L G : List Nat) (m : Nat), av = .slice a' n' c' ∧ n' ≤ 1000 ∧ Hid (Wd wr a' n' c' L) ∧ Hid (wr.ownsRow w.heap.size 91 1 gv m (wcells G)) ∧ Hid (okw G) ∧ Hid (bil (val l) = G ++ bil (val L)) ∧ Below w.heap.size w wr) (fun av _ wr => heldVal wr av)
  case atStart => exact ⟨a, n, cap, l, [], 0, rfl, hn, H, Lib.hid (World.ownsRow_nil _ _ _ _), Lib.hid okw_nil, Lib.hid rfl, Below.refl _ _⟩
  case round =>
    clear H hn
    obtain ⟨a', n', c', L, G, m, rfl, hn', HW, HO, HG, HB, hB⟩ := hrel
    obtain ⟨ga, gc, rfl⟩ := own_slice HO.out
    have hm : m ≤ 32000 := by
      have h1 := HL.out
      have h2 := HO.out.1
      obtain ⟨x, r, hx⟩ := bil_ne (val L)
      rw [HB.out, hx, List.length_append, List.length_cons] at h1
      rw [wcells_length] at h2
      omega
    have Hm0 := Lib.hid HW.out.heldA
    have hbase : w.heap.size ≤ wr.heap.size := hB.size
    obtain ⟨v, hv⟩ : ∃ v, v = val L := ⟨_, rfl⟩
    have Hv := Lib.hid hv
    have hgl : v % 1000000000 < 4294967296 := by omega
    obtain ⟨z, hz⟩ : ∃ z, z = v % 1000000000 := ⟨_, rfl⟩
    have hzl : z < 1000000000 := by omega
    have Hz := Lib.hid hz
    have HG2 : Hid (okw (G ++ [z])) := Lib.hid (okw_append.2 ⟨HG.out, okw_cons.2 ⟨by omega, okw_nil⟩⟩)
    clear hz hv hgl
    go_wp2_with fail
    refine (quot_word_own _ _ _ _ 1000000000 _ HW.out (by omega) (by omega) (by omega)).mono ?_
    rintro e w1 ⟨g1, n1, rfl, h1, b1⟩
    rw [← Hv.out] at h1 ⊢
    rw [← Hz.out]
    have hn1 : n1 ≤ 1000 := by
      have h2 := h1.len
      have h3 := HW.out.trim_le
      have h4 := dg_length_mono (show v / 1000000000 ≤ val L by rw [← Hv.out]; exact Nat.div_le_self _ _)
      omega
    have HO1 := Lib.hid (ownsRow_later HO.out b1)
    have hB1 := below_then hB b1
    have hbase1 := hB1.size
    have Hq := Lib.hid h1
    clear HW b1 hB h1
    go_wp2_with (at_builtin; refine wpList_append_own _ rfl _ _ 37 rfl w.heap.size 91 i0 (.int .u32 0) 1 4 Tryz.underlying37 hi hz0 hz1 hz2 rfl (by decide) _ m _ rfl (HO1.out.alloc _) ⟨w1.heap.size, 0, none⟩ 1 1 (wcells [z]) rfl rfl (Wd.lit1 w1 91 (x := z) (by omega)).cells (wcells_one _) (by unfold maxLen; omega) (by omega) (by simp; omega) ?_)
    intro v' w2 hown hgrow _
    have hB2 : Below w.heap.size w w2 := (hB1.alloc hbase1 _).grown hgrow (by simp; omega) (fun k hk => (HO1.out.lt k hk).1)
    have Hq2 : Hid (Wd w2 (some ⟨g1, 0, none⟩) n1 n1 (dg (v / 1000000000))) := Lib.hid ((Hq.out.wd.later (below_alloc _ _)).kept hgrow (by
      intro ad hd he
      cases hd
      have h2 := (Hq.out.base).1
      have h3 : g1 < wr.heap.size := (HO.out.lt g1 he.symm).2
      omega))
    rw [← wcells_append] at hown
    have HO2 := Lib.hid hown
    clear hown hgrow Hq HO1 HO
    go_wp2_with fail
    refine (natSaid.zero _ _ _ _ _ Hq2.out (by omega)).mono ?_
    rintro e w3 ⟨rfl, b3⟩
    rw [val_dg]
    have HO3 := Lib.hid (ownsRow_later HO2.out b3)
    have Hq3 := Lib.hid (Hq2.out.later b3)
    have hB3 := below_then hB2 b3
    clear b3 HO2 Hq2 hB2
    by_cases hq : v / 1000000000 = 0
    · rw [decide_eq_true hq]
      have Hfin : Hid (bil (val l) = G ++ [z]) := Lib.hid (by rw [HB.out, ← Hv.out, bil_small (by omega), Hz.out, Nat.mod_eq_of_lt (by omega)])
      obtain ⟨a4, c4, rfl⟩ := own_slice HO3.out
      have HF := Lib.hid (Wd.own HO3.out HG2.out)
      clear hq
      go_wp2
      go_ret
      exact ⟨_, _, _, rfl, by rw [Hfin.out]; exact HF.out, hB3⟩
    · rw [decide_eq_false hq]
      have Hfin : Hid (bil (val l) = (G ++ [z]) ++ bil (val (dg (v / 1000000000)))) := Lib.hid (by rw [HB.out, ← Hv.out, bil_big (by omega), ← Hz.out, val_dg, List.append_assoc]; rfl)
      have hlt : v / 1000000000 < v := by omega
      have Hm1 := Lib.hid Hq3.out.heldA
      clear hq
      go_wp2
      go_roundw
      case rel => exact ⟨_, n1, n1, _, _, _, rfl, hn1, Hq3, HO3, HG2, Hfin, hB3⟩
      case measure =>
        have h8 := Hm0.out
        have h9 := Hm1.out
        rw [val_dg] at h9
        show heldVal _ _ < heldVal _ _
        rw [h8, h9, ← Hv.out]
        exact hlt
end Go.Proofs.YtjeigdlhjghinaaGreatDoor

/-
  Package digits at this seat: Text, Len.
-/
namespace Go.Proofs.YtjeigdlhjghinaaGreatDoor
open Go.RowKit

theorem infoU8 : (Tryz.prog.info? 5).map (fun i => (i.zero, i.size, i.bytes)) = some (some (.int .u8 0), 1, 1) := by kernel_rfl
theorem strCells_bs (s : List UInt8) : Lib.strCells (bs s) = Lib.byteCells s := rfl
set_option maxRecDepth 4096 in
set_option maxHeartbeats 4000000 in
theorem digits_text (a : Option Addr) (n cap : Nat) (l : List Nat) (w : World) (h : Wd w a n cap l) (hn : n ≤ 1000) (hT : Hid (Dec10 w)) :
    Calls Tryz.prog 118 #[.slice a n cap] w (Gives (.string (bs (txt (val l)))) w) := by
  obtain ⟨i0, hi, hz0, hz1, hz2⟩ := info_parts infoU8
  have hv2 := val_lt h.ok
  rw [h.len, pow32] at hv2
  have HTL : Hid ((txt (val l)).length ≤ 32001) := Lib.hid (by have := txt_length_le hv2; omega)
  have HBL : Hid ((bil (val l)).length ≤ 32001) := Lib.hid (by have := bil_length_le hv2; omega)
  have H := Lib.hid h
  clear h hv2
  go_enter Tryz.func118, Tryz.ntmps118
  go_wp2_with fail
  refine (digits_groups _ _ _ _ _ H.out hn).mono ?_
  rintro e w1 ⟨a1, n1, c1, rfl, h1, b1⟩
  obtain ⟨v, hv⟩ : ∃ v, v = val l := ⟨_, rfl⟩
  rw [← hv] at h1 HTL HBL
  have HV := Lib.hid hv
  clear hv H hn
  have hT1 := Lib.hid (hT.out.later b1)
  obtain ⟨m, rfl⟩ : ∃ m, n1 = m + 1 := by
    obtain ⟨x, r, hx⟩ := bil_ne v
    have h2 := h1.len
    rw [hx, List.length_cons] at h2
    exact ⟨r.length, h2.symm⟩
  have hm : m ≤ 32000 := by have h2 := h1.len; have h3 := HBL.out; omega
  obtain ⟨b, off, rfl, hcl⟩ := h1.at (by omega)
  have hcm := hcl m (by omega)
  have Hcl := Lib.hid hcl
  have H1 := Lib.hid h1
  have hxw := atw_bil v m
  have HS : Hid (TxAt (bil v) m (txt (atw (bil v) m))) := Lib.hid (tx_start h1.len)
  obtain ⟨x, hx⟩ : ∃ x, x = atw (bil v) m := ⟨_, rfl⟩
  rw [← hx] at hcm hxw HS
  have e1 : ((m + 1 : Nat) : Int) - 1 = (m : Int) := by omega
  have hlt : (m : Int) < ((m + 1 : Nat) : Int) := by omega
  have hB1 := b1
  have HTx : Hid ((txt x).length ≤ 32001) := Lib.hid (by have h2 := tx_length HS.out; have h3 := HTL.out; omega)
  clear hcl hx h1 b1
  go_wp2_with (go_at_call 158; refine (dec_append w1.heap.size 0 x (by omega) (.slice none 0 0) [] _ (World.ownsRow_nil _ _ _ _) (Nat.le_refl _) (by omega) hT1).mono ?_; rintro e w2 ⟨v2, rfl, h2, b2⟩; refine Hid.out ?_)
  refine Lib.hid ?_
  rw [Nat.zero_add, List.nil_append] at h2
  have HO2 := Lib.hid h2
  have HB1 := Lib.hid hB1
  clear h2 hcm hT hlt HTx
  go_wp2
  go_loopw [5, 6] (fun sv iv wr => ∃ (k : Nat) (s : List UInt8), k ≤ m ∧ iv = .int .i64 ((k : Int) - 1) ∧ Hid (TxAt (bil v) k s) ∧ Hid (wr.ownsRow w1.heap.size 5 1 sv s.length (Lib.byteCells s)) ∧ Below w1.heap.size w1 wr) (fun _ iv _ => (intOf iv + 1).toNat)
  case atStart => exact ⟨m, txt x, by omega, by go_num, HS, HO2, b2⟩
  case round =>
    clear HO2 HS b2 hxw
    obtain ⟨k, s, hk, rfl, HS, HO, hB⟩ := hrel
    have hsl : s.length ≤ 32001 := by have h2 := tx_length HS.out; have h3 := HTL.out; omega
    have hT2 := Lib.hid (hT1.out.later hB)
    have hbase := hB.size
    cases k with
    | zero =>
      have hs := tx_end HS.out
      have hne : 0 < s.length := by rw [hs]; exact List.length_pos_iff.2 (txt_ne v)
      have Hs := Lib.hid hs
      clear hs
      rcases HO.out.2 with ⟨-, h0⟩ | ⟨g, cap', cur, rfl, -⟩
      · omega
      · have hcv := run_convert_bytes_back (P := Tryz.prog) wr 146 9 5 ⟨g, 0, none⟩ cap' s Tryz.underlying146 Tryz.underlying5 Tryz.underlying9 (fun j hj => HO.out.cells (g := g) rfl j _ (by simp [Lib.byteCells, hj]))
        go_wp2
        go_ret
        exact ⟨by rw [← HV.out, ← Hs.out]; rfl, below_then HB1.out hB⟩
    | succ k =>
      have e2 : ((k + 1 : Nat) : Int) - 1 = (k : Int) := by omega
      rw [e2]
      clear e2
      have hck := cell_later hB (Hcl.out k (by omega))
      have hyw := atw_bil v k
      have HS2 := Lib.hid (tx_step HS.out)
      obtain ⟨y, hy⟩ : ∃ y, y = atw (bil v) k := ⟨_, rfl⟩
      rw [← hy] at hck hyw HS2
      have hki : (k : Int) < ((m + 1 : Nat) : Int) := by omega
      have hz := bs_size (lowd 9 y)
      rw [lowd_length] at hz
      clear hy
      go_wp2_with (first
        | (go_at_call 159; refine (digits_full y hyw _ hT2).mono ?_; rintro e w3 ⟨rfl, b3⟩; have HO3 := Lib.hid (ownsRow_later HO.out b3); have hB3 := below_then hB b3; have hbase3 := hB3.size)
        | (at_builtin; refine Lib.wpList_append_own_string _ rfl _ _ 146 9 rfl w1.heap.size 5 i0 Tryz.underlying146 Tryz.underlying9 hi hz0 hz1 hz2 _ _ _ rfl HO3.out (bs (lowd 9 y)) rfl (by rw [hz]; unfold maxLen; omega) (by rw [hz]; omega) hbase3 ?_; intro v' w4 hown hgrow _; refine Hid.out ?_))
      refine Lib.hid ?_
      have hB4 : Below w1.heap.size w1 w4 := hB3.grown hgrow hbase3 (fun k hk => (HO3.out.lt k hk).1)
      have e3 : Lib.byteCells s ++ Lib.strCells (bs (lowd 9 y)) = Lib.byteCells (s ++ lowd 9 y) := by rw [strCells_bs, Lib.byteCells_append]
      have e4 : s.length + (bs (lowd 9 y)).size = (s ++ lowd 9 y).length := by rw [bs_size, List.length_append]
      rw [e3, e4] at hown
      have HO4 := Lib.hid hown
      clear hown hgrow e3 e4 HO3 HO
      go_wp2
      go_roundw
      case rel => exact ⟨k, _, by omega, by go_num, HS2, HO4, hB4⟩
      case measure => simp [intOf]
end Go.Proofs.YtjeigdlhjghinaaGreatDoor

/-
  The contracts of package prod (layer 4) at this seat: Word, All.
-/
namespace Go.Proofs.YtjeigdlhjghinaaGreatDoor
open Go.RowKit

theorem Wds.take {w : World} {a : Option Addr} {n cap : Nat} {ls : List (List Nat)} (h : Wds w a n cap ls) {k : Nat} (hk : k ≤ n) : Wds w a k cap (ls.take k) := by
  obtain ⟨h1, h2, h3, h4, h5⟩ := h
  refine ⟨by rw [List.length_take]; omega, by omega, h3, h4, ?_⟩
  rcases h5 with h0 | ⟨b, off, e, hc⟩
  · exact .inl (by omega)
  · refine .inr ⟨b, off, e, fun j hj => ?_⟩
    obtain ⟨a', n', c', h6, h7⟩ := hc j (by omega)
    refine ⟨a', n', c', h6, ?_⟩
    rwa [List.getD_eq_getElem?_getD, List.getElem?_take, if_pos hj, ← List.getD_eq_getElem?_getD]
theorem Wds.drop {w : World} {b off m cap q : Nat} {ls : List (List Nat)} (h : Wds w (some ⟨b, off, none⟩) (q + m) cap ls) : Wds w (some ⟨b, off + q, none⟩) m (cap - q) (ls.drop q) := by
  have h1 := h.bound
  have h2 := h.len
  refine ⟨by rw [List.length_drop]; omega, by omega, by omega, fun e => (by cases e), ?_⟩
  rcases h.2.2.2.2 with h0 | ⟨b', off', e, hc⟩
  · exact .inl (by omega)
  · simp only [Option.some.injEq, Addr.mk.injEq, and_true] at e
    obtain ⟨rfl, rfl⟩ := e
    refine .inr ⟨b, off + q, rfl, fun j hj => ?_⟩
    obtain ⟨a', n', c', h6, h7⟩ := hc (q + j) (by omega)
    exact ⟨a', n', c', by rw [Nat.add_assoc]; exact h6, by rwa [List.getD_eq_getElem?_getD, List.getElem?_drop, ← List.getD_eq_getElem?_getD]⟩

set_option maxRecDepth 4096 in
set_option maxHeartbeats 1000000 in
theorem prod_word (a : Option Addr) (n cap : Nat) (l : List Nat) (x c0 : Nat) (w : World) (h : Wd w a n cap l) (hn : n ≤ 4000000) (hx : x < 4294967296) (hc0 : c0 < 4294967296) :
    Calls Tryz.prog 150 #[.slice a n cap, .int .u32 (x : Int), .int .u32 (c0 : Int)] w (Lst (dg (val l * x + c0)) w) := by
  obtain ⟨i0, hi, hz0, hz1, hz2⟩ := info_parts infoU32
  have H := Lib.hid h
  clear h
  go_enter Tryz.func150, Tryz.ntmps150
  go_wp2_with (at_make; refine wpList_make_words _ rfl _ _ 37 rfl w.heap.size 91 i0 (.int .u32 0) Tryz.underlying37 hi hz0 hz1 rfl .i64 .i64 _ _ 0 (n + 1) rfl rfl (by omega) (by omega) (by omega) (by rw [hz2]; omega) (by unfold maxLen; omega) (Nat.le_refl _) ?_; intro w1 hown1 hgrow1)
  rw [zeros_cells] at hown1
  have HO1 : Hid (Own w1 w.heap.size w.heap.size 0 (n + 1) []) := Lib.hid ⟨hown1, okw_nil⟩
  have hB1 : Below w.heap.size w w1 := (Below.refl _ _).grown hgrow1 (Nat.le_refl _) (fun k hk => by cases hk)
  clear hown1 hgrow1
  go_loopw [7, 8, 19] (fun s cv i wr => ∃ (j c g cap2 : Nat) (o : List Nat), j ≤ n ∧ i = .int .i64 (j : Int) ∧ cv = .int .u32 (c : Int) ∧ c < 4294967296 ∧ s = .slice (some ⟨g, 0, none⟩) j cap2 ∧ Hid (o.length = j) ∧ Hid (val o + 4294967296 ^ j * c = low l j * x + c0) ∧ Hid (Own wr w.heap.size g j cap2 o) ∧ Below w.heap.size w wr) (fun _ _ i _ => n - (intOf i).toNat)
  case atStart => exact ⟨0, c0, _, _, [], by omega, rfl, rfl, hc0, rfl, Lib.hid rfl, Lib.hid (by rw [low_zero]; simp [val]), HO1, hB1⟩
  case round =>
    clear HO1 hB1
    obtain ⟨j, c, g, cap2, o, hj, rfl, rfl, hc, rfl, Hol, Hv, HO, hB⟩ := hrel
    have hbase : w.heap.size ≤ wr.heap.size := hB.size
    by_cases hlt : j < n
    · obtain ⟨b, off, rfl, hcl⟩ := (H.out.later hB).at (by omega)
      have hck := hcl j hlt
      have hyw := atw_lt H.out.ok j
      obtain ⟨y, hyy⟩ : ∃ y, y = atw l j := ⟨_, rfl⟩
      rw [← hyy] at hyw hck
      have Hy := Lib.hid hyy
      have hj1 : (j : Int) < (n : Int) := by omega
      clear hcl hyy
      go_wp2_with fail
      refine (limb_mul_nat3 y x c _ hyw hx hc).mono ?_
      rintro e w' ⟨c2, z, rfl, hc2, hz, Hs, rfl⟩
      go_wp2_with (at_builtin; refine wpList_append_own _ rfl _ _ 37 rfl w.heap.size 91 i0 (.int .u32 0) 1 4 Tryz.underlying37 hi hz0 hz1 hz2 rfl (by decide) _ j _ rfl (HO.out.1.alloc _) ⟨wr.heap.size, 0, none⟩ 1 1 (wcells [z]) rfl rfl (Wd.lit1 wr 91 (x := z) hz).cells (wcells_one _) (by unfold maxLen; omega) (by omega) (by simp; omega) ?_)
      intro v' w2 hown hgrow _
      obtain ⟨g2, cap3, rfl, HO2⟩ := Own.push (r := z) hown HO.out.2 hz
      have HO' := Lib.hid HO2
      have hb := HO.out.base
      have hB1 : Below w.heap.size w w2 := (hB.alloc hbase _).grown hgrow (by simp; omega) (by intro k hk; simp [Value.ownBlock] at hk; omega)
      clear HO2 hown hgrow
      go_wp2
      go_roundw
      case rel => exact ⟨j + 1, c2, g2, cap3, o ++ [z], by omega, by go_num, rfl, hc2, rfl, Lib.hid (by have := Hol.out; simp; omega), Lib.hid (word_step Hol.out Hv.out (by rw [← Hy.out]; exact Hs.out)), HO', hB1⟩
      case measure => simp [intOf]; omega
    · obtain rfl : j = n := by omega
      have Hv2 : Hid (val (o ++ [c]) = val l * x + c0) := Lib.hid (by rw [val_snoc, Hol.out, Hv.out, low_ge (by rw [H.out.len]; omega)])
      clear hlt Hv
      go_wp2_with (at_builtin; refine wpList_append_own _ rfl _ _ 37 rfl w.heap.size 91 i0 (.int .u32 0) 1 4 Tryz.underlying37 hi hz0 hz1 hz2 rfl (by decide) _ j _ rfl (HO.out.1.alloc _) ⟨_, 0, none⟩ 1 1 (wcells [c]) rfl rfl (Wd.lit1 _ 91 (x := c) hc).cells (wcells_one _) (by unfold maxLen; omega) (by omega) (by simp; omega) ?_)
      intro v' w2 hown hgrow _
      obtain ⟨g2, cap3, rfl, HO2⟩ := Own.push (r := c) hown HO.out.2 hc
      have HO' := Lib.hid HO2
      have hb := HO.out.base
      have hB1 : Below w.heap.size w w2 := (hB.alloc hbase _).grown hgrow (by simp; omega) (by intro k hk; simp [Value.ownBlock] at hk; omega)
      clear HO2 hown hgrow
      go_wp2_with fail
      refine (natSaid.norm _ _ _ _ _ HO'.out.wd (by omega)).mono ?_
      rintro e w' ⟨a', n', c', rfl, hwd, hbel⟩
      rw [Hv2.out] at hwd
      have HWD := Lib.hid hwd
      clear hwd
      go_wp2
      go_ret
      exact ⟨_, _, _, rfl, HWD.out, below_then hB1 hbel⟩
end Go.Proofs.YtjeigdlhjghinaaGreatDoor

/-
  Package digits at this seat: wrongAt, Read.
-/
namespace Go.Proofs.YtjeigdlhjghinaaGreatDoor
open Go.RowKit

theorem results_tmp_cell {P : Program} {fn : Func} {p u : Tmp} {ty : TypeId} (h : fn.results = #[.tmp u, .cell p ty]) (tmps : Array Value) (w : World) (g : Nat) (t : TypeId) (cs : Array Value) (fr : Nat × Nat) (d : TypeDesc)
    (hp : tmps.getD p undef = .pointer (some ⟨g, 0, none⟩)) (hg : w.heap[g]? = some (.cells cs t fr))
    (hu : P.underlying ty = some d) (hd : (match d with | .struct _ | .array _ _ => true | _ => false) = true) (hi : (P.info? ty).map (·.size) = some cs.size) :
    (results fn tmps).run P w = .ok (.tuple #[tmps.getD u undef, .agg cs]) w := by
  have hp' : tmps[p]?.getD undef = .pointer (some ⟨g, 0, none⟩) := by simpa using hp
  simp [results, h, hp', asAddr, run_loadVar_row w g t ty cs fr d hg hu hd hi, Result.andThen]
theorem blk_set4 {w : World} {g : Nat} {x y z u : Value} {t : TypeId} (h : w.heap[g]? = some (.cells #[x, y, z, u] t (0, 0))) (x' y' z' u' : Value) : ((((w.setCell ⟨g, 0, none⟩ x').setCell ⟨g, 1, none⟩ y').setCell ⟨g, 2, none⟩ z').setCell ⟨g, 3, none⟩ u').heap[g]? = some (.cells #[x', y', z', u'] t (0, 0)) := by
  have h1 := blk_set (blk_set (blk_set (blk_set h 0 x') 1 y') 2 z') 3 u'
  simpa using h1
theorem no_words4 {a b c d : Int} : ∀ (j : Nat) (k : Int), (#[Value.int .i64 a, .int .i64 b, .int .i64 c, .int .i64 d] : Array Value)[j]? ≠ some (.int .u32 k) := by
  intro j k
  match j with
  | 0 => simp
  | 1 => simp
  | 2 => simp
  | 3 => simp
  | j + 4 => simp
theorem Wd.stored4 {w : World} {a : Option Addr} {n cap : Nat} {l : List Nat} (h : Wd w a n cap l) {g : Nat} {x0 x1 x2 x3 : Int} {t : TypeId} (hg : w.heap[g]? = some (.cells #[.int .i64 x0, .int .i64 x1, .int .i64 x2, .int .i64 x3] t (0, 0))) (y0 y1 y2 y3 : Int) :
    Wd ((((w.setCell ⟨g, 0, none⟩ (.int .i64 y0)).setCell ⟨g, 1, none⟩ (.int .i64 y1)).setCell ⟨g, 2, none⟩ (.int .i64 y2)).setCell ⟨g, 3, none⟩ (.int .i64 y3)) a n cap l := by
  have h0 := h.stored hg no_words4 0 (.int .i64 y0)
  have g0 : (w.setCell ⟨g, 0, none⟩ (.int .i64 y0)).heap[g]? = some (.cells #[.int .i64 y0, .int .i64 x1, .int .i64 x2, .int .i64 x3] t (0, 0)) := by simpa using blk_set hg 0 (.int .i64 y0)
  have h1 := h0.stored g0 no_words4 1 (.int .i64 y1)
  have g1 : ((w.setCell ⟨g, 0, none⟩ (.int .i64 y0)).setCell ⟨g, 1, none⟩ (.int .i64 y1)).heap[g]? = some (.cells #[.int .i64 y0, .int .i64 y1, .int .i64 x2, .int .i64 x3] t (0, 0)) := by simpa using blk_set g0 1 (.int .i64 y1)
  have h2 := h1.stored g1 no_words4 2 (.int .i64 y2)
  have g2 : (((w.setCell ⟨g, 0, none⟩ (.int .i64 y0)).setCell ⟨g, 1, none⟩ (.int .i64 y1)).setCell ⟨g, 2, none⟩ (.int .i64 y2)).heap[g]? = some (.cells #[.int .i64 y0, .int .i64 y1, .int .i64 y2, .int .i64 x3] t (0, 0)) := by simpa using blk_set g1 2 (.int .i64 y2)
  exact h2.stored g2 no_words4 3 (.int .i64 y3)
theorem below_set4 {w w1 : World} {g : Nat} (h : Below w.heap.size w w1) (hg : w.heap.size ≤ g) (x y z u : Value) : Below w.heap.size w ((((w1.setCell ⟨g, 0, none⟩ x).setCell ⟨g, 1, none⟩ y).setCell ⟨g, 2, none⟩ z).setCell ⟨g, 3, none⟩ u) :=
  (((h.setCell (p := ⟨g, 0, none⟩) hg x).setCell (p := ⟨g, 1, none⟩) hg y).setCell (p := ⟨g, 2, none⟩) hg z).setCell (p := ⟨g, 3, none⟩) hg u
set_option maxRecDepth 4096 in
theorem digits_wrongAt (i : Int) (w : World) : Calls Tryz.prog 149 #[.int .i64 i] w (Gives (faultV 1 0 0 i) w) := by
  go_enter Tryz.func149, Tryz.ntmps149
  go_wp2
  refine bodyPost_ret (results_cell_row Tryz.results149 _ _ w.heap.size 69 #[.int .i64 1, .int .i64 0, .int .i64 0, .int .i64 i] (0, 0) _ rfl (blk_new _ _ _) Tryz.underlying69 rfl (by kernel_rfl)) rfl ?_
  exact ⟨rfl, below_alloc _ _⟩
def ReadPost (l : List UInt8) (w : World) (e : Ending) (w' : World) : Prop :=
  (wrongI l < 0 ∧ Lst2 (dg (readV l)) (faultV 0 0 0 0) w e w') ∨ (0 ≤ wrongI l ∧ Lst2 [] (faultV 1 0 0 (wrongI l)) w e w')
set_option maxRecDepth 4096 in
set_option maxHeartbeats 2000000 in
theorem digits_read (l : List UInt8) (w : World) (hl : l.length ≤ 1000) : Calls Tryz.prog 107 #[.string (bs l)] w (ReadPost l w) := by
  cases l with
  | nil =>
    have hem : (bs []).toList.isEmpty = true := by rw [bs_list]; rfl
    go_enter Tryz.func107, Tryz.ntmps107
    go_wp2_with fail
    refine (digits_wrongAt 0 _).mono ?_
    rintro e w1 ⟨rfl, b1⟩
    unfold faultV
    have hR := blk_later (blk_new w #[.int .i64 0, .int .i64 0, .int .i64 0, .int .i64 0] 69) b1
    have hR0 := blk_cell hR 0
    have hR1 := blk_cell hR 1
    have hR2 := blk_cell hR 2
    have hR3 := blk_cell hR 3
    have hF0 := blk_free hR 0
    have hF1 := blk_free hR 1
    have hF2 := blk_free hR 2
    have hF3 := blk_free hR 3
    have HG4 := Lib.hid (blk_set4 hR (.int .i64 1) (.int .i64 0) (.int .i64 0) (.int .i64 0))
    have HB4 := Lib.hid (below_set4 (below_then (below_alloc w _) b1) (show w.heap.size ≤ w.heap.size from Nat.le_refl _) (.int .i64 1) (.int .i64 0) (.int .i64 0) (.int .i64 0))
    simp only [List.getElem?_toArray, List.getElem?_cons_zero, List.getElem?_cons_succ] at hR0 hR1 hR2 hR3
    clear hR b1
    go_wp2
    refine bodyPost_ret (results_tmp_cell Tryz.results107 _ _ w.heap.size 69 #[.int .i64 1, .int .i64 0, .int .i64 0, .int .i64 0] (0, 0) _ rfl HG4.out Tryz.underlying69 rfl (by kernel_rfl)) rfl ?_
    exact .inr ⟨by decide, none, 0, 0, rfl, Wd.ofNil _, HB4.out⟩
  | cons y r =>
    have hem : (bs (y :: r)).toList.isEmpty = false := by rw [bs_list]; rfl
    have HW : Hid (wrongI (y :: r) = wrongFrom (y :: r) 0) := Lib.hid rfl
    have hsz := bs_size (y :: r)
    generalize y :: r = L at *
    go_enter Tryz.func107, Tryz.ntmps107
    go_wp2_with fail
    go_loopw [4, 12] (fun av iv wr => ∃ (k : Nat) (a : Option Addr) (n c : Nat), k ≤ L.length ∧ k ≤ 60 ∧ iv = .int .i64 (k : Int) ∧ av = .slice a n c ∧ Hid (alldig (L.take k)) ∧ Hid (wrongFrom L 0 = wrongFrom (L.drop k) k) ∧ Hid (Wd wr a n c (dg (readV (L.take k)))) ∧ Hid (wr.heap[w.heap.size]? = some (.cells #[.int .i64 0, .int .i64 0, .int .i64 0, .int .i64 0] 69 (0, 0))) ∧ Below w.heap.size w wr) (fun _ iv _ => L.length - (intOf iv).toNat)
    case atStart => exact ⟨0, none, 0, 0, by omega, by omega, rfl, rfl, Lib.hid (fun x hx => by rw [List.take_zero] at hx; cases hx), Lib.hid rfl, Lib.hid (by rw [List.take_zero]; show Wd _ _ _ _ (dg 0); rw [dg_zero]; exact Wd.ofNil _), Lib.hid (blk_new w _ _), below_alloc _ _⟩
    case round =>
      obtain ⟨k, a, n, c, hk, hk60, rfl, rfl, HD, Hk, HA, HR, hB⟩ := hrel
      by_cases hlt : k < L.length
      · have hki : (k : Int) < (L.length : Int) := by omega
        have hget := bs_get L k hlt (by rw [bs_size]; exact hlt)
        have Hx : Hid (L.getD k 0 = L[k]) := Lib.hid (by rw [List.getD_eq_getElem?_getD, List.getElem?_eq_getElem hlt]; rfl)
        have Hst : Hid (wrongFrom (L.drop k) k = if (L.getD k 0).toNat < 48 ∨ 57 < (L.getD k 0).toNat ∨ 60 ≤ k then (k : Int) else wrongFrom (L.drop (k + 1)) (k + 1)) := Lib.hid (by
          rw [List.drop_eq_getElem_cons hlt, wrongFrom, Hx.out])
        have Hv := Lib.hid (readV_take hlt)
        have hxb : (L.getD k 0).toNat < 256 := (L.getD k 0).toNat_lt
        have HD2 : Hid (48 ≤ (L.getD k 0).toNat → (L.getD k 0).toNat ≤ 57 → alldig (L.take (k + 1))) := Lib.hid (fun h1 h2 x hx => by
          rw [List.take_succ_eq_append_getElem hlt] at hx
          rcases List.mem_append.1 hx with h3 | h3
          · exact HD.out x h3
          · simp only [List.mem_singleton] at h3
            rw [h3, ← Hx.out]
            exact ⟨h1, h2⟩)
        clear Hx
        generalize (L.getD k 0).toNat = x at *
        obtain ⟨d, hd⟩ : ∃ d : Nat, ((x : Int) - 48) % 256 = (d : Int) := ⟨(((x : Int) - 48) % 256).toNat, by omega⟩
        have hdb : d < 256 := by omega
        by_cases hbad : x < 48 ∨ 57 < x ∨ 60 ≤ k
        · have Hfin : Hid (wrongI L = (k : Int)) := Lib.hid (by rw [HW.out, Hk.out, Hst.out, if_pos hbad])
          have hbd : k = 60 ∨ (k < 60 ∧ 10 ≤ d) := by omega
          clear hbad HD2 Hv
          rcases hbd with h60 | ⟨h60, hd10⟩
          · have h6 : ((k : Int) == 60) = true := by simp; omega
            clear h60
            go_wp2_with fail
            refine (digits_wrongAt (k : Int) _).mono ?_
            rintro e w1 ⟨rfl, b1⟩
            unfold faultV
            have hR := blk_later HR.out b1
            have hR0 := blk_cell hR 0
            have hR1 := blk_cell hR 1
            have hR2 := blk_cell hR 2
            have hR3 := blk_cell hR 3
            have hF0 := blk_free hR 0
            have hF1 := blk_free hR 1
            have hF2 := blk_free hR 2
            have hF3 := blk_free hR 3
            have HG4 := Lib.hid (blk_set4 hR (.int .i64 1) (.int .i64 0) (.int .i64 0) (.int .i64 (k : Int)))
            have HB4 := Lib.hid (below_set4 (below_then hB b1) (show w.heap.size ≤ w.heap.size from Nat.le_refl _) (.int .i64 1) (.int .i64 0) (.int .i64 0) (.int .i64 (k : Int)))
            simp only [List.getElem?_toArray, List.getElem?_cons_zero, List.getElem?_cons_succ] at hR0 hR1 hR2 hR3
            clear hR b1 hB HA
            go_wp2
            refine bodyPost_ret (results_tmp_cell Tryz.results107 _ _ w.heap.size 69 #[.int .i64 1, .int .i64 0, .int .i64 0, .int .i64 (k : Int)] (0, 0) _ rfl HG4.out Tryz.underlying69 rfl (by kernel_rfl)) rfl ?_
            exact .inr ⟨by rw [Hfin.out]; omega, none, 0, 0, by rw [Hfin.out]; rfl, Wd.ofNil _, HB4.out⟩
          · have h6 : ((k : Int) == 60) = false := by simp; omega
            have h7 : (10 : Int) ≤ (d : Int) := by omega
            rcases (show x < 48 ∨ 57 < x by omega) with hx | hx
            · clear h60 hd10
              go_wp2_with fail
              refine (digits_wrongAt (k : Int) _).mono ?_
              rintro e w1 ⟨rfl, b1⟩
              unfold faultV
              have hR := blk_later HR.out b1
              have hR0 := blk_cell hR 0
              have hR1 := blk_cell hR 1
              have hR2 := blk_cell hR 2
              have hR3 := blk_cell hR 3
              have hF0 := blk_free hR 0
              have hF1 := blk_free hR 1
              have hF2 := blk_free hR 2
              have hF3 := blk_free hR 3
              have HG4 := Lib.hid (blk_set4 hR (.int .i64 1) (.int .i64 0) (.int .i64 0) (.int .i64 (k : Int)))
              have HB4 := Lib.hid (below_set4 (below_then hB b1) (show w.heap.size ≤ w.heap.size from Nat.le_refl _) (.int .i64 1) (.int .i64 0) (.int .i64 0) (.int .i64 (k : Int)))
              simp only [List.getElem?_toArray, List.getElem?_cons_zero, List.getElem?_cons_succ] at hR0 hR1 hR2 hR3
              clear hR b1 hB HA
              go_wp2
              refine bodyPost_ret (results_tmp_cell Tryz.results107 _ _ w.heap.size 69 #[.int .i64 1, .int .i64 0, .int .i64 0, .int .i64 (k : Int)] (0, 0) _ rfl HG4.out Tryz.underlying69 rfl (by kernel_rfl)) rfl ?_
              exact .inr ⟨by rw [Hfin.out]; omega, none, 0, 0, by rw [Hfin.out]; rfl, Wd.ofNil _, HB4.out⟩
            · have hd2 : (x : Int) - 48 = (d : Int) := by omega
              clear h60 hd10 hd
              go_wp2_with fail
              refine (digits_wrongAt (k : Int) _).mono ?_
              rintro e w1 ⟨rfl, b1⟩
              unfold faultV
              have hR := blk_later HR.out b1
              have hR0 := blk_cell hR 0
              have hR1 := blk_cell hR 1
              have hR2 := blk_cell hR 2
              have hR3 := blk_cell hR 3
              have hF0 := blk_free hR 0
              have hF1 := blk_free hR 1
              have hF2 := blk_free hR 2
              have hF3 := blk_free hR 3
              have HG4 := Lib.hid (blk_set4 hR (.int .i64 1) (.int .i64 0) (.int .i64 0) (.int .i64 (k : Int)))
              have HB4 := Lib.hid (below_set4 (below_then hB b1) (show w.heap.size ≤ w.heap.size from Nat.le_refl _) (.int .i64 1) (.int .i64 0) (.int .i64 0) (.int .i64 (k : Int)))
              simp only [List.getElem?_toArray, List.getElem?_cons_zero, List.getElem?_cons_succ] at hR0 hR1 hR2 hR3
              clear hR b1 hB HA
              go_wp2
              refine bodyPost_ret (results_tmp_cell Tryz.results107 _ _ w.heap.size 69 #[.int .i64 1, .int .i64 0, .int .i64 0, .int .i64 (k : Int)] (0, 0) _ rfl HG4.out Tryz.underlying69 rfl (by kernel_rfl)) rfl ?_
              exact .inr ⟨by rw [Hfin.out]; omega, none, 0, 0, by rw [Hfin.out]; rfl, Wd.ofNil _, HB4.out⟩
        · have h1 : 48 ≤ x := by omega
          have h2 : x ≤ 57 := by omega
          have h3 : (k : Int) < 60 := by omega
          have hdd : d = x - 48 := by omega
          have h4 : (d : Int) < 10 := by omega
          have h5 : (x : Int) - 48 = (d : Int) := by omega
          have h6 : ((k : Int) == 60) = false := by simp; omega
          have hn7 : n ≤ 7 := by
            rw [← HA.out.len]
            apply dg_length_le
            have h7 := readV_lt HD.out
            have h8 : (10 : Nat) ^ (L.take k).length ≤ 10 ^ 60 := Nat.pow_le_pow_right (by decide) (by rw [List.length_take]; omega)
            have h9 : (10 : Nat) ^ 60 ≤ 4294967296 ^ 7 := by decide
            omega
          have Hnx : Hid (wrongFrom L 0 = wrongFrom (L.drop (k + 1)) (k + 1)) := Lib.hid (by rw [Hk.out, Hst.out, if_neg hbad])
          have HDn := Lib.hid (HD2.out h1 h2)
          have HVn : Hid (readV (L.take k) * 10 + d = readV (L.take (k + 1))) := Lib.hid (by rw [Hv.out, hdd])
          clear hbad HD2 Hv hdd Hst hd
          go_wp2_with fail
          refine (prod_word _ _ _ _ 10 d _ HA.out (by omega) (by omega) (by omega)).mono ?_
          rintro e w1 ⟨a1, n1, c1, rfl, h8, b1⟩
          rw [val_dg, HVn.out] at h8
          have HA2 := Lib.hid h8
          have HR2 := Lib.hid (blk_later HR.out b1)
          have hB2 := below_then hB b1
          clear h8 b1 hB HA HR
          go_wp2
          go_roundw
          case rel => exact ⟨k + 1, a1, n1, c1, by omega, by omega, by go_num, rfl, HDn, Hnx, HA2, HR2, hB2⟩
          case measure => simp [intOf]; omega
      · have htk : L.take k = L := List.take_of_length_le (by omega)
        have Hfin : Hid (wrongI L = -1) := Lib.hid (by rw [HW.out, Hk.out, List.drop_of_length_le (by omega)]; rfl)
        have hki : ¬ ((k : Int) < (L.length : Int)) := by omega
        rw [htk] at HA
        clear htk
        have hR := HR.out
        have hR0 := blk_cell hR 0
        have hR1 := blk_cell hR 1
        have hR2 := blk_cell hR 2
        have hR3 := blk_cell hR 3
        have hF0 := blk_free hR 0
        have hF1 := blk_free hR 1
        have hF2 := blk_free hR 2
        have hF3 := blk_free hR 3
        have HG4 := Lib.hid (blk_set4 hR (.int .i64 0) (.int .i64 0) (.int .i64 0) (.int .i64 0))
        have HB4 := Lib.hid (below_set4 hB (show w.heap.size ≤ w.heap.size from Nat.le_refl _) (.int .i64 0) (.int .i64 0) (.int .i64 0) (.int .i64 0))
        simp only [List.getElem?_toArray, List.getElem?_cons_zero, List.getElem?_cons_succ] at hR0 hR1 hR2 hR3
        have HS4 := Lib.hid (HA.out.stored4 hR 0 0 0 0)
        clear hR HA hB
        go_wp2
        refine bodyPost_ret (results_tmp_cell Tryz.results107 _ _ w.heap.size 69 #[.int .i64 0, .int .i64 0, .int .i64 0, .int .i64 0] (0, 0) _ rfl HG4.out Tryz.underlying69 rfl (by kernel_rfl)) rfl ?_
        exact .inl ⟨by rw [Hfin.out]; decide, a, n, c, rfl, HS4.out, HB4.out⟩
theorem digits_read_ok (l : List UInt8) (w : World) (hl : l.length ≤ 1000) (hw : Hid (wrongI l < 0)) : Calls Tryz.prog 107 #[.string (bs l)] w (Lst2 (dg (readV l)) (faultV 0 0 0 0) w) :=
  (digits_read l w hl).mono fun _ _ h => h.elim (fun h => h.2) fun h => absurd hw.out (by have := h.1; omega)
theorem digits_read_no (l : List UInt8) (w : World) (hl : l.length ≤ 1000) (hw : Hid (0 ≤ wrongI l)) : Calls Tryz.prog 107 #[.string (bs l)] w (Lst2 [] (faultV 1 0 0 (wrongI l)) w) :=
  (digits_read l w hl).mono fun _ _ h => h.elim (fun h => absurd hw.out (by have := h.1; omega)) fun h => h.2
end Go.Proofs.YtjeigdlhjghinaaGreatDoor
