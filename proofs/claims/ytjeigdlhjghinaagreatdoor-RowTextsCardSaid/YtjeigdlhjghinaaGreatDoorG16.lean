/-
  Several texts of this claim as one, group 16.
-/
import Derived.Test.YtjeigdlhjghinaaGreatDoorG15
import Derived.Test.YtjeigdlhjghinaaGreatDoorG1
import Derived.Shelf.Strings.IndexAnyAll
import Derived.Lib.OthersKept
import Derived.WalkMore
import Derived.Test.YtjeigdlhjghinaaGreatDoorG13
import Derived.Test.YtjeigdlhjghinaaGreatDoorG9
import Derived.Deep.RegionHeld3
import Derived.Deep.CutRange
/-
  What strings.IndexAny tells of any bytes, a / and a point looked for: the library's own text, walked; for more than 8 bytes out of the shelf's contracts.
-/
namespace Go.Proofs.YtjeigdlhjghinaaGreatDoor
open Go.RowKit

theorem any_list (l : List UInt8) : Lib.indexAny l [47, 46] = cutI l := by
  induction l with
  | nil => rfl
  | cons x r ih =>
    have h0 := cutAt_le r
    have hc : ([47, 46] : List UInt8).contains x = decide (x.toNat = 47 ∨ x.toNat = 46) := by
      rw [List.contains_cons, List.contains_cons, List.contains_nil, Bool.or_false]
      by_cases h1 : x = 47
      · subst h1; rfl
      · by_cases h2 : x = 46
        · subst h2; rfl
        · rw [beq_eq_false_iff_ne.2 h1, beq_eq_false_iff_ne.2 h2]
          symm
          rw [decide_eq_false]
          · rfl
          · rintro (h | h)
            · exact h1 (UInt8.toNat_inj.1 h)
            · exact h2 (UInt8.toNat_inj.1 h)
    rw [Lib.indexAny, hc, ih]
    unfold cutI
    rw [cutAt]
    by_cases h : x.toNat = 47 ∨ x.toNat = 46
    · rw [decide_eq_true h, if_pos rfl, if_pos h, List.length_cons, if_pos (by omega)]; rfl
    · rw [decide_eq_false h, if_neg (by decide), if_neg h, List.length_cons]
      by_cases hr : cutAt r < r.length
      · rw [if_pos hr, if_pos (show cutAt r + 1 < r.length + 1 by omega), if_neg (by intro e; have := beq_iff_eq.1 e; omega)]; omega
      · rw [if_neg hr, if_neg (show ¬ cutAt r + 1 < r.length + 1 by omega)]; rfl
def any_lays_ren : Go.Shelf.Ren := ⟨fun | 119 => 172 | 137 => 171 | 152 => 144 | 153 => 104 | 217 => 189 | 224 => 173 | 225 => 174 | 226 => 145 | 227 => 146 | 228 => 147 | 266 => 201 | n => n, fun | 0 => 0 | 3 => 3 | 4 => 4 | 5 => 5 | 9 => 9 | 21 => 21 | 46 => 164 | 116 => 174 | 117 => 175 | 124 => 199 | n => n, fun | n => n⟩
theorem any_lays : Go.Proofs.Lays.n153 Tryz.prog any_lays_ren := {
  mixed := by kernel_rfl
  f119 := Tryz.func172.trans (congrArg some (by kernel_rfl))
  f137 := Tryz.func171.trans (congrArg some (by kernel_rfl))
  f152 := Tryz.func144.trans (congrArg some (by kernel_rfl))
  f153 := Tryz.func104.trans (congrArg some (by kernel_rfl))
  f217 := Tryz.func189.trans (congrArg some (by kernel_rfl))
  f224 := Tryz.func173.trans (congrArg some (by kernel_rfl))
  f225 := Tryz.func174.trans (congrArg some (by kernel_rfl))
  f226 := Tryz.func145.trans (congrArg some (by kernel_rfl))
  f227 := Tryz.func146.trans (congrArg some (by kernel_rfl))
  f228 := Tryz.func147.trans (congrArg some (by kernel_rfl))
  f266 := Tryz.func201.trans (congrArg some (by kernel_rfl))
  t0 := Tryz.underlying0
  a0 := Tryz.isAgg0
  z0 := Tryz.sizeOf0
  v0 := Tryz.zeroValue0
  t3 := Tryz.underlying3
  a3 := Tryz.isAgg3
  z3 := Tryz.sizeOf3
  v3 := Tryz.zeroValue3
  t4 := Tryz.underlying4
  a4 := Tryz.isAgg4
  z4 := Tryz.sizeOf4
  v4 := Tryz.zeroValue4
  t5 := Tryz.underlying5
  a5 := Tryz.isAgg5
  z5 := Tryz.sizeOf5
  v5 := Tryz.zeroValue5
  t9 := Tryz.underlying9
  a9 := Tryz.isAgg9
  z9 := Tryz.sizeOf9
  v9 := Tryz.zeroValue9
  t21 := Tryz.underlying21
  a21 := Tryz.isAgg21
  z21 := Tryz.sizeOf21
  v21 := Tryz.zeroValue21
  t46 := Tryz.underlying164
  a46 := Tryz.isAgg164
  z46 := Tryz.sizeOf164
  v46 := Tryz.zeroValue164
  t116 := Tryz.underlying174
  a116 := Tryz.isAgg174
  z116 := Tryz.sizeOf174
  t117 := Tryz.underlying175
  a117 := Tryz.isAgg175
  z117 := Tryz.sizeOf175
  v117 := Tryz.zeroValue175
  t124 := Tryz.underlying199
  a124 := Tryz.isAgg199
  z124 := Tryz.sizeOf199
  v124 := Tryz.zeroValue199 }
theorem any_IndexAny_long (l : List UInt8) (w : World) (hl : l.length ≤ 1000) (h8 : 8 < l.length) :
    Calls Tryz.prog 104 #[.string (bs l), .string (bs [47, 46])] w (Gives (.int .i64 (cutI l)) w) := by
  have h116 : (Tryz.prog.info? (any_lays_ren.t 116)).map (fun i => (i.zero, i.size)) = some (some (.agg (Array.replicate 256 (.bool false))), 256) := by kernel_rfl
  have h := Any.strings_IndexAny_long any_lays (zero_of_info h116).1 (zero_of_info h116).2 (bs l) (bs [47, 46]) w (by decide) (by rw [bs_size]; exact h8) (by rw [bs_size]; omega) (by decide) (by
    intro j b hb
    have hm : b ∈ [47, 46] := List.mem_of_getElem? hb
    rcases List.mem_cons.1 hm with rfl | hm
    · decide
    · rw [List.mem_singleton.1 hm]; decide)
  refine h.mono fun e w' ⟨he, hw⟩ => ⟨?_, ?_⟩
  · rw [he, ← any_list]; rfl
  · rw [hw]; exact below_then (below_alloc _ _) (below_alloc _ _)
theorem decode_valid (s : ByteArray) (pos : Nat) : Utf8.valid (Utf8.decode s pos).1 = true := by
  have hb : ∀ k, (s.get! (pos + k)).toNat < 256 := fun k => (s.get! (pos + k)).toNat_lt
  have h0 := hb 0; have h1 := hb 1
  simp only [Utf8.decode]
  split
  · rename_i hc
    simp only [Nat.add_zero] at hc
    simp [Utf8.valid]; omega
  · split
    · split
      · simp [Utf8.valid]; omega
      · decide
    · split
      · split
        · rename_i hc
          simp only [Bool.and_eq_true] at hc
          exact hc.2
        · decide
      · split
        · split
          · rename_i hc
            simp only [Bool.and_eq_true] at hc
            exact hc.2
          · decide
        · decide
set_option maxRecDepth 4096 in
theorem any_ValidRune (r : Int) (w : World) (h0 : 0 ≤ r) (h : Utf8.valid r = true) : Calls Tryz.prog 172 #[.int .i32 r] w (fun e w' => e = .returned (.bool true) ∧ w' = w) := by
  have hv : r < 55296 ∨ (57343 < r ∧ r ≤ 1114111) := by
    rw [validRune_eq] at h
    have := of_decide_eq_true h
    omega
  clear h
  by_cases h1 : r < 55296
  · go_enter Tryz.func172, Tryz.ntmps172
    go_wp2
    go_ret
    exact ⟨rfl, rfl⟩
  · have h2 : 57343 < r := by omega
    have h3 : r ≤ 1114111 := by omega
    clear hv
    go_enter Tryz.func172, Tryz.ntmps172
    go_wp2
    go_ret
    exact ⟨rfl, rfl⟩
set_option maxRecDepth 4096 in
set_option maxHeartbeats 2000000 in
theorem any_IndexRune_error (w : World) : Calls Tryz.prog 144 #[.string (bs [47, 46]), .int .i32 65533] w (fun e w' => e = .returned (.int .i64 (-1)) ∧ Below w.heap.size w w') := by
  have hs := bs_size [47, 46]
  simp only [List.length_cons, List.length_nil] at hs
  go_enter Tryz.func144, Tryz.ntmps144
  go_wp2
  go_loopg [5, 6] 2 (fun g _ _ wx => ∃ i : Nat, i + g = 2 ∧ wx = w.iter (bs [47, 46]) i)
  case atStart => exact ⟨0, by omega, rfl⟩
  case round =>
    obtain ⟨i, hig, rfl⟩ := hrel
    by_cases h2 : i = 2
    · subst h2
      have hnx := fun ty => run_next_end (P := Tryz.prog) w (bs [47, 46]) 2 ty (by rw [hs]; omega)
      go_wp2
      go_ret
      exact ⟨rfl, below_alloc _ _⟩
    · obtain ⟨x, hx⟩ : ∃ x : Nat, ((bs [47, 46])[i]'(by rw [hs]; omega)).toNat = x := ⟨_, rfl⟩
      have hx2 : x < 128 := by
        rw [← hx, bs_get [47, 46] i (by simp; omega)]
        rcases (show i = 0 ∨ i = 1 by omega) with rfl | rfl <;> decide
      have hnx := fun ty => run_next_ascii (P := Tryz.prog) w (bs [47, 46]) i ty (by rw [hs]; omega) (by rw [hx]; exact hx2)
      rw [hx] at hnx
      have hne : ((x : Int) == 65533) = false := by simp; omega
      clear hx
      go_wp2
      go_roundg (gk - 1)
      case measure => omega
      case rel => exact ⟨i + 1, by omega, rfl⟩
end Go.Proofs.YtjeigdlhjghinaaGreatDoor

/-
  What strings.IndexAny tells of any bytes, a / and a point looked for: letters that aren't plain.
-/
namespace Go.Proofs.YtjeigdlhjghinaaGreatDoor
open Go.RowKit

theorem any_IndexByte_none (x : UInt8) (w : World) : Calls Tryz.prog 171 #[.string (bs []), .int .u8 (x.toNat : Int)] w (fun e w' => e = .returned (.int .i64 (-1)) ∧ w = w') :=
  (Any.strings_IndexByte { any_lays with } (bs []) x.toNat w).mono fun _ _ h => ⟨h.1, h.2.symm⟩
set_option maxRecDepth 4096 in
set_option maxHeartbeats 4000000 in
theorem any_IndexRune_other (r : Int) (w : World) (hv : Utf8.valid r = true) (h1 : 128 ≤ r) (h2 : r ≠ 65533) : Calls Tryz.prog 144 #[.string (bs [47, 46]), .int .i32 r] w (fun e w' => e = .returned (.int .i64 (-1)) ∧ Below w.heap.size w w') := by
  have hs := bs_size [47, 46]
  simp only [List.length_cons, List.length_nil] at hs
  obtain ⟨e2, e4, el⟩ := encode_facts r hv h1
  obtain ⟨R, hR⟩ : ∃ R, Utf8.encode r = R := ⟨_, rfl⟩
  rw [hR] at e2 e4
  simp only [hR] at el
  obtain ⟨k, hk⟩ : ∃ k, R.size = k + 1 := ⟨R.size - 1, by omega⟩
  obtain ⟨x, hx⟩ : ∃ x : UInt8, R[k]'(by omega) = x := ⟨_, rfl⟩
  have hx1 : 128 ≤ x.toNat := by
    have h := el (by omega)
    have e : R[R.size - 1]'(by omega) = x := by rw [← hx]; congr 1; omega
    rw [e] at h; exact h
  have hk1 : ((k + 1 : Nat) : Int) - 1 = (k : Int) := by omega
  have HV := Lib.hid hv
  have hne : (r == 65533) = false := by simp [h2]
  have hr0 : (0 : Int) ≤ r := by omega
  have hr1 : ¬ r < 128 := by omega
  have h46 : ∀ h', ((bs [47, 46])[1]'h').toNat = 46 := fun _ => rfl
  have he : (bs [47, 46]).extract 2 2 = bs [] := by decide
  have hx46 : ((46 : Int) != (x.toNat : Int)) = true := by simp; omega
  have hu32 : (Tryz.prog.underlying 21).isSome = true := by rw [Tryz.underlying21]; rfl
  clear el h2 hv
  go_enter Tryz.func144, Tryz.ntmps144
  go_wp2_with fail
  refine (any_ValidRune r _ hr0 HV.out).mono ?_
  rintro e w' ⟨rfl, rfl⟩
  go_wp2
  go_step3
  go_wp2
  go_loopg [9] 0 (fun g s9 wx => s9 = .int .i64 (k : Int) ∧ wx = w')
  case atStart => exact ⟨rfl, rfl⟩
  case round =>
    obtain ⟨rfl, rfl⟩ := hrel
    by_cases h : k = 1
    · have hgk : ∀ h', ((bs [47, 46])[k]'h').toNat = 46 := by subst h; exact fun _ => rfl
      have hk3 : (k : Int) + 1 = 2 := by omega
      have hkl : (k : Int) < 2 := by omega
      have hkn : k < 2 := by omega
      have hkr : (k : Int) < (k : Int) + 1 := by omega
      have hk0 : (0 : Int) ≤ (k : Int) := by omega
      have hw2 : IntKind.i64.wrap 2 = 2 := by decide
      clear h h46 hk1
      go_wp2
      go_step3
      go_wp2
      go_quiet (fail)
      go_wp2
      go_quiet ((go_at_call 171; exact quiet_here (any_IndexByte_none x _) ⟨_, rfl⟩))
      go_wp2
      change bodyPost Tryz.prog Tryz.f144 (fun e w' => e = .returned (.int .i64 (-1)) ∧ Below wr.heap.size wr w') Exit.ret _ _
      go_ret
      exact ⟨rfl, below_draws _ _⟩
    · have hk2 : ¬ (k : Int) < 2 := by omega
      go_wp2
      go_ret
      exact ⟨rfl, Below.refl _ _⟩
end Go.Proofs.YtjeigdlhjghinaaGreatDoor

/-
  What strings.IndexAny tells of any bytes, a / and a point looked for.
-/
namespace Go.Proofs.YtjeigdlhjghinaaGreatDoor
open Go.RowKit

theorem decode_small {l : List UInt8} {k c : Nat} (hl : k < l.length) (hc : (Utf8.decode (bs l) k).1 = c) (h : c < 128) : (l.getD k 0).toNat = c := by
  have h' : k < (bs l).size := by rw [bs_size]; exact hl
  have hget := bs_get l k hl h'
  by_cases ha : ((bs l)[k]'h').toNat < 128
  · rw [decode_ascii (bs l) k h' ha] at hc
    rw [← hget]; exact hc
  · have := (decode_high (bs l) k h' (by omega)).1
    omega
theorem cutAt_over {l : List UInt8} {k c : Nat} (hk : k ≤ cutAt l) (hl : k < l.length) (hc : (Utf8.decode (bs l) k).1 = c) (hn : ¬ (c = 47 ∨ c = 46)) : k + (Utf8.decode (bs l) k).2 ≤ cutAt l := by
  by_cases hx : 128 ≤ (l.getD k 0).toNat
  · exact cutAt_letter hk hl hx
  · refine cutAt_plain hk hl (by omega) ?_
    have h' : k < (bs l).size := by rw [bs_size]; exact hl
    have hget := bs_get l k hl h'
    rw [decode_ascii (bs l) k h' (by omega)] at hc
    rw [← hget, show ((bs l)[k]'h').toNat = c from hc]
    exact hn
theorem any_IndexRune (c : Nat) (w : World) (hv : Utf8.valid (c : Int) = true) : Calls Tryz.prog 144 #[.string (bs [47, 46]), .int .i32 (c : Int)] w (fun e w' => ∃ v : Int, e = .returned (.int .i64 v) ∧ (0 ≤ v ↔ (c = 47 ∨ c = 46)) ∧ Below w.heap.size w w') := by
  by_cases h : c < 128
  · refine (Any.strings_IndexRune_ascii { any_lays with } (bs [47, 46]) (c : Int) w (by omega) (by omega)).mono fun e w' ⟨he, hw⟩ => ⟨_, he, ?_, by rw [hw]; exact Below.refl _ _⟩
    have h1 := Lib.contains_iff_indexByte (bs [47, 46]).data.toList (c : Int).toNat.toUInt8
    have h2 : (bs [47, 46]).data.toList.contains (c : Int).toNat.toUInt8 = decide (c = 47 ∨ c = 46) := by
      have key : ∀ i : Fin 128, (bs [47, 46]).data.toList.contains ((i.val : Int).toNat.toUInt8) = decide (i.val = 47 ∨ i.val = 46) := by decide
      exact key ⟨c, h⟩
    rw [h2] at h1
    have h3 := decide_eq_decide.1 h1
    exact h3.symm
  · by_cases h2 : c = 65533
    · subst h2
      exact (any_IndexRune_error w).mono fun e w' ⟨he, hb⟩ => ⟨-1, he, by decide, hb⟩
    · exact (any_IndexRune_other (c : Int) w hv (by omega) (by omega)).mono fun e w' ⟨he, hb⟩ => ⟨-1, he, by omega, hb⟩
set_option maxRecDepth 1000000 in
set_option maxHeartbeats 2000000 in
theorem any_IndexAny_short (l : List UInt8) (w : World) (hl : l.length ≤ 8) : Calls Tryz.prog 104 #[.string (bs l), .string (bs [47, 46])] w (Gives (.int .i64 (cutI l)) w) := by
  have hs := bs_size l
  have hc2 := bs_size [47, 46]
  simp only [List.length_cons, List.length_nil] at hc2
  have hcl := cutAt_le l
  have hem : (bs [47, 46]).toList.isEmpty = false := by rw [bs_list]; rfl
  have h8z : decide ((8 : Int) < (l.length : Int)) = false := decide_eq_false (by omega)
  have hit := World.iter_heap w (bs l) 0
  have HI0 := Lib.hid hit
  clear hit
  go_enter Tryz.func104, Tryz.ntmps104
  go_wp2_with fail
  refine (show Calls Tryz.prog 145 #[.int .i64 (l.length : Int)] w _ from Any.strings_shouldUseASCIISet { any_lays with } (l.length : Int) w).mono ?_
  rintro e w' ⟨rfl, rfl⟩
  rw [h8z]
  go_wp2
  go_loopg [9, 10] l.length (fun g _ _ wr => ∃ k : Nat, k ≤ cutAt l ∧ k + g = l.length ∧ Hid (wr.heap[w'.heap.size]? = some (.stringIter (bs l) k)) ∧ Hid (Below w'.heap.size w' wr))
  case atStart => exact ⟨0, by omega, by omega, HI0, Lib.hid (below_alloc _ _)⟩
  case round =>
    clear HI0
    obtain ⟨k, hk, hkg, HI, HB⟩ := hrel
    by_cases hlt : k < l.length
    · obtain ⟨c, hc⟩ : ∃ c : Nat, (Utf8.decode (bs l) k).1 = c := ⟨_, rfl⟩
      obtain ⟨j, hj⟩ : ∃ j : Nat, k + (Utf8.decode (bs l) k).2 = j := ⟨_, rfl⟩
      have hnx := fun ty => Lib.run_next_any_at (P := Tryz.prog) wr w'.heap.size (bs l) k ty HI.out (by rw [hs]; exact hlt)
      rw [hc, hj] at hnx
      have HV := Lib.hid (decode_valid (bs l) k)
      rw [hc] at HV
      have hjk := decode_pos hlt
      have HI2 := Lib.hid (Lib.iterAt_heap wr w'.heap.size (bs l) k j HI.out)
      have HB2 := Lib.hid (Lib.below_iterAt HB.out (Nat.le_refl _) (bs l) j)
      have HC := Lib.hid hc
      have HJ := Lib.hid hj
      have hkj : k < j := by omega
      clear HI HB hc hj hjk
      go_wp2_with fail
      refine (any_IndexRune c _ HV.out).mono ?_
      rintro e w2 ⟨v, rfl, hv2, b⟩
      have HI3 := Lib.hid (blk_later HI2.out b)
      have HB3 := Lib.hid (below_then HB2.out b)
      have HV2 := Lib.hid hv2
      clear b hv2 HI2 HB2 hnx
      by_cases hcc : c = 47 ∨ c = 46
      · have hv3 : 0 ≤ v := HV2.out.2 hcc
        have HK : Hid (cutI l = (k : Int)) := Lib.hid (by
          have h1 := decode_small hlt HC.out (by omega)
          have h2 := cutAt_here hk hlt (by omega)
          rw [cutI_here (by omega), h2])
        clear hcc
        go_wp2
        go_ret
        exact ⟨by rw [HK.out]; rfl, HB3.out⟩
      · have hv3 : ¬ 0 ≤ v := fun h => hcc (HV2.out.1 h)
        have hjc : j ≤ cutAt l := by rw [← HJ.out]; exact cutAt_over hk hlt HC.out hcc
        clear hcc
        go_wp2
        go_roundg (l.length - j)
        case measure => omega
        case rel => exact ⟨j, hjc, by omega, HI3, HB3⟩
    · obtain rfl : k = l.length := by omega
      have hnx := fun ty => Lib.run_next_end_at (P := Tryz.prog) wr w'.heap.size (bs l) l.length ty HI.out (by rw [hs]; omega)
      have HK : Hid (cutI l = -1) := Lib.hid (cutI_none (by omega))
      go_wp2
      go_ret
      exact ⟨by rw [HK.out]; rfl, HB.out⟩
theorem any_IndexAny (l : List UInt8) (w : World) (hl : l.length ≤ 1000) : Calls Tryz.prog 104 #[.string (bs l), .string (bs [47, 46])] w (Gives (.int .i64 (cutI l)) w) := by
  by_cases h : l.length ≤ 8
  · exact any_IndexAny_short l w h
  · exact any_IndexAny_long l w hl (by omega)
end Go.Proofs.YtjeigdlhjghinaaGreatDoor

/-
  Package figure at this seat: Read, way by way.
-/
namespace Go.Proofs.YtjeigdlhjghinaaGreatDoor
open Go.RowKit

theorem new_behind {w : World} {g : Nat} (x : Array Value) (t : TypeId) (h : w.heap.size = g) : (w.alloc (.cells x t)).heap[g]? = some (.cells x t (0, 0)) := by
  subst h
  exact blk_new w x t
theorem blk_set3_at {w : World} {g : Nat} {a b c d : Value} {t : TypeId} (h : w.heap[g]? = some (.cells #[a, b, c, d] t (0, 0))) (v : Value) : (w.setCell ⟨g, 3, none⟩ v).heap[g]? = some (.cells #[a, b, c, v] t (0, 0)) := by simpa using blk_set h 3 v
set_option maxRecDepth 4096 in
set_option maxHeartbeats 4000000 in
theorem figure_read_plain (l : List UInt8) (w : World) (hl : l.length ≤ 1000) (hc : cutAt l = l.length) (z kd pl : Int) (hR : ∀ w' : World, Calls Tryz.prog 106 #[.string (bs l)] w' (LstZV z (faultV kd 0 0 pl) w')) : Calls Tryz.prog 72 #[.string (bs l)] w (LstQV (z : Rat) (faultV kd 0 0 pl) w) := by
  obtain ⟨hx1, hx2⟩ := boxes_at w ((w.alloc (.cells #[.bool false, .slice none 0 0, .slice none 0 0] 41)).alloc (.cells #[.int .i64 0, .int .i64 0, .int .i64 0, .int .i64 0] 69)) #[.bool false, .slice none 0 0, .slice none 0 0] #[.int .i64 0, .int .i64 0, .int .i64 0, .int .i64 0] 41 69 (Below.refl _ _)
  have HR := Lib.hid hx1
  have HF := Lib.hid hx2
  have HB : Hid (Below w.heap.size w ((w.alloc (.cells #[.bool false, .slice none 0 0, .slice none 0 0] 41)).alloc (.cells #[.int .i64 0, .int .i64 0, .int .i64 0, .int .i64 0] 69))) := Lib.hid (below_then (below_alloc _ _) (below_alloc _ _))
  clear hx1 hx2
  have HI : Hid (cutI l = -1) := Lib.hid (cutI_none hc)
  have HRW : ∀ w' : World, Calls Tryz.prog 105 #[.string (bs l)] w' (LstQV (z : Rat) (faultV kd 0 0 pl) w') := fun w' => figure_readWhole l z kd pl w' hR
  generalize (z : Rat) = q at *
  clear hc hR
  unfold faultV at HRW ⊢
  go_enter Tryz.func72, Tryz.ntmps72
  obtain ⟨vk0, vk1, vk2, vk3, vk4, vk5, vk6⟩ := fcells_3_4 HR.out HF.out
  go_wp2_with fail
  refine (any_IndexAny l _ hl).mono ?_
  rintro e wv1 ⟨rfl, b⟩
  clear vk0 vk1 vk2 vk3 vk4 vk5 vk6
  replace HB := Lib.hid (below_then HB.out b)
  replace HR := Lib.hid (blk_later HR.out b)
  replace HF := Lib.hid (blk_later HF.out b)
  clear b
  rw [HI.out]
  obtain ⟨vk0, vk1, vk2, vk3, vk4, vk5, vk6⟩ := fcells_3_4 HR.out HF.out
  go_wp2_with fail
  refine (HRW _).mono ?_
  rintro e wv2 ⟨a1, n1, c1, b1, m1, d1, rfl, h1, g1, b⟩
  clear vk0 vk1 vk2 vk3 vk4 vk5 vk6
  replace HB := Lib.hid (below_then HB.out b)
  replace HR := Lib.hid (blk_later HR.out b)
  replace HF := Lib.hid (blk_later HF.out b)
  clear b
  have R1 := Lib.hid h1
  have T1 := Lib.hid g1
  clear h1 g1
  unfold frV
  obtain ⟨r0, r1, r2⟩ := fcells_3 HR.out
  obtain ⟨s0, s1, s2, s3⟩ := fcells_4 HF.out
  have fr0 := blk_free HR.out 0
  have fr1 := blk_free HR.out 1
  have fr2 := blk_free HR.out 2
  have fs0 := blk_free HF.out 0
  have fs1 := blk_free HF.out 1
  have fs2 := blk_free HF.out 2
  have fs3 := blk_free HF.out 3
  have HN2 := Lib.hid (blk_far3 HF.out (show w.heap.size + 1 ≠ w.heap.size by omega) (.bool (zneg q.num)) (.slice a1 n1 c1) (.slice b1 m1 d1))
  have HG1 := Lib.hid (blk_apart4 (blk_set3 HR.out (.bool (zneg q.num)) (.slice a1 n1 c1) (.slice b1 m1 d1)) (show w.heap.size ≠ w.heap.size + 1 by omega) (.int .i64 kd) (.int .i64 0) (.int .i64 0) (.int .i64 pl))
  have HG2 := Lib.hid (blk_set4 HN2.out (.int .i64 kd) (.int .i64 0) (.int .i64 0) (.int .i64 pl))
  have HBz := Lib.hid (below_set4 (below_set3 HB.out (show w.heap.size ≤ w.heap.size from Nat.le_refl _) (.bool (zneg q.num)) (.slice a1 n1 c1) (.slice b1 m1 d1)) (show w.heap.size ≤ w.heap.size + 1 by omega) (.int .i64 kd) (.int .i64 0) (.int .i64 0) (.int .i64 pl))
  have HL1 := Lib.hid ((R1.out.stored3 HR.out (zneg q.num) a1 n1 c1 (.slice b1 m1 d1)).stored4 HN2.out kd 0 0 pl)
  have HL2 := Lib.hid ((T1.out.stored3 HR.out (zneg q.num) a1 n1 c1 (.slice b1 m1 d1)).stored4 HN2.out kd 0 0 pl)
  go_wp2
  refine bodyPost_ret (results_rows2 Tryz.results72 _ _ w.heap.size (w.heap.size + 1) 41 69 #[.bool (zneg q.num), .slice a1 n1 c1, .slice b1 m1 d1] #[.int .i64 kd, .int .i64 0, .int .i64 0, .int .i64 pl] (0, 0) (0, 0) _ _ rfl HG1.out Tryz.underlying41 rfl (by kernel_rfl) rfl HG2.out Tryz.underlying69 rfl (by kernel_rfl)) rfl ?_
  exact ⟨a1, n1, c1, b1, m1, d1, rfl, HL1.out, HL2.out, HBz.out⟩
set_option maxRecDepth 4096 in
set_option maxHeartbeats 4000000 in
theorem figure_read_head (l : List UInt8) (w : World) (hl : l.length ≤ 1000) (k j : Nat) (x : UInt8) (hc : cutAt l = k) (hlt : k < l.length) (hj : k + 1 = j) (hx : l.getD k 0 = x) (z p : Int) (hR : ∀ w' : World, Calls Tryz.prog 106 #[.string (bs (l.take k))] w' (LstZV z (faultV 1 0 0 p) w')) : Calls Tryz.prog 72 #[.string (bs l)] w (LstQV ((0 : Int) : Rat) (faultV 1 0 0 p) w) := by
  obtain ⟨hx1, hx2⟩ := boxes_at w ((w.alloc (.cells #[.bool false, .slice none 0 0, .slice none 0 0] 41)).alloc (.cells #[.int .i64 0, .int .i64 0, .int .i64 0, .int .i64 0] 69)) #[.bool false, .slice none 0 0, .slice none 0 0] #[.int .i64 0, .int .i64 0, .int .i64 0, .int .i64 0] 41 69 (Below.refl _ _)
  have HR := Lib.hid hx1
  have HF := Lib.hid hx2
  have HB : Hid (Below w.heap.size w ((w.alloc (.cells #[.bool false, .slice none 0 0, .slice none 0 0] 41)).alloc (.cells #[.int .i64 0, .int .i64 0, .int .i64 0, .int .i64 0] 69))) := Lib.hid (below_then (below_alloc _ _) (below_alloc _ _))
  clear hx1 hx2
  have HI : Hid (cutI l = (k : Int)) := Lib.hid (by rw [cutI_here (by omega), hc])
  have hs0 := bs_size l
  have e1 := bs_take l k
  have e2 := bs_drop l j
  have e3 := bs_mid hlt hx
  rw [hj] at e3
  have hl1 : (l.take k).length ≤ 1000 := by rw [List.length_take]; omega
  have hl2 : (l.drop j).length ≤ 1000 := by rw [List.length_drop]; omega
  have hk0 : ¬ (k : Int) < 0 := by omega
  have hkj : (k : Int) + 1 = (j : Int) := by omega
  have hkl : (k : Int) ≤ (l.length : Int) := by omega
  have hjl : (j : Int) ≤ (l.length : Int) := by omega
  have hkj2 : (k : Int) ≤ (j : Int) := by omega
  clear hc hlt hx
  have HO : ∀ w' : World, Calls Tryz.prog 46 #[.int .i64 0] w' (LstQ ((0 : Int) : Rat) w') := fun w' => frac_of 0 w' isInt_nought
  generalize ((0 : Int) : Rat) = q at *
  unfold faultV at hR ⊢
  go_enter Tryz.func72, Tryz.ntmps72
  obtain ⟨vk0, vk1, vk2, vk3, vk4, vk5, vk6⟩ := fcells_3_4 HR.out HF.out
  go_wp2_with fail
  refine (any_IndexAny l _ hl).mono ?_
  rintro e wv1 ⟨rfl, b⟩
  clear vk0 vk1 vk2 vk3 vk4 vk5 vk6
  replace HB := Lib.hid (below_then HB.out b)
  replace HR := Lib.hid (blk_later HR.out b)
  replace HF := Lib.hid (blk_later HF.out b)
  clear b
  rw [HI.out]
  obtain ⟨vk0, vk1, vk2, vk3, vk4, vk5, vk6⟩ := fcells_3_4 HR.out HF.out
  go_wp2_with fail
  refine (hR _).mono ?_
  rintro e wv2 ⟨a1, n1, c1, rfl, h1, b⟩
  clear vk0 vk1 vk2 vk3 vk4 vk5 vk6
  replace HB := Lib.hid (below_then HB.out b)
  replace HR := Lib.hid (blk_later HR.out b)
  replace HF := Lib.hid (blk_later HF.out b)
  clear b
  clear h1
  unfold whV
  have hlt := blk_lt HF.out
  have HN : Hid ((World.alloc wv2 (.cells #[.bool (zneg z), .slice a1 n1 c1] 39)).heap[wv2.heap.size]? = some (.cells #[.bool (zneg z), .slice a1 n1 c1] 39 (0, 0))) := Lib.hid (blk_new wv2 _ _)
  replace HB := Lib.hid (below_then HB.out (below_alloc wv2 (.cells #[.bool (zneg z), .slice a1 n1 c1] 39)))
  replace HR := Lib.hid (blk_later HR.out (below_alloc wv2 (.cells #[.bool (zneg z), .slice a1 n1 c1] 39)))
  replace HF := Lib.hid (blk_later HF.out (below_alloc wv2 (.cells #[.bool (zneg z), .slice a1 n1 c1] 39)))
  have HG : Hid ((World.alloc (wv2.alloc (.cells #[.bool (zneg z), .slice a1 n1 c1] 39)) (.cells #[.int .i64 1, .int .i64 0, .int .i64 0, .int .i64 p] 69)).heap[wv2.heap.size + 1]? = some (.cells #[.int .i64 1, .int .i64 0, .int .i64 0, .int .i64 p] 69 (0, 0))) := Lib.hid (by have h := blk_new (wv2.alloc (.cells #[.bool (zneg z), .slice a1 n1 c1] 39)) #[.int .i64 1, .int .i64 0, .int .i64 0, .int .i64 p] 69; rw [blk_size] at h; exact h)
  replace HB := Lib.hid (below_then HB.out (below_alloc (wv2.alloc (.cells #[.bool (zneg z), .slice a1 n1 c1] 39)) (.cells #[.int .i64 1, .int .i64 0, .int .i64 0, .int .i64 p] 69)))
  replace HR := Lib.hid (blk_later HR.out (below_alloc (wv2.alloc (.cells #[.bool (zneg z), .slice a1 n1 c1] 39)) (.cells #[.int .i64 1, .int .i64 0, .int .i64 0, .int .i64 p] 69)))
  replace HF := Lib.hid (blk_later HF.out (below_alloc (wv2.alloc (.cells #[.bool (zneg z), .slice a1 n1 c1] 39)) (.cells #[.int .i64 1, .int .i64 0, .int .i64 0, .int .i64 p] 69)))
  replace HN := Lib.hid (blk_later HN.out (below_alloc (wv2.alloc (.cells #[.bool (zneg z), .slice a1 n1 c1] 39)) (.cells #[.int .i64 1, .int .i64 0, .int .i64 0, .int .i64 p] 69)))
  obtain ⟨vk0, vk1, vk2, vk3, vk4, vk5, vk6, vk7, vk8, vk9, vk10⟩ := fcells_3_4_4 HR.out HF.out HG.out
  go_wp2
  clear vk0 vk1 vk2 vk3 vk4 vk5 vk6 vk7 vk8 vk9 vk10
  generalize ((wv2.alloc (.cells #[.bool (zneg z), .slice a1 n1 c1] 39)).alloc (.cells #[.int .i64 1, .int .i64 0, .int .i64 0, .int .i64 p] 69)) = W at *
  replace HB := Lib.hid (below_then HB.out ((Below.refl _ _).drew : Below W.heap.size W W.drew))
  replace HG : Hid (W.drew.heap[wv2.heap.size + 1]? = _) := Lib.hid HG.out
  replace HR : Hid (W.drew.heap[w.heap.size]? = some (.cells #[.bool false, .slice none 0 0, .slice none 0 0] 41 (0, 0))) := Lib.hid HR.out
  replace HF : Hid (W.drew.heap[w.heap.size + 1]? = some (.cells #[.int .i64 0, .int .i64 0, .int .i64 0, .int .i64 0] 69 (0, 0))) := Lib.hid HF.out
  have pSn := fcells_4 HG.out
  go_region_held3 (fun w' => w'.cell? ⟨wv2.heap.size + 1, 0, none⟩ = some (.int .i64 1) ∧ w'.cell? ⟨wv2.heap.size + 1, 1, none⟩ = some (.int .i64 0) ∧ w'.cell? ⟨wv2.heap.size + 1, 2, none⟩ = some (.int .i64 0) ∧ w'.cell? ⟨wv2.heap.size + 1, 3, none⟩ = some (.int .i64 p)) (first | with_reducible exact pSn | with_reducible exact pSb.out | with_reducible exact pSc.out)
    (first
    | (go_at_call 46; (first
      | (refine (HO _).mono ?_; rintro e wp1 ⟨a9, n9, c9, b9, m9, d9, rfl, h9, g9, b⟩; replace HB := Lib.hid (below_then HB.out b); replace HG := Lib.hid (blk_later HG.out b); replace HR := Lib.hid (blk_later HR.out b); replace HF := Lib.hid (blk_later HF.out b); have R9 := Lib.hid h9; have T9 := Lib.hid g9; clear h9 g9; unfold frV; obtain ⟨r0, r1, r2⟩ := fcells_3 HR.out; obtain ⟨s0, s1, s2, s3⟩ := fcells_4 HF.out; have fr0 := blk_free HR.out 0; have fr1 := blk_free HR.out 1; have fr2 := blk_free HR.out 2; have fs0 := blk_free HF.out 0; have fs1 := blk_free HF.out 1; have fs2 := blk_free HF.out 2; have fs3 := blk_free HF.out 3; have pSb := Lib.hid (fcells_4 (blk_far3 (g := w.heap.size) HG.out (by omega) (.bool (zneg q.num)) (.slice a9 n9 c9) (.slice b9 m9 d9))); have pSc := Lib.hid (fcells_4 (blk_apart4 (g := w.heap.size + 1) (blk_far3 (g := w.heap.size) HG.out (by omega) (.bool (zneg q.num)) (.slice a9 n9 c9) (.slice b9 m9 d9)) (by omega) (.int .i64 1) (.int .i64 0) (.int .i64 0) (.int .i64 p))); clear b; clear pSn; have pSn := fcells_4 HG.out; have pM1 := True.intro))))
  have HN2 := Lib.hid (blk_far3 HF.out (show w.heap.size + 1 ≠ w.heap.size by omega) (.bool (zneg q.num)) (.slice a9 n9 c9) (.slice b9 m9 d9))
  have HG1 := Lib.hid (blk_apart4 (blk_set3 HR.out (.bool (zneg q.num)) (.slice a9 n9 c9) (.slice b9 m9 d9)) (show w.heap.size ≠ w.heap.size + 1 by omega) (.int .i64 1) (.int .i64 0) (.int .i64 0) (.int .i64 p))
  have HG2 := Lib.hid (blk_set4 HN2.out (.int .i64 1) (.int .i64 0) (.int .i64 0) (.int .i64 p))
  have HBz := Lib.hid (below_set4 (below_set3 HB.out (show w.heap.size ≤ w.heap.size from Nat.le_refl _) (.bool (zneg q.num)) (.slice a9 n9 c9) (.slice b9 m9 d9)) (show w.heap.size ≤ w.heap.size + 1 by omega) (.int .i64 1) (.int .i64 0) (.int .i64 0) (.int .i64 p))
  have HL1 := Lib.hid ((R9.out.stored3 HR.out (zneg q.num) a9 n9 c9 (.slice b9 m9 d9)).stored4 HN2.out 1 0 0 p)
  have HL2 := Lib.hid ((T9.out.stored3 HR.out (zneg q.num) a9 n9 c9 (.slice b9 m9 d9)).stored4 HN2.out 1 0 0 p)
  go_wp2
  refine bodyPost_ret (results_rows2 Tryz.results72 _ _ w.heap.size (w.heap.size + 1) 41 69 #[.bool (zneg q.num), .slice a9 n9 c9, .slice b9 m9 d9] #[.int .i64 1, .int .i64 0, .int .i64 0, .int .i64 p] (0, 0) (0, 0) _ _ rfl HG1.out Tryz.underlying41 rfl (by kernel_rfl) rfl HG2.out Tryz.underlying69 rfl (by kernel_rfl)) rfl ?_
  exact ⟨a9, n9, c9, b9, m9, d9, rfl, HL1.out, HL2.out, HBz.out⟩
set_option maxRecDepth 4096 in
set_option maxHeartbeats 4000000 in
theorem figure_read_tail (l : List UInt8) (w : World) (hl : l.length ≤ 1000) (k j : Nat) (x : UInt8) (hc : cutAt l = k) (hlt : k < l.length) (hj : k + 1 = j) (hx : l.getD k 0 = x) (z p pl : Int) (hp0 : 0 ≤ p) (hp1 : p ≤ 1000) (hpp : p + (j : Int) = pl) (hR : ∀ w' : World, Calls Tryz.prog 106 #[.string (bs (l.take k))] w' (LstZV z (faultV 0 0 0 0) w')) (hD : ∀ w' : World, Calls Tryz.prog 107 #[.string (bs (l.drop j))] w' (Lst2 [] (faultV 1 0 0 p) w')) : Calls Tryz.prog 72 #[.string (bs l)] w (LstQV ((0 : Int) : Rat) (faultV 1 0 0 pl) w) := by
  obtain ⟨hx1, hx2⟩ := boxes_at w ((w.alloc (.cells #[.bool false, .slice none 0 0, .slice none 0 0] 41)).alloc (.cells #[.int .i64 0, .int .i64 0, .int .i64 0, .int .i64 0] 69)) #[.bool false, .slice none 0 0, .slice none 0 0] #[.int .i64 0, .int .i64 0, .int .i64 0, .int .i64 0] 41 69 (Below.refl _ _)
  have HR := Lib.hid hx1
  have HF := Lib.hid hx2
  have HB : Hid (Below w.heap.size w ((w.alloc (.cells #[.bool false, .slice none 0 0, .slice none 0 0] 41)).alloc (.cells #[.int .i64 0, .int .i64 0, .int .i64 0, .int .i64 0] 69))) := Lib.hid (below_then (below_alloc _ _) (below_alloc _ _))
  clear hx1 hx2
  have HI : Hid (cutI l = (k : Int)) := Lib.hid (by rw [cutI_here (by omega), hc])
  have hs0 := bs_size l
  have e1 := bs_take l k
  have e2 := bs_drop l j
  have e3 := bs_mid hlt hx
  rw [hj] at e3
  have hl1 : (l.take k).length ≤ 1000 := by rw [List.length_take]; omega
  have hl2 : (l.drop j).length ≤ 1000 := by rw [List.length_drop]; omega
  have hk0 : ¬ (k : Int) < 0 := by omega
  have hkj : (k : Int) + 1 = (j : Int) := by omega
  have hkl : (k : Int) ≤ (l.length : Int) := by omega
  have hjl : (j : Int) ≤ (l.length : Int) := by omega
  have hkj2 : (k : Int) ≤ (j : Int) := by omega
  clear hc hlt hx
  have HO : ∀ w' : World, Calls Tryz.prog 46 #[.int .i64 0] w' (LstQ ((0 : Int) : Rat) w') := fun w' => frac_of 0 w' isInt_nought
  generalize ((0 : Int) : Rat) = q at *
  unfold faultV at hR hD ⊢
  go_enter Tryz.func72, Tryz.ntmps72
  obtain ⟨vk0, vk1, vk2, vk3, vk4, vk5, vk6⟩ := fcells_3_4 HR.out HF.out
  go_wp2_with fail
  refine (any_IndexAny l _ hl).mono ?_
  rintro e wv1 ⟨rfl, b⟩
  clear vk0 vk1 vk2 vk3 vk4 vk5 vk6
  replace HB := Lib.hid (below_then HB.out b)
  replace HR := Lib.hid (blk_later HR.out b)
  replace HF := Lib.hid (blk_later HF.out b)
  clear b
  rw [HI.out]
  obtain ⟨vk0, vk1, vk2, vk3, vk4, vk5, vk6⟩ := fcells_3_4 HR.out HF.out
  go_wp2_with fail
  refine (hR _).mono ?_
  rintro e wv2 ⟨a1, n1, c1, rfl, h1, b⟩
  clear vk0 vk1 vk2 vk3 vk4 vk5 vk6
  replace HB := Lib.hid (below_then HB.out b)
  replace HR := Lib.hid (blk_later HR.out b)
  replace HF := Lib.hid (blk_later HF.out b)
  clear b
  have ln1 := h1.len
  have R1 := Lib.hid h1
  clear h1
  unfold whV
  have hlt := blk_lt HF.out
  have HN : Hid ((World.alloc wv2 (.cells #[.bool (zneg z), .slice a1 n1 c1] 39)).heap[wv2.heap.size]? = some (.cells #[.bool (zneg z), .slice a1 n1 c1] 39 (0, 0))) := Lib.hid (blk_new wv2 _ _)
  replace HB := Lib.hid (below_then HB.out (below_alloc wv2 (.cells #[.bool (zneg z), .slice a1 n1 c1] 39)))
  replace HR := Lib.hid (blk_later HR.out (below_alloc wv2 (.cells #[.bool (zneg z), .slice a1 n1 c1] 39)))
  replace HF := Lib.hid (blk_later HF.out (below_alloc wv2 (.cells #[.bool (zneg z), .slice a1 n1 c1] 39)))
  replace R1 := Lib.hid (R1.out.later (below_alloc wv2 (.cells #[.bool (zneg z), .slice a1 n1 c1] 39)))
  have HG : Hid ((World.alloc (wv2.alloc (.cells #[.bool (zneg z), .slice a1 n1 c1] 39)) (.cells #[.int .i64 0, .int .i64 0, .int .i64 0, .int .i64 0] 69)).heap[wv2.heap.size + 1]? = some (.cells #[.int .i64 0, .int .i64 0, .int .i64 0, .int .i64 0] 69 (0, 0))) := Lib.hid (by have h := blk_new (wv2.alloc (.cells #[.bool (zneg z), .slice a1 n1 c1] 39)) #[.int .i64 0, .int .i64 0, .int .i64 0, .int .i64 0] 69; rw [blk_size] at h; exact h)
  replace HB := Lib.hid (below_then HB.out (below_alloc (wv2.alloc (.cells #[.bool (zneg z), .slice a1 n1 c1] 39)) (.cells #[.int .i64 0, .int .i64 0, .int .i64 0, .int .i64 0] 69)))
  replace HR := Lib.hid (blk_later HR.out (below_alloc (wv2.alloc (.cells #[.bool (zneg z), .slice a1 n1 c1] 39)) (.cells #[.int .i64 0, .int .i64 0, .int .i64 0, .int .i64 0] 69)))
  replace HF := Lib.hid (blk_later HF.out (below_alloc (wv2.alloc (.cells #[.bool (zneg z), .slice a1 n1 c1] 39)) (.cells #[.int .i64 0, .int .i64 0, .int .i64 0, .int .i64 0] 69)))
  replace HN := Lib.hid (blk_later HN.out (below_alloc (wv2.alloc (.cells #[.bool (zneg z), .slice a1 n1 c1] 39)) (.cells #[.int .i64 0, .int .i64 0, .int .i64 0, .int .i64 0] 69)))
  replace R1 := Lib.hid (R1.out.later (below_alloc (wv2.alloc (.cells #[.bool (zneg z), .slice a1 n1 c1] 39)) (.cells #[.int .i64 0, .int .i64 0, .int .i64 0, .int .i64 0] 69)))
  obtain ⟨vk0, vk1, vk2, vk3, vk4, vk5, vk6, vk7, vk8, vk9, vk10⟩ := fcells_3_4_4 HR.out HF.out HG.out
  go_wp2_with fail
  refine (hD _).mono ?_
  rintro e wv3 ⟨a5, n5, c5, rfl, h5, b⟩
  clear vk0 vk1 vk2 vk3 vk4 vk5 vk6 vk7 vk8 vk9 vk10
  replace HB := Lib.hid (below_then HB.out b)
  replace HR := Lib.hid (blk_later HR.out b)
  replace HF := Lib.hid (blk_later HF.out b)
  replace HG := Lib.hid (blk_later HG.out b)
  clear R1
  clear b
  clear h5
  obtain ⟨zq0, zq1, zq2, zq3⟩ := fcells_4 HG.out
  have zf0 := blk_free HG.out 0
  have zf1 := blk_free HG.out 1
  have zf2 := blk_free HG.out 2
  have zf3 := blk_free HG.out 3
  replace HR := Lib.hid (blk_apart4 HR.out (show w.heap.size ≠ wv2.heap.size + 1 by omega) (.int .i64 1) (.int .i64 0) (.int .i64 0) (.int .i64 p))
  replace HF := Lib.hid (blk_apart4 HF.out (show w.heap.size + 1 ≠ wv2.heap.size + 1 by omega) (.int .i64 1) (.int .i64 0) (.int .i64 0) (.int .i64 p))
  replace HB := Lib.hid (below_set4 HB.out (show w.heap.size ≤ wv2.heap.size + 1 by omega) (.int .i64 1) (.int .i64 0) (.int .i64 0) (.int .i64 p))
  replace HG := Lib.hid (blk_set4 HG.out (.int .i64 1) (.int .i64 0) (.int .i64 0) (.int .i64 p))
  obtain ⟨y0, y1, y2, y3⟩ := fcells_4 HG.out
  have yf3 := blk_free HG.out 3
  replace HR := Lib.hid (blk_apart HR.out (show w.heap.size ≠ wv2.heap.size + 1 by omega) 3 (.int .i64 pl))
  replace HF := Lib.hid (blk_apart HF.out (show w.heap.size + 1 ≠ wv2.heap.size + 1 by omega) 3 (.int .i64 pl))
  replace HB := Lib.hid (HB.out.setCell (p := ⟨wv2.heap.size + 1, 3, none⟩) (show w.heap.size ≤ wv2.heap.size + 1 by omega) (.int .i64 pl))
  replace HG := Lib.hid (blk_set3_at HG.out (.int .i64 pl))
  go_wp2
  clear y0 y1 y2 y3 yf3 zq0 zq1 zq2 zq3 zf0 zf1 zf2 zf3
  generalize (((((wv3.setCell ⟨wv2.heap.size + 1, 0, none⟩ (.int .i64 1)).setCell ⟨wv2.heap.size + 1, 1, none⟩ (.int .i64 0)).setCell ⟨wv2.heap.size + 1, 2, none⟩ (.int .i64 0)).setCell ⟨wv2.heap.size + 1, 3, none⟩ (.int .i64 p)).setCell ⟨wv2.heap.size + 1, 3, none⟩ (.int .i64 pl)) = W at *
  replace HB := Lib.hid (below_then HB.out ((Below.refl _ _).drew : Below W.heap.size W W.drew))
  replace HG : Hid (W.drew.heap[wv2.heap.size + 1]? = _) := Lib.hid HG.out
  replace HR : Hid (W.drew.heap[w.heap.size]? = some (.cells #[.bool false, .slice none 0 0, .slice none 0 0] 41 (0, 0))) := Lib.hid HR.out
  replace HF : Hid (W.drew.heap[w.heap.size + 1]? = some (.cells #[.int .i64 0, .int .i64 0, .int .i64 0, .int .i64 0] 69 (0, 0))) := Lib.hid HF.out
  have pSn := fcells_4 HG.out
  go_region_held3 (fun w' => w'.cell? ⟨wv2.heap.size + 1, 0, none⟩ = some (.int .i64 1) ∧ w'.cell? ⟨wv2.heap.size + 1, 1, none⟩ = some (.int .i64 0) ∧ w'.cell? ⟨wv2.heap.size + 1, 2, none⟩ = some (.int .i64 0) ∧ w'.cell? ⟨wv2.heap.size + 1, 3, none⟩ = some (.int .i64 pl)) (first | with_reducible exact pSn | with_reducible exact pSb.out | with_reducible exact pSc.out)
    (first
    | (go_at_call 46; (first
      | (refine (HO _).mono ?_; rintro e wp1 ⟨a9, n9, c9, b9, m9, d9, rfl, h9, g9, b⟩; replace HB := Lib.hid (below_then HB.out b); replace HG := Lib.hid (blk_later HG.out b); replace HR := Lib.hid (blk_later HR.out b); replace HF := Lib.hid (blk_later HF.out b); have R9 := Lib.hid h9; have T9 := Lib.hid g9; clear h9 g9; unfold frV; obtain ⟨r0, r1, r2⟩ := fcells_3 HR.out; obtain ⟨s0, s1, s2, s3⟩ := fcells_4 HF.out; have fr0 := blk_free HR.out 0; have fr1 := blk_free HR.out 1; have fr2 := blk_free HR.out 2; have fs0 := blk_free HF.out 0; have fs1 := blk_free HF.out 1; have fs2 := blk_free HF.out 2; have fs3 := blk_free HF.out 3; have pSb := Lib.hid (fcells_4 (blk_far3 (g := w.heap.size) HG.out (by omega) (.bool (zneg q.num)) (.slice a9 n9 c9) (.slice b9 m9 d9))); have pSc := Lib.hid (fcells_4 (blk_apart4 (g := w.heap.size + 1) (blk_far3 (g := w.heap.size) HG.out (by omega) (.bool (zneg q.num)) (.slice a9 n9 c9) (.slice b9 m9 d9)) (by omega) (.int .i64 1) (.int .i64 0) (.int .i64 0) (.int .i64 pl))); clear b; clear pSn; have pSn := fcells_4 HG.out; have pM1 := True.intro))))
  have HN2 := Lib.hid (blk_far3 HF.out (show w.heap.size + 1 ≠ w.heap.size by omega) (.bool (zneg q.num)) (.slice a9 n9 c9) (.slice b9 m9 d9))
  have HG1 := Lib.hid (blk_apart4 (blk_set3 HR.out (.bool (zneg q.num)) (.slice a9 n9 c9) (.slice b9 m9 d9)) (show w.heap.size ≠ w.heap.size + 1 by omega) (.int .i64 1) (.int .i64 0) (.int .i64 0) (.int .i64 pl))
  have HG2 := Lib.hid (blk_set4 HN2.out (.int .i64 1) (.int .i64 0) (.int .i64 0) (.int .i64 pl))
  have HBz := Lib.hid (below_set4 (below_set3 HB.out (show w.heap.size ≤ w.heap.size from Nat.le_refl _) (.bool (zneg q.num)) (.slice a9 n9 c9) (.slice b9 m9 d9)) (show w.heap.size ≤ w.heap.size + 1 by omega) (.int .i64 1) (.int .i64 0) (.int .i64 0) (.int .i64 pl))
  have HL1 := Lib.hid ((R9.out.stored3 HR.out (zneg q.num) a9 n9 c9 (.slice b9 m9 d9)).stored4 HN2.out 1 0 0 pl)
  have HL2 := Lib.hid ((T9.out.stored3 HR.out (zneg q.num) a9 n9 c9 (.slice b9 m9 d9)).stored4 HN2.out 1 0 0 pl)
  go_wp2
  refine bodyPost_ret (results_rows2 Tryz.results72 _ _ w.heap.size (w.heap.size + 1) 41 69 #[.bool (zneg q.num), .slice a9 n9 c9, .slice b9 m9 d9] #[.int .i64 1, .int .i64 0, .int .i64 0, .int .i64 pl] (0, 0) (0, 0) _ _ rfl HG1.out Tryz.underlying41 rfl (by kernel_rfl) rfl HG2.out Tryz.underlying69 rfl (by kernel_rfl)) rfl ?_
  exact ⟨a9, n9, c9, b9, m9, d9, rfl, HL1.out, HL2.out, HBz.out⟩
end Go.Proofs.YtjeigdlhjghinaaGreatDoor
