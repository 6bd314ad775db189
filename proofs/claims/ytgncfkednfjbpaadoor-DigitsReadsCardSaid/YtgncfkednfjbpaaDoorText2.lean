/-
  Package digits at this seat: Text, Len.
-/
import Derived.Test.YtgncfkednfjbpaaDoorText
namespace Go.Proofs.YtgncfkednfjbpaaDoor
open Go.RowKit

theorem infoU8 : (Tryd.prog.info? 5).map (fun i => (i.zero, i.size, i.bytes)) = some (some (.int .u8 0), 1, 1) := by kernel_rfl
theorem strCells_bs (s : List UInt8) : Lib.strCells (bs s) = Lib.byteCells s := rfl
theorem txAt_zero {v : Nat} {s : List UInt8} (h : TxAt (bil v) 0 s) : s = txt v := tx_end h
set_option maxRecDepth 4096 in
set_option maxHeartbeats 4000000 in
theorem digits_text (a : Option Addr) (n cap : Nat) (l : List Nat) (w : World) (h : Wd w a n cap l) (hn : n ≤ 1000) (hT : Hid (Dec10 w)) :
    Calls Tryd.prog 8 #[.slice a n cap] w (Gives (.string (bs (txt (val l)))) w) := by
  obtain ⟨i0, hi, hz0, hz1, hz2⟩ := info_parts infoU8
  have hv2 := val_lt h.ok
  rw [h.len, pow32] at hv2
  have HTL : Hid ((txt (val l)).length ≤ 32001) := Lib.hid (by have := txt_length_le hv2; omega)
  have HBL : Hid ((bil (val l)).length ≤ 32001) := Lib.hid (by have := bil_length_le hv2; omega)
  have H := Lib.hid h
  clear h hv2
  go_enter Tryd.func8, Tryd.ntmps8
  go_wp2_with fail
  refine (digits_groups _ _ _ _ _ H.out hn).mono ?_
  rintro e w1 ⟨a1, n1, c1, rfl, h1, b1⟩
  obtain ⟨v, hv⟩ : ∃ v, v = val l := ⟨_, rfl⟩
  rw [← hv] at h1 HTL HBL
  have HV := Lib.hid hv
  clear hv H hn
  have hT1 := Lib.hid (hT.out.later b1)
  obtain ⟨m, rfl⟩ : ∃ m, n1 = m + 1 := by
    obtain ⟨x, r, hx⟩ := bil_ne v
    have h2 := h1.len
    rw [hx, List.length_cons] at h2
    exact ⟨r.length, h2.symm⟩
  have hm : m ≤ 32000 := by have h2 := h1.len; have h3 := HBL.out; omega
  obtain ⟨b, off, rfl, hcl⟩ := h1.at (by omega)
  have hcm := hcl m (by omega)
  have Hcl := Lib.hid hcl
  have H1 := Lib.hid h1
  have hxw := atw_bil v m
  have HS : Hid (TxAt (bil v) m (txt (atw (bil v) m))) := Lib.hid (tx_start h1.len)
  obtain ⟨x, hx⟩ : ∃ x, x = atw (bil v) m := ⟨_, rfl⟩
  rw [← hx] at hcm hxw HS
  have e1 : ((m + 1 : Nat) : Int) - 1 = (m : Int) := by omega
  have hlt : (m : Int) < ((m + 1 : Nat) : Int) := by omega
  have hB1 := b1
  have HTx : Hid ((txt x).length ≤ 32001) := Lib.hid (by have h2 := tx_length HS.out; have h3 := HTL.out; omega)
  clear hcl hx h1 b1
  go_wp2_with (go_at_call 20; refine (dec_append w1.heap.size 0 x (by omega) (.slice none 0 0) [] _ (World.ownsRow_nil _ _ _ _) (Nat.le_refl _) (by omega) hT1).mono ?_; rintro e w2 ⟨v2, rfl, h2, b2⟩; refine Hid.out ?_)
  refine Lib.hid ?_
  rw [Nat.zero_add, List.nil_append] at h2
  have HO2 := Lib.hid h2
  have HB1 := Lib.hid hB1
  clear h2 hcm hT hlt HTx
  go_wp2
  go_loopw [5, 6] (fun sv iv wr => ∃ (k : Nat) (s : List UInt8), k ≤ m ∧ iv = .int .i64 ((k : Int) - 1) ∧ Hid (TxAt (bil v) k s) ∧ Hid (wr.ownsRow w1.heap.size 5 1 sv s.length (Lib.byteCells s)) ∧ Below w1.heap.size w1 wr) (fun _ iv _ => (intOf iv + 1).toNat)
  case atStart => exact ⟨m, txt x, by omega, by go_num, HS, HO2, b2⟩
  case round =>
    clear HO2 HS b2 hxw
    obtain ⟨k, s, hk, rfl, HS, HO, hB⟩ := hrel
    have hsl : s.length ≤ 32001 := by have h2 := tx_length HS.out; have h3 := HTL.out; omega
    have hT2 := Lib.hid (hT1.out.later hB)
    have hbase := hB.size
    cases k with
    | zero =>
      have hs := tx_end HS.out
      have hne : 0 < s.length := by rw [hs]; exact List.length_pos_iff.2 (txt_ne v)
      have Hs := Lib.hid hs
      clear hs
      rcases HO.out.2 with ⟨-, h0⟩ | ⟨g, cap', cur, rfl, -⟩
      · omega
      · have hcv := run_convert_bytes_back (P := Tryd.prog) wr 43 9 5 ⟨g, 0, none⟩ cap' s Tryd.underlying43 Tryd.underlying5 Tryd.underlying9 (fun j hj => HO.out.cells (g := g) rfl j _ (by simp [Lib.byteCells, hj]))
        go_wp2
        go_ret
        exact ⟨by rw [← HV.out, ← Hs.out]; rfl, below_then HB1.out hB⟩
    | succ k =>
      have e2 : ((k + 1 : Nat) : Int) - 1 = (k : Int) := by omega
      rw [e2]
      clear e2
      have hck := cell_later hB (Hcl.out k (by omega))
      have hyw := atw_bil v k
      have HS2 := Lib.hid (tx_step HS.out)
      obtain ⟨y, hy⟩ : ∃ y, y = atw (bil v) k := ⟨_, rfl⟩
      rw [← hy] at hck hyw HS2
      have hki : (k : Int) < ((m + 1 : Nat) : Int) := by omega
      have hz := bs_size (lowd 9 y)
      rw [lowd_length] at hz
      clear hy
      go_wp2_with (first
        | (go_at_call 21; refine (digits_full y hyw _ hT2).mono ?_; rintro e w3 ⟨rfl, b3⟩; have HO3 := Lib.hid (ownsRow_later HO.out b3); have hB3 := below_then hB b3; have hbase3 := hB3.size)
        | (at_builtin; refine Lib.wpList_append_own_string _ rfl _ _ 43 9 rfl w1.heap.size 5 i0 Tryd.underlying43 Tryd.underlying9 hi hz0 hz1 hz2 _ _ _ rfl HO3.out (bs (lowd 9 y)) rfl (by rw [hz]; unfold maxLen; omega) (by rw [hz]; omega) hbase3 ?_; intro v' w4 hown hgrow _; refine Hid.out ?_))
      refine Lib.hid ?_
      have hB4 : Below w1.heap.size w1 w4 := hB3.grown hgrow hbase3 (fun k hk => (HO3.out.lt k hk).1)
      have e3 : Lib.byteCells s ++ Lib.strCells (bs (lowd 9 y)) = Lib.byteCells (s ++ lowd 9 y) := by rw [strCells_bs, Lib.byteCells_append]
      have e4 : s.length + (bs (lowd 9 y)).size = (s ++ lowd 9 y).length := by rw [bs_size, List.length_append]
      rw [e3, e4] at hown
      have HO4 := Lib.hid hown
      clear hown hgrow e3 e4 HO3 HO
      go_wp2
      go_roundw
      case rel => exact ⟨k, _, by omega, by go_num, HS2, HO4, hB4⟩
      case measure => simp [intOf]
set_option maxRecDepth 4096 in
theorem digits_len (a : Option Addr) (n cap : Nat) (l : List Nat) (w : World) (h : Wd w a n cap l) (hn : n ≤ 1000) (hT : Hid (Dec10 w)) :
    Calls Tryd.prog 9 #[.slice a n cap] w (Gives (.int .i64 (((txt (val l)).length : Nat) : Int)) w) := by
  have hz := bs_size (txt (val l))
  have H := Lib.hid h
  clear h
  go_enter Tryd.func9, Tryd.ntmps9
  go_wp2_with (go_at_call 8; refine (digits_text _ _ _ _ _ H.out hn hT).mono ?_; rintro e w1 ⟨rfl, b1⟩)
  go_ret
  exact ⟨rfl, b1⟩
end Go.Proofs.YtgncfkednfjbpaaDoor
