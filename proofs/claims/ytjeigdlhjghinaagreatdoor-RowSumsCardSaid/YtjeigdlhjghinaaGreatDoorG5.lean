/-
  Several texts of this claim as one, group 5.
-/
import Derived.Test.YtjeigdlhjghinaaGreatDoorG4
import Derived.Test.YtjeigdlhjghinaaGreatDoorG3
import Derived.Test.YtjeigdlhjghinaaGreatDoorG1
import Derived.Test.YtjeigdlhjghinaaGreatDoorG2
import Derived.BigRegion
import Derived.BigQuiet
import Derived.Deep.QuietTactic
import Derived.Deep.DeepMust
import Derived.Deep.RegionHeld3
/-
  The contracts of the document's answer for layer 4: Mul.
-/
namespace Go.Proofs.YtjeigdlhjghinaaGreatDoor
open Go.RowKit

theorem Own.drewN {w : World} {base g n cap : Nat} {l : List Nat} (h : Own w base g n cap l) (q : Nat) : Own (w.drewN q) base g n cap l := h
theorem Own.drew {w : World} {base g n cap : Nat} {l : List Nat} (h : Own w base g n cap l) : Own w.drew base g n cap l := h
set_option maxRecDepth 4096 in
set_option maxHeartbeats 2000000 in
theorem ref04_mul (a : Option Addr) (n cap : Nat) (la : List Nat) (b : Option Addr) (m cap' : Nat) (lb : List Nat) (w : World) (ha : Wd w a n cap la) (hb : Wd w b m cap' lb) (hn : n ≤ 4000000) (hm : m ≤ 4000000) :
    Calls Tryz.prog 99 #[.slice a n cap, .slice b m cap'] w (Lst (dg (val la * val lb)) w) := by
  obtain ⟨i0, hi, hz0, hz1, hz2⟩ := info_parts infoU32
  have Ha := Lib.hid ha
  have Hb := Lib.hid hb
  clear ha hb
  obtain ⟨N, hN⟩ : ∃ N : Nat, (n : Int) + (m : Int) = (N : Int) := ⟨n + m, by omega⟩
  have HN : Hid (N = n + m) := Lib.hid (by omega)
  have hNb : N ≤ 8000000 := by omega
  go_enter Tryz.func99, Tryz.ntmps99
  go_wp2_with (at_make; refine wpList_make_words _ rfl _ _ 37 rfl w.heap.size 91 i0 (.int .u32 0) Tryz.underlying37 hi hz0 hz1 rfl .i64 .i64 _ _ N N rfl rfl rfl rfl (Nat.le_refl _) (by rw [hz2]; omega) (by unfold maxLen; omega) (Nat.le_refl _) ?_; intro w1 hown1 hgrow1)
  rw [zeros_cells] at hown1
  have HO1 : Hid (Own w1 w.heap.size w.heap.size N N (List.replicate N 0)) := Lib.hid ⟨hown1, okw_zeros N⟩
  have hB1 : Below w.heap.size w w1 := (Below.refl _ _).grown hgrow1 (Nat.le_refl _) (fun k hk => by cases hk)
  clear hown1 hgrow1
  go_loopw [6] (fun iv wr => ∃ (i : Nat) (P : List Nat), i ≤ n ∧ iv = .int .i64 (i : Int) ∧ Hid (RowAt la lb P m i) ∧ Hid (Own wr w.heap.size w.heap.size N N P) ∧ Below w.heap.size w wr) (fun iv _ => n - (intOf iv).toNat)
  case atStart => exact ⟨0, List.replicate N 0, by omega, rfl, Lib.hid (row_start _ _ _ _), HO1, hB1⟩
  case round =>
    clear HO1 hB1
    obtain ⟨i, P, hin, rfl, HR, HO, hB⟩ := hrel
    by_cases hlt : i < n
    · have hii : (i : Int) < (n : Int) := by omega
      obtain ⟨ba, oa, rfl, hca⟩ := (Ha.out.later hB).at (by omega)
      have Hblk : Hid (ba < w.heap.size ∧ ∀ wz, Below w.heap.size w wz → wz.cell? ⟨ba, oa + i, none⟩ = some (.int .u32 ((atw la i : Nat) : Int))) := by
        obtain ⟨ba2, oa2, e2, hca2⟩ := Ha.out.at (by omega)
        simp only [Option.some.injEq, Addr.mk.injEq, and_true] at e2
        obtain ⟨rfl, rfl⟩ := e2
        exact Lib.hid ⟨World.block_lt_of_cell? w _ (hca2 i hlt), fun wz hz => cell_later hz (hca2 i hlt)⟩
      have hxw := atw_lt Ha.out.ok i
      obtain ⟨x, hxx⟩ : ∃ x, x = atw la i := ⟨_, rfl⟩
      rw [← hxx] at hxw Hblk
      have Hx := Lib.hid hxx
      clear hca hxx
      go_wp2
      go_loopw [7, 8] (fun sv jv wr => ∃ (j c : Nat) (P : List Nat), j ≤ m ∧ jv = .int .i64 (j : Int) ∧ sv = .int .u64 (c : Int) ∧ c < 4294967296 ∧ Hid (CellAt la lb P m i j c) ∧ Hid (Own wr w.heap.size w.heap.size N N P) ∧ Below w.heap.size w wr) (fun _ jv _ => m - (intOf jv).toNat)
      case atStart => exact ⟨0, 0, P, by omega, rfl, rfl, by omega, Lib.hid (cell_start HR.out), HO, hB⟩
      case round =>
        clear HO hB HR
        obtain ⟨j, c, P, hjm, rfl, rfl, hc, HC, HO, hB⟩ := hrel
        by_cases hjl : j < m
        · have hji : (j : Int) < (m : Int) := by omega
          obtain ⟨bb, ob, rfl, hcb⟩ := (Hb.out.later hB).at (by omega)
          have hcbj := hcb j hjl
          have hcai := Hblk.out.2 wr hB
          have hyw := atw_lt Hb.out.ok j
          obtain ⟨y, hyy⟩ : ∃ y, y = atw lb j := ⟨_, rfl⟩
          rw [← hyy] at hyw hcbj
          have Hy := Lib.hid hyy
          obtain ⟨q, hq⟩ : ∃ q : Nat, (i : Int) + (j : Int) = (q : Int) := ⟨i + j, by omega⟩
          have Hq : Hid (q = i + j) := Lib.hid (by omega)
          have hqN : q < N := by have := HN.out; omega
          have hqi : (q : Int) < (N : Int) := by omega
          have hcell := HO.out.cell (k := q) hqN
          have hfro := HO.out.1.frozenAt q
          have huw := atw_lt HO.out.2 q
          obtain ⟨u, huu⟩ : ∃ u, u = atw P q := ⟨_, rfl⟩
          rw [← huu] at huw hcell
          have Hu := Lib.hid huu
          have hroom := mul_room hxw hyw huw hc
          obtain ⟨p, hp⟩ : ∃ p : Nat, (x : Int) * (y : Int) = (p : Int) := ⟨x * y, by simp⟩
          have Hp : Hid (p = x * y) := Lib.hid (by rw [← Int.natCast_mul] at hp; omega)
          rw [← Hp.out] at hroom
          obtain ⟨hroom1, hroom2⟩ := hroom
          have hb := HO.out.base
          clear hcb hyy huu
          go_wp2
          go_quiet (fail)
          go_wp2
          go_roundw
          case rel =>
            have HOs := (HO.out.drewN nq).set q ((c + (p + u)) % 4294967296) (Nat.mod_lt _ (by decide))
            have hBs := (below_drewN hB nq).setCell (p := ⟨w.heap.size, q, none⟩) hb.1 (.int .u32 (((c + (p + u)) % 4294967296 : Nat) : Int))
            have e1 : (((c + (p + u)) % 4294967296 : Nat) : Int) = ((c : Int) + ((p : Int) + (u : Int))) % 4294967296 := by omega
            rw [e1] at HOs hBs
            exact ⟨j + 1, (c + (p + u)) / 4294967296, P.set q ((c + (p + u)) % 4294967296), by omega, by go_num, by go_num, by omega, Lib.hid (by
              have h1 := HC.out
              have h2 := HN.out
              have h3 := HO.out.len
              obtain rfl := Hq.out
              exact cell_step h1 hjl (by omega) (by rw [← Hx.out, ← Hy.out, ← Hu.out, ← Hp.out]; omega)), Lib.hid HOs, hBs⟩
          case measure => simp [intOf]; omega
        · obtain rfl : j = m := by omega
          obtain ⟨q, hq⟩ : ∃ q : Nat, (i : Int) + (j : Int) = (q : Int) := ⟨i + j, by omega⟩
          have Hq : Hid (q = i + j) := Lib.hid (by omega)
          have hqN : q < N := by have := HN.out; omega
          have hqi : (q : Int) < (N : Int) := by omega
          have hcell := HO.out.cell (k := q) hqN
          have hfro := HO.out.1.frozenAt q
          generalize atw P q = u at hcell
          have hb := HO.out.base
          have HOs := HO.out.set q c hc
          have hBs := hB.setCell (p := ⟨w.heap.size, q, none⟩) hb.1 (.int .u32 (c : Int))
          have HOs' := Lib.hid HOs
          have hBs' := Lib.hid hBs
          clear HOs hBs
          go_wp2
          go_roundw
          case rel =>
            exact ⟨i + 1, P.set q c, by omega, by go_num, Lib.hid (by
              have h1 := HC.out
              have h2 := HN.out
              have h3 := HO.out.len
              obtain rfl := Hq.out
              exact row_next h1 Hb.out.len (by omega)), HOs', hBs'.out⟩
          case measure => simp [intOf]; omega
    · obtain rfl : i = n := by omega
      have Hv := Lib.hid (row_end HR.out Ha.out.len)
      go_wp2_with fail
      refine (ref02_norm _ _ _ _ _ HO.out.wd (by omega)).mono ?_
      rintro e w' ⟨a', n', c', rfl, hwd, hbel⟩
      rw [Hv.out] at hwd
      have HWD := Lib.hid hwd
      clear hwd
      go_wp2
      go_ret
      exact ⟨_, _, _, rfl, HWD.out, below_then hB hbel⟩
end Go.Proofs.YtjeigdlhjghinaaGreatDoor

/-
  The contracts of the document's answer for layer 7: ten, Text, Wrong, Read, Trim.
-/
namespace Go.Proofs.YtjeigdlhjghinaaGreatDoor
open Go.RowKit

theorem digit_cut {d : Nat} (h : d < 10) : (({ data := #[48, 49, 50, 51, 52, 53, 54, 55, 56, 57] } : ByteArray).extract d (d + 1)) = bs [dig d] := by
  match d, h with
  | 0, _ => decide
  | 1, _ => decide
  | 2, _ => decide
  | 3, _ => decide
  | 4, _ => decide
  | 5, _ => decide
  | 6, _ => decide
  | 7, _ => decide
  | 8, _ => decide
  | 9, _ => decide
def TenPost (base g n cap v : Nat) (w : World) (e : Ending) (w' : World) : Prop :=
  ∃ Q : List Nat, e = .returned (.int .u64 ((v % 10 : Nat) : Int)) ∧ Hid (Own w' base g n cap Q) ∧ w.grownBy w' (some g) ∧ Hid (val Q = v / 10)
set_option maxRecDepth 4096 in
set_option maxHeartbeats 2000000 in
theorem ref07_ten (base : Nat) (w : World) (g n cap : Nat) (L : List Nat) (hO : Own w base g n cap L) (hn : n ≤ 2000000) :
    Calls Tryz.prog 163 #[.slice (some ⟨g, 0, none⟩) n cap] w (TenPost base g n cap (val L) w) := by
  have HO1 := Lib.hid hO
  have HLo := Lib.hid hO.2
  have HLl := Lib.hid hO.len
  clear hO
  go_enter Tryz.func163, Tryz.ntmps163
  go_wp2
  go_loopw [3, 4] (fun rv iv wr => ∃ (k r : Nat) (Q : List Nat), k ≤ n ∧ iv = .int .i64 ((k : Int) - 1) ∧ rv = .int .u64 (r : Int) ∧ r < 10 ∧ Hid (WordAt 10 L Q k r) ∧ Hid (Own wr base g n cap Q) ∧ w.grownBy wr (some g)) (fun _ iv _ => (intOf iv + 1).toNat)
  case atStart => exact ⟨n, 0, L, by omega, by go_num, rfl, by omega, Lib.hid ⟨by rw [top_ge (by rw [HLl.out]; omega)], by omega, fun j _ => rfl, rfl⟩, HO1, grown_refl _ _⟩
  case round =>
    obtain ⟨k, r, Q, hk, rfl, rfl, hr, HW, HO, hG⟩ := hrel
    cases k with
    | zero =>
      have Hq : Hid (val Q = val L / 10) := Lib.hid (word_end HW.out rfl).1
      have Hr : Hid (r = val L % 10) := Lib.hid (word_end HW.out rfl).2
      go_wp2
      go_ret
      exact ⟨Q, by rw [← Hr.out]; rfl, HO, hG, Hq⟩
    | succ k =>
      have e1 : ((k + 1 : Nat) : Int) - 1 = (k : Int) := by omega
      rw [e1]
      clear e1
      have hcell := HO.out.cell (k := k) (by omega)
      rw [HW.out.2.2.1 k (by omega)] at hcell
      have hfro := HO.out.1.frozenAt k
      have huw := atw_lt HLo.out k
      obtain ⟨u, huu⟩ : ∃ u, u = atw L k := ⟨_, rfl⟩
      rw [← huu] at huw hcell
      have Hu := Lib.hid huu
      obtain ⟨t, ht⟩ : ∃ t : Nat, (r : Int) * 4294967296 + (u : Int) = (t : Int) := ⟨r * 4294967296 + u, by omega⟩
      have Ht : Hid (t = r * 4294967296 + u) := Lib.hid (by omega)
      have htw : t < 42949672960 := by omega
      obtain ⟨q, hq⟩ : ∃ q : Nat, (t : Int) / 10 = (q : Int) := ⟨t / 10, by omega⟩
      obtain ⟨s, hs⟩ : ∃ s : Nat, (t : Int) % 10 = (s : Int) := ⟨t % 10, by omega⟩
      have Hqs : Hid (q = t / 10 ∧ s = t % 10) := Lib.hid (by omega)
      have hqw : q < 4294967296 := by omega
      have hsx : s < 10 := by omega
      have hki : (k : Int) < (n : Int) := by omega
      have HOs := Lib.hid (HO.out.set k q hqw)
      have hGs := Lib.hid (grown_then hG (grown_cell _ g k (.int .u32 (q : Int))))
      have HW2 : Hid (WordAt 10 L (Q.set k q) k s) := Lib.hid (by
        have h1 := word_down HW.out (by omega) (by rw [HO.out.len]; omega)
        rwa [← Hu.out, ← Ht.out, ← Hqs.out.1, ← Hqs.out.2] at h1)
      clear huu
      go_wp2
      go_roundw
      case rel => exact ⟨k, s, Q.set k q, by omega, by go_num, by rw [hs], hsx, HW2, HOs, hGs.out⟩
      case measure => simp [intOf]
theorem ref07_ten_empty (a : Option Addr) (cap : Nat) (w : World) : Calls Tryz.prog 163 #[.slice a 0 cap] w fun e w' => e = .returned (.int .u64 0) ∧ w = w' := by
  go_enter Tryz.func163, Tryz.ntmps163
  go_wp2
  go_loop [3, 4] (fun rv iv => rv = .int .u64 0 ∧ iv = .int .i64 (-1)) (fun _ _ => 0)
  case atStart => exact ⟨rfl, rfl⟩
  case round =>
    obtain ⟨rfl, rfl⟩ := hrel
    go_wp2
    go_ret
    exact ⟨rfl, rfl⟩
/-- For the measure of the loop that writes. -/
def textLeft (w : World) (x s : Value) : Nat := heldVal w x + (match s with | .string b => if b.size = 0 then 1 else 0 | _ => 0)
theorem held_own {w : World} {base : Nat} {e : TypeId} {a : Option Addr} {m c v : Nat} (h : w.ownsRow base e 1 (.slice a m c) m (wcells (dg v))) : heldVal w (.slice a m c) = v := by
  rcases h.2 with ⟨e1, h0⟩ | ⟨g, cap', cur, e1, _⟩
  · have h1 := h.1
    rw [wcells_length, h0] at h1
    simp only [Value.slice.injEq] at e1
    obtain ⟨rfl, _, _⟩ := e1
    exact (dg_nil_iff.1 (by omega)).symm
  · simp only [Value.slice.injEq] at e1
    obtain ⟨rfl, _, _⟩ := e1
    rw [(Wd.own h (okw_dg v)).held, val_dg]
set_option maxRecDepth 4096 in
set_option maxHeartbeats 2000000 in
theorem ref07_text (a : Option Addr) (n cap : Nat) (l : List Nat) (w : World) (h : Wd w a n cap l) (hn : n ≤ 100000) :
    Calls Tryz.prog 124 #[.slice a n cap] w (Gives (.string (bs (txt (val l)))) w) := by
  have hl : (dg (val l)).length ≤ n := h.trim_le
  have HT : Hid ((txt (val l)).length ≤ 3200001) := Lib.hid (by
    have h1 := val_lt h.ok
    rw [h.len, pow32] at h1
    have h2 := txt_length_le h1
    omega)
  generalize hv : val l = v0 at *
  go_enter Tryz.func124, Tryz.ntmps124
  go_wp2_with fail
  refine (ref02_norm_own _ _ _ _ _ h (by omega)).mono ?_
  rintro e w1 ⟨a1, n1, c1, rfl, h1, hB1⟩
  rw [hv] at h1
  have H1 := Lib.hid h1
  clear h h1 hv
  go_wp2
  go_loopw [3, 4] (fun xv sv wr => ∃ (a : Option Addr) (m c v : Nat) (s : List UInt8), xv = .slice a m c ∧ sv = .string (bs s) ∧ m ≤ 100000 ∧ Hid (wr.ownsRow w.heap.size 91 1 (.slice a m c) m (wcells (dg v))) ∧ Hid (TextAt v0 v s) ∧ Below w.heap.size w wr) (fun xv sv wr => textLeft wr xv sv)
  case atStart => exact ⟨a1, n1, c1, v0, [], rfl, rfl, by have h2 := H1.out.1; rw [wcells_length] at h2; omega, H1, Lib.hid (text_start v0), hB1⟩
  case round =>
    clear H1 hB1 hl
    obtain ⟨a, m, c, v, s, rfl, rfl, hm, HO, HA, hB⟩ := hrel
    have hlen : Hid ((dg v).length = m) := Lib.hid (by have h2 := HO.out.1; rw [wcells_length] at h2; omega)
    have hsl : s.length ≤ 3200001 := Nat.le_trans (text_length HA.out) HT.out
    have Hm0 := Lib.hid (held_own HO.out)
    by_cases hz : m = 0
    · subst hz
      obtain rfl : v = 0 := dg_nil_iff.1 hlen.out
      cases s with
      | nil =>
        have HA2 : Hid (TextAt v0 0 [dig 0]) := Lib.hid (text_step HA.out (.inr rfl))
        have hcut := digit_cut (d := 0) (by omega)
        have hs1 := bs_size [dig 0]
        have hs2 := bs_size []
        have hs3 := bs_append [dig 0] []
        have HW := Lib.hid (Wd.own HO.out (okw_dg 0))
        have hem : (bs []).toList.isEmpty = true := by rw [bs_list]; rfl
        simp only [List.length_cons, List.length_nil, List.append_nil] at hs1 hs2 hs3
        clear HO HA
        go_wp2_with fail
        refine (ref07_ten_empty _ _ _).mono ?_
        rintro e w' ⟨rfl, rfl⟩
        go_wp2_with fail
        refine (ref02_norm_own _ _ _ _ _ HW.out (by omega)).mono ?_
        rintro e w4 ⟨a4, m4, c4, rfl, h4, b4⟩
        rw [val_dg] at h4
        have hm4 : m4 ≤ 0 := by
          have h5 := h4.1
          rw [wcells_length, dg_zero] at h5
          simp at h5
          omega
        have HO4 := Lib.hid (ownsRow_lower (base' := w.heap.size) h4 hB.size)
        have hB4 := Lib.hid (below_then hB b4)
        have Hm4 := Lib.hid (held_own HO4.out)
        clear h4 b4 hcut hs1 hs2 hs3
        go_wp2
        go_roundw
        case rel => exact ⟨a4, m4, c4, 0, [dig 0], rfl, rfl, by omega, HO4, HA2, hB4.out⟩
        case measure =>
          have h8 := Hm0.out
          have h9 := Hm4.out
          show textLeft _ _ _ < textLeft _ _ _
          unfold textLeft
          rw [h8, h9]
          simp [bs_size]
      | cons y s =>
        have Hfin := Lib.hid (text_end HA.out rfl (by simp))
        have hne : (bs (y :: s)).toList.isEmpty = false := by rw [bs_list]; rfl
        clear HO HA Hm0
        go_wp2
        go_ret
        exact ⟨by rw [← Hfin.out]; rfl, hB⟩
    · obtain ⟨g, rfl, hO⟩ := own_block HO.out (okw_dg _) (by omega)
      have HOw := Lib.hid hO
      have hv0 : Hid (v ≠ 0) := Lib.hid (fun h => hz (hlen.out.symm.trans (dg_nil_iff.2 h)))
      have hbase := HOw.out.base
      have hmi : (0 : Int) < (m : Int) := by omega
      clear hO hz
      go_wp2_with fail
      refine (ref07_ten w.heap.size _ g m c _ HOw.out (by omega)).mono ?_
      rintro e w3 ⟨Q, rfl, HQ, hG, HV⟩
      rw [val_dg] at HV ⊢
      obtain ⟨d, hd⟩ : ∃ d, d = v % 10 := ⟨_, rfl⟩
      rw [← hd]
      have hd10 : d < 10 := by omega
      have Hd := Lib.hid hd
      have HA2 := Lib.hid (text_step HA.out (.inl hv0.out))
      rw [← hd] at HA2
      have hcut := digit_cut hd10
      have hs1 := bs_size [dig d]
      have hs2 := bs_size s
      have hs3 := bs_append [dig d] s
      have hB3 := Lib.hid (grown_below hB hG hbase.1)
      have HQw := Lib.hid HQ.out.wd
      simp only [List.length_cons, List.length_nil, List.singleton_append] at hs1 hs3
      clear hd HO HA hG
      go_wp2_with fail
      refine (ref02_norm_own _ _ _ _ _ HQw.out (by omega)).mono ?_
      rintro e w4 ⟨a4, m4, c4, rfl, h4, b4⟩
      rw [HV.out] at h4
      have hm4 : m4 ≤ m := by
        have h5 := h4.1
        rw [wcells_length] at h5
        have h6 := dg_length_mono (show v / 10 ≤ v from Nat.div_le_self _ _)
        have h7 := hlen.out
        omega
      have HO4 := Lib.hid (ownsRow_lower (base' := w.heap.size) h4 hB3.out.size)
      have hB4 := Lib.hid (below_then hB3.out b4)
      have Hm4 := Lib.hid (held_own HO4.out)
      clear h4 b4 hcut hs1 hs2 hs3
      go_wp2
      go_roundw
      case rel => exact ⟨a4, m4, c4, v / 10, dig d :: s, rfl, rfl, by omega, HO4, HA2, hB4.out⟩
      case measure =>
        have h8 := Hm0.out
        have h9 := Hm4.out
        have h10 := hv0.out
        show textLeft _ _ _ < textLeft _ _ _
        unfold textLeft
        rw [h8, h9]
        simp only [bs_size, List.length_cons]
        split <;> split <;> omega
set_option maxRecDepth 4096 in
set_option maxHeartbeats 1000000 in
theorem ref07_wrong (l : List UInt8) (w : World) (hl : l.length ≤ 1000000) :
    Calls Tryz.prog 113 #[.string (bs l)] w fun e w' => e = .returned (.int .i64 (wrongI l)) ∧ w = w' := by
  cases l with
  | nil =>
    have hem : (bs []).toList.isEmpty = true := by rw [bs_list]; rfl
    go_enter Tryz.func113, Tryz.ntmps113
    go_wp2
    go_ret
    exact ⟨rfl, rfl⟩
  | cons y r =>
    have hem : (bs (y :: r)).toList.isEmpty = false := by rw [bs_list]; rfl
    have HW : Hid (wrongI (y :: r) = wrongFrom (y :: r) 0) := Lib.hid rfl
    have hsz := bs_size (y :: r)
    generalize y :: r = L at *
    go_enter Tryz.func113, Tryz.ntmps113
    go_wp2
    go_loop [3] (fun iv => ∃ k : Nat, k ≤ L.length ∧ iv = .int .i64 (k : Int) ∧ Hid (wrongFrom L 0 = wrongFrom (L.drop k) k)) (fun iv => L.length - (intOf iv).toNat)
    case atStart => exact ⟨0, by omega, rfl, Lib.hid rfl⟩
    case round =>
      obtain ⟨k, hk, rfl, Hk⟩ := hrel
      by_cases hlt : k < L.length
      · have hki : (k : Int) < (L.length : Int) := by omega
        have hget := bs_get L k hlt (by rw [bs_size]; exact hlt)
        have Hst : Hid (wrongFrom (L.drop k) k = if (L.getD k 0).toNat < 48 ∨ 57 < (L.getD k 0).toNat ∨ 60 ≤ k then (k : Int) else wrongFrom (L.drop (k + 1)) (k + 1)) := Lib.hid (by
          rw [List.drop_eq_getElem_cons hlt, wrongFrom, List.getD_eq_getElem?_getD, List.getElem?_eq_getElem hlt]; rfl)
        generalize (L.getD k 0).toNat = c at *
        by_cases hbad : c < 48 ∨ 57 < c ∨ 60 ≤ k
        · have Hfin : Hid (wrongI L = (k : Int)) := Lib.hid (by rw [HW.out, Hk.out, Hst.out, if_pos hbad])
          by_cases h1 : c < 48
          · clear hbad
            go_wp2
            go_ret
            exact ⟨ret_i64 Hfin.out.symm, rfl⟩
          · by_cases h2 : 57 < c
            · clear hbad
              go_wp2
              go_ret
              exact ⟨ret_i64 Hfin.out.symm, rfl⟩
            · have h3 : (60 : Int) ≤ (k : Int) := by omega
              clear hbad
              go_wp2
              go_ret
              exact ⟨ret_i64 Hfin.out.symm, rfl⟩
        · have Hnx : Hid (wrongFrom L 0 = wrongFrom (L.drop (k + 1)) (k + 1)) := Lib.hid (by rw [Hk.out, Hst.out, if_neg hbad])
          have h1 : ¬ c < 48 := fun h => hbad (.inl h)
          have h2 : ¬ 57 < c := fun h => hbad (.inr (.inl h))
          have h3 : (k : Int) < 60 := by omega
          clear hbad
          go_wp2
          go_round
          case rel => exact ⟨k + 1, by omega, by go_num, Hnx⟩
          case measure => simp [intOf]; omega
      · have Hfin : Hid (wrongI L = -1) := Lib.hid (by rw [HW.out, Hk.out, List.drop_of_length_le (by omega)]; rfl)
        have hki : ¬ ((k : Int) < (L.length : Int)) := by omega
        go_wp2
        go_ret
        exact ⟨ret_i64 Hfin.out.symm, rfl⟩
end Go.Proofs.YtjeigdlhjghinaaGreatDoor

/-
  The contracts of the document's answer for layer 8: Text.
-/
namespace Go.Proofs.YtjeigdlhjghinaaGreatDoor
open Go.RowKit

/-- A whole number as a text. -/
def ztxt (z : Int) : List UInt8 := if z < 0 then 45 :: txt z.natAbs else txt z.natAbs
theorem sgn_neg {z : Int} (h : z < 0) : sgn z = -1 := by unfold sgn; rw [if_neg (by omega), if_pos h]
theorem sgn_not {z : Int} (h : ¬ z < 0) : ¬ sgn z < 0 := by unfold sgn; split <;> (try split) <;> omega
theorem ref08_text (neg : Bool) (a : Option Addr) (n cap : Nat) (l : List Nat) (w : World) (h : Wd w a n cap l) (hn : n ≤ 100000) :
    Calls Tryz.prog 122 #[whV neg a n cap] w (Gives (.string (bs (ztxt (zval neg (val l))))) w) := by
  have hts : (txt (val l)).length ≤ 3200001 := by
    have h1 := val_lt h.ok
    rw [h.len, pow32] at h1
    have h2 := txt_length_le h1
    omega
  have hs1 := bs_size (txt (val l))
  have hs2 := bs_size [45]
  have hs3 := bs_append [45] (txt (val l))
  have HA : Hid ((zval neg (val l)).natAbs = val l) := Lib.hid (zval_abs _ _)
  have H := Lib.hid h
  clear h
  go_enter Tryz.func122, Tryz.ntmps122
  unfold whV
  go_wp2_with fail
  refine (ref07_text _ _ _ _ _ (H.out.later (below_alloc _ _)) hn).mono ?_
  rintro e w1 ⟨rfl, b1⟩
  have hA := box_at w w1 _ _ b1
  have c0 := blk_cell hA 0
  have c1 := blk_cell hA 1
  simp only [List.getElem?_toArray, List.getElem?_cons_zero, List.getElem?_cons_succ] at c0 c1
  have hB := below_then (below_alloc _ _) b1
  have H1 := Lib.hid (H.out.later hB)
  clear hA b1
  go_wp2_with fail
  refine (ref08_sign neg _ _ _ _ _ H1.out (by omega)).mono ?_
  rintro e w2 ⟨rfl, b2⟩
  have hB2 := below_then hB b2
  clear b2 c0 c1
  generalize zval neg (val l) = z at *
  by_cases hlt : z < 0
  · have HF : Hid (ztxt z = [45] ++ txt (val l)) := Lib.hid (by unfold ztxt; rw [if_pos hlt, HA.out]; rfl)
    rw [sgn_neg hlt]
    clear hlt
    simp only [List.length_cons, List.length_nil] at hs2
    go_wp2
    go_ret
    exact ⟨by rw [HF.out, ← hs3]; rfl, hB2⟩
  · have HF : Hid (ztxt z = txt (val l)) := Lib.hid (by unfold ztxt; rw [if_neg hlt, HA.out])
    have hsn := sgn_not hlt
    clear hlt
    generalize sgn z = s at *
    go_wp2
    go_ret
    exact ⟨by rw [HF.out]; rfl, hB2⟩
end Go.Proofs.YtjeigdlhjghinaaGreatDoor

/-
  Plain mathematics: whole numbers; the quotient that is rounded down; the machine's numbers; what a text says. Nothing of the program.
-/
namespace Go.Proofs.YtjeigdlhjghinaaGreatDoor

/-- Whether a whole number is one of the machine's; that one, or 0. -/
def isInt (z : Int) : Prop := -9223372036854775808 ≤ z ∧ z ≤ 9223372036854775807
instance (z : Int) : Decidable (isInt z) := by unfold isInt; infer_instance
/-- The place at which a text is no whole number (below 0: it is one), and the one that it is. -/
def zwrong : List UInt8 → Int
  | [] => 0
  | x :: r => if x.toNat = 45 then (if wrongI r < 0 then -1 else 1 + wrongI r) else wrongI (x :: r)
def zread : List UInt8 → Int
  | [] => 0
  | x :: r => if x.toNat = 45 then zval true (readV r) else zval false (readV (x :: r))
theorem zval_false (v : Nat) : zval false v = (v : Int) := rfl
theorem zval_true (v : Nat) : zval true v = -(v : Int) := rfl
theorem zlen_add (x y : Int) : (dg (x + y).natAbs).length ≤ (dg x.natAbs).length + (dg y.natAbs).length + 1 := Nat.le_trans (dg_length_mono (Int.natAbs_add_le x y)) (dg_add_length _ _)
theorem zlen_mul (x y : Int) : (dg (x * y).natAbs).length ≤ (dg x.natAbs).length + (dg y.natAbs).length := by rw [Int.natAbs_mul]; exact dg_mul_length _ _
end Go.Proofs.YtjeigdlhjghinaaGreatDoor

/-
  What package whole's functions owe (layer 8), as one hypothesis: the contracts that the laws' walks lean on. And the document's quotient: it is the one that is rounded down.
-/
namespace Go.Proofs.YtjeigdlhjghinaaGreatDoor
open Go.RowKit

/-- A right whole number and one more result. -/
def LstZV (z : Int) (v : Value) (w : World) (e : Ending) (w' : World) : Prop :=
  ∃ (a : Option Addr) (n cap : Nat), e = .returned (.tuple #[whV (zneg z) a n cap, v]) ∧ Wd w' a n cap (dg z.natAbs) ∧ Below w.heap.size w w'
theorem zval_dg (z : Int) : zval (zneg z) (val (dg z.natAbs)) = z := by rw [val_dg, zval_of]
structure WholeSaid : Prop where
  norm : ∀ (neg : Bool) (a : Option Addr) (n cap : Nat) (l : List Nat) (z : Int) (w : World), Wd w a n cap l → n ≤ 1000 → zval neg (val l) = z → Calls Tryz.prog 155 #[whV neg a n cap] w (LstZ z w)
  of : ∀ (z : Int) (w : World), isInt z → Calls Tryz.prog 85 #[.int .i64 z] w (LstZ z w)
  sign : ∀ (neg : Bool) (a : Option Addr) (n cap : Nat) (l : List Nat) (z : Int) (w : World), Wd w a n cap l → n ≤ 1000 → zval neg (val l) = z → Calls Tryz.prog 67 #[whV neg a n cap] w (Gives (.int .i64 (sgn z)) w)
  cmp : ∀ (na : Bool) (a : Option Addr) (n cap : Nat) (la : List Nat) (x : Int) (nb : Bool) (b : Option Addr) (m cap' : Nat) (lb : List Nat) (y : Int) (w : World), Wd w a n cap la → Wd w b m cap' lb → n ≤ 1000 → m ≤ 1000 → zval na (val la) = x → zval nb (val lb) = y →
    Calls Tryz.prog 84 #[whV na a n cap, whV nb b m cap'] w (Gives (.int .i64 (sgn (x - y))) w)
  add : ∀ (na : Bool) (a : Option Addr) (n cap : Nat) (la : List Nat) (x : Int) (nb : Bool) (b : Option Addr) (m cap' : Nat) (lb : List Nat) (y : Int) (w : World), Wd w a n cap la → Wd w b m cap' lb → n ≤ 1000 → m ≤ 1000 → zval na (val la) = x → zval nb (val lb) = y →
    Calls Tryz.prog 79 #[whV na a n cap, whV nb b m cap'] w (LstZ (x + y) w)
  mul : ∀ (na : Bool) (a : Option Addr) (n cap : Nat) (la : List Nat) (x : Int) (nb : Bool) (b : Option Addr) (m cap' : Nat) (lb : List Nat) (y : Int) (w : World), Wd w a n cap la → Wd w b m cap' lb → n ≤ 1000 → m ≤ 1000 → zval na (val la) = x → zval nb (val lb) = y →
    Calls Tryz.prog 129 #[whV na a n cap, whV nb b m cap'] w (LstZ (x * y) w)
  text : ∀ (neg : Bool) (a : Option Addr) (n cap : Nat) (l : List Nat) (z : Int) (w : World), Wd w a n cap l → n ≤ 1000 → zval neg (val l) = z → Hid (Dec10 w) → Calls Tryz.prog 116 #[whV neg a n cap] w (Gives (.string (bs (ztxt z))) w)
  read_ok : ∀ (l : List UInt8) (w : World), l.length ≤ 1000 → Hid (zwrong l < 0) → Calls Tryz.prog 106 #[.string (bs l)] w (LstZV (zread l) (faultV 0 0 0 0) w)
  read_no : ∀ (l : List UInt8) (w : World), l.length ≤ 1000 → Hid (0 ≤ zwrong l) → Calls Tryz.prog 106 #[.string (bs l)] w (LstZV 0 (faultV 1 0 0 (zwrong l)) w)
end Go.Proofs.YtjeigdlhjghinaaGreatDoor

/-
  The contracts of package prod (layer 4) at this seat: Mul, Square.
-/
namespace Go.Proofs.YtjeigdlhjghinaaGreatDoor
open Go.RowKit

theorem limb_mul_nat4 (x y c d : Nat) (w : World) (hx : x < 4294967296) (hy : y < 4294967296) (hc : c < 4294967296) (hd : d < 4294967296) : Calls Tryz.prog 131 #[.int .u32 (x : Int), .int .u32 (y : Int), .int .u32 (c : Int), .int .u32 (d : Int)] w fun e w' =>
    ∃ z r : Nat, e = .returned (.tuple #[.int .u32 (z : Int), .int .u32 (r : Int)]) ∧ z < 4294967296 ∧ r < 4294967296 ∧ Hid (r + 4294967296 * z = x * y + (c + d)) ∧ w = w' :=
  (limb_mul x y c d w (by omega) (by omega) (by omega) (by omega) (by omega) (by omega) (by omega) (by omega)).mono fun e w' ⟨he, hw⟩ => by
    have h1 : x * y ≤ 4294967295 * 4294967295 := Nat.mul_le_mul (by omega) (by omega)
    have e0 : (x : Int) * (y : Int) = ((x * y : Nat) : Int) := by simp
    rw [e0] at he
    generalize x * y = p at *
    exact ⟨(p + (c + d)) / 4294967296, (p + (c + d)) % 4294967296, by rw [he, show ((p : Int) + c + d) / 4294967296 = (((p + (c + d)) / 4294967296 : Nat) : Int) by omega, show ((p : Int) + c + d) % 4294967296 = (((p + (c + d)) % 4294967296 : Nat) : Int) by omega], by omega, by omega, Lib.hid (by omega), hw⟩
theorem limb_mul_nat3 (x y c : Nat) (w : World) (hx : x < 4294967296) (hy : y < 4294967296) (hc : c < 4294967296) : Calls Tryz.prog 131 #[.int .u32 (x : Int), .int .u32 (y : Int), .int .u32 (c : Int), .int .u32 0] w fun e w' =>
    ∃ z r : Nat, e = .returned (.tuple #[.int .u32 (z : Int), .int .u32 (r : Int)]) ∧ z < 4294967296 ∧ r < 4294967296 ∧ Hid (r + 4294967296 * z = x * y + c) ∧ w = w' :=
  limb_mul_nat4 x y c 0 w hx hy hc (by omega)
set_option maxRecDepth 4096 in
set_option maxHeartbeats 2000000 in
theorem prod_mul (a : Option Addr) (na cap : Nat) (la : List Nat) (b : Option Addr) (nb cap' : Nat) (lb : List Nat) (w0 : World) (ha : Wd w0 a na cap la) (hb : Wd w0 b nb cap' lb) (hna : na ≤ 4000000) (hnb : nb ≤ 4000000) :
    Calls Tryz.prog 81 #[.slice a na cap, .slice b nb cap'] w0 (Lst (dg (val la * val lb)) w0) := by
  obtain ⟨i0, hi, hz0, hz1, hz2⟩ := info_parts infoU32
  have Hb0 := Lib.hid hb
  have Hla : Hid ((dg (val la)).length ≤ na) := Lib.hid (by rw [← ha.len]; exact dg_length_val_le ha.ok)
  have Hlb : Hid ((dg (val lb)).length ≤ nb) := Lib.hid (by rw [← hb.len]; exact dg_length_val_le hb.ok)
  go_enter Tryz.func81, Tryz.ntmps81
  go_wp2_with fail
  refine (natSaid.norm _ _ _ _ _ ha (by omega)).mono ?_
  rintro e w1 ⟨a, n, c1, rfl, h1, b1⟩
  have H1 := Lib.hid h1
  clear ha hb h1
  go_wp2_with fail
  refine (natSaid.norm _ _ _ _ _ (Hb0.out.later b1) (by omega)).mono ?_
  rintro e w ⟨b, m, c2, rfl, h2, b2⟩
  have Ha := Lib.hid (H1.out.later b2)
  have Hb := Lib.hid h2
  have hn : n ≤ 4000000 := by have h1 := H1.out.len; have h2 := Hla.out; omega
  have hm : m ≤ 4000000 := by have h1 := Hb.out.len; have h2 := Hlb.out; omega
  have HB0 := Lib.hid (below_then b1 b2)
  have Hv : Hid (val (dg (val la)) * val (dg (val lb)) = val la * val lb) := Lib.hid (by rw [val_dg, val_dg])
  clear H1 Hb0 h2 b1 b2 Hla Hlb hna hnb
  generalize dg (val la) = A at *
  generalize dg (val lb) = B at *
  obtain ⟨N, hN⟩ : ∃ N : Nat, (n : Int) + (m : Int) = (N : Int) := ⟨n + m, by omega⟩
  have HN : Hid (N = n + m) := Lib.hid (by omega)
  have hNb : N ≤ 8000000 := by omega
  go_wp2_with (at_make; refine wpList_make_words _ rfl _ _ 37 rfl w.heap.size 91 i0 (.int .u32 0) Tryz.underlying37 hi hz0 hz1 rfl .i64 .i64 _ _ N N rfl rfl rfl rfl (Nat.le_refl _) (by rw [hz2]; omega) (by unfold maxLen; omega) (Nat.le_refl _) ?_; intro w1 hown1 hgrow1)
  rw [zeros_cells] at hown1
  have HO1 : Hid (Own w1 w.heap.size w.heap.size N N (List.replicate N 0)) := Lib.hid ⟨hown1, okw_zeros N⟩
  have hB1 : Below w.heap.size w w1 := (Below.refl _ _).grown hgrow1 (Nat.le_refl _) (fun k hk => by cases hk)
  clear hown1 hgrow1
  go_loopw [23] (fun iv wr => ∃ (i : Nat) (P : List Nat), i ≤ n ∧ iv = .int .i64 (i : Int) ∧ Hid (RowAt A B P m i) ∧ Hid (Own wr w.heap.size w.heap.size N N P) ∧ Below w.heap.size w wr) (fun iv _ => n - (intOf iv).toNat)
  case atStart => exact ⟨0, List.replicate N 0, by omega, rfl, Lib.hid (row_start _ _ _ _), HO1, hB1⟩
  case round =>
    clear HO1 hB1
    obtain ⟨i, P, hin, rfl, HR, HO, hB⟩ := hrel
    by_cases hlt : i < n
    · have hii : (i : Int) < (n : Int) := by omega
      obtain ⟨ba, oa, rfl, hca⟩ := (Ha.out.later hB).at (by omega)
      have hcai := hca i hlt
      have hxw := atw_lt Ha.out.ok i
      obtain ⟨x, hxx⟩ : ∃ x, x = atw A i := ⟨_, rfl⟩
      rw [← hxx] at hxw hcai
      have Hx := Lib.hid hxx
      clear hca hxx
      go_wp2
      go_loopw [8, 30] (fun sv jv wr => ∃ (j c : Nat) (P : List Nat), j ≤ m ∧ jv = .int .i64 (j : Int) ∧ sv = .int .u32 (c : Int) ∧ c < 4294967296 ∧ Hid (CellAt A B P m i j c) ∧ Hid (Own wr w.heap.size w.heap.size N N P) ∧ Below w.heap.size w wr) (fun _ jv _ => m - (intOf jv).toNat)
      case atStart => exact ⟨0, 0, P, by omega, rfl, rfl, by omega, Lib.hid (cell_start HR.out), HO, hB⟩
      case round =>
        clear HO hB HR hcai
        obtain ⟨j, c, P, hjm, rfl, rfl, hc, HC, HO, hB⟩ := hrel
        by_cases hjl : j < m
        · have hji : (j : Int) < (m : Int) := by omega
          obtain ⟨bb, ob, rfl, hcb⟩ := (Hb.out.later hB).at (by omega)
          have hcbj := hcb j hjl
          have hyw := atw_lt Hb.out.ok j
          obtain ⟨y, hyy⟩ : ∃ y, y = atw B j := ⟨_, rfl⟩
          rw [← hyy] at hyw hcbj
          have Hy := Lib.hid hyy
          obtain ⟨q, hq⟩ : ∃ q : Nat, (i : Int) + (j : Int) = (q : Int) := ⟨i + j, by omega⟩
          have Hq : Hid (q = i + j) := Lib.hid (by omega)
          have hqN : q < N := by have := HN.out; omega
          have hqi : (q : Int) < (N : Int) := by omega
          have hcell := HO.out.cell (k := q) hqN
          have hfro := HO.out.1.frozenAt q
          have huw := atw_lt HO.out.2 q
          obtain ⟨u, huu⟩ : ∃ u, u = atw P q := ⟨_, rfl⟩
          rw [← huu] at huw hcell
          have Hu := Lib.hid huu
          have hb := HO.out.base
          clear hcb hyy huu
          go_wp2_with fail
          refine (limb_mul_nat4 x y u c _ hxw hyw huw hc).mono ?_
          rintro e w' ⟨z, r, rfl, hz, hr, Hs, rfl⟩
          have HOs := Lib.hid (HO.out.set q r hr)
          have HBs := Lib.hid (hB.setCell (p := ⟨w.heap.size, q, none⟩) hb.1 (.int .u32 (r : Int)))
          go_wp2
          go_roundw
          case rel =>
            exact ⟨j + 1, z, P.set q r, by omega, by go_num, rfl, hz, Lib.hid (by
              have h1 := HC.out
              have h2 := HN.out
              have h3 := HO.out.len
              obtain rfl := Hq.out
              exact cell_step h1 hjl (by omega) (by rw [← Hx.out, ← Hy.out, ← Hu.out]; exact Hs.out)), HOs, HBs.out⟩
          case measure => simp [intOf]; omega
        · obtain rfl : j = m := by omega
          obtain ⟨q, hq⟩ : ∃ q : Nat, (i : Int) + (j : Int) = (q : Int) := ⟨i + j, by omega⟩
          have Hq : Hid (q = i + j) := Lib.hid (by omega)
          have hqN : q < N := by have := HN.out; omega
          have hqi : (q : Int) < (N : Int) := by omega
          have hcell := HO.out.cell (k := q) hqN
          have hfro := HO.out.1.frozenAt q
          generalize atw P q = u at hcell
          have hb := HO.out.base
          have HOs := Lib.hid (HO.out.set q c hc)
          have HBs := Lib.hid (hB.setCell (p := ⟨w.heap.size, q, none⟩) hb.1 (.int .u32 (c : Int)))
          go_wp2
          go_roundw
          case rel =>
            exact ⟨i + 1, P.set q c, by omega, by go_num, Lib.hid (by
              have h1 := HC.out
              have h2 := HN.out
              have h3 := HO.out.len
              obtain rfl := Hq.out
              exact row_next h1 Hb.out.len (by omega)), HOs, HBs.out⟩
          case measure => simp [intOf]; omega
    · obtain rfl : i = n := by omega
      have Hw : Hid (val P = val la * val lb) := Lib.hid (by rw [← Hv.out]; exact row_end HR.out Ha.out.len)
      go_wp2_with fail
      refine (natSaid.norm _ _ _ _ _ HO.out.wd (by omega)).mono ?_
      rintro e w' ⟨a', n', c', rfl, hwd, hbel⟩
      rw [Hw.out] at hwd
      have HWD := Lib.hid hwd
      clear hwd
      go_wp2
      go_ret
      exact ⟨_, _, _, rfl, HWD.out, below_then HB0.out (below_then hB hbel)⟩
theorem prod_square (a : Option Addr) (n cap : Nat) (l : List Nat) (w : World) (h : Wd w a n cap l) (hn : n ≤ 4000000) :
    Calls Tryz.prog 176 #[.slice a n cap] w (Lst (dg (val l * val l)) w) := by
  go_enter Tryz.func176, Tryz.ntmps176
  go_wp2_with fail
  refine (prod_mul _ _ _ _ _ _ _ _ _ h h hn hn).mono ?_
  rintro e w' ⟨a', n', c', rfl, hwd, hbel⟩
  go_wp2
  go_ret
  exact ⟨_, _, _, rfl, hwd, hbel⟩
end Go.Proofs.YtjeigdlhjghinaaGreatDoor

/-
  The contracts of the document's answer for layer 8: Add, Mul.
-/
namespace Go.Proofs.YtjeigdlhjghinaaGreatDoor
open Go.RowKit

/-- Three boxes of a call. -/
theorem boxes3_at (w : World) (x y z : Array Value) (t s r : TypeId) :
    (((w.alloc (.cells x t)).alloc (.cells y s)).alloc (.cells z r)).heap[w.heap.size]? = some (.cells x t (0, 0)) ∧ (((w.alloc (.cells x t)).alloc (.cells y s)).alloc (.cells z r)).heap[w.heap.size + 1]? = some (.cells y s (0, 0)) ∧ (((w.alloc (.cells x t)).alloc (.cells y s)).alloc (.cells z r)).heap[w.heap.size + 1 + 1]? = some (.cells z r (0, 0)) := by
  obtain ⟨h1, h2⟩ := boxes_at w (((w.alloc (.cells x t)).alloc (.cells y s)).alloc (.cells z r)) x y t s (below_alloc _ _)
  refine ⟨h1, h2, ?_⟩
  have h3 := blk_new ((w.alloc (.cells x t)).alloc (.cells y s)) z r
  rw [blk_size, blk_size] at h3
  exact h3
theorem four_cells {w : World} {A B : Nat} {x y z u : Value} {t s : TypeId} (h1 : w.heap[A]? = some (.cells #[x, y] t (0, 0))) (h2 : w.heap[B]? = some (.cells #[z, u] s (0, 0))) :
    w.cell? ⟨A, 0, none⟩ = some x ∧ w.cell? ⟨A, 1, none⟩ = some y ∧ w.cell? ⟨B, 0, none⟩ = some z ∧ w.cell? ⟨B, 1, none⟩ = some u := ⟨blk_cell h1 0, blk_cell h1 1, blk_cell h2 0, blk_cell h2 1⟩
theorem blk_apart {w : World} {A g : Nat} {o : Obj} (h : w.heap[A]? = some o) (hne : A ≠ g) (i : Nat) (u : Value) : (w.setCell ⟨g, i, none⟩ u).heap[A]? = some o := (Below.heap_setCell w ⟨g, i, none⟩ u A hne).trans h
theorem four_stored {w : World} {A B g : Nat} {x y z u : Value} {t s : TypeId} (h1 : w.heap[A]? = some (.cells #[x, y] t (0, 0))) (h2 : w.heap[B]? = some (.cells #[z, u] s (0, 0))) (hA : A ≠ g) (hB : B ≠ g) (p q : Value) :
    ((w.setCell ⟨g, 0, none⟩ p).setCell ⟨g, 1, none⟩ q).cell? ⟨A, 0, none⟩ = some x ∧ ((w.setCell ⟨g, 0, none⟩ p).setCell ⟨g, 1, none⟩ q).cell? ⟨A, 1, none⟩ = some y ∧ ((w.setCell ⟨g, 0, none⟩ p).setCell ⟨g, 1, none⟩ q).cell? ⟨B, 0, none⟩ = some z ∧ ((w.setCell ⟨g, 0, none⟩ p).setCell ⟨g, 1, none⟩ q).cell? ⟨B, 1, none⟩ = some u :=
  four_cells (blk_apart (blk_apart h1 hA 0 p) hA 1 q) (blk_apart (blk_apart h2 hB 0 p) hB 1 q)
theorem zval_add_same (neg : Bool) (u v : Nat) : zval neg (u + v) = zval neg u + zval neg v := by unfold zval; cases neg <;> simp <;> omega
theorem zval_add_less {na nb : Bool} {u v : Nat} (hne : na ≠ nb) (h : u < v) : zval nb (v - u) = zval na u + zval nb v := by
  unfold zval; cases na <;> cases nb <;> simp at hne ⊢ <;> omega
theorem zval_add_more {na nb : Bool} {u v : Nat} (hne : na ≠ nb) (h : v ≤ u) : zval na (u - v) = zval na u + zval nb v := by
  unfold zval; cases na <;> cases nb <;> simp at hne ⊢ <;> omega
theorem zval_mul (na nb : Bool) (u v : Nat) : zval (!(na == nb)) (u * v) = zval na u * zval nb v := by
  unfold zval; cases na <;> cases nb <;> simp [Int.neg_mul, Int.mul_neg]
end Go.Proofs.YtjeigdlhjghinaaGreatDoor

/-
  Package whole at this seat: signed, turned, Compare; Norm, Sign, Cmp, Neg, Mul.
-/
namespace Go.Proofs.YtjeigdlhjghinaaGreatDoor
open Go.RowKit

theorem two_cells {w : World} {A : Nat} {x y : Value} {t : TypeId} (h1 : w.heap[A]? = some (.cells #[x, y] t (0, 0))) : w.cell? ⟨A, 0, none⟩ = some x ∧ w.cell? ⟨A, 1, none⟩ = some y := ⟨blk_cell h1 0, blk_cell h1 1⟩
theorem two_stored {w : World} {A g : Nat} {x y : Value} {t : TypeId} (h1 : w.heap[A]? = some (.cells #[x, y] t (0, 0))) (hA : A ≠ g) (p q : Value) :
    ((w.setCell ⟨g, 0, none⟩ p).setCell ⟨g, 1, none⟩ q).cell? ⟨A, 0, none⟩ = some x ∧ ((w.setCell ⟨g, 0, none⟩ p).setCell ⟨g, 1, none⟩ q).cell? ⟨A, 1, none⟩ = some y := two_cells (blk_apart (blk_apart h1 hA 0 p) hA 1 q)
theorem whole_signed (neg : Bool) (a : Option Addr) (n cap v : Nat) (w : World) (h : Wd w a n cap (dg v)) (hn : n ≤ 16777214) : Calls Tryz.prog 127 #[.bool neg, .slice a n cap] w (LstZ (zval neg v) w) := by
  have HA : Hid ((zval neg v).natAbs = v) := Lib.hid (zval_abs _ _)
  have H := Lib.hid h
  clear h
  cases neg with
  | false =>
    have HZ : Hid (zneg (zval false v) = false) := Lib.hid (by rw [zval_neg]; rfl)
    have HG := Lib.hid (blk_new w #[.bool false, .slice a n cap] 39)
    go_enter Tryz.func127, Tryz.ntmps127
    go_wp2
    refine bodyPost_ret (results_cell_row Tryz.results127 _ _ (w.heap.size) 39 #[.bool false, .slice a n cap] (0, 0) _ rfl HG.out Tryz.underlying39 rfl (by kernel_rfl)) rfl ?_
    exact ⟨a, n, cap, by rw [HZ.out]; rfl, by rw [HA.out]; exact H.out.later (below_alloc _ _), below_alloc _ _⟩
  | true =>
    go_enter Tryz.func127, Tryz.ntmps127
    go_wp2_with fail
    refine (natSaid.zero _ _ _ _ _ (H.out.later (below_alloc _ _)) hn).mono ?_
    rintro e w1 ⟨rfl, b1⟩
    rw [val_dg]
    have hR := box_at w w1 _ _ b1
    have r0 := blk_cell hR 0
    have r1 := blk_cell hR 1
    have f0 := blk_free hR 0
    have f1 := blk_free hR 1
    simp only [List.getElem?_toArray, List.getElem?_cons_zero, List.getElem?_cons_succ] at r0 r1
    have HR := Lib.hid hR
    have HB := Lib.hid (below_then (below_alloc _ _) b1)
    have H1 := Lib.hid (H.out.later HB.out)
    clear hR b1
    by_cases hv : v = 0
    · have HZ : Hid (zneg (zval true v) = false) := Lib.hid (by rw [hv]; rfl)
      rw [decide_eq_true hv]
      clear hv
      have HG := Lib.hid (blk_set2 HR.out (.bool false) (.slice a n cap))
      have HS := Lib.hid (H1.out.stored2 HR.out false (.slice a n cap))
      have HB2 := Lib.hid (below_set2 HB.out (show w.heap.size ≤ w.heap.size from Nat.le_refl _) (.bool false) (.slice a n cap))
      go_wp2
      refine bodyPost_ret (results_cell_row Tryz.results127 _ _ (w.heap.size) 39 #[.bool false, .slice a n cap] (0, 0) _ rfl HG.out Tryz.underlying39 rfl (by kernel_rfl)) rfl ?_
      exact ⟨a, n, cap, by rw [HZ.out]; rfl, by rw [HA.out]; exact HS.out, HB2.out⟩
    · have HZ : Hid (zneg (zval true v) = true) := Lib.hid (by rw [zval_neg, decide_eq_true hv]; rfl)
      rw [decide_eq_false hv]
      clear hv
      have HG := Lib.hid (blk_set2 HR.out (.bool true) (.slice a n cap))
      have HS := Lib.hid (H1.out.stored2 HR.out true (.slice a n cap))
      have HB2 := Lib.hid (below_set2 HB.out (show w.heap.size ≤ w.heap.size from Nat.le_refl _) (.bool true) (.slice a n cap))
      go_wp2
      refine bodyPost_ret (results_cell_row Tryz.results127 _ _ (w.heap.size) 39 #[.bool true, .slice a n cap] (0, 0) _ rfl HG.out Tryz.underlying39 rfl (by kernel_rfl)) rfl ?_
      exact ⟨a, n, cap, by rw [HZ.out]; rfl, by rw [HA.out]; exact HS.out, HB2.out⟩
theorem cmp_isNaN (x : Int) (w : World) : Calls Tryz.prog 132 #[.int .i64 x] w (fun e w' => e = .returned (.bool false) ∧ w' = w) := by
  have hx : (x == x) = true := by simp
  go_enter Tryz.func132, Tryz.ntmps132
  go_wp2
  go_ret
  exact ⟨rfl, rfl⟩
theorem cmp_Compare (x y : Int) (w : World) : Calls Tryz.prog 83 #[.int .i64 x, .int .i64 y] w (fun e w' => e = .returned (.int .i64 (sgn (x - y))) ∧ w' = w) := by
  go_enter Tryz.func83, Tryz.ntmps83
  go_wp2_with fail
  refine (cmp_isNaN x _).mono ?_
  rintro e w' ⟨rfl, rfl⟩
  go_wp2_with fail
  refine (cmp_isNaN y _).mono ?_
  rintro e w' ⟨rfl, rfl⟩
  by_cases h1 : x < y
  · have HS : Hid (sgn (x - y) = -1) := Lib.hid (by unfold sgn; rw [if_neg (by omega), if_pos (by omega)])
    go_wp2
    go_ret
    exact ⟨by rw [HS.out]; rfl, rfl⟩
  · by_cases h2 : y < x
    · have HS : Hid (sgn (x - y) = 1) := Lib.hid (by unfold sgn; rw [if_neg (by omega), if_neg (by omega)])
      go_wp2
      go_ret
      exact ⟨by rw [HS.out]; rfl, rfl⟩
    · have HS : Hid (sgn (x - y) = 0) := Lib.hid (by unfold sgn; rw [if_pos (by omega)])
      go_wp2
      go_ret
      exact ⟨by rw [HS.out]; rfl, rfl⟩
set_option maxRecDepth 4096 in
set_option maxHeartbeats 2000000 in
theorem whole_norm (neg : Bool) (a : Option Addr) (n cap : Nat) (l : List Nat) (w : World) (h : Wd w a n cap l) (hn : n ≤ 100000) :
    Calls Tryz.prog 155 #[whV neg a n cap] w (LstZ (zval neg (val l)) w) := by
  have hB2 : Below w.heap.size w ((w.alloc (.cells #[.bool neg, .slice a n cap] 39)).alloc (.cells #[.bool false, .slice none 0 0] 39)) := below_then (below_alloc _ _) (below_alloc _ _)
  have Ha := Lib.hid (h.later hB2)
  have HB := Lib.hid hB2
  have hAR := boxes_at w ((w.alloc (.cells #[.bool neg, .slice a n cap] 39)).alloc (.cells #[.bool false, .slice none 0 0] 39)) #[.bool neg, .slice a n cap] #[.bool false, .slice none 0 0] 39 39 (Below.refl _ _)
  have hpl : (dg (val l)).length ≤ 100000 := Nat.le_trans h.trim_le hn
  clear h hB2
  go_enter Tryz.func155, Tryz.ntmps155
  unfold whV
  go_wp2
  generalize ((w.alloc (.cells #[.bool neg, .slice a n cap] 39)).alloc (.cells #[.bool false, .slice none 0 0] 39)) = W at *
  have HAd : Hid (W.drew.heap[w.heap.size]? = some (.cells #[.bool neg, .slice a n cap] 39 (0, 0))) := Lib.hid hAR.1
  have HRd : Hid (W.drew.heap[w.heap.size + 1]? = some (.cells #[.bool false, .slice none 0 0] 39 (0, 0))) := Lib.hid hAR.2
  have Hd : Below W.heap.size W W.drew := (Below.refl _ _).drew
  have Sd := two_cells HAd.out
  clear hAR
  go_region_held3 (fun w' => w'.cell? ⟨w.heap.size, 0, none⟩ = some (.bool neg) ∧ w'.cell? ⟨w.heap.size, 1, none⟩ = some (.slice a n cap)) (first | exact Sd | exact Sq1 | exact Sq2 | exact Sq3 _ _)
    (first
    | (go_at_call 130; (refine (natSaid.norm a n cap l _ (Ha.out.later Hd) ?q3).mono ?_); (case q3 => omega); rintro e w1 ⟨a1, n1, c1, rfl, h1, b1⟩; have hA1 := blk_later HAd.out b1; have Sq1 := two_cells hA1)
    | (go_at_call 127; (refine (whole_signed neg a1 n1 c1 _ _ h1 ?q5).mono ?_); (case q5 => have := h1.len; omega); rintro e w2 ⟨a2, n2, c2, rfl, h2, b2⟩; have Sq2 := two_cells (blk_later hA1 b2); have Sq3 := two_stored (g := w.heap.size + 1) (blk_later hA1 b2) (by omega); have hRb := blk_later (blk_later HRd.out b1) b2; have r0 := blk_cell hRb 0; have r1 := blk_cell hRb 1; have f0 := blk_free hRb 0; have f1 := blk_free hRb 1; simp only [List.getElem?_toArray, List.getElem?_cons_zero, List.getElem?_cons_succ] at r0 r1; unfold whV))
  have hBe := Lib.hid (below_then HB.out (below_then Hd (below_then b1 b2)))
  have H2 := Lib.hid h2
  have hl2 := Lib.hid hRb
  have HF := Lib.hid (H2.out.stored2 hl2.out (zneg (zval neg (val l))) (.slice a2 n2 c2))
  have HG := Lib.hid (blk_set2 hl2.out (.bool (zneg (zval neg (val l)))) (.slice a2 n2 c2))
  have HB2 := Lib.hid (below_set2 hBe.out (show w.heap.size ≤ w.heap.size + 1 by omega) (.bool (zneg (zval neg (val l)))) (.slice a2 n2 c2))
  generalize zval neg (val l) = z at *
  go_wp2
  refine bodyPost_ret (results_cell_row Tryz.results155 _ _ (w.heap.size + 1) 39 #[.bool (zneg z), .slice a2 n2 c2] (0, 0) _ rfl HG.out Tryz.underlying39 rfl (by kernel_rfl)) rfl ?_
  exact ⟨a2, n2, c2, rfl, HF.out, HB2.out⟩
theorem whole_sign (neg : Bool) (a : Option Addr) (n cap : Nat) (l : List Nat) (w : World) (h : Wd w a n cap l) (hn : n ≤ 100000) :
    Calls Tryz.prog 67 #[whV neg a n cap] w (Gives (.int .i64 (sgn (zval neg (val l)))) w) := by
  have H := Lib.hid h
  clear h
  go_enter Tryz.func67, Tryz.ntmps67
  unfold whV
  go_wp2_with fail
  refine (natSaid.zero _ _ _ _ _ (H.out.later (below_alloc _ _)) (by omega)).mono ?_
  rintro e w1 ⟨rfl, b1⟩
  have hA := box_at w w1 _ _ b1
  have r0 := blk_cell hA 0
  have r1 := blk_cell hA 1
  simp only [List.getElem?_toArray, List.getElem?_cons_zero, List.getElem?_cons_succ] at r0 r1
  have HB := Lib.hid (below_then (below_alloc _ _) b1)
  clear hA b1 H
  generalize val l = v at *
  by_cases hv : v = 0
  · have HS : Hid (sgn (zval neg v) = 0) := Lib.hid (by rw [hv]; cases neg <;> rfl)
    rw [decide_eq_true hv]
    clear hv
    go_wp2
    go_ret
    exact ⟨by rw [HS.out]; rfl, HB.out⟩
  · rw [decide_eq_false hv]
    cases neg with
    | true =>
      have HS : Hid (sgn (zval true v) = -1) := Lib.hid (by rw [zval_true]; exact sgn_neg (by omega))
      clear hv
      go_wp2
      go_ret
      exact ⟨by rw [HS.out]; rfl, HB.out⟩
    | false =>
      have HS : Hid (sgn (zval false v) = 1) := Lib.hid (by rw [zval_false]; unfold sgn; rw [if_neg (by omega), if_neg (by omega)])
      clear hv
      go_wp2
      go_ret
      exact ⟨by rw [HS.out]; rfl, HB.out⟩
set_option maxRecDepth 4096 in
set_option maxHeartbeats 4000000 in
theorem whole_mul (na : Bool) (a : Option Addr) (n cap : Nat) (la : List Nat) (nb : Bool) (b : Option Addr) (m cap' : Nat) (lb : List Nat) (w : World) (ha : Wd w a n cap la) (hb : Wd w b m cap' lb) (hn : n ≤ 100000) (hm : m ≤ 100000) :
    Calls Tryz.prog 129 #[whV na a n cap, whV nb b m cap'] w (LstZ (zval na (val la) * zval nb (val lb)) w) := by
  have hB3 : Below w.heap.size w (((w.alloc (.cells #[.bool na, .slice a n cap] 39)).alloc (.cells #[.bool nb, .slice b m cap'] 39)).alloc (.cells #[.bool false, .slice none 0 0] 39)) := below_then (below_then (below_alloc _ _) (below_alloc _ _)) (below_alloc _ _)
  have Ha := Lib.hid (ha.later hB3)
  have Hb := Lib.hid (hb.later hB3)
  have HB := Lib.hid hB3
  have h3b := boxes3_at w #[.bool na, .slice a n cap] #[.bool nb, .slice b m cap'] #[.bool false, .slice none 0 0] 39 39 39
  have HAo := Lib.hid h3b.1
  have HBo := Lib.hid h3b.2.1
  have HRo := Lib.hid h3b.2.2
  have HV := Lib.hid (zval_mul na nb (val la) (val lb))
  have hpl : Hid ((dg (val la * val lb)).length ≤ 200000) := Lib.hid (by
    have h1 := dg_mul_length (val la) (val lb)
    have h2 := ha.trim_le
    have h3 := hb.trim_le
    omega)
  clear ha hb hB3 h3b
  go_enter Tryz.func129, Tryz.ntmps129
  unfold whV
  go_wp2
  generalize (((w.alloc (.cells #[.bool na, .slice a n cap] 39)).alloc (.cells #[.bool nb, .slice b m cap'] 39)).alloc (.cells #[.bool false, .slice none 0 0] 39)) = W at *
  have HAd : Hid (W.drew.heap[w.heap.size]? = some (.cells #[.bool na, .slice a n cap] 39 (0, 0))) := Lib.hid HAo.out
  have HBd : Hid (W.drew.heap[w.heap.size + 1]? = some (.cells #[.bool nb, .slice b m cap'] 39 (0, 0))) := Lib.hid HBo.out
  have HRd : Hid (W.drew.heap[w.heap.size + 1 + 1]? = some (.cells #[.bool false, .slice none 0 0] 39 (0, 0))) := Lib.hid HRo.out
  have Hd : Below W.heap.size W W.drew := (Below.refl _ _).drew
  have Sd := four_cells HAd.out HBd.out
  clear HAo HBo HRo
  go_region_held3 (fun w' => w'.cell? ⟨w.heap.size, 0, none⟩ = some (.bool na) ∧ w'.cell? ⟨w.heap.size, 1, none⟩ = some (.slice a n cap) ∧ w'.cell? ⟨w.heap.size + 1, 0, none⟩ = some (.bool nb) ∧ w'.cell? ⟨w.heap.size + 1, 1, none⟩ = some (.slice b m cap')) (first | exact Sd | exact Sq0 | exact Sq1 | exact Sq2 | exact Sq3 _ _)
    (first
    | (go_at_call 81; (refine (prod_mul a n cap la b m cap' lb _ (Ha.out.later Hd) (Hb.out.later Hd) ?q3 ?q4).mono ?_); (case q3 => omega); (case q4 => omega); rintro e w1 ⟨a1, n1, c1, rfl, h1, bq1⟩; have hA1 := blk_later HAd.out bq1; have hB1 := blk_later HBd.out bq1; have Sq1 := four_cells hA1 hB1)
    | (go_at_call 127; (refine (whole_signed _ a1 n1 c1 _ _ h1 ?q5).mono ?_); (case q5 => have h7 := h1.len; have h8 := hpl.out; omega); rintro e w2 ⟨a2, n2, c2, rfl, h2, b2⟩; have Sq2 := four_cells (blk_later hA1 b2) (blk_later hB1 b2); have Sq3 := four_stored (g := w.heap.size + 1 + 1) (blk_later hA1 b2) (blk_later hB1 b2) (by omega) (by omega); have hRb := blk_later (blk_later HRd.out bq1) b2; have r0 := blk_cell hRb 0; have r1 := blk_cell hRb 1; have f0 := blk_free hRb 0; have f1 := blk_free hRb 1; simp only [List.getElem?_toArray, List.getElem?_cons_zero, List.getElem?_cons_succ] at r0 r1; unfold whV))
  have hBe := Lib.hid (below_then HB.out (below_then Hd (below_then bq1 b2)))
  have H2 := Lib.hid h2
  have hl2 := Lib.hid hRb
  have HF := Lib.hid (H2.out.stored2 hl2.out (zneg (zval (!(na == nb)) (val la * val lb))) (.slice a2 n2 c2))
  have HG := Lib.hid (blk_set2 hl2.out (.bool (zneg (zval (!(na == nb)) (val la * val lb)))) (.slice a2 n2 c2))
  have HB2 := Lib.hid (below_set2 hBe.out (show w.heap.size ≤ w.heap.size + 1 + 1 by omega) (.bool (zneg (zval (!(na == nb)) (val la * val lb)))) (.slice a2 n2 c2))
  rw [HV.out] at HF HG HB2
  rw [HV.out]
  generalize zval na (val la) * zval nb (val lb) = z at *
  go_wp2
  refine bodyPost_ret (results_cell_row Tryz.results129 _ _ (w.heap.size + 1 + 1) 39 #[.bool (zneg z), .slice a2 n2 c2] (0, 0) _ rfl HG.out Tryz.underlying39 rfl (by kernel_rfl)) rfl ?_
  exact ⟨a2, n2, c2, rfl, HF.out, HB2.out⟩
theorem sgn_vals {na nb : Bool} {u v : Nat} (h : sgn (zval na u) = sgn (zval nb v)) : sgn (zval na u) * cmpI u v = sgn (zval na u - zval nb v) := by
  unfold sgn zval cmpI at *
  cases na <;> cases nb <;> simp at h ⊢ <;> (repeat' split at h) <;> (repeat' split) <;> omega
theorem sgn_diff {x y : Int} (h : sgn x ≠ sgn y) : sgn (sgn x - sgn y) = sgn (x - y) := by
  unfold sgn at *
  (repeat' split at h) <;> (repeat' split) <;> omega
set_option maxRecDepth 4096 in
set_option maxHeartbeats 4000000 in
theorem whole_cmp (na : Bool) (a : Option Addr) (n cap : Nat) (la : List Nat) (nb : Bool) (b : Option Addr) (m cap' : Nat) (lb : List Nat) (w : World) (ha : Wd w a n cap la) (hb : Wd w b m cap' lb) (hn : n ≤ 100000) (hm : m ≤ 100000) :
    Calls Tryz.prog 84 #[whV na a n cap, whV nb b m cap'] w (Gives (.int .i64 (sgn (zval na (val la) - zval nb (val lb)))) w) := by
  have hB3 : Below w.heap.size w ((w.alloc (.cells #[.bool na, .slice a n cap] 39)).alloc (.cells #[.bool nb, .slice b m cap'] 39)) := below_then (below_alloc _ _) (below_alloc _ _)
  have Ha := Lib.hid (ha.later hB3)
  have Hb := Lib.hid (hb.later hB3)
  have HB := Lib.hid hB3
  have h3b := boxes_at w ((w.alloc (.cells #[.bool na, .slice a n cap] 39)).alloc (.cells #[.bool nb, .slice b m cap'] 39)) #[.bool na, .slice a n cap] #[.bool nb, .slice b m cap'] 39 39 (Below.refl _ _)
  have HAo := Lib.hid h3b.1
  have HBo := Lib.hid h3b.2
  have HE : Hid (sgn (zval na (val la)) = sgn (zval nb (val lb)) → sgn (zval na (val la)) * cmpI (val la) (val lb) = sgn (zval na (val la) - zval nb (val lb))) := Lib.hid sgn_vals
  have HN : Hid (sgn (zval na (val la)) ≠ sgn (zval nb (val lb)) → sgn (sgn (zval na (val la)) - sgn (zval nb (val lb))) = sgn (zval na (val la) - zval nb (val lb))) := Lib.hid sgn_diff
  have hra := sgn_range (zval na (val la))
  have hrb := sgn_range (zval nb (val lb))
  clear ha hb hB3 h3b
  go_enter Tryz.func84, Tryz.ntmps84
  unfold whV
  go_wp2
  generalize ((w.alloc (.cells #[.bool na, .slice a n cap] 39)).alloc (.cells #[.bool nb, .slice b m cap'] 39)) = W at *
  have HAd : Hid (W.drew.heap[w.heap.size]? = some (.cells #[.bool na, .slice a n cap] 39 (0, 0))) := Lib.hid HAo.out
  have HBd : Hid (W.drew.heap[w.heap.size + 1]? = some (.cells #[.bool nb, .slice b m cap'] 39 (0, 0))) := Lib.hid HBo.out
  have Hd : Below W.heap.size W W.drew := (Below.refl _ _).drew
  have Sd := four_cells HAd.out HBd.out
  clear HAo HBo
  go_region_held3 (fun w' => w'.cell? ⟨w.heap.size, 0, none⟩ = some (.bool na) ∧ w'.cell? ⟨w.heap.size, 1, none⟩ = some (.slice a n cap) ∧ w'.cell? ⟨w.heap.size + 1, 0, none⟩ = some (.bool nb) ∧ w'.cell? ⟨w.heap.size + 1, 1, none⟩ = some (.slice b m cap')) (first | exact Sd | exact Sq1 | exact Sq2)
    (first
    | (go_at_call 67; (first
    | (have qm := M1; (refine (whole_sign nb b m cap' lb _ (Hb.out.later (below_then Hd b1)) ?q3).mono ?_); (case q3 => omega); rintro e w2 ⟨rfl, b2⟩; have Sq2 := four_cells (blk_later hA1 b2) (blk_later hB1 b2))
    | ((refine (whole_sign na a n cap la _ (Ha.out.later Hd) ?q4).mono ?_); (case q4 => omega); rintro e w1 ⟨rfl, b1⟩; have M1 := True.intro; have hA1 := blk_later HAd.out b1; have hB1 := blk_later HBd.out b1; have Sq1 := four_cells hA1 hB1))))
  have HBe := Lib.hid (below_then HB.out (below_then Hd (below_then b1 b2)))
  have Ha2 := Lib.hid (Ha.out.later (below_then Hd (below_then b1 b2)))
  have Hb2 := Lib.hid (Hb.out.later (below_then Hd (below_then b1 b2)))
  clear Hd b1 b2 HAd HBd Sd hA1 hB1 Sq1 M1 Ha Hb HB
  generalize hx : sgn (zval na (val la)) = x at *
  generalize hy : sgn (zval nb (val lb)) = y at *
  clear hx hy
  by_cases hxy : x = y
  · have hq : (x == y) = true := by simp [hxy]
    have HE2 := Lib.hid (HE.out hxy)
    have hc : -1 ≤ cmpI (val la) (val lb) ∧ cmpI (val la) (val lb) ≤ 1 := by unfold cmpI; split <;> (try split) <;> omega
    clear HE HN hxy
    obtain ⟨s0, s1, s2, s3⟩ := Sq2
    go_wp2_with fail
    refine (natSaid.cmp _ _ _ _ _ _ _ _ _ Ha2.out Hb2.out (by omega) (by omega)).mono ?_
    rintro e w3 ⟨rfl, b3⟩
    generalize cmpI (val la) (val lb) = c at *
    have hm1 : -1 ≤ x * c ∧ x * c ≤ 1 := by
      rcases (show x = -1 ∨ x = 0 ∨ x = 1 by omega) with rfl | rfl | rfl <;> omega
    go_wp2
    go_ret
    exact ⟨by rw [← HE2.out]; rfl, below_then HBe.out b3⟩
  · have hq : (x == y) = false := by simp [hxy]
    have HN2 := Lib.hid (HN.out hxy)
    clear HE HN hxy
    go_wp2_with fail
    refine (cmp_Compare x y _).mono ?_
    rintro e w' ⟨rfl, rfl⟩
    go_wp2
    go_ret
    exact ⟨by rw [← HN2.out]; rfl, HBe.out⟩
end Go.Proofs.YtjeigdlhjghinaaGreatDoor
