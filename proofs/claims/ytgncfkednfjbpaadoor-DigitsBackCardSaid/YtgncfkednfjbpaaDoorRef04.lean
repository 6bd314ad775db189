/-
  The contracts of the document's answer for layer 4: Mul.
-/
import Derived.Test.YtgncfkednfjbpaaDoorRef02b
import Derived.Test.YtgncfkednfjbpaaDoorProdPlain
import Derived.Test.YtgncfkednfjbpaaDoorMake
import Derived.Test.YtgncfkednfjbpaaDoorNatSaid
import Derived.Test.YtgncfkednfjbpaaDoorNat3
import Derived.BigRegion
import Derived.BigQuiet
import Derived.Deep.QuietTactic
import Derived.Deep.DeepMust
namespace Go.Proofs.YtgncfkednfjbpaaDoor
open Go.RowKit

theorem Own.drewN {w : World} {base g n cap : Nat} {l : List Nat} (h : Own w base g n cap l) (q : Nat) : Own (w.drewN q) base g n cap l := h
theorem Own.drew {w : World} {base g n cap : Nat} {l : List Nat} (h : Own w base g n cap l) : Own w.drew base g n cap l := h
set_option maxRecDepth 4096 in
set_option maxHeartbeats 2000000 in
theorem ref04_mul (a : Option Addr) (n cap : Nat) (la : List Nat) (b : Option Addr) (m cap' : Nat) (lb : List Nat) (w : World) (ha : Wd w a n cap la) (hb : Wd w b m cap' lb) (hn : n ≤ 4000000) (hm : m ≤ 4000000) :
    Calls Tryd.prog 25 #[.slice a n cap, .slice b m cap'] w (Lst (dg (val la * val lb)) w) := by
  obtain ⟨i0, hi, hz0, hz1, hz2⟩ := info_parts infoU32
  have Ha := Lib.hid ha
  have Hb := Lib.hid hb
  clear ha hb
  obtain ⟨N, hN⟩ : ∃ N : Nat, (n : Int) + (m : Int) = (N : Int) := ⟨n + m, by omega⟩
  have HN : Hid (N = n + m) := Lib.hid (by omega)
  have hNb : N ≤ 8000000 := by omega
  go_enter Tryd.func25, Tryd.ntmps25
  go_wp2_with (at_make; refine wpList_make_words _ rfl _ _ 22 rfl w.heap.size 40 i0 (.int .u32 0) Tryd.underlying22 hi hz0 hz1 rfl .i64 .i64 _ _ N N rfl rfl rfl rfl (Nat.le_refl _) (by rw [hz2]; omega) (by unfold maxLen; omega) (Nat.le_refl _) ?_; intro w1 hown1 hgrow1)
  rw [zeros_cells] at hown1
  have HO1 : Hid (Own w1 w.heap.size w.heap.size N N (List.replicate N 0)) := Lib.hid ⟨hown1, okw_zeros N⟩
  have hB1 : Below w.heap.size w w1 := (Below.refl _ _).grown hgrow1 (Nat.le_refl _) (fun k hk => by cases hk)
  clear hown1 hgrow1
  go_loopw [6] (fun iv wr => ∃ (i : Nat) (P : List Nat), i ≤ n ∧ iv = .int .i64 (i : Int) ∧ Hid (RowAt la lb P m i) ∧ Hid (Own wr w.heap.size w.heap.size N N P) ∧ Below w.heap.size w wr) (fun iv _ => n - (intOf iv).toNat)
  case atStart => exact ⟨0, List.replicate N 0, by omega, rfl, Lib.hid (row_start _ _ _ _), HO1, hB1⟩
  case round =>
    clear HO1 hB1
    obtain ⟨i, P, hin, rfl, HR, HO, hB⟩ := hrel
    by_cases hlt : i < n
    · have hii : (i : Int) < (n : Int) := by omega
      obtain ⟨ba, oa, rfl, hca⟩ := (Ha.out.later hB).at (by omega)
      have Hblk : Hid (ba < w.heap.size ∧ ∀ wz, Below w.heap.size w wz → wz.cell? ⟨ba, oa + i, none⟩ = some (.int .u32 ((atw la i : Nat) : Int))) := by
        obtain ⟨ba2, oa2, e2, hca2⟩ := Ha.out.at (by omega)
        simp only [Option.some.injEq, Addr.mk.injEq, and_true] at e2
        obtain ⟨rfl, rfl⟩ := e2
        exact Lib.hid ⟨World.block_lt_of_cell? w _ (hca2 i hlt), fun wz hz => cell_later hz (hca2 i hlt)⟩
      have hxw := atw_lt Ha.out.ok i
      obtain ⟨x, hxx⟩ : ∃ x, x = atw la i := ⟨_, rfl⟩
      rw [← hxx] at hxw Hblk
      have Hx := Lib.hid hxx
      clear hca hxx
      go_wp2
      go_loopw [7, 8] (fun sv jv wr => ∃ (j c : Nat) (P : List Nat), j ≤ m ∧ jv = .int .i64 (j : Int) ∧ sv = .int .u64 (c : Int) ∧ c < 4294967296 ∧ Hid (CellAt la lb P m i j c) ∧ Hid (Own wr w.heap.size w.heap.size N N P) ∧ Below w.heap.size w wr) (fun _ jv _ => m - (intOf jv).toNat)
      case atStart => exact ⟨0, 0, P, by omega, rfl, rfl, by omega, Lib.hid (cell_start HR.out), HO, hB⟩
      case round =>
        clear HO hB HR
        obtain ⟨j, c, P, hjm, rfl, rfl, hc, HC, HO, hB⟩ := hrel
        by_cases hjl : j < m
        · have hji : (j : Int) < (m : Int) := by omega
          obtain ⟨bb, ob, rfl, hcb⟩ := (Hb.out.later hB).at (by omega)
          have hcbj := hcb j hjl
          have hcai := Hblk.out.2 wr hB
          have hyw := atw_lt Hb.out.ok j
          obtain ⟨y, hyy⟩ : ∃ y, y = atw lb j := ⟨_, rfl⟩
          rw [← hyy] at hyw hcbj
          have Hy := Lib.hid hyy
          obtain ⟨q, hq⟩ : ∃ q : Nat, (i : Int) + (j : Int) = (q : Int) := ⟨i + j, by omega⟩
          have Hq : Hid (q = i + j) := Lib.hid (by omega)
          have hqN : q < N := by have := HN.out; omega
          have hqi : (q : Int) < (N : Int) := by omega
          have hcell := HO.out.cell (k := q) hqN
          have hfro := HO.out.1.frozenAt q
          have huw := atw_lt HO.out.2 q
          obtain ⟨u, huu⟩ : ∃ u, u = atw P q := ⟨_, rfl⟩
          rw [← huu] at huw hcell
          have Hu := Lib.hid huu
          have hroom := mul_room hxw hyw huw hc
          obtain ⟨p, hp⟩ : ∃ p : Nat, (x : Int) * (y : Int) = (p : Int) := ⟨x * y, by simp⟩
          have Hp : Hid (p = x * y) := Lib.hid (by rw [← Int.natCast_mul] at hp; omega)
          rw [← Hp.out] at hroom
          obtain ⟨hroom1, hroom2⟩ := hroom
          have hb := HO.out.base
          clear hcb hyy huu
          go_wp2
          go_quiet (fail)
          go_wp2
          go_roundw
          case rel =>
            have HOs := (HO.out.drewN nq).set q ((c + (p + u)) % 4294967296) (Nat.mod_lt _ (by decide))
            have hBs := (below_drewN hB nq).setCell (p := ⟨w.heap.size, q, none⟩) hb.1 (.int .u32 (((c + (p + u)) % 4294967296 : Nat) : Int))
            have e1 : (((c + (p + u)) % 4294967296 : Nat) : Int) = ((c : Int) + ((p : Int) + (u : Int))) % 4294967296 := by omega
            rw [e1] at HOs hBs
            exact ⟨j + 1, (c + (p + u)) / 4294967296, P.set q ((c + (p + u)) % 4294967296), by omega, by go_num, by go_num, by omega, Lib.hid (by
              have h1 := HC.out
              have h2 := HN.out
              have h3 := HO.out.len
              obtain rfl := Hq.out
              exact cell_step h1 hjl (by omega) (by rw [← Hx.out, ← Hy.out, ← Hu.out, ← Hp.out]; omega)), Lib.hid HOs, hBs⟩
          case measure => simp [intOf]; omega
        · obtain rfl : j = m := by omega
          obtain ⟨q, hq⟩ : ∃ q : Nat, (i : Int) + (j : Int) = (q : Int) := ⟨i + j, by omega⟩
          have Hq : Hid (q = i + j) := Lib.hid (by omega)
          have hqN : q < N := by have := HN.out; omega
          have hqi : (q : Int) < (N : Int) := by omega
          have hcell := HO.out.cell (k := q) hqN
          have hfro := HO.out.1.frozenAt q
          generalize atw P q = u at hcell
          have hb := HO.out.base
          have HOs := HO.out.set q c hc
          have hBs := hB.setCell (p := ⟨w.heap.size, q, none⟩) hb.1 (.int .u32 (c : Int))
          have HOs' := Lib.hid HOs
          have hBs' := Lib.hid hBs
          clear HOs hBs
          go_wp2
          go_roundw
          case rel =>
            exact ⟨i + 1, P.set q c, by omega, by go_num, Lib.hid (by
              have h1 := HC.out
              have h2 := HN.out
              have h3 := HO.out.len
              obtain rfl := Hq.out
              exact row_next h1 Hb.out.len (by omega)), HOs', hBs'.out⟩
          case measure => simp [intOf]; omega
    · obtain rfl : i = n := by omega
      have Hv := Lib.hid (row_end HR.out Ha.out.len)
      go_wp2_with fail
      refine (ref02_norm _ _ _ _ _ HO.out.wd (by omega)).mono ?_
      rintro e w' ⟨a', n', c', rfl, hwd, hbel⟩
      rw [Hv.out] at hwd
      have HWD := Lib.hid hwd
      clear hwd
      go_wp2
      go_ret
      exact ⟨_, _, _, rfl, HWD.out, below_then hB hbel⟩
end Go.Proofs.YtgncfkednfjbpaaDoor
