/-
  Package digits at this seat: full, groups.
-/
import Derived.Test.YtgncfkednfjbpaaDoorTextPlain
import Derived.Test.YtgncfkednfjbpaaDoorDec2
import Derived.Test.YtgncfkednfjbpaaDoorNatAll
import Derived.Test.YtgncfkednfjbpaaDoorQuot3
namespace Go.Proofs.YtgncfkednfjbpaaDoor
open Go.RowKit

theorem Wd.heldA {w : World} {a : Option Addr} {n cap : Nat} {l : List Nat} (h : Wd w a n cap l) : heldVal w (.slice a n cap) = val l := by
  cases a with
  | none => obtain ⟨rfl, rfl, rfl⟩ := h.ofNone; rfl
  | some ad =>
    by_cases hn : n = 0
    · subst hn
      have h0 : l = [] := List.eq_nil_of_length_eq_zero h.len
      subst h0
      rfl
    · obtain ⟨b, off, e, _⟩ := h.at (by omega)
      cases e
      exact h.held
set_option maxRecDepth 4096 in
theorem digits_full (g : Nat) (hg : g < 1000000000) (w : World) (hT : Hid (Dec10 w)) :
    Calls Tryd.prog 21 #[.int .u32 (g : Int)] w (Gives (.string (bs (lowd 9 g))) w) := by
  obtain ⟨u, hu⟩ : ∃ u : Nat, 1000000000 + (g : Int) = (u : Int) := ⟨1000000000 + g, by omega⟩
  have HU : Hid (txt u = 49 :: lowd 9 g) := Lib.hid (by rw [show u = 1000000000 + g by omega]; exact pad_txt hg)
  have hu1 : 100 ≤ u := by omega
  have hu2 : u < 18446744073709551616 := by omega
  have hsz := bs_size (49 :: lowd 9 g)
  have htl := bs_rest 49 (lowd 9 g)
  simp only [List.length_cons, lowd_length] at hsz htl
  go_enter Tryd.func21, Tryd.ntmps21
  go_wp2_with (go_at_call 31; refine (dec_format u hu1 hu2 _ hT).mono ?_; rintro e w1 ⟨rfl, b1⟩; rw [HU.out])
  go_ret
  exact ⟨rfl, b1⟩
set_option maxRecDepth 4096 in
set_option maxHeartbeats 2000000 in
theorem digits_groups (a : Option Addr) (n cap : Nat) (l : List Nat) (w : World) (h : Wd w a n cap l) (hn : n ≤ 1000) :
    Calls Tryd.prog 19 #[.slice a n cap] w (Lst (bil (val l)) w) := by
  obtain ⟨i0, hi, hz0, hz1, hz2⟩ := info_parts infoU32
  have HL : Hid ((bil (val l)).length ≤ 32001) := Lib.hid (by
    have h1 := val_lt h.ok
    rw [h.len, pow32] at h1
    have h2 := bil_length_le h1
    omega)
  have H := Lib.hid h
  clear h
  go_enter Tryd.func19, Tryd.ntmps19
  go_wp2
  go_loopw [0, 3] (fun av gv wr => ∃ (a' : Option Addr) (n' c' : Nat) (L G : List Nat) (m : Nat), av = .slice a' n' c' ∧ n' ≤ 1000 ∧ Hid (Wd wr a' n' c' L) ∧ Hid (wr.ownsRow w.heap.size 40 1 gv m (wcells G)) ∧ Hid (okw G) ∧ Hid (bil (val l) = G ++ bil (val L)) ∧ Below w.heap.size w wr) (fun av _ wr => heldVal wr av)
  case atStart => exact ⟨a, n, cap, l, [], 0, rfl, hn, H, Lib.hid (World.ownsRow_nil _ _ _ _), Lib.hid okw_nil, Lib.hid rfl, Below.refl _ _⟩
  case round =>
    clear H hn
    obtain ⟨a', n', c', L, G, m, rfl, hn', HW, HO, HG, HB, hB⟩ := hrel
    obtain ⟨ga, gc, rfl⟩ := own_slice HO.out
    have hm : m ≤ 32000 := by
      have h1 := HL.out
      have h2 := HO.out.1
      obtain ⟨x, r, hx⟩ := bil_ne (val L)
      rw [HB.out, hx, List.length_append, List.length_cons] at h1
      rw [wcells_length] at h2
      omega
    have Hm0 := Lib.hid HW.out.heldA
    have hbase : w.heap.size ≤ wr.heap.size := hB.size
    obtain ⟨v, hv⟩ : ∃ v, v = val L := ⟨_, rfl⟩
    have Hv := Lib.hid hv
    have hgl : v % 1000000000 < 4294967296 := by omega
    obtain ⟨z, hz⟩ : ∃ z, z = v % 1000000000 := ⟨_, rfl⟩
    have hzl : z < 1000000000 := by omega
    have Hz := Lib.hid hz
    have HG2 : Hid (okw (G ++ [z])) := Lib.hid (okw_append.2 ⟨HG.out, okw_cons.2 ⟨by omega, okw_nil⟩⟩)
    clear hz hv hgl
    go_wp2_with fail
    refine (quot_word_own _ _ _ _ 1000000000 _ HW.out (by omega) (by omega) (by omega)).mono ?_
    rintro e w1 ⟨g1, n1, rfl, h1, b1⟩
    rw [← Hv.out] at h1 ⊢
    rw [← Hz.out]
    have hn1 : n1 ≤ 1000 := by
      have h2 := h1.len
      have h3 := HW.out.trim_le
      have h4 := dg_length_mono (show v / 1000000000 ≤ val L by rw [← Hv.out]; exact Nat.div_le_self _ _)
      omega
    have HO1 := Lib.hid (ownsRow_later HO.out b1)
    have hB1 := below_then hB b1
    have hbase1 := hB1.size
    have Hq := Lib.hid h1
    clear HW b1 hB h1
    go_wp2_with (at_builtin; refine wpList_append_own _ rfl _ _ 22 rfl w.heap.size 40 i0 (.int .u32 0) 1 4 Tryd.underlying22 hi hz0 hz1 hz2 rfl (by decide) _ m _ rfl (HO1.out.alloc _) ⟨w1.heap.size, 0, none⟩ 1 1 (wcells [z]) rfl rfl (Wd.lit1 w1 40 (x := z) (by omega)).cells (wcells_one _) (by unfold maxLen; omega) (by omega) (by simp; omega) ?_)
    intro v' w2 hown hgrow _
    have hB2 : Below w.heap.size w w2 := (hB1.alloc hbase1 _).grown hgrow (by simp; omega) (fun k hk => (HO1.out.lt k hk).1)
    have Hq2 : Hid (Wd w2 (some ⟨g1, 0, none⟩) n1 n1 (dg (v / 1000000000))) := Lib.hid ((Hq.out.wd.later (below_alloc _ _)).kept hgrow (by
      intro ad hd he
      cases hd
      have h2 := (Hq.out.base).1
      have h3 : g1 < wr.heap.size := (HO.out.lt g1 he.symm).2
      omega))
    rw [← wcells_append] at hown
    have HO2 := Lib.hid hown
    clear hown hgrow Hq HO1 HO
    go_wp2_with fail
    refine (natSaid.zero _ _ _ _ _ Hq2.out (by omega)).mono ?_
    rintro e w3 ⟨rfl, b3⟩
    rw [val_dg]
    have HO3 := Lib.hid (ownsRow_later HO2.out b3)
    have Hq3 := Lib.hid (Hq2.out.later b3)
    have hB3 := below_then hB2 b3
    clear b3 HO2 Hq2 hB2
    by_cases hq : v / 1000000000 = 0
    · rw [decide_eq_true hq]
      have Hfin : Hid (bil (val l) = G ++ [z]) := Lib.hid (by rw [HB.out, ← Hv.out, bil_small (by omega), Hz.out, Nat.mod_eq_of_lt (by omega)])
      obtain ⟨a4, c4, rfl⟩ := own_slice HO3.out
      have HF := Lib.hid (Wd.own HO3.out HG2.out)
      clear hq
      go_wp2
      go_ret
      exact ⟨_, _, _, rfl, by rw [Hfin.out]; exact HF.out, hB3⟩
    · rw [decide_eq_false hq]
      have Hfin : Hid (bil (val l) = (G ++ [z]) ++ bil (val (dg (v / 1000000000)))) := Lib.hid (by rw [HB.out, ← Hv.out, bil_big (by omega), ← Hz.out, val_dg, List.append_assoc]; rfl)
      have hlt : v / 1000000000 < v := by omega
      have Hm1 := Lib.hid Hq3.out.heldA
      clear hq
      go_wp2
      go_roundw
      case rel => exact ⟨_, n1, n1, _, _, _, rfl, hn1, Hq3, HO3, HG2, Hfin, hB3⟩
      case measure =>
        have h8 := Hm0.out
        have h9 := Hm1.out
        rw [val_dg] at h9
        show heldVal _ _ < heldVal _ _
        rw [h8, h9, ← Hv.out]
        exact hlt
end Go.Proofs.YtgncfkednfjbpaaDoor
