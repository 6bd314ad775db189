/-
  The contracts of package nat (layer 2) at this seat: addTo, Add.
-/
import Derived.Test.YtcihklimngaapaaNat3
namespace Go.Proofs.Ytcihklimngaapaa
open Go.RowKit

/-- A right list in a row of the call's own comes back. -/
def OwnPost (w0 : World) (v : Nat) (e : Ending) (w' : World) : Prop :=
  ∃ g n cap : Nat, e = .returned (.slice (some ⟨g, 0, none⟩) n cap) ∧ Hid (Own w' w0.heap.size g n cap (dg v)) ∧ Below w0.heap.size w0 w'

set_option maxHeartbeats 4000000 in
theorem nat_addTo (w0 w : World) (g n cap p : Nat) (b : Option Addr) (m cap' q : Nat) (ho : Own w w0.heap.size g n cap (dg p)) (hB : Below w0.heap.size w0 w) (hb : Wd w0 b m cap' (dg q)) (hn : n ≤ 2000000) (hm : m ≤ 2000000) :
    Calls Try.prog 28 #[.slice (some ⟨g, 0, none⟩) n cap, .slice b m cap'] w (OwnPost w0 (p + q)) := by
  obtain ⟨i0, hi, hz0, hz1, hz2⟩ := info_parts infoU32
  obtain ⟨hb1, hb2⟩ := hb.bound
  have Ho := Lib.hid ho
  have Hb := Lib.hid hb
  clear ho hb
  go_enter Try.func28, Try.ntmps28
  go_wp2
  go_loopw [0] (fun s wr => ∃ g' n' cap' j : Nat, s = .slice (some ⟨g', 0, none⟩) n' cap' ∧ n' ≤ 2000000 ∧ Hid (n' = n + j ∧ (j = 0 ∨ n' ≤ m)) ∧ Hid (Own wr w0.heap.size g' n' cap' (dg p ++ List.replicate j 0)) ∧ Below w0.heap.size w0 wr) (fun s _ => m - lenOf s)
  case atStart => exact ⟨g, n, cap, 0, rfl, by omega, Lib.hid ⟨rfl, .inl rfl⟩, Lib.hid (by simpa using Ho.out), hB⟩
  case round =>
    obtain ⟨g', n', cap2, j, rfl, hn2, Hnj, Ho', hB'⟩ := hrel
    by_cases hlt : n' < m
    · have hbase : w0.heap.size ≤ wr.heap.size := hB'.size
      go_wp2_with (at_builtin; refine wpList_append_own _ rfl _ _ 22 rfl w0.heap.size 32 i0 (.int .u32 0) 1 4 Try.underlying22 hi hz0 hz1 hz2 rfl (by decide) _ n' _ rfl (Ho'.out.1.alloc _) ⟨wr.heap.size, 0, none⟩ 1 1 (wcells [0]) rfl rfl (Wd.lit1 wr 32 (x := 0) (by omega)).cells (wcells_one _) (by unfold maxLen; omega) (by omega) (by simp; omega) ?_)
      intro v' w1 hown hgrow _
      obtain ⟨g2, cap3, rfl, HO⟩ := Own.push (r := 0) hown Ho'.out.2 (by decide)
      have HO' := Lib.hid HO
      have hb := Ho'.out.base
      have hB1 : Below w0.heap.size w0 w1 := (hB'.alloc hbase _).grown hgrow (by simp; omega) (by intro k hk; simp [Value.ownBlock] at hk; omega)
      clear HO hown hgrow
      go_wp2
      go_roundw
      case rel => exact ⟨g2, n' + 1, cap3, j + 1, rfl, by omega, Lib.hid ⟨by have := Hnj.out; omega, .inr (by omega)⟩, Lib.hid (by have := HO'.out; rwa [List.append_assoc, ← List.replicate_succ'] at this), hB1⟩
      case measure => simp [lenOf]; omega
    · have hge : Hid (n' = 0 ∨ 4294967296 ^ (n' - 1) ≤ p + q) := Lib.hid (by
        have hm' := Hb.out.len
        obtain ⟨hn', hj⟩ := Hnj.out
        have hnl := Ho.out.len
        by_cases h0 : n' = 0
        · exact .inl h0
        · refine .inr ?_
          rcases hj with hj | hj
          · have h1 := dg_ge (n := p) (by omega)
            rw [show (dg p).length = n' by omega] at h1
            omega
          · have h1 := dg_ge (n := q) (by omega)
            rw [show (dg q).length = n' by omega] at h1
            omega)
      have hx : Hid (okw (dg p ++ List.replicate j 0) ∧ (dg p ++ List.replicate j 0).length = n' ∧ val (dg p ++ List.replicate j 0) = p) := Lib.hid ⟨Ho'.out.2, Ho'.out.len, by rw [val_append_zeros, val_dg]⟩
      have hqm : Hid (okw (dg q) ∧ (dg q).length = m ∧ val (dg q) = q) := Lib.hid ⟨okw_dg _, Hb.out.len, val_dg _⟩
      have hmn : m ≤ n' := by omega
      generalize dg p ++ List.replicate j 0 = x at Ho' hx
      have hd : decide (n' < m) = false := decide_eq_false hlt
      clear Hnj Ho hB hlt
      go_wp2
      go_loopw [5, 19] (fun cv iv w2 => ∃ (k c : Nat) (o : List Nat), k ≤ m ∧ iv = .int .i64 k ∧ cv = .int .u32 (c : Int) ∧ c ≤ 1 ∧ Hid (o.length = k) ∧ Hid (val o + 4294967296 ^ k * c = low x k + low (dg q) k) ∧ Hid (Own w2 w0.heap.size g' n' cap2 (o ++ x.drop k)) ∧ Below w0.heap.size w0 w2) (fun _ iv _ => m - (intOf iv).toNat)
      case atStart => exact ⟨0, 0, [], by omega, rfl, rfl, by omega, Lib.hid rfl, Lib.hid (by rw [low_zero, low_zero]; rfl), Lib.hid (by simpa using Ho'.out), hB'⟩
      case round =>
        clear Ho' hB'
        obtain ⟨k, c, o, hk, rfl, rfl, hc, Hol, Hv, HO, hB2⟩ := hrel
        by_cases hlt : k < m
        · obtain ⟨bb, ob, rfl, hcb⟩ := (Hb.out.later hB2).at (by omega)
          have hcbk := hcb k hlt
          have hcell := HO.out.cell (k := k) (by omega)
          rw [atw_over _ _ _ Hol.out] at hcell
          have hfro := HO.out.1.frozenAt k
          have hyl := atw_lt hqm.out.1 k
          have hxl := atw_lt hx.out.1 k
          obtain ⟨xk, hxk⟩ : ∃ xk, xk = atw x k := ⟨_, rfl⟩
          obtain ⟨yk, hyk⟩ : ∃ yk, yk = atw (dg q) k := ⟨_, rfl⟩
          rw [← hxk] at hxl hcell
          rw [← hyk] at hyl hcbk
          have Hxk := Lib.hid hxk
          have Hyk := Lib.hid hyk
          have hk1 : (k : Int) < (n' : Int) := by omega
          have hb := HO.out.base
          clear hxk hyk hcb
          go_wp2_with (go_at_call 36; (with_reducible refine (limb_add_nat xk yk c _ (by omega) (by omega) (by omega)).mono ?_); rintro e w' ⟨r, z, rfl, hz, hr, Hs, rfl⟩)
          go_roundw
          case rel => exact ⟨k + 1, z, o ++ [r], by omega, by go_num, rfl, hz, Lib.hid (by have := Hol.out; simp; omega), Lib.hid (add_more Hol.out Hv.out hr (by rw [Hs.out, Hxk.out, Hyk.out])), Lib.hid (by have h := HO.out.set k r hr; rwa [set_over o x k r Hol.out (by rw [hx.out.2.1]; omega)] at h), hB2.setCell hb.1 _⟩
          case measure => simp [intOf]; omega
        · obtain rfl : k = m := by omega
          go_wp2
          go_loopw [5, 8] (fun cv iv w3 => ∃ (t c : Nat) (o : List Nat), k ≤ t ∧ t ≤ n' ∧ iv = .int .i64 t ∧ cv = .int .u32 (c : Int) ∧ c ≤ 1 ∧ Hid (o.length = t) ∧ Hid (val o + 4294967296 ^ t * c = low x t + low (dg q) t) ∧ Hid (Own w3 w0.heap.size g' n' cap2 (o ++ x.drop t)) ∧ Below w0.heap.size w0 w3) (fun _ iv _ => n' - (intOf iv).toNat)
          case atStart => exact ⟨k, c, o, by omega, by omega, rfl, rfl, hc, Hol, Hv, HO, hB2⟩
          case round =>
            clear HO hB2 Hv Hol hc
            obtain ⟨t, c, o, hkt, htn, rfl, rfl, hc, Hol, Hv, HO, hB2⟩ := hrel
            by_cases hc0 : c = 0
            · subst hc0
              have Hfin := Lib.hid (add_right0 (x := o ++ x.drop t) (p := p) (q := q) HO.out.2 (by rw [add_stop Hol.out (by rw [hqm.out.2.1]; exact hkt) (by simpa using Hv.out), hx.out.2.2, hqm.out.2.2]) (by rw [HO.out.len]; exact hge.out))
              by_cases hlt : t < n'
              · go_wp2
                go_ret
                exact ⟨g', n', cap2, rfl, Lib.hid (by rw [← Hfin.out]; exact HO.out), hB2⟩
              · go_wp2
                go_ret
                exact ⟨g', n', cap2, rfl, Lib.hid (by rw [← Hfin.out]; exact HO.out), hB2⟩
            · have Hc1 : Hid (c = 1) := Lib.hid (by omega)
              have hcp : 0 < c := by omega
              have hcpi : (0 : Int) < (c : Int) := by omega
              clear hc0
              by_cases hlt : t < n'
              · have hcell := HO.out.cell (k := t) (by omega)
                rw [atw_over _ _ _ Hol.out] at hcell
                have hfro := HO.out.1.frozenAt t
                have hxl := atw_lt hx.out.1 t
                obtain ⟨xk, hxk⟩ : ∃ xk, xk = atw x t := ⟨_, rfl⟩
                rw [← hxk] at hxl hcell
                have Hxk := Lib.hid hxk
                have hyk : Hid (atw (dg q) t = 0) := Lib.hid (atw_ge (by rw [hqm.out.2.1]; exact hkt))
                have hk1 : (t : Int) < (n' : Int) := by omega
                have hb := HO.out.base
                clear hxk
                go_wp2_with (go_at_call 36; (with_reducible refine (limb_add_nat0 xk c _ (by omega) (by omega)).mono ?_); rintro e w' ⟨r, z, rfl, hz, hr, Hs, rfl⟩)
                go_roundw
                case rel => exact ⟨t + 1, z, o ++ [r], by omega, by omega, by go_num, rfl, hz, Lib.hid (by have := Hol.out; simp; omega), Lib.hid (add_more Hol.out Hv.out hr (by rw [Hs.out, Hxk.out, hyk.out])), Lib.hid (by have h := HO.out.set t r hr; rwa [set_over o x t r Hol.out (by rw [hx.out.2.1]; omega)] at h), hB2.setCell hb.1 _⟩
                case measure => simp [intOf]; omega
              · obtain rfl : t = n' := by omega
                have hdrop : x.drop t = [] := List.drop_eq_nil_of_le (by rw [hx.out.2.1]; omega)
                rw [hdrop, List.append_nil] at HO
                have Hfin := Lib.hid (add_right1 (p := p) (q := q) HO.out.2 Hol.out (by have hv := Hv.out; rw [Hc1.out] at hv; rw [hv, low_ge (by rw [hx.out.2.1]; omega), low_ge (by rw [hqm.out.2.1]; exact hkt), hx.out.2.2, hqm.out.2.2]))
                have hbase : w0.heap.size ≤ wr.heap.size := hB2.size
                clear hdrop
                go_wp2_with (at_builtin; refine wpList_append_own _ rfl _ _ 22 rfl w0.heap.size 32 i0 (.int .u32 0) 1 4 Try.underlying22 hi hz0 hz1 hz2 rfl (by decide) _ t _ rfl (HO.out.1.alloc _) ⟨_, 0, none⟩ 1 1 (wcells [c]) rfl rfl (Wd.lit1 _ 32 (x := c) (by omega)).cells (wcells_one _) (by unfold maxLen; omega) (by omega) (by simp; omega) ?_)
                intro v' w1 hown hgrow _
                obtain ⟨g2, cap3, rfl, HO2⟩ := Own.push (r := c) hown HO.out.2 (by omega)
                have HO' := Lib.hid HO2
                have hb := HO.out.base
                have hB1 : Below w0.heap.size w0 w1 := (hB2.alloc hbase _).grown hgrow (by simp; omega) (by intro k hk; simp [Value.ownBlock] at hk; omega)
                clear HO2 hown hgrow
                go_wp2
                go_ret
                exact ⟨g2, t + 1, cap3, rfl, Lib.hid (by have h := HO'.out; rw [Hc1.out] at h; rwa [Hfin.out] at h), hB1⟩
end Go.Proofs.Ytcihklimngaapaa
