/-
  The walks of the laws of layer 2, over the contracts of package nat: NatTakes, NatAdds, NatBack.
-/
import Derived.Test.YtekepfnjobkcaaaLaw02Walks
namespace Go.Proofs.Ytekepfnjobkcaaa
open Go.RowKit

set_option maxHeartbeats 1000000 in
theorem law02_takes_big (N : NatSaid) (a : Option Addr) (n cap : Nat) (b : Option Addr) (m cap' : Nat) (w : World) (hn : n ≤ 9223372036854775807) (hm : m ≤ 9223372036854775807) (h : 300 < n ∨ 300 < m) :
    Calls Try.prog 5 #[.slice a n cap, .slice b m cap'] w (Gives (.bool true) w) := by
  by_cases h1 : 300 < n
  · clear h
    go_enter Try.func5, Try.ntmps5
    go_wp2_with (go_at_call 7; refine (law02_works N _).mono ?_; rintro e w' ⟨rfl, hb⟩)
    go_ret
    exact ⟨rfl, hb⟩
  · have h2 : 300 < m := by omega
    clear h
    go_enter Try.func5, Try.ntmps5
    go_wp2_with (go_at_call 7; refine (law02_works N _).mono ?_; rintro e w' ⟨rfl, hb⟩)
    go_ret
    exact ⟨rfl, hb⟩

set_option maxHeartbeats 2000000 in
theorem law02_takes (N : NatSaid) (a : Option Addr) (n cap : Nat) (la : List Nat) (b : Option Addr) (m cap' : Nat) (lb : List Nat) (w : World) (ha : Wd w a n cap la) (hb : Wd w b m cap' lb) :
    Calls Try.prog 5 #[.slice a n cap, .slice b m cap'] w (Gives (.bool true) w) := by
  obtain ⟨p1, p2⟩ := ha.bound
  obtain ⟨p3, p4⟩ := hb.bound
  by_cases hbig : 300 < n ∨ 300 < m
  · exact law02_takes_big N a n cap b m cap' w (by omega) (by omega) hbig
  · have hn : n ≤ 300 := by omega
    have hm : m ≤ 300 := by omega
    have Ha := Lib.hid ha
    have Hb := Lib.hid hb
    clear ha hb hbig
    by_cases hlt : val la < val lb
    · have Hlt := Lib.hid hlt
      have hc := Lib.hid (cmpI_lt hlt)
      have hg := Lib.hid (show val la - val lb + (val lb - val la) = val lb - val la by omega)
      clear hlt
      go_enter Try.func5, Try.ntmps5
      go_wp2_with fail
      refine (N.sub_no _ _ _ _ _ _ _ _ _ Ha.out Hb.out (by omega) (by omega) Hlt).mono ?_
      rintro e w1 ⟨a1, n1, c1, rfl, h1, b1⟩
      have hn1 : n1 = 0 := by rw [← h1.len]; rfl
      subst hn1
      go_wp2_with fail
      refine (N.gap _ _ _ _ _ _ _ _ _ (Ha.out.later b1) (Hb.out.later b1) (by omega) (by omega)).mono ?_
      rintro e w2 ⟨a2, n2, c2, rfl, h2, b2⟩
      rw [hc.out]
      rw [hg.out] at h2
      have hB2 := below_then b1 b2
      have H2 := Lib.hid h2
      clear h1 h2 b1 b2
      go_wp2_with fail
      refine (ref02_cmp _ _ _ _ _ _ _ _ _ (Ha.out.later hB2) (Hb.out.later hB2) (by omega) (by omega)).mono ?_
      rintro e w' ⟨rfl, rfl⟩
      rw [hc.out]
      go_wp2_with fail
      refine (ref02_sub _ _ _ _ _ _ _ _ _ (Hb.out.later hB2) (Ha.out.later hB2) (by omega) (by omega) (Lib.hid (Nat.le_of_lt Hlt.out))).mono ?_
      rintro e w4 ⟨a4, n4, c4, rfl, h4, b4⟩
      go_wp2_with fail
      refine (ref02_same_yes _ _ _ _ _ _ _ _ _ (H2.out.later b4) h4 rfl).mono ?_
      rintro e w5 ⟨rfl, b5⟩
      have hB5 := below_then hB2 (below_then b4 b5)
      clear h4 b4 b5 hB2
      go_wp2_with fail
      refine (law02_works N _).mono ?_
      rintro e w6 ⟨rfl, b6⟩
      go_wp2_with fail
      go_ret
      exact ⟨rfl, below_then hB5 b6⟩
    · have Hle := Lib.hid (show val lb ≤ val la by omega)
      have hc0 : 0 ≤ cmpI (val la) (val lb) := by unfold cmpI; rw [if_neg hlt]; split <;> omega
      have hc1 := (cmpI_range (val la) (val lb)).2
      have hg := Lib.hid (show val la - val lb + (val lb - val la) = val la - val lb by omega)
      have Gap := N.gap
      have Cmp := @ref02_cmp
      clear hlt
      obtain ⟨q, hq⟩ : ∃ q, q = cmpI (val la) (val lb) := ⟨_, rfl⟩
      rw [← hq] at hc0 hc1
      have Hq := Lib.hid hq
      clear hq Gap Cmp
      go_enter Try.func5, Try.ntmps5
      go_wp2_with fail
      refine (N.sub_yes _ _ _ _ _ _ _ _ _ Ha.out Hb.out (by omega) (by omega) Hle).mono ?_
      rintro e w1 ⟨a1, n1, c1, rfl, h1, b1⟩
      go_wp2_with fail
      refine (N.gap _ _ _ _ _ _ _ _ _ (Ha.out.later b1) (Hb.out.later b1) (by omega) (by omega)).mono ?_
      rintro e w2 ⟨a2, n2, c2, rfl, h2, b2⟩
      rw [← Hq.out]
      rw [hg.out] at h2
      have hB2 := below_then b1 b2
      have H1 := Lib.hid (h1.later b2)
      have H2 := Lib.hid h2
      clear h1 h2 b1 b2
      go_wp2_with fail
      refine (ref02_cmp _ _ _ _ _ _ _ _ _ (Ha.out.later hB2) (Hb.out.later hB2) (by omega) (by omega)).mono ?_
      rintro e w' ⟨rfl, rfl⟩
      rw [← Hq.out]
      go_wp2_with fail
      refine (ref02_sub _ _ _ _ _ _ _ _ _ (Ha.out.later hB2) (Hb.out.later hB2) (by omega) (by omega) Hle).mono ?_
      rintro e w4 ⟨a4, n4, c4, rfl, h4, b4⟩
      go_wp2_with fail
      refine (ref02_same_yes _ _ _ _ _ _ _ _ _ (H1.out.later b4) h4 rfl).mono ?_
      rintro e w5 ⟨rfl, b5⟩
      have b45 := below_then b4 b5
      have hB5 := below_then hB2 b45
      go_wp2_with fail
      refine (ref02_same_yes _ _ _ _ _ _ _ _ _ (H2.out.later b45) (H1.out.later b45) rfl).mono ?_
      rintro e w6 ⟨rfl, b6⟩
      have hB6 := below_then hB5 b6
      clear h4 b4 b5 b45 b6 hB2 hB5
      go_wp2_with fail
      refine (law02_works N _).mono ?_
      rintro e w7 ⟨rfl, b7⟩
      go_wp2_with fail
      go_ret
      exact ⟨rfl, below_then hB6 b7⟩

set_option maxHeartbeats 1000000 in
theorem law02_back_big (N : NatSaid) (a : Option Addr) (n cap : Nat) (b : Option Addr) (m cap' : Nat) (c : Option Addr) (k cap'' : Nat) (w : World) (hn : n ≤ 9223372036854775807) (hm : m ≤ 9223372036854775807) (hk : k ≤ 9223372036854775807) (h : 200 < n ∨ 200 < m ∨ 200 < k) :
    Calls Try.prog 6 #[.slice a n cap, .slice b m cap', .slice c k cap''] w (Gives (.bool true) w) := by
  by_cases h1 : 200 < n
  · clear h
    go_enter Try.func6, Try.ntmps6
    go_wp2_with (go_at_call 7; refine (law02_works N _).mono ?_; rintro e w' ⟨rfl, hb⟩)
    go_ret
    exact ⟨rfl, hb⟩
  · by_cases h2 : 200 < m
    · clear h
      go_enter Try.func6, Try.ntmps6
      go_wp2_with (go_at_call 7; refine (law02_works N _).mono ?_; rintro e w' ⟨rfl, hb⟩)
      go_ret
      exact ⟨rfl, hb⟩
    · have h3 : 200 < k := by omega
      clear h
      go_enter Try.func6, Try.ntmps6
      go_wp2_with (go_at_call 7; refine (law02_works N _).mono ?_; rintro e w' ⟨rfl, hb⟩)
      go_ret
      exact ⟨rfl, hb⟩

set_option maxHeartbeats 2000000 in
theorem law02_back (N : NatSaid) (a : Option Addr) (n cap : Nat) (la : List Nat) (b : Option Addr) (m cap' : Nat) (lb : List Nat) (c : Option Addr) (k cap'' : Nat) (lc : List Nat) (w : World)
    (ha : Wd w a n cap la) (hb : Wd w b m cap' lb) (hc : Wd w c k cap'' lc) :
    Calls Try.prog 6 #[.slice a n cap, .slice b m cap', .slice c k cap''] w (Gives (.bool true) w) := by
  obtain ⟨p1, p2⟩ := ha.bound
  obtain ⟨p3, p4⟩ := hb.bound
  obtain ⟨p5, p6⟩ := hc.bound
  by_cases hbig : 200 < n ∨ 200 < m ∨ 200 < k
  · exact law02_back_big N a n cap b m cap' c k cap'' w (by omega) (by omega) (by omega) hbig
  · have hn : n ≤ 200 := by omega
    have hm : m ≤ 200 := by omega
    have hk : k ≤ 200 := by omega
    have Ha := Lib.hid ha
    have Hb := Lib.hid hb
    have Hc := Lib.hid hc
    clear ha hb hc hbig
    have Hw : ∀ x y : List Nat, ∀ z : List Nat, words [x, y, z] = x.length + (y.length + z.length) := fun x y z => by simp [words]
    have HW := Lib.hid Hw
    clear Hw
    go_enter Try.func6, Try.ntmps6
    go_wp2_with fail
    refine (N.add _ _ _ _ _ (Wds.lit3 w 22 Ha.out Hb.out Hc.out) (by omega) (by rw [HW.out, Ha.out.len, Hb.out.len, Hc.out.len]; omega)).mono ?_
    rintro e w1 ⟨s, ns, cs, rfl, hs, b1⟩
    have hB1 := below_then (below_alloc w _) b1
    have hns : ns ≤ 1000 := by
      rw [← hs.len]
      refine Nat.le_trans (vals_length (ls := [la, lb, lc]) (fun l hl => ?_) (by simp)) ?_
      · simp only [List.mem_cons, List.not_mem_nil, or_false] at hl
        rcases hl with rfl | rfl | rfl
        · exact Ha.out.ok
        · exact Hb.out.ok
        · exact Hc.out.ok
      · rw [HW.out, Ha.out.len, Hb.out.len, Hc.out.len]; omega
    have hv : vals [la, lb, lc] = val la + (val lb + val lc) := by simp [vals]
    rw [hv] at hs
    have Hs := Lib.hid hs
    clear hs b1 hv
    go_wp2_with fail
    refine (N.sub_yes _ _ _ _ _ _ _ _ _ Hs.out (Hc.out.later hB1) (by omega) (by omega) (Lib.hid (by rw [val_dg]; omega))).mono ?_
    rintro e w2 ⟨r, nr, cr, rfl, hr, b2⟩
    have hB2 := below_then hB1 b2
    have hvr : val (dg (val la + (val lb + val lc))) - val lc = val la + val lb := by rw [val_dg]; omega
    rw [hvr] at hr
    have hnr : nr ≤ 1000 := by
      rw [← hr.len]
      exact Nat.le_trans (dg_length_mono (b := val la + (val lb + val lc)) (by omega)) (by rw [Hs.out.len]; exact hns)
    have Hr := Lib.hid hr
    have Hs2 := Lib.hid (Hs.out.later b2)
    clear hr b2 hvr hB1 Hs
    go_wp2_with fail
    refine (N.sub_yes _ _ _ _ _ _ _ _ _ Hr.out (Hb.out.later hB2) (by omega) (by omega) (Lib.hid (by rw [val_dg]; omega))).mono ?_
    rintro e w3 ⟨f, nf, cf, rfl, hf, b3⟩
    have hB3 := below_then hB2 b3
    have hvf : val (dg (val la + val lb)) - val lb = val la := by rw [val_dg]; omega
    rw [hvf] at hf
    have hnf : nf ≤ 1000 := by
      rw [← hf.len]
      exact Nat.le_trans (dg_length_mono (b := val la + (val lb + val lc)) (by omega)) (by rw [Hs2.out.len]; exact hns)
    have Hf := Lib.hid hf
    have Hs3 := Lib.hid (Hs2.out.later b3)
    clear hf b3 hvf hB2 Hs2 Hr
    have e0 := Lib.hid (cmpI_eq (val_dg (val la)))
    have e1 : 0 ≤ cmpI (val (dg (val la + (val lb + val lc)))) (val la) := by
      rw [val_dg]; unfold cmpI; rw [if_neg (by omega)]; split <;> omega
    go_wp2_with fail
    refine (N.cmp _ _ _ _ _ _ _ _ _ Hf.out (Ha.out.later hB3) (by omega) (by omega)).mono ?_
    rintro e w4 ⟨rfl, b4⟩
    rw [e0.out]
    have hB4 := below_then hB3 b4
    have Hs4 := Lib.hid (Hs3.out.later b4)
    clear b4 hB3 Hs3 Hf
    go_wp2_with fail
    refine (N.add _ _ _ _ _ (Wds.lit2 w4 22 (Hb.out.later hB4) (Ha.out.later hB4)) (by omega) (by simp only [words]; rw [Ha.out.len, Hb.out.len]; omega)).mono ?_
    rintro e w5 ⟨t, nt, ct, rfl, ht, b5⟩
    have hvt : vals [lb, la] = val la + val lb := by simp [vals]; omega
    rw [hvt] at ht
    have hnt : nt ≤ 1000 := by
      rw [← ht.len]
      exact Nat.le_trans (dg_length_mono (b := val la + (val lb + val lc)) (by omega)) (by rw [Hs4.out.len]; exact hns)
    have b45 := below_then (below_alloc w4 _) b5
    have hB5 := below_then hB4 b45
    have Ht := Lib.hid ht
    have Hs5 := Lib.hid (Hs4.out.later b45)
    clear ht b5 b45 hvt hB4 Hs4
    go_wp2_with fail
    refine (N.add _ _ _ _ _ (Wds.lit2 w5 22 (Hc.out.later hB5) Ht.out) (by omega) (by simp only [words]; rw [Hc.out.len, Ht.out.len]; omega)).mono ?_
    rintro e w6 ⟨u, nu, cu, rfl, hu, b6⟩
    have hvu : vals [lc, dg (val la + val lb)] = val la + (val lb + val lc) := by simp only [vals, val_dg]; omega
    rw [hvu] at hu
    have b56 := below_then (below_alloc w5 _) b6
    have hB6 := below_then hB5 b56
    have Hs6 := Lib.hid (Hs5.out.later b56)
    clear b6 b56 hB5 hvu Hs5 Ht
    go_wp2_with fail
    refine (ref02_same_yes _ _ _ _ _ _ _ _ _ Hs6.out hu rfl).mono ?_
    rintro e w7 ⟨rfl, b7⟩
    have hB7 := below_then hB6 b7
    have Hs7 := Lib.hid (Hs6.out.later b7)
    clear b7 hB6 hu Hs6
    go_wp2_with fail
    refine (N.cmp _ _ _ _ _ _ _ _ _ Hs7.out (Ha.out.later hB7) (by omega) (by omega)).mono ?_
    rintro e w8 ⟨rfl, b8⟩
    have hB8 := below_then hB7 b8
    generalize cmpI (val (dg (val la + (val lb + val lc)))) (val la) = q at *
    clear b8 hB7 Hs7
    go_wp2_with fail
    refine (law02_works N _).mono ?_
    rintro e w9 ⟨rfl, b9⟩
    go_wp2_with fail
    go_ret
    exact ⟨rfl, below_then hB8 b9⟩

theorem words_take_le (ls : List (List Nat)) (k : Nat) : words (ls.take k) ≤ words ls := by
  induction ls generalizing k with
  | nil => simp
  | cons l r ih =>
    cases k with
    | zero => simp [words]
    | succ k => simp only [List.take_succ_cons, words]; have := ih k; omega
theorem dg_vals_take {ls : List (List Nat)} (ho : ∀ l ∈ ls, okw l) (h1 : ls.length ≤ 100) (h2 : words ls ≤ 300) (k : Nat) : (dg (vals (ls.take k))).length ≤ 301 := by
  have h3 := vals_length (ls := ls.take k) (fun l hl => ho l (List.mem_of_mem_take hl)) (by rw [List.length_take]; omega)
  have h4 := words_take_le ls k
  omega

set_option maxHeartbeats 2000000 in
theorem law02_adds (N : NatSaid) (a : Option Addr) (n cap : Nat) (ls : List (List Nat)) (w : World) (h : Wds w a n cap ls) :
    Calls Try.prog 4 #[.slice a n cap] w (Gives (.bool true) w) := by
  obtain ⟨p1, p2⟩ := h.bound
  have hlen := h.len
  have hok := h.oks
  have H := Lib.hid h
  have Hlen := Lib.hid hlen
  have Hok := Lib.hid hok
  clear h hlen hok
  go_enter Try.func4, Try.ntmps4
  go_wp2_with fail
  refine (ref02_long _ _ _ _ 300 _ H.out (by omega)).mono ?_
  rintro e w' ⟨r, rfl, rfl, hr⟩
  cases r with
  | true =>
    clear hr
    go_wp2_with fail
    refine (law02_works N _).mono ?_
    rintro e w1 ⟨rfl, b1⟩
    go_wp2_with fail
    go_ret
    exact ⟨rfl, b1⟩
  | false =>
    have Hr := Lib.hid (hr rfl)
    clear hr
    have hn : n ≤ 100 := by rw [← Hlen.out]; exact Hr.out.1
    go_wp2_with fail
    go_loopw [3, 4] (fun v i wr => ∃ (k : Nat) (a' : Option Addr) (n' c' : Nat), k ≤ n ∧ i = .int .i64 k ∧ v = .slice a' n' c' ∧ Hid (Wd wr a' n' c' (dg (vals (ls.take k)))) ∧ Below w.heap.size w wr) (fun _ i _ => n - (intOf i).toNat)
    case atStart => exact ⟨0, _, _, _, by omega, rfl, rfl, Lib.hid (by rw [List.take_zero]; simp only [vals, dg_zero]; exact Wd.empty _ _ _ (by omega)), below_alloc _ _⟩
    case round =>
      obtain ⟨k, a', n', c', hk, rfl, rfl, Hwd, hB⟩ := hrel
      have hn' : n' ≤ 301 := by rw [← Hwd.out.len]; exact dg_vals_take Hok.out Hr.out.1 Hr.out.2 k
      by_cases hlt : k < n
      · obtain ⟨b, off, rfl, a2, n2, c2, hc, hw2⟩ := (H.out.later hB).at hlt
        have hn2 : n2 ≤ 300 := by
          rw [← hw2.len]
          exact Nat.le_trans (words_mem ls k (by rw [Hlen.out]; exact hlt)) Hr.out.2
        have H2 := Lib.hid hw2
        have hk1 : (k : Int) < (n : Int) := by omega
        have hsum := Lib.hid (vals_take ls k (by rw [Hlen.out]; exact hlt))
        clear hw2
        go_wp2_with fail
        refine (ref02_add _ _ _ _ _ _ _ _ _ Hwd.out H2.out (by omega) (by omega)).mono ?_
        rintro e w3 ⟨a3, n3, c3, rfl, h3, b3⟩
        rw [val_dg, ← hsum.out] at h3
        have H3 := Lib.hid h3
        have hB3 := hB.trans (b3.mono hB.size)
        clear h3 b3 hB
        go_wp2_with fail
        go_roundw
        case rel => exact ⟨k + 1, a3, n3, c3, by omega, by go_num, rfl, H3, hB3⟩
        case measure => simp [intOf]; omega
      · have htk : ls.take k = ls := List.take_of_length_le (by rw [Hlen.out]; omega)
        rw [htk] at Hwd
        clear htk
        go_wp2_with fail
        refine (N.add _ _ _ _ _ (H.out.later hB) (by omega) (by have := Hr.out.2; omega)).mono ?_
        rintro e w3 ⟨a3, n3, c3, rfl, h3, b3⟩
        have H3 := Lib.hid h3
        have hB3 := hB.trans (b3.mono hB.size)
        have Hwd3 := Lib.hid (Hwd.out.later b3)
        clear h3 b3 hB
        go_wp2_with fail
        refine (ref02_same_yes _ _ _ _ _ _ _ _ _ H3.out Hwd3.out rfl).mono ?_
        rintro e w4 ⟨rfl, b4⟩
        have hB4 := hB3.trans (b4.mono hB3.size)
        clear b4 hB3
        go_wp2_with fail
        refine (law02_works N _).mono ?_
        rintro e w5 ⟨rfl, b5⟩
        have hB5 := hB4.trans (b5.mono hB4.size)
        go_wp2_with fail
        go_ret
        exact ⟨rfl, hB5⟩
end Go.Proofs.Ytekepfnjobkcaaa
