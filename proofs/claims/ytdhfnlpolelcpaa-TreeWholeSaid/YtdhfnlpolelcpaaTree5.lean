/-
  Package tree: Depth.
-/
import Derived.Test.YtdhfnlpolelcpaaTree1
import Derived.Test.YtdhfnlpolelcpaaRef17d
import Derived.Test.YtdhfnlpolelcpaaKinMore
import Derived.WalkKit
namespace Go.Proofs.Ytdhfnlpolelcpaa
open Go.WideShapes Go.RowKit Go.Deep

namespace Ex
variable {α : Type}
theorem flats_snoc (s : List (Ex α)) (t : Ex α) : flats (s ++ [t]) = flats s ++ t.flat := by simp [flats]
theorem flats_deep (s : List (Ex α)) : ∀ t ∈ s, t.depth ≤ (flats s).length := by
  induction s with
  | nil => intro t ht; cases ht
  | cons u r ih =>
    intro t ht
    have e : (flats (u :: r)).length = u.flat.length + (flats r).length := by simp [flats]
    rw [e]
    rcases List.mem_cons.1 ht with rfl | h9
    · have := t.depth_le; omega
    · have := ih t h9; omega
theorem flats_size (s : List (Ex α)) : s.length ≤ (flats s).length := by
  induction s with
  | nil => exact Nat.zero_le _
  | cons u r ih =>
    have e : (flats (u :: r)).length = u.flat.length + (flats r).length := by simp [flats]
    have := u.flat_pos
    rw [e, List.length_cons]; omega
/-- One node more: what it is laid upon. -/
theorem push (f : α → Int) (x : α) (s : List (Ex α)) (hs : ∀ t ∈ s, t.ok f) (r : Nat) (hr : tAr (f x) = (r : Int)) (hl : r ≤ s.length) :
    ∃ v : Ex α, v.ok f ∧ flats (s.take (s.length - r) ++ [v]) = flats s ++ [x] ∧ v.depth = ((s.map depth).drop (s.length - r)).foldl max 0 + 1 := by
  have hrg := tAr_range (f x)
  match r, hr, hl with
  | 0, hr, _ => exact ⟨leaf x, hr, by simp [flats, flat], by rw [List.drop_of_length_le (by simp)]; rfl⟩
  | 1, hr, hl =>
    rcases List.eq_nil_or_concat s with rfl | ⟨s', t', rfl⟩
    · simp at hl
    · rw [List.concat_eq_append] at hs ⊢
      refine ⟨one t' x, ⟨hs t' (by simp), hr⟩, by simp [flats, flat], ?_⟩
      simp [depth]
  | 2, hr, hl =>
    rcases List.eq_nil_or_concat s with rfl | ⟨s', t', rfl⟩
    · simp at hl
    · rw [List.concat_eq_append] at hs hl ⊢
      rcases List.eq_nil_or_concat s' with rfl | ⟨s'', u', rfl⟩
      · simp at hl
      · rw [List.concat_eq_append] at hs ⊢
        refine ⟨two u' t' x, ⟨hs u' (by simp), hs t' (by simp), hr⟩, by simp [flats, flat], ?_⟩
        simp [depth]
  | r + 3, hr, _ => omega
theorem only_one (f : α → Int) {t : Ex α} (ht : t.ok f) {s : List (Ex α)} (hs : ∀ u ∈ s, u.ok f) (hl : s.length = 1) (hf : flats s = t.flat) : s.map depth = [t.depth] := by
  match s, hl with
  | [u], _ =>
    have e : u.flat = t.flat := by simpa [flats] using hf
    rw [unique0 f (hs u (by simp)) ht e]; rfl
end Ex
theorem foldl_max_le (l : List Nat) (a N : Nat) (ha : a ≤ N) (h : ∀ x ∈ l, x ≤ N) : l.foldl max a ≤ N := by
  induction l generalizing a with
  | nil => exact ha
  | cons y r ih => exact ih _ (Nat.max_le.2 ⟨ha, h y (by simp)⟩) fun x hx => h x (by simp [hx])
/-- Rows of numbers of the machine's. -/
def itC : Cls Nat where
  cells := fun d => [.int .i64 (d : Int)]
  size := 1
  bytes := 8
  p := fun u => ∃ k : Int, u = .int .i64 k
  pos := by decide
  len := fun _ => rfl
  one := fun x u hu => by
    simp at hu
    subst hu; rfl
  ok := fun x u hu => by
    simp at hu
    exact ⟨_, hu⟩
theorem it_at {P : Program} {t e : TypeId} (ht : P.underlying t = some (.slice e)) (h : (P.info? e).map (fun i => (i.zero, i.size, i.bytes)) = some (some (.int .i64 0), 1, 8)) : itC.At P t e :=
  Cls.atOf itC ht h rfl (fun u hu => by
    simp [Value.cells] at hu
    exact ⟨_, hu⟩)
theorem infoInt17 : (Try.prog.info? 3).map (fun i => (i.zero, i.size, i.bytes)) = some (some (.int .i64 0), 1, 8) := by kernel_rfl
set_option maxRecDepth 4096 in
set_option maxHeartbeats 8000000 in
theorem tree_depth (a : Option Addr) (n c : Nat) (L : List Nd) (w : World) (h : Nds w a n c L) (hn : n ≤ 1000000) : Calls Try.prog 15 #[.slice a n c] w (Gives (.int .i64 (tDepth (L.map Nd.op) : Int)) w) := by
  have HW := Lib.hid (tree_right a n c L w h hn)
  by_cases hw : tWrong (L.map Nd.op) < 0
  · obtain ⟨t, ht, hf⟩ := Ex.of_wrong Nd.op hw
    have hd : tDepth (L.map Nd.op) = t.depth := by rw [← hf]; exact tDepth_flat _ ht
    have hw0 : tGo ((L.map Nd.op).drop 0) 0 0 = -1 := by
      rw [List.drop_zero]
      have h9 := tWrong_range (L.map Nd.op)
      unfold tWrong at hw h9
      omega
    rw [decide_eq_true hw] at HW
    rw [hd]
    have HL := Lib.hid h
    have HLl := Lib.hid h.len
    have hbd := h.bound
    have HG0 := Lib.hid hw0
    have HT := Lib.hid ht
    have HF := Lib.hid hf
    have hA := it_at Try.underlying59 infoInt17
    have HC := Lib.hid fun op w => tree_arity op w
    generalize hdd : t.depth = td at *
    have HD := Lib.hid hdd
    clear hw hd hw0 h ht hf hdd
    go_enter Try.func15, Try.ntmps15
    go_wp2_with fail
    refine HW.out.mono ?_
    rintro e w1 ⟨rfl, b1⟩
    have HB1 := Lib.hid b1
    clear b1 HW
    go_wp2
    go_loopw [3, 15] (fun v iv wr => ∃ (k : Nat) (S : List (Ex Nd)), k ≤ n ∧ iv = .int .i64 (k : Int) ∧ Hid (∀ t ∈ S, t.ok Nd.op) ∧ Hid (Ex.flats S = L.take k) ∧ Hid (tGo ((L.map Nd.op).drop k) k S.length = -1) ∧ Hid (itC.Own wr w1.heap.size 3 v (S.map Ex.depth)) ∧ Hid (Below w1.heap.size w1 wr)) (fun _ iv _ => n - (intOf iv).toNat)
    case atStart => exact ⟨0, [], by omega, by go_num, Lib.hid (fun t ht => by cases ht), Lib.hid rfl, Lib.hid HG0.out, Lib.hid (Cls.Own.nil _ _ _), Lib.hid (Below.refl _ _)⟩
    case round =>
      obtain ⟨k, S, hk, rfl, HS, HFS, HG, HO, HB⟩ := hrel
      have hSk : S.length ≤ k := by
        refine Nat.le_trans (Ex.flats_size S) ?_
        rw [HFS.out, List.length_take]; omega
      have HDp : Hid (∀ d ∈ S.map Ex.depth, d ≤ k) := Lib.hid (fun d hd => by
        obtain ⟨u, hu, rfl⟩ := List.mem_map.1 hd
        refine Nat.le_trans (Ex.flats_deep S u hu) ?_
        rw [HFS.out, List.length_take]; omega)
      have hbs := HB.out.size
      obtain ⟨a9, cap, rfl, hrow⟩ := HO.out.slice
      rw [List.length_map] at *
      have hcap := hrow.bound
      by_cases hlt : k < n
      · obtain ⟨x, hx⟩ := at_some HLl.out hlt
        obtain ⟨b, off, rfl, e0, e1, e2, -⟩ := Nds.get (Kin.All.later HL.out (below_then HB1.out HB.out)) hx
        have hd := nd_drop hx
        have hki : (k : Int) < (n : Int) := by omega
        have hG2 : tGo (x.op :: (L.map Nd.op).drop (k + 1)) k S.length = -1 := by rw [← hd]; exact HG.out
        have hTk := take_snoc hx
        clear hd HG
        have hrg := tAr_range x.op
        have hno : ¬ (tAr x.op < 0 ∨ (S.length : Int) < tAr x.op) := fun h9 => by rw [tGo, if_pos h9] at hG2; omega
        rw [tGo, if_neg hno] at hG2
        obtain ⟨r, hr⟩ : ∃ r : Nat, tAr x.op = (r : Int) := ⟨(tAr x.op).toNat, by omega⟩
        rw [hr] at hno hrg hG2
        obtain ⟨u, hu1, hu2, hu3⟩ := Ex.push Nd.op x S HS.out r hr (by omega)
        have ba := below_alloc wr (.cells #[.int .i64 x.op, .int .i64 x.i, .slice x.a x.n x.c] 55)
        have HBa := Lib.hid ba
        have HB2 := Lib.hid (below_then HB.out ba)
        obtain ⟨x0, x1, x2⟩ := nd_box (x := x) (blk_new wr #[.int .i64 x.op, .int .i64 x.i, .slice x.a x.n x.c] 55)
        have HX := Lib.hid (HC.out x.op)
        rw [hr] at HX
        obtain ⟨q, hq⟩ : ∃ q, S.length = q + r := ⟨S.length - r, by omega⟩
        have HQ := Lib.hid hq
        rw [hq, Nat.add_sub_cancel] at hu2 hu3
        rw [hq, show q + r + 1 - (r : Int).toNat = q + 1 by omega] at hG2
        have hG3 : tGo ((L.map Nd.op).drop (k + 1)) (k + 1) (S.take q ++ [u]).length = -1 := by
          rw [List.length_append, List.length_take, hq, Nat.min_eq_left (by omega)]; exact hG2
        have HG3 := Lib.hid hG3
        have HF3 : Hid (Ex.flats (S.take q ++ [u]) = L.take (k + 1)) := Lib.hid (by rw [hu2, HFS.out, hTk])
        have HS3 : Hid (∀ t ∈ S.take q ++ [u], t.ok Nd.op) := Lib.hid (fun t ht => by
          rcases List.mem_append.1 ht with h9 | h9
          · exact HS.out t (List.mem_of_mem_take h9)
          · rw [List.mem_singleton.1 h9]; exact hu1)
        have hud : u.depth ≤ k + 1 := by
          refine Nat.le_trans (Ex.flats_deep (S.take q ++ [u]) u (by simp)) ?_
          rw [HF3.out, List.length_take]; omega
        have HDs : Hid (itC.Own wr w1.heap.size 3 (.slice a9 S.length cap) (S.map Ex.depth)) := HO
        have hDl : (S.map Ex.depth).length = q + r := by rw [List.length_map, hq]
        have HM : Hid ((S.take q ++ [u]).map Ex.depth = (S.map Ex.depth).take q ++ [u.depth]) := Lib.hid (by rw [List.map_append, List.map_take]; rfl)
        generalize S.map Ex.depth = ds at *
        generalize hv : u.depth = v at *
        rw [hq] at hrow hcap hSk HDs
        clear hG2 hG3 hu1 hu2 hTk hx hr hno HS HFS hv HO
        have k1 : IntKind.i64.wrap (((q + r : Nat) : Int) - (r : Int)) = (q : Int) := by rw [IntKind.wrap_i64]; omega
        have k2 : IntKind.i64.wrap ((v : Int) + 1) = ((v + 1 : Nat) : Int) := by rw [IntKind.wrap_i64]; omega
        clear ba
        rw [hq] at *
        by_cases hr0 : r = 0
        · obtain rfl : r = 0 := hr0
          have hv1 : v = 1 := by
            rw [hu3, List.drop_of_length_le (by rw [hDl]; omega)]; rfl
          have HDl := Lib.hid hDl
          have HTq : Hid ((ds.take q).length = q) := Lib.hid (by rw [List.length_take, HDl.out]; omega)
          have HH : Hid (itC.Own (wr.alloc (.cells #[.int .i64 x.op, .int .i64 x.i, .slice x.a x.n x.c] 55)) w1.heap.size 3 (.slice a9 q cap) (ds.take q)) := Lib.hid (by
            rw [List.take_of_length_le (by rw [hDl]; omega)]
            exact HDs.out.later HBa.out)
          subst hv1
          clear hu3 hDl HDs hrow
          by_cases hc0 : cap = 0
          · have ha : a9 = none ∨ ∃ ad, a9 = some ad := by cases a9 <;> simp
            obtain rfl : q = 0 := by omega
            subst hc0
            rcases ha with rfl | ⟨ad, rfl⟩
            · go_wp2_with fail
              refine (HX.out _).mono ?_
              rintro e w9 ⟨rfl, rfl⟩
              go_wp2
              generalize hW : wr.alloc (.cells #[.int .i64 x.op, .int .i64 x.i, .slice x.a x.n x.c] 55) = wx at *
              go_loop [7, 29] (fun dv iv => dv = .int .i64 0 ∧ iv = .int .i64 0) (fun _ iv => 0)
              case atStart => exact ⟨rfl, rfl⟩
              case round =>
                obtain ⟨rfl, rfl⟩ := hrel
                go_wp2_with (at_builtin; refine Cls.wpList_append hA rfl _ _ rfl w1.heap.size _ (ds.take 0) rfl (HH.out.later (below_alloc _ _)) ⟨wx.heap.size, 0, none⟩ 1 1 [1] rfl rfl (Cls.news_one (C := itC) _ _ _) (by rw [HTq.out]; unfold maxLen; omega) (by rw [HTq.out]; show (0 + 1) * 8 ≤ _; omega) (by rw [blk_size]; have := HB2.out.size; omega) ?_)
                intro v' w5 hrow hgrow hnew
                have HX5 := Lib.hid hrow
                have HB5 : Hid (Below w1.heap.size w1 w5) := Lib.hid ((below_then HB2.out (below_alloc wx _)).grown hgrow (by rw [blk_size]; have := HB2.out.size; omega) (fun g9 hg9 => by have := HH.out.base g9 hg9; omega))
                clear hrow hgrow hnew
                go_wp2
                go_roundw
                case rel => exact ⟨k + 1, S.take 0 ++ [u], by omega, by go_num, HS3, HF3, HG3, Lib.hid (by rw [HM.out]; exact HX5.out), HB5⟩
                case measure => simp [intOf]; omega
            · go_wp2_with fail
              refine (HX.out _).mono ?_
              rintro e w9 ⟨rfl, rfl⟩
              go_wp2
              generalize hW : wr.alloc (.cells #[.int .i64 x.op, .int .i64 x.i, .slice x.a x.n x.c] 55) = wx at *
              go_loop [7, 29] (fun dv iv => dv = .int .i64 0 ∧ iv = .int .i64 0) (fun _ iv => 0)
              case atStart => exact ⟨rfl, rfl⟩
              case round =>
                obtain ⟨rfl, rfl⟩ := hrel
                go_wp2_with (at_builtin; refine Cls.wpList_append hA rfl _ _ rfl w1.heap.size _ (ds.take 0) rfl (HH.out.later (below_alloc _ _)) ⟨wx.heap.size, 0, none⟩ 1 1 [1] rfl rfl (Cls.news_one (C := itC) _ _ _) (by rw [HTq.out]; unfold maxLen; omega) (by rw [HTq.out]; show (0 + 1) * 8 ≤ _; omega) (by rw [blk_size]; have := HB2.out.size; omega) ?_)
                intro v' w5 hrow hgrow hnew
                have HX5 := Lib.hid hrow
                have HB5 : Hid (Below w1.heap.size w1 w5) := Lib.hid ((below_then HB2.out (below_alloc wx _)).grown hgrow (by rw [blk_size]; have := HB2.out.size; omega) (fun g9 hg9 => by have := HH.out.base g9 hg9; omega))
                clear hrow hgrow hnew
                go_wp2
                go_roundw
                case rel => exact ⟨k + 1, S.take 0 ++ [u], by omega, by go_num, HS3, HF3, HG3, Lib.hid (by rw [HM.out]; exact HX5.out), HB5⟩
                case measure => simp [intOf]; omega
          · obtain ⟨g, rfl, hbg, hgs⟩ := HH.out.form (by omega)
            by_cases hcq : cap = q
            · obtain rfl : q = cap := hcq.symm
              go_wp2_with fail
              refine (HX.out _).mono ?_
              rintro e w9 ⟨rfl, rfl⟩
              go_wp2
              generalize hW : wr.alloc (.cells #[.int .i64 x.op, .int .i64 x.i, .slice x.a x.n x.c] 55) = wx at *
              go_loop [7, 29] (fun dv iv => dv = .int .i64 0 ∧ iv = .int .i64 0) (fun _ iv => 0)
              case atStart => exact ⟨rfl, rfl⟩
              case round =>
                obtain ⟨rfl, rfl⟩ := hrel
                go_wp2_with (at_builtin; refine Cls.wpList_append hA rfl _ _ rfl w1.heap.size _ (ds.take q) rfl (HH.out.later (below_alloc _ _)) ⟨wx.heap.size, 0, none⟩ 1 1 [1] rfl rfl (Cls.news_one (C := itC) _ _ _) (by rw [HTq.out]; unfold maxLen; omega) (by rw [HTq.out]; show (q + 1) * 8 ≤ _; omega) (by rw [blk_size]; have := HB2.out.size; omega) ?_)
                intro v' w5 hrow hgrow hnew
                have HX5 := Lib.hid hrow
                have HB5 : Hid (Below w1.heap.size w1 w5) := Lib.hid ((below_then HB2.out (below_alloc wx _)).grown hgrow (by rw [blk_size]; have := HB2.out.size; omega) (fun g9 hg9 => by have := HH.out.base g9 hg9; omega))
                clear hrow hgrow hnew
                go_wp2
                go_roundw
                case rel => exact ⟨k + 1, S.take q ++ [u], by omega, by go_num, HS3, HF3, HG3, Lib.hid (by rw [HM.out]; exact HX5.out), HB5⟩
                case measure => simp [intOf]; omega
            · go_wp2_with fail
              refine (HX.out _).mono ?_
              rintro e w9 ⟨rfl, rfl⟩
              go_wp2
              generalize hW : wr.alloc (.cells #[.int .i64 x.op, .int .i64 x.i, .slice x.a x.n x.c] 55) = wx at *
              go_loop [7, 29] (fun dv iv => dv = .int .i64 0 ∧ iv = .int .i64 0) (fun _ iv => 0)
              case atStart => exact ⟨rfl, rfl⟩
              case round =>
                obtain ⟨rfl, rfl⟩ := hrel
                go_wp2_with (at_builtin; refine Cls.wpList_append hA rfl _ _ rfl w1.heap.size _ (ds.take q) rfl (HH.out.later (below_alloc _ _)) ⟨wx.heap.size, 0, none⟩ 1 1 [1] rfl rfl (Cls.news_one (C := itC) _ _ _) (by rw [HTq.out]; unfold maxLen; omega) (by rw [HTq.out]; show (q + 1) * 8 ≤ _; omega) (by rw [blk_size]; have := HB2.out.size; omega) ?_)
                intro v' w5 hrow hgrow hnew
                have HX5 := Lib.hid hrow
                have HB5 : Hid (Below w1.heap.size w1 w5) := Lib.hid ((below_then HB2.out (below_alloc wx _)).grown hgrow (by rw [blk_size]; have := HB2.out.size; omega) (fun g9 hg9 => by have := HH.out.base g9 hg9; omega))
                clear hrow hgrow hnew
                go_wp2
                go_roundw
                case rel => exact ⟨k + 1, S.take q ++ [u], by omega, by go_num, HS3, HF3, HG3, Lib.hid (by rw [HM.out]; exact HX5.out), HB5⟩
                case measure => simp [intOf]; omega
        · have hcq : ¬ cap = q := by omega
          obtain ⟨g, rfl, hbg, hgs⟩ := HDs.out.form (by omega)
          have HDb : Hid (itC.Own (wr.alloc (.cells #[.int .i64 x.op, .int .i64 x.i, .slice x.a x.n x.c] 55)) w1.heap.size 3 (.slice (some ⟨g, 0, none⟩) (q + r) cap) ds) := Lib.hid (HDs.out.later HBa.out)
          have HDl := Lib.hid hDl
          have hdr : (ds.drop q).length = r := by rw [List.length_drop, hDl]; omega
          have hm3 : (ds.drop q).foldl max 0 ≤ k := foldl_max_le _ _ _ (Nat.zero_le _) fun d hd => HDp.out d (List.mem_of_mem_drop hd)
          clear hDl
          go_wp2_with fail
          refine (HX.out _).mono ?_
          rintro e w9 ⟨rfl, rfl⟩
          go_wp2
          go_loop [7, 29] (fun dv iv => ∃ j m : Nat, j ≤ r ∧ iv = .int .i64 (j : Int) ∧ dv = .int .i64 (m : Int) ∧ Hid (((ds.drop q).take j).foldl max 0 = m)) (fun _ iv => r - (intOf iv).toNat)
          case atStart => exact ⟨0, 0, by omega, by go_num, by go_num, Lib.hid rfl⟩
          case round =>
            obtain ⟨j, m, hj, rfl, rfl, HF⟩ := hrel
            by_cases hjt : j < r
            · have hji : (j : Int) < (r : Int) := by omega
              obtain ⟨d, hd⟩ := at_some HDl.out (show q + j < q + r by omega)
              have e5 : wr.cell? ⟨g, q + j, none⟩ = some (.int .i64 (d : Int)) := by
                have h9 := (HDs.out.cell hd (q := 0) rfl).1
                simpa [itC] using h9
              have HF2 : Hid (((ds.drop q).take (j + 1)).foldl max 0 = max m d) := Lib.hid (by
                rw [take_snoc (x := d) (by rw [List.getElem?_drop]; exact hd), List.foldl_append, HF.out]; rfl)
              clear hd
              go_wp2
              go_round
              case rel => exact ⟨j + 1, max m d, by omega, by go_num, (by congr 1; show _ = ((max m d : Nat) : Int); first | (split <;> omega) | omega), HF2⟩
              case measure => simp [intOf]; omega
            · obtain rfl : j = r := by omega
              have hmv : m + 1 = v := by
                have h9 := HF.out
                rw [List.take_of_length_le (by rw [hdr]; exact Nat.le_refl _)] at h9
                omega
              have hml : m ≤ k := by omega
              have k2 : IntKind.i64.wrap ((m : Int) + 1) = (v : Int) := by rw [IntKind.wrap_i64]; omega
              have HH : Hid (itC.Own (wr.alloc (.cells #[.int .i64 x.op, .int .i64 x.i, .slice x.a x.n x.c] 55)) w1.heap.size 3 (.slice (some ⟨g, 0, none⟩) q cap) (ds.take q)) := Lib.hid (HDb.out.head (by omega))
              have htq : (ds.take q).length = q := by rw [List.length_take, HDl.out]; omega
              have HTq := Lib.hid htq
              clear HF hdr hm3 htq HDs HDb hrow hu3 hmv
              generalize hW : wr.alloc (.cells #[.int .i64 x.op, .int .i64 x.i, .slice x.a x.n x.c] 55) = wx at *
              go_wp2_with (at_builtin; refine Cls.wpList_append hA rfl _ _ rfl w1.heap.size _ (ds.take q) rfl (HH.out.later (below_alloc _ _)) ⟨wx.heap.size, 0, none⟩ 1 1 [v] rfl rfl (Cls.news_one (C := itC) _ _ _) (by rw [HTq.out]; unfold maxLen; omega) (by rw [HTq.out]; show (q + 1) * 8 ≤ _; omega) (by rw [blk_size]; have := HB2.out.size; omega) ?_)
              intro v' w5 hrow hgrow hnew
              have HX5 := Lib.hid hrow
              have HB5 : Hid (Below w1.heap.size w1 w5) := Lib.hid ((below_then HB2.out (below_alloc wx _)).grown hgrow (by rw [blk_size]; have := HB2.out.size; omega) (fun g9 hg9 => by have := HH.out.base g9 hg9; omega))
              clear hrow hgrow hnew
              go_wp2
              go_roundw
              case rel => exact ⟨k + 1, S.take q ++ [u], by omega, by go_num, HS3, HF3, HG3, Lib.hid (by rw [HM.out]; exact HX5.out), HB5⟩
              case measure => simp [intOf]; omega
      · obtain rfl : k = n := by omega
        have hG : tGo [] k S.length = -1 := by
          have h9 := HG.out
          rw [List.drop_of_length_le (by rw [List.length_map, HLl.out]; exact Nat.le_refl _)] at h9
          exact h9
        have hS1 : S.length = 1 := by
          unfold tGo at hG
          split at hG
          · assumption
          · omega
        have hfs : Ex.flats S = t.flat := by rw [HFS.out, HF.out, List.take_of_length_le (by rw [HLl.out]; exact Nat.le_refl _)]
        have hds : S.map Ex.depth = [td] := by rw [Ex.only_one Nd.op HT.out HS.out hS1 hfs, HD.out]
        rw [hds, hS1] at HO
        rw [hS1] at hcap
        obtain ⟨g, rfl, hbg, hgs⟩ := HO.out.form (by omega)
        have e5 : wr.cell? ⟨g, 0, none⟩ = some (.int .i64 (td : Int)) := by
          have h9 := (HO.out.cell (i := 0) (q := 0) rfl rfl).1
          simpa [itC] using h9
        rw [hS1] at *
        clear hG hS1 hfs hds HG HFS HS HDp hrow
        go_wp2
        go_ret
        exact ⟨rfl, below_then HB1.out HB.out⟩
  · rw [tDepth_none (by omega)]
    rw [decide_eq_false hw] at HW
    clear hw h
    go_enter Try.func15, Try.ntmps15
    go_wp2_with fail
    refine HW.out.mono ?_
    rintro e w1 ⟨rfl, b1⟩
    go_wp2
    go_ret
    exact ⟨rfl, b1⟩
end Go.Proofs.Ytdhfnlpolelcpaa
