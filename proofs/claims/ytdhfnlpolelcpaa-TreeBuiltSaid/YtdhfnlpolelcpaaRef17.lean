/-
  The document's answer of layer 17: Arity, Wrong, Deep, Depth.
-/
import Derived.Test.YtdhfnlpolelcpaaTreeMem
import Derived.WalkKit
namespace Go.Proofs.Ytdhfnlpolelcpaa
open Go.RowKit

set_option maxRecDepth 4096 in
set_option maxHeartbeats 8000000 in
theorem ref17_arity (op : Int) (w : World) : Calls Try.prog 18 #[.int .i64 op] w (Same1 (.int .i64 (tAr op)) w) := by
  by_cases h1 : op < 1
  · have hv : tAr op = (-1) := by unfold tAr; (repeat' split) <;> omega
    rw [hv]
    clear hv
    have k0 : ¬ (1 : Int) ≤ op := by omega
    have k1 : (op == 6) = false := by simp; omega
    have k2 : (op == 11) = false := by simp; omega
    have k3 : ¬ (7 : Int) ≤ op := by omega
    go_enter Try.func18, Try.ntmps18
    go_wp2
    go_ret
    exact ⟨rfl, rfl⟩
  by_cases h2 : op ≤ 5
  · have hv : tAr op = 0 := by unfold tAr; (repeat' split) <;> omega
    rw [hv]
    clear hv
    have k0 : (1 : Int) ≤ op := by omega
    have k1 : op ≤ 5 := by omega
    go_enter Try.func18, Try.ntmps18
    go_wp2
    go_ret
    exact ⟨rfl, rfl⟩
  by_cases h3 : op = 6
  · have hv : tAr op = 1 := by unfold tAr; (repeat' split) <;> omega
    rw [hv]
    clear hv
    have k0 : (1 : Int) ≤ op := by omega
    have k1 : ¬ op ≤ 5 := by omega
    have k2 : (op == 6) = true := by simp; omega
    go_enter Try.func18, Try.ntmps18
    go_wp2
    go_ret
    exact ⟨rfl, rfl⟩
  by_cases h4 : op = 11
  · have hv : tAr op = 1 := by unfold tAr; (repeat' split) <;> omega
    rw [hv]
    clear hv
    have k0 : (1 : Int) ≤ op := by omega
    have k1 : ¬ op ≤ 5 := by omega
    have k2 : (op == 6) = false := by simp; omega
    have k3 : (op == 11) = true := by simp; omega
    go_enter Try.func18, Try.ntmps18
    go_wp2
    go_ret
    exact ⟨rfl, rfl⟩
  by_cases h5 : op ≤ 10
  · have hv : tAr op = 2 := by unfold tAr; (repeat' split) <;> omega
    rw [hv]
    clear hv
    have k0 : (1 : Int) ≤ op := by omega
    have k1 : ¬ op ≤ 5 := by omega
    have k2 : (op == 6) = false := by simp; omega
    have k3 : (op == 11) = false := by simp; omega
    have k4 : (7 : Int) ≤ op := by omega
    have k5 : op ≤ 10 := by omega
    go_enter Try.func18, Try.ntmps18
    go_wp2
    go_ret
    exact ⟨rfl, rfl⟩
  · have hv : tAr op = (-1) := by unfold tAr; (repeat' split) <;> omega
    rw [hv]
    clear hv
    have k0 : (1 : Int) ≤ op := by omega
    have k1 : ¬ op ≤ 5 := by omega
    have k2 : (op == 6) = false := by simp; omega
    have k3 : (op == 11) = false := by simp; omega
    have k4 : (7 : Int) ≤ op := by omega
    have k5 : ¬ op ≤ 10 := by omega
    go_enter Try.func18, Try.ntmps18
    go_wp2
    go_ret
    exact ⟨rfl, rfl⟩
theorem nd_drop {L : List Nd} {k : Nat} {x : Nd} (h : L[k]? = some x) : (L.map Nd.op).drop k = x.op :: (L.map Nd.op).drop (k + 1) := by
  have hl : k < L.length := by
    rcases Nat.lt_or_ge k L.length with h9 | h9
    · exact h9
    · rw [List.getElem?_eq_none h9] at h; cases h
  rw [List.getElem?_eq_getElem hl] at h
  rw [List.drop_eq_getElem_cons (by rw [List.length_map]; exact hl), List.getElem_map, Option.some.inj h]
theorem at_mid {α : Type} {A S L : List α} {x : α} {k : Nat} (h : L = A ++ ([x] ++ S)) (hk : A.length = k) : L[k]? = some x ∧ k < L.length := by
  subst h hk
  exact ⟨by simp, by simp⟩
set_option maxRecDepth 4096 in
set_option maxHeartbeats 8000000 in
theorem ref17_wrong (a : Option Addr) (n c : Nat) (L : List Nd) (w : World) (h : Nds w a n c L) : Calls Try.prog 12 #[.slice a n c] w (Same1 (.int .i64 (tWrong (L.map Nd.op))) w) := by
  have HL := Lib.hid h
  have HLl := Lib.hid h.len
  have hbd := h.bound
  clear h
  obtain ⟨R, hR⟩ : ∃ R, tWrong (L.map Nd.op) = R := ⟨_, rfl⟩
  rw [hR]
  have HR := Lib.hid hR
  clear hR
  have HC := Lib.hid fun op => ref17_arity op w
  go_enter Try.func12, Try.ntmps12
  go_wp2
  go_loop [3, 4] (fun ov iv => ∃ k o : Nat, k ≤ n ∧ o ≤ k ∧ ov = .int .i64 (o : Int) ∧ iv = .int .i64 (k : Int) ∧ Hid (tGo ((L.map Nd.op).drop k) k o = R)) (fun _ iv => n - (intOf iv).toNat)
  case atStart => exact ⟨0, 0, by omega, by omega, by go_num, by go_num, Lib.hid HR.out⟩
  case round =>
    obtain ⟨k, o, hk, ho, rfl, rfl, HG⟩ := hrel
    by_cases hlt : k < n
    · obtain ⟨x, hx⟩ : ∃ x, L[k]? = some x := ⟨L[k]'(by rw [HLl.out]; exact hlt), List.getElem?_eq_getElem _⟩
      obtain ⟨b, off, rfl, e0, e1, e2, -⟩ := HL.out.get hx
      have hd := nd_drop hx
      have hki : (k : Int) < (n : Int) := by omega
      have HG2 : Hid (tGo (x.op :: (L.map Nd.op).drop (k + 1)) k o = R) := Lib.hid (by rw [← hd]; exact HG.out)
      clear hd hx HG
      have hrg := tAr_range x.op
      obtain ⟨r, hr⟩ : ∃ r, tAr x.op = r := ⟨_, rfl⟩
      have HX := Lib.hid (HC.out x.op)
      have HRr := Lib.hid hr
      rw [hr] at HX hrg
      clear hr
      by_cases h1 : r < 0
      · obtain rfl : R = (k : Int) := by rw [← HG2.out, tGo, if_pos (by rw [HRr.out]; omega)]
        go_wp2_with fail
        refine HX.out.mono ?_
        rintro e w1 ⟨rfl, rfl⟩
        go_wp2
        go_ret
        exact ⟨rfl, rfl⟩
      · by_cases h2 : (o : Int) < r
        · obtain rfl : R = (k : Int) := by rw [← HG2.out, tGo, if_pos (by rw [HRr.out]; omega)]
          go_wp2_with fail
          refine HX.out.mono ?_
          rintro e w1 ⟨rfl, rfl⟩
          go_wp2
          go_ret
          exact ⟨rfl, rfl⟩
        · obtain ⟨q, rfl⟩ : ∃ q : Nat, r = (q : Int) := ⟨r.toNat, by omega⟩
          have HG3 : Hid (tGo ((L.map Nd.op).drop (k + 1)) (k + 1) (o + 1 - q) = R) := Lib.hid (by
            have h9 := HG2.out
            rw [tGo, if_neg (by rw [HRr.out]; omega), HRr.out] at h9
            exact h9)
          have k1 : IntKind.i64.wrap ((o : Int) - (q : Int)) = (o : Int) - (q : Int) := by rw [IntKind.wrap_i64]; omega
          have k2 : IntKind.i64.wrap ((o : Int) - (q : Int) + 1) = ((o + 1 - q : Nat) : Int) := by rw [IntKind.wrap_i64]; omega
          clear HG2 HRr
          go_wp2_with fail
          refine HX.out.mono ?_
          rintro e w1 ⟨rfl, rfl⟩
          go_wp2
          go_round
          case rel => exact ⟨k + 1, o + 1 - q, by omega, by omega, by go_num, by go_num, HG3⟩
          case measure => simp [intOf]; omega
    · obtain rfl : k = n := by omega
      have HG2 : Hid ((if o = 1 then (-1 : Int) else (k : Int)) = R) := Lib.hid (by
        have h9 := HG.out
        rw [List.drop_of_length_le (by rw [List.length_map, HLl.out]; exact Nat.le_refl _), tGo] at h9
        exact h9)
      clear HG
      by_cases h1 : o = 1
      · obtain rfl : R = -1 := by rw [← HG2.out, if_pos h1]
        have q1 : ((o : Int) == 1) = true := by simp [h1]
        go_wp2
        go_ret
        exact ⟨rfl, rfl⟩
      · obtain rfl : R = (k : Int) := by rw [← HG2.out, if_neg h1]
        have q1 : ((o : Int) == 1) = false := by simp; omega
        go_wp2
        go_ret
        exact ⟨rfl, rfl⟩
set_option maxRecDepth 4096 in
set_option maxHeartbeats 8000000 in
theorem ref17_deep (a : Option Addr) (n c : Nat) (L : List Nd) (w : World) (h : Nds w a n c L) (hn : n ≤ 1000000) : ∀ (t : Ex Nd) (P S : List Nd), t.ok Nd.op → L = P ++ t.flat ++ S → ∀ z : Int, z = ((P.length + t.flat.length : Nat) : Int) - 1 →
    Calls Try.prog 35 #[.slice a n c, .int .i64 z] w (Same1 (.tuple #[.int .i64 (t.depth : Int), .int .i64 (P.length : Int)]) w) := by
  have HL := Lib.hid h
  have HLl := Lib.hid h.len
  have hbd := h.bound
  have HC := Lib.hid fun op => ref17_arity op w
  clear h
  intro t
  induction t with
  | leaf x =>
    intro P S ht hL z hz
    obtain ⟨hx, hlt⟩ := at_mid (L := L) (A := P) (x := x) (S := S) (k := P.length) (by rw [hL]; simp [Ex.flat]) rfl
    rw [HLl.out] at hlt
    obtain ⟨b, off, rfl, e0, -, -, -⟩ := HL.out.get hx
    have HX := Lib.hid (HC.out x.op)
    rw [show tAr x.op = 0 from ht] at HX
    obtain ⟨p, hp⟩ : ∃ p, P.length = p := ⟨_, rfl⟩
    simp only [Ex.flat, List.length_singleton, Ex.depth] at hz ⊢
    rw [hp] at hz hlt e0 ⊢
    obtain rfl : z = (p : Int) := by omega
    have hki : (p : Int) < (n : Int) := by omega
    clear hx hL hp ht hz
    go_enter Try.func35, Try.ntmps35
    go_wp2_with fail
    refine HX.out.mono ?_
    rintro e w1 ⟨rfl, rfl⟩
    go_wp2
    go_loop [6, 7, 8] (fun dv fv kv => dv = .int .i64 0 ∧ fv = .int .i64 (p : Int) ∧ kv = .int .i64 0) (fun _ _ _ => 0)
    case atStart => exact ⟨rfl, rfl, rfl⟩
    case round =>
      obtain ⟨rfl, rfl, rfl⟩ := hrel
      go_wp2
      go_ret2
      exact ⟨rfl, rfl⟩
  | one t x ih =>
    intro P S ht hL z hz
    have hflat : L = P ++ t.flat ++ ([x] ++ S) := by rw [hL]; simp [Ex.flat]
    obtain ⟨hx, hlt⟩ := at_mid (k := P.length + t.flat.length) hflat (by rw [List.length_append])
    rw [HLl.out] at hlt
    have IH := Lib.hid (ih P ([x] ++ S) ht.1 hflat)
    obtain ⟨b, off, rfl, e0, -, -, -⟩ := HL.out.get hx
    have HX := Lib.hid (HC.out x.op)
    rw [show tAr x.op = 1 from ht.2] at HX
    have hpos := t.flat_pos
    have hdl := t.depth_le
    simp only [Ex.flat, List.length_append, List.length_singleton, Ex.depth] at hz ⊢
    generalize t.flat.length = q at *
    generalize P.length = p at *
    generalize t.depth = d at *
    obtain rfl : z = ((p + q : Nat) : Int) := by omega
    have hki : ((p + q : Nat) : Int) < (n : Int) := by omega
    clear hx hL hflat ht hz ih
    obtain ⟨s, hs⟩ : ∃ s, p + q = s := ⟨_, rfl⟩
    rw [hs] at hki IH e0 hlt ⊢
    have k1 : IntKind.i64.wrap ((s : Int) - 1) = (s : Int) - 1 := by rw [IntKind.wrap_i64]; omega
    have k2 : IntKind.i64.wrap ((d : Int) + 1) = (d : Int) + 1 := by rw [IntKind.wrap_i64]; omega
    have HSs := Lib.hid hs
    clear hs
    go_enter Try.func35, Try.ntmps35
    go_wp2_with fail
    refine HX.out.mono ?_
    rintro e w1 ⟨rfl, rfl⟩
    go_wp2
    go_loop [6, 7, 8] (fun dv fv kv => (dv = .int .i64 0 ∧ fv = .int .i64 (s : Int) ∧ kv = .int .i64 1) ∨ (dv = .int .i64 (d : Int) ∧ fv = .int .i64 (p : Int) ∧ kv = .int .i64 0)) (fun _ _ kv => (intOf kv).toNat)
    case atStart => exact .inl ⟨rfl, rfl, rfl⟩
    case round =>
      rcases hrel with ⟨rfl, rfl, rfl⟩ | ⟨rfl, rfl, rfl⟩
      · go_wp2_with fail
        refine (IH.out _ (by omega)).mono ?_
        rintro e w1 ⟨rfl, rfl⟩
        go_wp2
        go_round
        case rel => exact .inr ⟨by go_num, rfl, rfl⟩
        case measure => simp [intOf]
      · go_wp2
        go_ret2
        exact ⟨by simp, rfl⟩
  | two s t x ihs iht =>
    intro P S ht hL z hz
    have hflat : L = (P ++ s.flat) ++ t.flat ++ ([x] ++ S) := by rw [hL]; simp [Ex.flat]
    have hflat2 : L = P ++ s.flat ++ (t.flat ++ [x] ++ S) := by rw [hL]; simp [Ex.flat]
    obtain ⟨hx, hlt⟩ := at_mid (k := P.length + s.flat.length + t.flat.length) hflat (by rw [List.length_append, List.length_append])
    rw [HLl.out] at hlt
    have IT := Lib.hid (iht (P ++ s.flat) ([x] ++ S) ht.2.1 hflat)
    have IS := Lib.hid (ihs P (t.flat ++ [x] ++ S) ht.1 hflat2)
    obtain ⟨b, off, rfl, e0, -, -, -⟩ := HL.out.get hx
    have HX := Lib.hid (HC.out x.op)
    rw [show tAr x.op = 2 from ht.2.2] at HX
    have hpos := s.flat_pos
    have hpot := t.flat_pos
    have hds := s.depth_le
    have hdt := t.depth_le
    rw [List.length_append] at IT
    simp only [Ex.flat, List.length_append, List.length_singleton, Ex.depth] at hz ⊢
    generalize s.flat.length = qs at *
    generalize t.flat.length = qt at *
    generalize P.length = p at *
    generalize s.depth = ds at *
    generalize t.depth = dt at *
    obtain rfl : z = ((p + qs + qt : Nat) : Int) := by omega
    have hki : ((p + qs + qt : Nat) : Int) < (n : Int) := by omega
    clear hx hL hflat hflat2 ht hz ihs iht
    obtain ⟨m, hm⟩ : ∃ m, p + qs = m := ⟨_, rfl⟩
    obtain ⟨e, he⟩ : ∃ e, m + qt = e := ⟨_, rfl⟩
    rw [hm] at hki IT IS e0 hlt ⊢
    rw [he] at hki IT e0 hlt ⊢
    have k1 : IntKind.i64.wrap ((e : Int) - 1) = (e : Int) - 1 := by rw [IntKind.wrap_i64]; omega
    have k2 : IntKind.i64.wrap ((m : Int) - 1) = (m : Int) - 1 := by rw [IntKind.wrap_i64]; omega
    obtain ⟨d, hd⟩ : ∃ d, Nat.max ds dt = d := ⟨_, rfl⟩
    have hdm : (if dt < ds then (ds : Int) else (dt : Int)) = (d : Int) := by rw [← hd]; show _ = ((max ds dt : Nat) : Int); split <;> omega
    have hdle : d ≤ e := by rw [← hd]; show max ds dt ≤ e; omega
    have k3 : IntKind.i64.wrap ((d : Int) + 1) = (d : Int) + 1 := by rw [IntKind.wrap_i64]; omega
    rw [hd]
    have HDM := Lib.hid hdm
    clear hm he hd hdm
    go_enter Try.func35, Try.ntmps35
    go_wp2_with fail
    refine HX.out.mono ?_
    rintro e9 w1 ⟨rfl, rfl⟩
    go_wp2
    go_loop [6, 7, 8] (fun dv fv kv => (dv = .int .i64 0 ∧ fv = .int .i64 (e : Int) ∧ kv = .int .i64 2) ∨ (dv = .int .i64 (dt : Int) ∧ fv = .int .i64 (m : Int) ∧ kv = .int .i64 1) ∨ (dv = .int .i64 (d : Int) ∧ fv = .int .i64 (p : Int) ∧ kv = .int .i64 0)) (fun _ _ kv => (intOf kv).toNat)
    case atStart => exact .inl ⟨rfl, rfl, rfl⟩
    case round =>
      rcases hrel with ⟨rfl, rfl, rfl⟩ | ⟨rfl, rfl, rfl⟩ | ⟨rfl, rfl, rfl⟩
      · go_wp2_with fail
        refine (IT.out _ (by omega)).mono ?_
        rintro e9 w1 ⟨rfl, rfl⟩
        go_wp2
        go_round
        case rel => exact .inr (.inl ⟨by go_num, rfl, rfl⟩)
        case measure => simp [intOf]
      · go_wp2_with fail
        refine (IS.out _ (by omega)).mono ?_
        rintro e9 w1 ⟨rfl, rfl⟩
        go_wp2
        go_round
        case rel => exact .inr (.inr ⟨by rw [HDM.out], rfl, rfl⟩)
        case measure => simp [intOf]
      · go_wp2
        go_ret2
        exact ⟨by simp, rfl⟩
end Go.Proofs.Ytdhfnlpolelcpaa
