/-
  Twin matrices of the call's own that grow side by side; a right row behind one, at a step of a region that draws its order. Of no program.
-/
import Derived.Test.YtpjkhbfglgmnmaaGreatDoorG16
import Derived.Deep.RegionLaw
namespace Go.Proofs.YtpjkhbfglgmnmaaGreatDoor
open Go.RowKit

theorem step_append_rowR {P : Program} {ops : Array Oper} {o : Oper} {act : Act} {w : World} {K : Act → World → Prop} {Q9 : Exit → Act → World → Prop} {E : Prop} (hgd : o.guard = none) (s x : Operand) (t : TypeId)
    (ho : o.op = .call { callee := .builtin .append, args := #[s, x], argTypes := #[t, t] })
    (base : Nat) (e : TypeId) (i : TypeInfo) (ht : P.underlying t = some (.slice e)) (hi : P.info? e = some i) (hz : i.zero = some (.slice none 0 0))
    (hsize : i.size = 1) (hby : i.bytes = 24) (v : Value) (Q : List (List Rat)) (hs : act.eval s = v) (hrow : OwnR w base e v Q)
    (ad : Addr) (a : Option Addr) (n c : Nat) (qs : List Rat) (hx : act.eval x = .slice (some ad) 1 1)
    (hnew : w.cell? ad = some (.slice a n c)) (had : ad.add 0 = ad) (hL : Rw w a n c qs)
    (hlen : Q.length ≤ 1000000) (hbase : base ≤ w.heap.size)
    (h : ∀ v' w', OwnR w' base e v' (Q ++ [qs]) → w.grownBy w' v.ownBlock → (∀ k, v.ownBlock = some k → base ≤ k) → Fresh w v v' → K (act.put o.dst v') w') : if Region.wanted o (yielded ops act.tmps) = true then Oper.wp P o act w K Q9 else E := by
  have hwt : Region.wanted o (yielded ops act.tmps) = true := by simp [Region.wanted, hgd]
  rw [if_pos hwt]
  obtain ⟨v', w', hr, h1, h2, h3, h4⟩ := run_append_rowR (P := P) w t o.type base e i ht hi hz hsize hby v Q hrow ad a n c qs hnew had hL hlen hbase
  unfold Oper.wp execOp
  simp only [ho, resolve, invoke, builtin, Sem.run_bind, Sem.run_pure, Result.andThen_ok, List.map_toArray, List.map_cons, List.map_nil, hs, hx, hr]
  exact h v' w' h1 h2 h3 h4
/-- Twin values lead to blocks of their own. -/
def apart (v s : Value) : Prop := ∀ j, v.ownBlock = some j → s.ownBlock ≠ some j
theorem OwnR.block {w : World} {base : Nat} {e : TypeId} {v : Value} {Q : List (List Rat)} (h : OwnR w base e v Q) : ∀ k, v.ownBlock = some k → base ≤ k ∧ k < w.heap.size := by
  obtain ⟨LL, ⟨XS, h1, _⟩, _⟩ := h
  exact h1.lt
theorem OwnR.beside {w w' : World} {base : Nat} {e : TypeId} {v s : Value} {Q : List (List Rat)} (h : OwnR w base e s Q) (hc : holdsSlices w v) (hg : w.grownBy w' v.ownBlock) (ha : apart v s) : OwnR w' base e s Q := by
  have hbl := h.block
  obtain ⟨LL, ⟨XS, h1, h3, h4, h5⟩, h6, h7⟩ := h
  refine ⟨LL, ⟨XS, h1.kept hg ?_, fun g hgs j u hu => ?_, h4, fun j hj => (h5 j hj).aside hc hg⟩, h6, h7⟩
  · cases hs : s.ownBlock with
    | none => exact .inl rfl
    | some j => exact .inr (fun e2 => ha j e2.symm hs)
  · rw [World.cell?_of_block (a := ⟨g, j, none⟩) (hg.block g (hbl g hgs).2 (fun e2 => ha g e2.symm hgs))] at hu
    exact h3 g hgs j u hu
/-- Twin of them. -/
def Twin (w : World) (base : Nat) (e : TypeId) (v : Value) (P : List (List Rat)) (s : Value) (Q : List (List Rat)) : Prop := OwnR w base e v P ∧ OwnR w base e s Q ∧ apart v s
theorem Twin.later {w w' : World} {base : Nat} {e : TypeId} {v s : Value} {P Q : List (List Rat)} (h : Twin w base e v P s Q) (hb : Below w.heap.size w w') : Twin w' base e v P s Q := ⟨h.1.later hb, h.2.1.later hb, h.2.2⟩
theorem Twin.nil (w : World) (base : Nat) (e : TypeId) : Twin w base e (.slice none 0 0) [] (.slice none 0 0) [] := ⟨OwnR.nil _ _ _, OwnR.nil _ _ _, fun j hj => by simp [Value.ownBlock] at hj⟩
theorem Twin.first {w w' : World} {base : Nat} {e : TypeId} {v v' s : Value} {P P' Q : List (List Rat)} (h : Twin w base e v P s Q) (hv : OwnR w' base e v' P') (hg : w.grownBy w' v.ownBlock) (hc : Fresh w v v') : Twin w' base e v' P' s Q := by
  refine ⟨hv, h.2.1.beside hc.held hg h.2.2, fun j hj hs => ?_⟩
  rcases hc.new j hj with h1 | h1
  · exact h.2.2 j h1 hs
  · have := (h.2.1.block j hs).2
    omega
theorem Twin.turn {w : World} {base : Nat} {e : TypeId} {v s : Value} {P Q : List (List Rat)} (h : Twin w base e v P s Q) : Twin w base e s Q v P := ⟨h.2.1, h.1, fun j hj hs => h.2.2 j hs hj⟩
theorem Twin.second {w w' : World} {base : Nat} {e : TypeId} {v s s' : Value} {P Q Q' : List (List Rat)} (h : Twin w base e v P s Q) (hv : OwnR w' base e s' Q') (hg : w.grownBy w' s.ownBlock) (hc : Fresh w s s') : Twin w' base e v P s' Q' := (h.turn.first hv hg hc).turn
end Go.Proofs.YtpjkhbfglgmnmaaGreatDoor
