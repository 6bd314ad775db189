/-
  Package tree's contracts, whole.
-/
import Derived.Test.YtdhfnlpolelcpaaTree9
namespace Go.Proofs.Ytdhfnlpolelcpaa
open Go.RowKit

theorem gives1 {v : Value} {w : World} {e : Ending} {w' : World} (h : Same1 v w e w') : Gives v w e w' := by
  obtain ⟨rfl, rfl⟩ := h
  exact ⟨rfl, Below.refl _ _⟩
theorem thinN_more {N M : Nat} {L : List Nd} (h : thinN N L) (hNM : N ≤ M) : thinN M L := fun x hx => Nat.le_trans (h x hx) hNM
theorem treeSaid : TreeSaid where
  arity := fun op w => (tree_arity op w).mono fun _ _ h => gives1 h
  wrong := fun a n c L w h hn => tree_wrong a n c L w h (by omega)
  right := fun a n c L w h hn => tree_right a n c L w h (by omega)
  depth := fun a n c L w h hn => tree_depth a n c L w h (by omega)
  parts := fun a n c L M w h hn hM hM2 t ht hf => tree_parts a n c L M w h (by omega) hM (by omega) t ht hf
  parts_no := fun a n c L w h hn hw => tree_parts_no a n c L w h (by omega) hw
  same := fun a n c L b m d M w h h2 hn _ hL hM => tree_same a n c L b m d M w h h2 (by omega) (thinN_more hL (by decide)) (thinN_more hM (by decide))
  codes := fun a n c K b m d O N M w h h2 hn hm hs hN hM => tree_codes a n c K b m d O N M w h h2 (by omega) (by omega) hs (by omega) (by omega)
  size := fun a n c K b m d O w h h2 hn hm hs => tree_size a n c K b m d O w h h2 hn hm (fun x hx => Nat.le_trans (hs x hx) (by decide))
  sameField := fun a n c K b m d O a' n' c' K' b' m' d' O' w h h2 g g2 hn hm _ _ hs hs' => tree_sameField a n c K b m d O a' n' c' K' b' m' d' O' w h h2 g g2 (by omega) (by omega) (fun x hx => ⟨Nat.le_trans (hs x hx).1 (by decide), thinN_more (hs x hx).2 (by decide)⟩) (fun x hx => ⟨Nat.le_trans (hs' x hx).1 (by decide), thinN_more (hs' x hx).2 (by decide)⟩)
end Go.Proofs.Ytdhfnlpolelcpaa
