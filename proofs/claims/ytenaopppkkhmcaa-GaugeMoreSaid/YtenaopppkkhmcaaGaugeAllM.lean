/-
  Package gauge at this seat: all its contracts.
-/
import Derived.Test.YtenaopppkkhmcaaGauge2M
namespace Go.Proofs.Ytenaopppkkhmcaa
open Go.RowKit

theorem gaugeSaid : GaugeSaid gaugeIs where
  lt := fun h => (Array.getElem?_eq_some_iff.1 h).1
  keep := fun h k => k.trans h
  bare := fun h => h.bare
  new := fun z w h => gauge_new z w h
  limit := fun w g l s p h _ => gauge_limit w g l s p h
  take := fun w g l s p x h h1 h2 h3 h4 h5 h6 => gauge_take w g l s p x h h1 h2 h3 h4 h5 h6
  row := fun w g l s p a n c L h h1 h2 h3 h4 h5 h6 => gauge_row w g l s p a n c L h h1 h2 h3 h4 h5 h6
  tells := fun w g l s p h => gauge_tells w g l s p h
  over := fun w g l s p h _ _ => gauge_over w g l s p h
end Go.Proofs.Ytenaopppkkhmcaa
