/-
  No law of its own: it brings the walk's word for a call that is told by one of its arguments.
-/
import Derived.Test.YteihhpjneeaiaabFrame
import Derived.Sort.AtCall
namespace Go.Proofs.Yteihhpjneeaiaab.Sep

theorem nothing : True := trivial


end Go.Proofs.Yteihhpjneeaiaab.Sep
