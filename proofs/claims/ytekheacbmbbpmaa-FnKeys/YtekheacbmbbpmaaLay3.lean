/-
  The library's contracts of slices.SortFunc at this program: it calls none.
-/
import Derived.Shelf.SlSortCmp.NoneTotal
import Derived.Test.YtekheacbmbbpmaaProg
namespace Go.Proofs.Ytekheacbmbbpmaa.Lay3

end Go.Proofs.Ytekheacbmbbpmaa.Lay3
