/-
  Nothing is sorted here.
  Conditions: none.
-/
import Derived.Shelf.SlSortCmp.Whole1
import Derived.Test.YthogdfnaojijhaaProg
namespace Go.Proofs.Ythogdfnaojijhaa
end Go.Proofs.Ythogdfnaojijhaa
