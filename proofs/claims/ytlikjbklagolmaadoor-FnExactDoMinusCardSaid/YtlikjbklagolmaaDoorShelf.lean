/-
  The library's contracts at this program, each by one application.
-/
import Derived.Shelf.Lay
import Derived.Shelf.LaySoft

import Derived.Test.YtlikjbklagolmaaDoorProg
namespace Go.Proofs
open Go.Shelf
shelf_tried
end Go.Proofs
