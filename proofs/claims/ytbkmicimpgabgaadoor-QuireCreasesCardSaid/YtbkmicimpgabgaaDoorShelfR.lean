/-
  The library's contracts on slices.Reverse and slices.Equal at []int, laid at this translation.
-/
import Derived.Shelf.SlicesE.Reverse
import Derived.Shelf.SlicesE.Equal
import Derived.Ground.SlgnProg
import Derived.Shelf.Lay
import Derived.Shelf.LaySoft
import Derived.Shelf.SlGeneric
import Derived.Test.YtbkmicimpgabgaaDoorProg
namespace Go.Proofs
open Go.Shelf
shelf_try shelf_lay_g SlLaysE.n35 Slgn 35 at Tryd 29 as Tryd.revI
shelf_try shelf_lay_g SlLaysE.n33 Slgn 33 at Tryd 51 as Tryd.equI
shelf_tried
end Go.Proofs
