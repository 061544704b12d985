/-
  The library's contract on strings.Builder (String), laid at this translation.
-/
import Derived.Shelf.Strings.BuilderF
import Derived.Shelf.Strings.BuilderK
import Derived.Ground.NamesProg
import Derived.Shelf.Lay
import Derived.Shelf.LaySoft
import Derived.Shelf.SlGeneric
import Derived.Test.YtlbepjmiligpcaaDoorProg
namespace Go.Proofs
open Go.Shelf
shelf_try shelf_lay Lays.n169 Nm 169 at Tryd as Tryd.lays169
shelf_tried
end Go.Proofs
