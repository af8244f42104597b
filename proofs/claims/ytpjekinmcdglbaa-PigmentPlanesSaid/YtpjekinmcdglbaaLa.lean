/- laid: math/bits.Mul64 -/
import Derived.Shelf.LaySoft
import Derived.Shelf.Lay
import Derived.Shelf.Bits.Mul64
import Derived.Ground.NamesProg
import Derived.Test.YtpjekinmcdglbaaProg
namespace Go.Proofs
open Go.Shelf
shelf_try shelf_lay Lays.n264 Nm 264 at Try as Try.mul64
shelf_tried
#print Try.mul64
end Go.Proofs
