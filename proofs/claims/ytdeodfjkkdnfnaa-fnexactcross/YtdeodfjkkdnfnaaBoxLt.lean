/- A box lies in the world (no walk). -/
import Derived.Test.YtdeodfjkkdnfnaaBase
import Derived.Deep.RegionHeld
namespace Go.Proofs.Ytdeodfjkkdnfnaa
open Go.RowKit

theorem BoxW.lt4 {w : World} {base b : Nat} {x y : Value} (h : BoxW w base b x y) : b < w.heap.size := block_lt_of_cell h.c0

end Go.Proofs.Ytdeodfjkkdnfnaa
