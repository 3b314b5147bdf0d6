/- In a seat with great numbers the steps of regions lie in GReg (no walk). -/
import Derived.Test.YtmafljcolniddaaFB
import Derived.Test.YtmafljcolniddaaGB
