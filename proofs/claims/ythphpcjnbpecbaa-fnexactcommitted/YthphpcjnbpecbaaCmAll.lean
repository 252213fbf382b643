/- All that the walk names. -/
import Derived.Test.YthphpcjnbpecbaaNdR
import Derived.Test.YthphpcjnbpecbaaCmI
import Derived.Test.YthphpcjnbpecbaaCmS
import Derived.Test.YthphpcjnbpecbaaMarkS
import Derived.Test.YthphpcjnbpecbaaHeldS
