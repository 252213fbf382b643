/- All of SameScreen. -/
import Derived.Test.YtgmddmcehblklabBytT
import Derived.Test.YtgmddmcehblklabSize2
import Derived.Test.YtgmddmcehblklabRowV
