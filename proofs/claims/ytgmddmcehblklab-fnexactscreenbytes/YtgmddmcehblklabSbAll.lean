/- All that the law over ScreenBytes wants. -/
import Derived.Test.YtgmddmcehblklabBytU
import Derived.Test.YtgmddmcehblklabSize2
import Derived.Test.YtgmddmcehblklabMark2
import Derived.Test.YtgmddmcehblklabByteV
import Derived.Test.YtgmddmcehblklabMarkB
