/- All that the law over RowText wants. -/
import Derived.Test.YtgmddmcehblklabTxtI
import Derived.Test.YtgmddmcehblklabTxtS
import Derived.Test.YtgmddmcehblklabScrL
