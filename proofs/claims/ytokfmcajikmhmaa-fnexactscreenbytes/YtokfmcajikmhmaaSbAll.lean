/- All that the law over ScreenBytes wants. -/
import Derived.Test.YtokfmcajikmhmaaBytU
import Derived.Test.YtokfmcajikmhmaaSize2
import Derived.Test.YtokfmcajikmhmaaMark2
import Derived.Test.YtokfmcajikmhmaaByteV
import Derived.Test.YtokfmcajikmhmaaMarkB
