/- All that the law over RowText wants. -/
import Derived.Test.YtjdkafcplnghlaaTxtI
import Derived.Test.YtjdkafcplnghlaaTxtS
import Derived.Test.YtjdkafcplnghlaaScrL
