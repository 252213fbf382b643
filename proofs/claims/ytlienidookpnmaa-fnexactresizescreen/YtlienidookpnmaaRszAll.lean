/- All that the law over ResizeScreen wants. -/
import Derived.Test.YtlienidookpnmaaRszJ
import Derived.Test.YtlienidookpnmaaRszT
import Derived.Test.YtlienidookpnmaaNewU
import Derived.Test.YtlienidookpnmaaSize2
import Derived.Test.YtlienidookpnmaaMark2
