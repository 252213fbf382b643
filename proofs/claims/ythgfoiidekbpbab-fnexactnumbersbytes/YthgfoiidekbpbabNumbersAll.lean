/- All that FnExactNumbersBytes' walk wants. -/
import Derived.Test.YthgfoiidekbpbabNumbersI
import Derived.Test.YthgfoiidekbpbabNumbersS
import Derived.Test.YthgfoiidekbpbabByteV
import Derived.Test.YthgfoiidekbpbabMarkB
