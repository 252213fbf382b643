/- All that FnExactFieldsBytes' walk wants. -/
import Derived.Test.YthgfoiidekbpbabFieldsI
import Derived.Test.YthgfoiidekbpbabFieldsS
import Derived.Test.YthgfoiidekbpbabByteV
import Derived.Test.YthgfoiidekbpbabMarkB
import Derived.Test.YthgfoiidekbpbabMarkS
import Derived.Test.YthgfoiidekbpbabSizeS
