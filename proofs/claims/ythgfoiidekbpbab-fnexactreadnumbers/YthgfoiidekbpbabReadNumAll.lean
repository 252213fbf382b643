/- All that FnExactReadNumbers' walk wants. -/
import Derived.Test.YthgfoiidekbpbabReadNumI
import Derived.Test.YthgfoiidekbpbabReadNumS
import Derived.Test.YthgfoiidekbpbabByteV
import Derived.Test.YthgfoiidekbpbabMarkB
