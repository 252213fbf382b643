/- All that FnExactHmac's walk wants. -/
import Derived.Test.YthgfoiidekbpbaaDoorHmacI
import Derived.Test.YthgfoiidekbpbaaDoorHmacS
import Derived.Test.YthgfoiidekbpbaaDoorRounds
