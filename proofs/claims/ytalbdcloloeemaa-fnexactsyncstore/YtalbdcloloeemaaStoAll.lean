/- All that the walks name. -/
import Derived.Test.YtalbdcloloeemaaStoL
import Derived.Test.YtalbdcloloeemaaStoI
import Derived.Test.YtalbdcloloeemaaStoS
