/- All that the walk names. -/
import Derived.Test.YtenogapfmpgooaaCbI
import Derived.Test.YtenogapfmpgooaaCbS
import Derived.Test.YtenogapfmpgooaaLawC
import Derived.Test.YtenogapfmpgooaaByteV
import Derived.Test.YtenogapfmpgooaaMarkB
