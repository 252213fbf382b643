/- All that the law over ReadFrames wants. -/
import Derived.Test.YtgcihpcogkeanaaDoorFrmT
import Derived.Test.YtgcihpcogkeanaaDoorByteV
import Derived.Test.YtgcihpcogkeanaaDoorMarkB
import Derived.Test.YtgcihpcogkeanaaDoorHeldS
