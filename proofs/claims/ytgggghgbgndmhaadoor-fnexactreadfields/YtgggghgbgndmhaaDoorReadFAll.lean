/- All that FnExactReadFields' walk wants. -/
import Derived.Test.YtgggghgbgndmhaaDoorReadFT
import Derived.Test.YtgggghgbgndmhaaDoorByteV
import Derived.Test.YtgggghgbgndmhaaDoorMarkB
import Derived.Test.YtgggghgbgndmhaaDoorHeldS
