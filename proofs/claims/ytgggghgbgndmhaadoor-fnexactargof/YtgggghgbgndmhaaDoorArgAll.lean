/- All that the law over ArgOf wants. -/
import Derived.Test.YtgggghgbgndmhaaDoorArgOf
import Derived.Test.YtgggghgbgndmhaaDoorStepLaid
