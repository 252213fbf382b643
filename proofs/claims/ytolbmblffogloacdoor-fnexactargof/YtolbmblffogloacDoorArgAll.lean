/- All that the law over ArgOf wants. -/
import Derived.Test.YtolbmblffogloacDoorArgOf
import Derived.Test.YtolbmblffogloacDoorStepLaid
