/- All that the law over ActionOK wants. -/
import Derived.Test.YtolbmblffogloabDoorActI
import Derived.Test.YtolbmblffogloabDoorActS
import Derived.Test.YtolbmblffogloabDoorStepLaid
