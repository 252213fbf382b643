/- All that the law over ParserOK wants. -/
import Derived.Test.YtolbmblffogloabDoorParI
import Derived.Test.YtolbmblffogloabDoorParS
import Derived.Test.YtolbmblffogloabDoorParL
import Derived.Test.YtolbmblffogloabDoorParLaid
