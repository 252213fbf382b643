/- TokenMark: both sides. -/
import Derived.Test.YtoghgmdiojnglaaDoorTokH
import Derived.Test.YtoghgmdiojnglaaDoorTokS
import Derived.Test.YtoghgmdiojnglaaDoorTokL
