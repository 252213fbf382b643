/- All that the walk names. -/
import Derived.Test.YtmgjhmjlfdddiaaCmdI
import Derived.Test.YtmgjhmjlfdddiaaCmdS
import Derived.Test.YtmgjhmjlfdddiaaLawC
