/- All of SameScreen. -/
import Derived.Test.YtoinflfnddjggaaBytT
import Derived.Test.YtoinflfnddjggaaSize2
import Derived.Test.YtoinflfnddjggaaRowV
