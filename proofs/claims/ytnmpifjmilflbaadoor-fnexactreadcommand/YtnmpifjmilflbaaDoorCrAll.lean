/- All that the walk names. -/
import Derived.Test.YtnmpifjmilflbaaDoorCrS
import Derived.Test.YtnmpifjmilflbaaDoorByteV
