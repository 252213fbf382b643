/- All that the walk names. -/
import Derived.Test.YtkopaolahlpmiaaNdL
import Derived.Test.YtkopaolahlpmiaaNdQ
import Derived.Test.YtkopaolahlpmiaaNdS
