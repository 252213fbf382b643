/- All that the walk of FnExactNewCluster names. -/
import Derived.Test.YthbkcijkokaoeaaNclH
import Derived.Test.YthbkcijkokaoeaaNclS
