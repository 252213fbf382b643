/- All that the walk names. -/
import Derived.Test.YtgbbmonkhakjnaaDoorWrJ
import Derived.Test.YtgbbmonkhakjnaaDoorWrT
import Derived.Test.YtgbbmonkhakjnaaDoorStoL
import Derived.Test.YtgbbmonkhakjnaaDoorStrS
import Derived.Test.YtgbbmonkhakjnaaDoorSizeS
import Derived.Test.YtgbbmonkhakjnaaDoorStT
