/- All that the law over ResizeScreen wants. -/
import Derived.Test.YteeklocaaidimaaRszJ
import Derived.Test.YteeklocaaidimaaRszT
import Derived.Test.YteeklocaaidimaaNewU
import Derived.Test.YteeklocaaidimaaSize2
import Derived.Test.YteeklocaaidimaaMark2
