/- All that the walk of FnCommands names. -/
import Derived.Test.YtoplijjddhecgaaDoorCrS
import Derived.Test.YtoplijjddhecgaaDoorCrJ
import Derived.Test.YtoplijjddhecgaaDoorCbI
import Derived.Test.YtoplijjddhecgaaDoorCbS
import Derived.Test.YtoplijjddhecgaaDoorCmdI
import Derived.Test.YtoplijjddhecgaaDoorCmdS
import Derived.Test.YtoplijjddhecgaaDoorCmdRT
import Derived.Test.YtoplijjddhecgaaDoorSrcD
import Derived.Test.YtoplijjddhecgaaDoorLawL
import Derived.Test.YtoplijjddhecgaaDoorReadFT
