/- All that the walk names. -/
import Derived.Test.YtpbpcppkhifpgaaNdR
import Derived.Test.YtpbpcppkhifpgaaCmI
import Derived.Test.YtpbpcppkhifpgaaCmS
import Derived.Test.YtpbpcppkhifpgaaMarkS
import Derived.Test.YtpbpcppkhifpgaaHeldS
