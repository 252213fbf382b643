/- All that FnExactFitLayout's walk names. -/
import Derived.Test.YtpmbpmpkobnjhaaFitOI
