/- All that FnExactLayoutOK's walk names. -/
import Derived.Test.YtgbpfffglpdbpaaOkL
