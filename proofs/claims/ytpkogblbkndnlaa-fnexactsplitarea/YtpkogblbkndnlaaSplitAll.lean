/- All that the walk names. -/
import Derived.Test.YtpkogblbkndnlaaSplitOI
