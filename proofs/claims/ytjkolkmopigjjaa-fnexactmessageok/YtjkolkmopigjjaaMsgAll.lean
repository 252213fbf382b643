/- All that the walk names. -/
import Derived.Test.YtjkolkmopigjjaaMsgL
import Derived.Test.YtjkolkmopigjjaaMsgI
import Derived.Test.YtjkolkmopigjjaaMsgS
