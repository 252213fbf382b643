/- CutChunks: all that its law's walk wants. -/
import Derived.Test.YtffnehaccgfnjaaChkI
import Derived.Test.YtffnehaccgfnjaaChkS
import Derived.Test.YtffnehaccgfnjaaByteV
import Derived.Test.YtffnehaccgfnjaaMarkB
import Derived.Test.YtffnehaccgfnjaaMarkS
import Derived.Test.YtffnehaccgfnjaaHeldS
