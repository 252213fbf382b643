/- All that the law FnFields wants. -/
import Derived.Test.YtoapgccpaockfaaDoorSrcT
import Derived.Test.YtoapgccpaockfaaDoorFieldsI
import Derived.Test.YtoapgccpaockfaaDoorFieldsS
import Derived.Test.YtoapgccpaockfaaDoorReadFT
import Derived.Test.YtoapgccpaockfaaDoorNumbersI
import Derived.Test.YtoapgccpaockfaaDoorNumbersS
import Derived.Test.YtoapgccpaockfaaDoorReadNumI
import Derived.Test.YtoapgccpaockfaaDoorLawL
import Derived.Test.YtoapgccpaockfaaDoorFldRT
