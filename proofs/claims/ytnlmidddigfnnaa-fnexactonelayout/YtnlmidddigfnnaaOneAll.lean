/- All that FnExactOneLayout's walk names. -/
import Derived.Test.YtnlmidddigfnnaaOneI
import Derived.Test.YtnlmidddigfnnaaLayU
