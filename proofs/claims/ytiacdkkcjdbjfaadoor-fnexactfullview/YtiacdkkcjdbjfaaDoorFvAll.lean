/- FullView, put together. -/
import Derived.Test.YtiacdkkcjdbjfaaDoorFvI
import Derived.Test.YtiacdkkcjdbjfaaDoorFvS
import Derived.Test.YtiacdkkcjdbjfaaDoorLstN
import Derived.Test.YtiacdkkcjdbjfaaDoorVwK
import Derived.Test.YtiacdkkcjdbjfaaDoorTzLaid
namespace Go.Proofs.YtiacdkkcjdbjfaaDoor
end Go.Proofs.YtiacdkkcjdbjfaaDoor
