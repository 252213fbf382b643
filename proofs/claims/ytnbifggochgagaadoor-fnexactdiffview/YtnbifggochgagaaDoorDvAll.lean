/- DiffView, put together. -/
import Derived.Test.YtnbifggochgagaaDoorDvI
import Derived.Test.YtnbifggochgagaaDoorDvS
import Derived.Test.YtnbifggochgagaaDoorLstN
import Derived.Test.YtnbifggochgagaaDoorVwK
import Derived.Test.YtnbifggochgagaaDoorTzLaid
namespace Go.Proofs.YtnbifggochgagaaDoor
end Go.Proofs.YtnbifggochgagaaDoor
