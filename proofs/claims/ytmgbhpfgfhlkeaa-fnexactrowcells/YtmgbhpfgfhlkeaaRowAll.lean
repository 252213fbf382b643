/- All that the law over RowCells wants. -/
import Derived.Test.YtmgbhpfgfhlkeaaRowI
import Derived.Test.YtmgbhpfgfhlkeaaRowS
import Derived.Test.YtmgbhpfgfhlkeaaScrL
