/- All that the law over RowCells wants. -/
import Derived.Test.YtgggghgbgndmhaaRowI
import Derived.Test.YtgggghgbgndmhaaRowS
import Derived.Test.YtgggghgbgndmhaaScrL
