/- All that the law over ScreenOK wants. -/
import Derived.Test.YtgggghgbgndmhaaOkJ
import Derived.Test.YtgggghgbgndmhaaOkS
import Derived.Test.YtgggghgbgndmhaaScrL
