/- All that the law over ScreenOK wants. -/
import Derived.Test.YtkhkhmedaaobaaaOkJ
import Derived.Test.YtkhkhmedaaobaaaOkS
import Derived.Test.YtkhkhmedaaobaaaScrL
