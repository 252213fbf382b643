/- All that the walks name. -/
import Derived.Test.YtdeamjefkpcofaaEntL
import Derived.Test.YtdeamjefkpcofaaSteI
import Derived.Test.YtdeamjefkpcofaaSteS
