/- All that the walks name. -/
import Derived.Test.YtpnajbnnjfgaaaaStoL
import Derived.Test.YtpnajbnnjfgaaaaStoI
import Derived.Test.YtpnajbnnjfgaaaaStoS
