/- All that the walks name. -/
import Derived.Test.YtfpfnpkjpflhgaaStoL
import Derived.Test.YtfpfnpkjpflhgaaStoI
import Derived.Test.YtfpfnpkjpflhgaaStoS
