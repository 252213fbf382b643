/- IssueToken: both sides. -/
import Derived.Test.YtagjhbogidldjaaDoorIssI
import Derived.Test.YtagjhbogidldjaaDoorIssS
import Derived.Test.YtagjhbogidldjaaDoorTokL
