/- ViewOK, put together. -/
import Derived.Test.YtbigcpncehihgaaVoJ
import Derived.Test.YtbigcpncehihgaaVoS
import Derived.Test.YtbigcpncehihgaaVwL
namespace Go.Proofs.Ytbigcpncehihgaa
end Go.Proofs.Ytbigcpncehihgaa
