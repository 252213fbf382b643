/- MirrorOK, put together. -/
import Derived.Test.YtjafncapmbnijaaMrS
import Derived.Test.YtjafncapmbnijaaMrL
namespace Go.Proofs.Ytjafncapmbnijaa
end Go.Proofs.Ytjafncapmbnijaa
