/- MirrorText, put together. -/
import Derived.Test.YtmmafpadkopnpaaMtS
import Derived.Test.YtmmafpadkopnpaaMrL
import Derived.Test.YtmmafpadkopnpaaMrK
import Derived.Test.YtmmafpadkopnpaaMarkS
import Derived.Test.YtmmafpadkopnpaaHeldS
namespace Go.Proofs.Ytmmafpadkopnpaa
end Go.Proofs.Ytmmafpadkopnpaa
