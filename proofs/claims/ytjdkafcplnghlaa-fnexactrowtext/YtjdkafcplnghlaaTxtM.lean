/- A row's text. -/
import Derived.Test.YtjdkafcplnghlaaRowI
import Derived.Test.YtjdkafcplnghlaaTxN
namespace Go.Proofs.Ytjdkafcplnghlaa
end Go.Proofs.Ytjdkafcplnghlaa
