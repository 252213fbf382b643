/- The table's row of a byte. -/
import Derived.Test.YtagjhbogidldjaaDoorBase
namespace Go.Proofs.YtagjhbogidldjaaDoor
theorem Tryd.info5 : (Tryd.prog.info? 5).map (fun i => (i.zero, i.size, i.bytes)) = some (some (.int .u8 0), 1, 1) := by kernel_rfl
end Go.Proofs.YtagjhbogidldjaaDoor
