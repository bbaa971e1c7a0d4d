import Derived.Test.YtmdheijpnlonoaaMAF
import Derived.Test.YtmdheijpnlonoaaChecked
import Derived.KernelRfl
namespace Go.Proofs.Ytmdheijpnlonoaa
open Go Go.AbsE
theorem plan74_0 : plan (((drawnOps Try.f74)[0]?).getD #[]) = some (mkPlan (((drawnOps Try.f74)[0]?).getD #[]).toList [(0, 0, true, false), (1, 0, true, false), (2, 2, true, false), (3, 0, true, false), (4, 0, true, false),   (5, 30, false, false), (6, 63, false, false), (7, 127, false, false), (8, 255, false, false)]) := by kernel_rfl
end Go.Proofs.Ytmdheijpnlonoaa
