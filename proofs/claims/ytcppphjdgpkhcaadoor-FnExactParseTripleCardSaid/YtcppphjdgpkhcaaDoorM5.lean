/- The model's running: loops; whatever program. -/
import Derived.Test.YtcppphjdgpkhcaaDoorM4
namespace Go.Proofs.YtcppphjdgpkhcaaDoor
open Go.ChangeShapes Go.WideShapes Go.ChangeAt Go.RowKit Go.Shelf
attribute [local go_sem] Oper.semAt_some
set_option maxRecDepth 100000



end Go.Proofs.YtcppphjdgpkhcaaDoor

