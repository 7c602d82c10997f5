/- The program's StatesIn and IsWithin, as chapter 4's laws call them. -/
import Derived.Test.YtpepaobgngighabGreatDoorSt
import Derived.Test.YtpepaobgngighabGreatDoorRn
namespace Go.Proofs.YtpepaobgngighabGreatDoor
open Go.ChangeShapes Go.WideShapes Go.ChangeAt Go.RowKit Go.Shelf
set_option maxRecDepth 100000
attribute [local go_sem] Oper.semAt_some

theorem Tryz.info33 : (Tryz.prog.info? 33).map (fun i => (i.zero, i.size, i.bytes)) = some (some (.slice none 0 0), 1, 24) := by kernel_rfl


/-- Both are sets, and the first has no states but those of the second: the answer of both IsWithin. -/
def within (a b : Int) : Bool := isSet a && isSet b && (bits .andNot .i64 a b == 0)

end Go.Proofs.YtpepaobgngighabGreatDoor

