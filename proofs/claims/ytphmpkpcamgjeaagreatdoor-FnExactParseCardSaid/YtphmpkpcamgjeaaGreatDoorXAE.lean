import Derived.Test.YtphmpkpcamgjeaaGreatDoorXAD
import Derived.Test.YtphmpkpcamgjeaaGreatDoorS1
import Derived.Lib.ItoaNum
import Derived.Lib.ItoaMem
import Derived.Laws.BytesArg
import Derived.Lib.ItoaLen
import Derived.Test.YtphmpkpcamgjeaaGreatDoorXAA
import Derived.Lib.TrimByte
set_option linter.unusedVariables false
set_option linter.unusedSimpArgs false
set_option maxRecDepth 100000
set_option maxHeartbeats 16000000
namespace Go.Proofs.YtphmpkpcamgjeaaGreatDoor.Rx
open Go.ChangeShapes Go.WideShapes Go.ChangeAt Go.RowKit Go.Proofs.Tryz Go.Shelf
end Go.Proofs.YtphmpkpcamgjeaaGreatDoor.Rx
namespace Go.Proofs.YtphmpkpcamgjeaaGreatDoor.Rx
open Go.ChangeShapes Go.WideShapes Go.ChangeAt Go.RowKit Go.Proofs.Tryz Go.Shelf
end Go.Proofs.YtphmpkpcamgjeaaGreatDoor.Rx
namespace Go.Proofs.YtphmpkpcamgjeaaGreatDoor.Rx
open Go.ChangeShapes Go.WideShapes Go.ChangeAt Go.RowKit Go.Proofs.Tryz Go.Shelf
theorem chain {w W w':World} (h:Below w.heap.size w W) (hb:Below W.heap.size W w'):Below w.heap.size w w':=h.trans (hb.mono h.size)
end Go.Proofs.YtphmpkpcamgjeaaGreatDoor.Rx
namespace Go.Proofs.YtphmpkpcamgjeaaGreatDoor.Rx
open Go.ChangeShapes Go.WideShapes Go.ChangeAt Go.RowKit Go.Proofs.Tryz Go.Shelf
end Go.Proofs.YtphmpkpcamgjeaaGreatDoor.Rx
