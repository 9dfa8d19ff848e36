import Derived.Test.YtpdnapbchcdhlabRDisk
set_option maxHeartbeats 8000000
namespace Go.Proofs.Ytpdnapbchcdhlab
set_option maxRecDepth 100000
open Go.RowKit
open Plain Reg
end Go.Proofs.Ytpdnapbchcdhlab
