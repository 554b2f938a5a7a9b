import Derived.Test.YtakjpljpdlhicabDoorPg19
import Derived.Test.YtakjpljpdlhicabDoorPgB
namespace Go.Proofs.YtakjpljpdlhicabDoor
open Go.RowKit Go.QK Go.Pg
end Go.Proofs.YtakjpljpdlhicabDoor
