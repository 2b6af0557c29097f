/- The walk of RatsAreAField. -/
import Derived.Test.YtibfmcohodhkbaaGreatDoorQ28
namespace Go.Proofs.YtibfmcohodhkbaaGreatDoor
open Go.RowKit Hm Wm Wn

end Go.Proofs.YtibfmcohodhkbaaGreatDoor
