/-
  The walks of Header and of the reference's May, and the law RegionMay.
-/
import Derived.Test.YtgnbmmceffolmaaGreatDoorFoldM
set_option maxRecDepth 100000
namespace Go.Proofs.YtgnbmmceffolmaaGreatDoor
open Go.RowKit
end Go.Proofs.YtgnbmmceffolmaaGreatDoor
