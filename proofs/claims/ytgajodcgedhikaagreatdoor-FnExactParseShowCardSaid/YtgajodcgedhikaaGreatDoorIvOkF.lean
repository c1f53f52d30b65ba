/-
  impl.IntervalOk: the lower bound beyond the infinite ones.
-/
import Derived.Test.YtgajodcgedhikaaGreatDoorProg
import Derived.Test.YtgajodcgedhikaaGreatDoorBdShO
import Derived.WalkKit
import Derived.WalkSpells
import Derived.WalkLawsBesides
import Derived.Deep.QuietTactic
import Derived.Deep.RegionWith
import Derived.Deep.RegionHeld3
import Derived.BigQuiet
import Derived.Lib.Hide
import Derived.Below
namespace Go.Proofs.YtgajodcgedhikaaGreatDoor
open Go.RowKit
set_option linter.unusedVariables false
set_option linter.unusedSimpArgs false

end Go.Proofs.YtgajodcgedhikaaGreatDoor

