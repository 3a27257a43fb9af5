/-
  A text's bytes as a string.
-/
import Derived.Test.YtemefahhogdoaaaDoorRows
import Derived.WalkKit
import Derived.WalkSpells
import Derived.WalkLawsBesides
import Derived.BigQuiet
import Derived.Deep.QuietTactic
import Derived.Deep.RegionWith
import Derived.Deep.RegionHeld3
import Derived.Lib.Hide
import Derived.IntWalk
namespace Go.Proofs.YtemefahhogdoaaaDoor.num
open Go.RowKit
/-- A text's bytes as a string. -/
def str (l : List UInt8) : ByteArray := ⟨l.toArray⟩
end Go.Proofs.YtemefahhogdoaaaDoor.num
