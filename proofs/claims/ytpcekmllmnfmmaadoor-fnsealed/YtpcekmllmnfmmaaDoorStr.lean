/-
  A text's bytes as a string.
-/
import Derived.Test.YtpcekmllmnfmmaaDoorRows
import Derived.WalkKit
import Derived.WalkSpells
import Derived.WalkLawsBesides
import Derived.BigQuiet
import Derived.Deep.QuietTactic
import Derived.Deep.RegionWith
import Derived.Deep.RegionHeld3
import Derived.Lib.Hide
import Derived.IntWalk
namespace Go.Proofs.YtpcekmllmnfmmaaDoor.num
open Go.RowKit
/-- A text's bytes as a string. -/
def str (l : List UInt8) : ByteArray := ⟨l.toArray⟩
end Go.Proofs.YtpcekmllmnfmmaaDoor.num
