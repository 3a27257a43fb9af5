/-
  THE CONTRACT OF ConfigOk of the program: what the call answers; nothing that was there is written.
  Condition: the Config's slices hold the given windows and masks.
-/
import Derived.Test.YtpcekmllmnfmmaaDoorImplConf
namespace Go.Proofs.YtpcekmllmnfmmaaDoor.win
open Go.RowKit

end Go.Proofs.YtpcekmllmnfmmaaDoor.win
