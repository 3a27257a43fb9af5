/-
  THE CONTRACTS OF isMask, winsOk, masksOk AND ConfigOk of the program: what each call answers; nothing that was there is written.
  Condition: the Config's slices hold the given windows and masks.
-/
import Derived.Test.YtpcekmllmnfmmaaDoorLists
import Derived.Test.YtpcekmllmnfmmaaDoorConf
namespace Go.Proofs.YtpcekmllmnfmmaaDoor.win
open Go.RowKit

/-- 2 to the d, d at most 3. -/
def pw (d : Int) : Int := if d = 0 then 1 else if d = 1 then 2 else if d = 2 then 4 else 8
/-- A mask of d dimensions. -/
def inB (d m : Int) : Bool := decide (0 ≤ m ∧ m < pw d)

/-- What ConfigOk asks of windows, of masks. -/
def winsB (ws : List (Int × Int)) : Bool := decide (ws.length ≤ 3) && (ws.all fun x => winB x.1 x.2) && decide ws.Nodup
def masksB (d : Int) (ms : List Int) : Bool := decide (ms.length ≤ 4) && ms.all (inB d) && decide ms.Nodup
def confB (c : Cf) (ws : List (Int × Int)) (ms : List Int) : Bool := upB c.d 3 && winsB ws && masksB c.d ms && upB c.dl 1000 && upB c.lt 1000

end Go.Proofs.YtpcekmllmnfmmaaDoor.win
