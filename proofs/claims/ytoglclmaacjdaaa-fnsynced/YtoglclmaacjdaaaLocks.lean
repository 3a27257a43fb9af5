/-
  THE NUMBERS under which this dump holds the functions and types of sync.Mutex, and that it holds them.
-/
import Derived.Test.YtoglclmaacjdaaaRows
import Derived.Conc.RwLib
import Derived.Conc.MuData
import Derived.KernelRfl
namespace Go.Proofs.Ytoglclmaacjdaaa
abbrev muLink : Go.Conc.Locks.MuLink := { lock := 98, unlock := 99, ilock := 125, iunlock := 126, lockSlow := 150, unlockSlow := 153, disable := 146, enable := 148, acquire := 149, relMerge := 151, cas32 := 147, add32 := 152, tMutex := 97, tIMutex := 95, tPMutex := 175, tPIMutex := 190, tPI32 := 192, tUP := 194, tNoCopy := 92, tU32 := 93 }
theorem muLib : Go.Conc.Locks.MuLib Try.prog muLink :=
  ⟨Try.func98, Try.func99, Try.func125, Try.func126, Try.func146, Try.func148, Try.func149, Try.func151, Try.func147, Try.func152, Try.underlying95, Try.runUnderlying95, Try.sizeOf95, Try.isAgg95, Try.zeroValue95, Try.underlying97, Try.runUnderlying97, Try.sizeOf97, Try.isAgg97, Try.zeroValue97, Try.underlying175, Try.runUnderlying175, Try.sizeOf175, Try.isAgg175, Try.zeroValue175, Try.underlying190, Try.runUnderlying190, Try.sizeOf190, Try.isAgg190, Try.zeroValue190, Try.underlying192, Try.runUnderlying192, Try.sizeOf192, Try.isAgg192, Try.zeroValue192, Try.underlying194, Try.runUnderlying194, Try.sizeOf194, Try.isAgg194, Try.zeroValue194, Try.underlying92, Try.runUnderlying92, Try.sizeOf92, Try.isAgg92, Try.zeroValue92, Try.underlying21, Try.runUnderlying21, Try.sizeOf21, Try.isAgg21, Try.zeroValue21, (by kernel_rfl)⟩
end Go.Proofs.Ytoglclmaacjdaaa
