/-
  THE NUMBERS under which this dump holds the functions and types of sync.Mutex, and that it holds them.
-/
import Derived.Test.YtemefahhogdoaaaRows
import Derived.Conc.RwLib
import Derived.Conc.MuData
import Derived.KernelRfl
namespace Go.Proofs.Ytemefahhogdoaaa
abbrev muLink : Go.Conc.Locks.MuLink := { lock := 100, unlock := 101, ilock := 128, iunlock := 129, lockSlow := 152, unlockSlow := 155, disable := 148, enable := 150, acquire := 151, relMerge := 153, cas32 := 149, add32 := 154, tMutex := 103, tIMutex := 101, tPMutex := 165, tPIMutex := 174, tPI32 := 176, tUP := 178, tNoCopy := 98, tU32 := 99 }
theorem muLib : Go.Conc.Locks.MuLib Try.prog muLink :=
  ⟨Try.func100, Try.func101, Try.func128, Try.func129, Try.func148, Try.func150, Try.func151, Try.func153, Try.func149, Try.func154, Try.underlying101, Try.runUnderlying101, Try.sizeOf101, Try.isAgg101, Try.zeroValue101, Try.underlying103, Try.runUnderlying103, Try.sizeOf103, Try.isAgg103, Try.zeroValue103, Try.underlying165, Try.runUnderlying165, Try.sizeOf165, Try.isAgg165, Try.zeroValue165, Try.underlying174, Try.runUnderlying174, Try.sizeOf174, Try.isAgg174, Try.zeroValue174, Try.underlying176, Try.runUnderlying176, Try.sizeOf176, Try.isAgg176, Try.zeroValue176, Try.underlying178, Try.runUnderlying178, Try.sizeOf178, Try.isAgg178, Try.zeroValue178, Try.underlying98, Try.runUnderlying98, Try.sizeOf98, Try.isAgg98, Try.zeroValue98, Try.underlying21, Try.runUnderlying21, Try.sizeOf21, Try.isAgg21, Try.zeroValue21, (by kernel_rfl)⟩
end Go.Proofs.Ytemefahhogdoaaa
