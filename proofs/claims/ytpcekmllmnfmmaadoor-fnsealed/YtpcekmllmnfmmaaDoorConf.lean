/-
  A CONFIG AS A VALUE AND IN A BOX; THE CONTRACTS OF szConfig, toConfig, eqConfig: what each call answers; nothing that was there is written.
  Condition: the Config's slices hold the given windows and masks.
-/
import Derived.Test.YtpcekmllmnfmmaaDoorWinRows
import Derived.Test.YtpcekmllmnfmmaaDoorBlk
import Derived.Deep.DeepCutAuto
import Derived.Deep.RegionHeld3
namespace Go.Proofs.YtpcekmllmnfmmaaDoor.win
open Go.RowKit

/-- What a Config's numbers and slices are. -/
structure Cf where
  d : Int
  wa : Option Addr
  wl : Nat
  wc : Nat
  ma : Option Addr
  ml : Nat
  mc : Nat
  dl : Int
  lt : Int
def Cf.cells (c : Cf) : Array Value := #[.int .i64 c.d, .slice c.wa c.wl c.wc, .slice c.ma c.ml c.mc, .int .i64 c.dl, .int .i64 c.lt]
/-- The windows and masks that its slices hold. -/
def Cf.In (c : Cf) (w : World) (ws : List (Int × Int)) (ms : List Int) : Prop := WRow w c.wa c.wl ws ∧ Row w c.ma c.ml ms
theorem Cf.In.below {c : Cf} {w w' : World} {ws : List (Int × Int)} {ms : List Int} (h : c.In w ws ms) (hb : Below w.heap.size w w') : c.In w' ws ms := ⟨h.1.below hb, h.2.below hb⟩

set_option maxHeartbeats 400000 in
theorem szIntS (a : Option Addr) (len cap : Nat) (n : Int) (w : World) (h0 : 0 ≤ n) (h1 : n ≤ 1048576) (hm : len ≤ 9223372036854775807) :
    Calls Tryd.prog 31 #[.slice a len cap, .int .i64 n] w fun e w' => e = .returned (.int .i64 (if (len : Int) ≤ n then n - (len : Int) else -1)) ∧ w = w' := by
  by_cases h : (len : Int) ≤ n
  · rw [if_pos h]
    go_enter Tryd.func31, Tryd.ntmps31
    go_wp2_with fail
    go_ret
    exact ⟨rfl, rfl⟩
  · rw [if_neg h]
    go_enter Tryd.func31, Tryd.ntmps31
    go_wp2_with fail
    go_ret
    exact ⟨rfl, rfl⟩

/-- What is left of 2 to the 20 behind a Config: below 0 where it is too long. -/
def szB (c : Cf) (n : Int) : Int := if (c.wl : Int) ≤ n then (if (c.ml : Int) ≤ n - (c.wl : Int) then n - (c.wl : Int) - (c.ml : Int) else -1) else -1

/-- What toConfig leaves: a Config of the same numbers whose slices are new rows, apart from each other. -/
def CopiedC (w : World) (c : Cf) (ws : List (Int × Int)) (ms : List Int) (e : Ending) (w' : World) : Prop :=
  ∃ g h : Nat, e = .returned (.agg (Cf.cells ⟨c.d, some ⟨g, 0, none⟩, c.wl, c.wl, some ⟨h, 0, none⟩, c.ml, c.ml, c.dl, c.lt⟩)) ∧ w.heap.size ≤ g ∧ g < h ∧ Below w.heap.size w w' ∧ w'.rowIs g 77 (c.wl * 2) (wcell ws) ∧ w'.rowIs h 3 c.ml (fun i => .int .i64 (ms.getD i 0))

end Go.Proofs.YtpcekmllmnfmmaaDoor.win
