/-
  DATA: []int, []string, Win, []Win: the notions; THE CONTRACTS OF the laws' own functions (copies, sizes, equality) over them. Written by tools/gendata.py.
-/
import Derived.Test.YtemefahhogdoaaaDoorData
namespace Go.Proofs.YtemefahhogdoaaaDoor.dat
open Go.RowKit Go.Proofs.YtemefahhogdoaaaDoor.win

theorem info_int : (Tryd.prog.info? 3).map (fun i => (i.zero, i.size, i.bytes)) = some (some (.int .i64 0), 1, 8) := by kernel_rfl
set_option maxRecDepth 100000 in
set_option maxHeartbeats 1000000 in
theorem to_IntS (a : Option Addr) (len cap : Nat) (l : List Int) (fp : List Nat) (w : World) (hmax : l.length ≤ 2000000) (hrow : GRow 1 RInt w a len l fp) :
    Calls Tryd.prog 14 #[.slice a len cap] w (Copied 1 RInt w len l) := by
  have hlen := hrow.1
  have hsz := hmax
  have hmk := run_make_n (P := Tryd.prog) 22 3 (.int .i64 0) 1 8 Tryd.underlying22 info_int .i64 .i64 len (by omega) (by omega)
  have HM := Lib.hid hmax
  have HC := Lib.hid hrow
  have HL := Lib.hid hlen
  have HS := Lib.hid (show len ≤ 2000000 by omega)
  clear hrow hlen hsz hmax
  go_enter Tryd.func14, Tryd.ntmps14
  go_wp2_with fail
  have HZ := HS.out
  go_loopg [4] len (fun k i wr => ∃ j : Nat, j + k = len ∧ i = .int .i64 j ∧ Laying 1 RInt 3 [.int .i64 0] l w j wr)
  case atStart => exact ⟨0, by omega, rfl, by have := Laying.start (k := 1) (R := RInt) (t := 3) (w := w) (zc := [.int .i64 0]) (by decide) len HL.out.symm; simpa using this⟩
  case round =>
    obtain ⟨j, hj, rfl, hC⟩ := hrel
    clear hmk
    have HB := Lib.hid hC
    by_cases hlt : j < len
    · have hlt2 : (j : Int) < (len : Int) := by omega
      have h02 : (0 : Int) ≤ (j : Int) := by omega
      obtain ⟨b, off, x, f, cs, rfl, hbl, hx, hcl, hR, hc⟩ := HC.out.at hlt
      obtain ⟨rfl, rfl⟩ := hR
      have c0 : wr.cell? ⟨b, off + j, none⟩ = some (.int .i64 x) := by have := (hC.below.cell (p := ⟨b, off + j * 1 + 0, none⟩) hbl).trans (hc 0 (by omega)); simpa using this
      have d0 : wr.cell? ⟨w.heap.size, j, none⟩ = some (.int .i64 0) := by have := (hC.cell rfl (by rw [HL.out]; omega) 0 (by omega)); simpa using this
      have g0 : wr.frozen? ⟨w.heap.size, j, none⟩ = false := hC.frozen _
      clear hC hc
      go_wp2_with fail
      go_roundg (len - (j + 1))
      case measure => omega
      case rel =>
        refine ⟨j + 1, by omega, by go_num, HB.out.step local_int rfl (by rw [HL.out]; omega) hx (cs := [.int .i64 x]) rfl ⟨rfl, rfl⟩ Own.nil (Below.refl _ _) ?_ ((Below.refl _ _).setCell (by simp) _) (fun b hb => Below.heap_setCell _ _ _ b hb)⟩
        intro L hL hl
        exact Blk.put (Blk.start hL (j * 1)) j (by simp) (by simp; omega) _
    · clear hC
      go_wp2_with fail
      go_ret
      exact HB.out.done (by rw [HL.out]; omega) _ HL.out.symm

set_option maxRecDepth 100000 in
set_option maxHeartbeats 1000000 in
theorem sz_IntS (a : Option Addr) (len cap : Nat) (l : List Int) (fp : List Nat) (n : Int) (w : World) (h0 : 0 ≤ n) (h1 : n ≤ 1048576) (hcap : len ≤ cap) (hm : cap ≤ 9223372036854775807) (hrow : GRow 1 RInt w a len l fp) :
    Calls Tryd.prog 9 #[.slice a len cap, .int .i64 n] w (Left n (l.length) w) := by
  have hl := hrow.1
  clear hrow
  unfold Left
  rw [hl]
  clear hl
  by_cases h : (len : Int) ≤ n
  · rw [if_pos h]
    go_enter Tryd.func9, Tryd.ntmps9
    go_wp2_with fail
    go_ret
    exact ⟨rfl, Below.refl _ _⟩
  · rw [if_neg h]
    go_enter Tryd.func9, Tryd.ntmps9
    go_wp2_with fail
    go_ret
    exact ⟨rfl, Below.refl _ _⟩

set_option maxRecDepth 100000 in
set_option maxHeartbeats 1000000 in
theorem eq_IntS (a a' : Option Addr) (len cap cap' : Nat) (l : List Int) (fp fp' : List Nat) (w : World) (hmax : l.length ≤ 2000000) (hrow : GRow 1 RInt w a len l fp) (hrow' : GRow 1 RInt w a' len l fp') :
    Calls Tryd.prog 19 #[.slice a len cap, .slice a' len cap'] w fun e w' => e = .returned (.bool true) ∧ Below w.heap.size w w' := by
  have hsz := hmax
  have hlm : len ≤ 2000000 := by rw [← hrow.1]; exact hsz
  have HC := Lib.hid hrow
  have HC' := Lib.hid hrow'
  have HM := Lib.hid hmax
  clear hrow hrow' hmax hsz
  go_enter Tryd.func19, Tryd.ntmps19
  go_wp2_with fail
  go_loopg [5] len (fun k i wr => ∃ j : Nat, j + k = len ∧ i = .int .i64 j ∧ Below w.heap.size w wr)
  case atStart => exact ⟨0, by omega, rfl, Below.refl _ _⟩
  case round =>
    obtain ⟨j, hj, rfl, hb⟩ := hrel
    have HB := Lib.hid hb
    by_cases hlt : j < len
    · have hlt2 : (j : Int) < (len : Int) := by omega
      have h02 : (0 : Int) ≤ (j : Int) := by omega
      obtain ⟨b, off, x, f, cs, rfl, hbl, hx, hcl, hR, hc⟩ := HC.out.at hlt
      obtain ⟨b', off', x', f', cs', rfl, hbl', hx', hcl', hR', hc'⟩ := HC'.out.at hlt
      obtain rfl : x = x' := by rw [hx] at hx'; exact Option.some.inj hx'
      obtain ⟨rfl, rfl⟩ := hR
      obtain ⟨rfl, rfl⟩ := hR'
      have c0 : wr.cell? ⟨b, off + j, none⟩ = some (.int .i64 x) := by have := (hb.cell (p := ⟨b, off + j * 1 + 0, none⟩) hbl).trans (hc 0 (by omega)); simpa using this
      have c0' : wr.cell? ⟨b', off' + j, none⟩ = some (.int .i64 x) := by have := (hb.cell (p := ⟨b', off' + j * 1 + 0, none⟩) hbl').trans (hc' 0 (by omega)); simpa using this
      clear hb hc hc' hx hx'
      go_wp2_with fail
      go_quiet (fail)
      go_wp2_with fail
      go_roundg (len - (j + 1))
      case measure => omega
      case rel => exact ⟨j + 1, by omega, by go_num, below_drewN HB.out _⟩
    · clear hb
      go_wp2_with fail
      go_ret
      exact ⟨rfl, HB.out⟩

theorem info_string : (Tryd.prog.info? 9).map (fun i => (i.zero, i.size, i.bytes)) = some (some (.string ByteArray.empty), 1, 16) := by kernel_rfl
def Win.list (x : Int × Int) : List Value := [.int .i64 x.1, .int .i64 x.2]
def RWin : Rel (Int × Int) := fun _ cs x fp => cs = Win.list x ∧ fp = []
theorem local_Win : Local RWin := ⟨fun h _ => h, fun h b hb => by rw [h.2] at hb; simp at hb⟩

end Go.Proofs.YtemefahhogdoaaaDoor.dat
