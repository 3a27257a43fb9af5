/-
  DATA: []int, []string, Win, []Win: the notions; THE CONTRACTS OF the laws' own functions (copies, sizes, equality) over them. Written by tools/gendata.py.
-/
import Derived.Test.YtoglclmaacjdaaaData
namespace Go.Proofs.Ytoglclmaacjdaaa.dat
open Go.RowKit Go.Proofs.Ytoglclmaacjdaaa.win

theorem info_int : (Try.prog.info? 3).map (fun i => (i.zero, i.size, i.bytes)) = some (some (.int .i64 0), 1, 8) := by kernel_rfl
set_option maxRecDepth 100000 in
set_option maxHeartbeats 1000000 in
theorem to_IntS (a : Option Addr) (len cap : Nat) (l : List Int) (fp : List Nat) (w : World) (hmax : l.length ≤ 2000000) (hrow : GRow 1 RInt w a len l fp) :
    Calls Try.prog 78 #[.slice a len cap] w (Copied 1 RInt w len l) := by
  have hlen := hrow.1
  have hsz := hmax
  have hmk := run_make_n (P := Try.prog) 29 3 (.int .i64 0) 1 8 Try.underlying29 info_int .i64 .i64 len (by omega) (by omega)
  have HM := Lib.hid hmax
  have HC := Lib.hid hrow
  have HL := Lib.hid hlen
  have HS := Lib.hid (show len ≤ 2000000 by omega)
  clear hrow hlen hsz hmax
  go_enter Try.func78, Try.ntmps78
  go_wp2_with fail
  have HZ := HS.out
  go_loopg [4] len (fun k i wr => ∃ j : Nat, j + k = len ∧ i = .int .i64 j ∧ Laying 1 RInt 3 [.int .i64 0] l w j wr)
  case atStart => exact ⟨0, by omega, rfl, by have := Laying.start (k := 1) (R := RInt) (t := 3) (w := w) (zc := [.int .i64 0]) (by decide) len HL.out.symm; simpa using this⟩
  case round =>
    obtain ⟨j, hj, rfl, hC⟩ := hrel
    clear hmk
    have HB := Lib.hid hC
    by_cases hlt : j < len
    · have hlt2 : (j : Int) < (len : Int) := by omega
      have h02 : (0 : Int) ≤ (j : Int) := by omega
      obtain ⟨b, off, x, f, cs, rfl, hbl, hx, hcl, hR, hc⟩ := HC.out.at hlt
      obtain ⟨rfl, rfl⟩ := hR
      have c0 : wr.cell? ⟨b, off + j, none⟩ = some (.int .i64 x) := by have := (hC.below.cell (p := ⟨b, off + j * 1 + 0, none⟩) hbl).trans (hc 0 (by omega)); simpa using this
      have d0 : wr.cell? ⟨w.heap.size, j, none⟩ = some (.int .i64 0) := by have := (hC.cell rfl (by rw [HL.out]; omega) 0 (by omega)); simpa using this
      have g0 : wr.frozen? ⟨w.heap.size, j, none⟩ = false := hC.frozen _
      clear hC hc
      go_wp2_with fail
      go_roundg (len - (j + 1))
      case measure => omega
      case rel =>
        refine ⟨j + 1, by omega, by go_num, HB.out.step local_int rfl (by rw [HL.out]; omega) hx (cs := [.int .i64 x]) rfl ⟨rfl, rfl⟩ Own.nil (Below.refl _ _) ?_ ((Below.refl _ _).setCell (by simp) _) (fun b hb => Below.heap_setCell _ _ _ b hb)⟩
        intro L hL hl
        exact Blk.put (Blk.start hL (j * 1)) j (by simp) (by simp; omega) _
    · clear hC
      go_wp2_with fail
      go_ret
      exact HB.out.done (by rw [HL.out]; omega) _ HL.out.symm

set_option maxRecDepth 100000 in
set_option maxHeartbeats 1000000 in
theorem sz_IntS (a : Option Addr) (len cap : Nat) (l : List Int) (fp : List Nat) (n : Int) (w : World) (h0 : 0 ≤ n) (h1 : n ≤ 1048576) (hcap : len ≤ cap) (hm : cap ≤ 9223372036854775807) (hrow : GRow 1 RInt w a len l fp) :
    Calls Try.prog 74 #[.slice a len cap, .int .i64 n] w (Left n (l.length) w) := by
  have hl := hrow.1
  clear hrow
  unfold Left
  rw [hl]
  clear hl
  by_cases h : (len : Int) ≤ n
  · rw [if_pos h]
    go_enter Try.func74, Try.ntmps74
    go_wp2_with fail
    go_ret
    exact ⟨rfl, Below.refl _ _⟩
  · rw [if_neg h]
    go_enter Try.func74, Try.ntmps74
    go_wp2_with fail
    go_ret
    exact ⟨rfl, Below.refl _ _⟩

set_option maxRecDepth 100000 in
set_option maxHeartbeats 1000000 in
theorem eq_IntS (a a' : Option Addr) (len cap cap' : Nat) (l : List Int) (fp fp' : List Nat) (w : World) (hmax : l.length ≤ 2000000) (hrow : GRow 1 RInt w a len l fp) (hrow' : GRow 1 RInt w a' len l fp') :
    Calls Try.prog 82 #[.slice a len cap, .slice a' len cap'] w fun e w' => e = .returned (.bool true) ∧ Below w.heap.size w w' := by
  have hsz := hmax
  have hlm : len ≤ 2000000 := by rw [← hrow.1]; exact hsz
  have HC := Lib.hid hrow
  have HC' := Lib.hid hrow'
  have HM := Lib.hid hmax
  clear hrow hrow' hmax hsz
  go_enter Try.func82, Try.ntmps82
  go_wp2_with fail
  go_loopg [5] len (fun k i wr => ∃ j : Nat, j + k = len ∧ i = .int .i64 j ∧ Below w.heap.size w wr)
  case atStart => exact ⟨0, by omega, rfl, Below.refl _ _⟩
  case round =>
    obtain ⟨j, hj, rfl, hb⟩ := hrel
    have HB := Lib.hid hb
    by_cases hlt : j < len
    · have hlt2 : (j : Int) < (len : Int) := by omega
      have h02 : (0 : Int) ≤ (j : Int) := by omega
      obtain ⟨b, off, x, f, cs, rfl, hbl, hx, hcl, hR, hc⟩ := HC.out.at hlt
      obtain ⟨b', off', x', f', cs', rfl, hbl', hx', hcl', hR', hc'⟩ := HC'.out.at hlt
      obtain rfl : x = x' := by rw [hx] at hx'; exact Option.some.inj hx'
      obtain ⟨rfl, rfl⟩ := hR
      obtain ⟨rfl, rfl⟩ := hR'
      have c0 : wr.cell? ⟨b, off + j, none⟩ = some (.int .i64 x) := by have := (hb.cell (p := ⟨b, off + j * 1 + 0, none⟩) hbl).trans (hc 0 (by omega)); simpa using this
      have c0' : wr.cell? ⟨b', off' + j, none⟩ = some (.int .i64 x) := by have := (hb.cell (p := ⟨b', off' + j * 1 + 0, none⟩) hbl').trans (hc' 0 (by omega)); simpa using this
      clear hb hc hc' hx hx'
      go_wp2_with fail
      go_quiet (fail)
      go_wp2_with fail
      go_roundg (len - (j + 1))
      case measure => omega
      case rel => exact ⟨j + 1, by omega, by go_num, below_drewN HB.out _⟩
    · clear hb
      go_wp2_with fail
      go_ret
      exact ⟨rfl, HB.out⟩

theorem info_string : (Try.prog.info? 9).map (fun i => (i.zero, i.size, i.bytes)) = some (some (.string ByteArray.empty), 1, 16) := by kernel_rfl
def Win.list (x : Int × Int) : List Value := [.int .i64 x.1, .int .i64 x.2]
def RWin : Rel (Int × Int) := fun _ cs x fp => cs = Win.list x ∧ fp = []
theorem local_Win : Local RWin := ⟨fun h _ => h, fun h b hb => by rw [h.2] at hb; simp at hb⟩

set_option maxRecDepth 100000 in
set_option maxHeartbeats 2000000 in
theorem to_Win (x : Int × Int) (w : World) : Calls Try.prog 114 #[.agg (Win.list x).toArray] w fun e w' => e = .returned (.agg (Win.list x).toArray) ∧ Below w.heap.size w w' := by
  simp only [Win.list]
  go_enter Try.func114, Try.ntmps114
  go_wp2
  refine bodyPost_ret (v := .agg #[.int .i64 x.1, .int .i64 x.2]) (by simp [results, Try.results114, go_sem]) rfl ⟨rfl, ?_⟩
  exact (((Below.refl _ _).alloc (Nat.le_refl _) _).alloc (by simp) _).alloc (by simp; omega) _

set_option maxRecDepth 100000 in
set_option maxHeartbeats 2000000 in
theorem eq_Win (x : Int × Int) (w : World) : Calls Try.prog 118 #[.agg (Win.list x).toArray, .agg (Win.list x).toArray] w fun e w' => e = .returned (.bool true) ∧ Below w.heap.size w w' := by
  simp only [Win.list]
  go_enter Try.func118, Try.ntmps118
  go_wp2_with fail
  go_ret
  exact ⟨rfl, by repeat (first | exact Below.refl _ _ | (refine Below.alloc ?_ (by simp; try omega) _))⟩

theorem info_Win : (Try.prog.info? 158).map (fun i => (i.zero, i.size, i.bytes)) = some (some (.agg #[.int .i64 0, .int .i64 0]), 2, 16) := by kernel_rfl
set_option maxRecDepth 100000 in
set_option maxHeartbeats 1000000 in
theorem to_WinS (a : Option Addr) (len cap : Nat) (l : List (Int × Int)) (fp : List Nat) (w : World) (hmax : l.length ≤ 2000000) (hrow : GRow 2 RWin w a len l fp) :
    Calls Try.prog 77 #[.slice a len cap] w (Copied 2 RWin w len l) := by
  have hlen := hrow.1
  have hsz := hmax
  have hmk := run_make_n (P := Try.prog) 61 158 (.agg #[.int .i64 0, .int .i64 0]) 2 16 Try.underlying61 info_Win .i64 .i64 len (by omega) (by omega)
  have HM := Lib.hid hmax
  have HC := Lib.hid hrow
  have HL := Lib.hid hlen
  have HS := Lib.hid (show len ≤ 2000000 by omega)
  clear hrow hlen hsz hmax
  go_enter Try.func77, Try.ntmps77
  go_wp2_with fail
  have HZ := HS.out
  go_loopg [4] len (fun k i wr => ∃ j : Nat, j + k = len ∧ i = .int .i64 j ∧ Laying 2 RWin 158 [.int .i64 0, .int .i64 0] l w j wr)
  case atStart => exact ⟨0, by omega, rfl, by have := Laying.start (k := 2) (R := RWin) (t := 158) (w := w) (zc := [.int .i64 0, .int .i64 0]) (by decide) len HL.out.symm; simpa using this⟩
  case round =>
    obtain ⟨j, hj, rfl, hC⟩ := hrel
    clear hmk
    have HB := Lib.hid hC
    by_cases hlt : j < len
    · have hlt2 : (j : Int) < (len : Int) := by omega
      have h02 : (0 : Int) ≤ (j : Int) := by omega
      obtain ⟨b, off, x, f, cs, rfl, hbl, hx, hcl, hR, hc⟩ := HC.out.at hlt
      obtain ⟨rfl, rfl⟩ := hR
      have c0 : wr.cell? ⟨b, off + j * 2, none⟩ = some (.int .i64 x.1) := (hC.below.cell (p := ⟨b, off + j * 2 + 0, none⟩) hbl).trans (hc 0 (by omega))
      have c1 : wr.cell? ⟨b, off + j * 2 + 1, none⟩ = some (.int .i64 x.2) := (hC.below.cell (p := ⟨b, off + j * 2 + 1, none⟩) hbl).trans (hc 1 (by omega))
      have HX := Lib.hid hx
      clear hc hx
      go_wp2_with fail
      refine (to_Win x wr).mono ?_
      rintro e w3 ⟨rfl, hb3⟩
      have d0 : w3.cell? ⟨w.heap.size, j * 2, none⟩ = some (.int .i64 0) := by have := (hb3.cell (p := ⟨w.heap.size, _, none⟩) hC.lt).trans (hC.cell rfl (by rw [HL.out]; omega) 0 (by omega)); simpa using this
      have g0 : w3.frozen? ⟨w.heap.size, j * 2, none⟩ = false := (hb3.frozen (p := ⟨w.heap.size, _, none⟩) hC.lt).trans (hC.frozen _)
      have d1 : w3.cell? ⟨w.heap.size, j * 2 + 1, none⟩ = some (.int .i64 0) := by have := (hb3.cell (p := ⟨w.heap.size, _, none⟩) hC.lt).trans (hC.cell rfl (by rw [HL.out]; omega) 1 (by omega)); simpa using this
      have g1 : w3.frozen? ⟨w.heap.size, j * 2 + 1, none⟩ = false := (hb3.frozen (p := ⟨w.heap.size, _, none⟩) hC.lt).trans (hC.frozen _)
      have HB3 := Lib.hid hb3
      clear hC hb3 c0 c1
      simp only [Win.list]
      go_wp2_with fail
      go_roundg (len - (j + 1))
      case measure => omega
      case rel =>
        refine ⟨j + 1, by omega, by go_num, HB.out.step local_Win rfl (by rw [HL.out]; omega) HX.out (cs := [.int .i64 x.1, .int .i64 x.2]) rfl ⟨rfl, rfl⟩ Own.nil HB3.out ?_ (((Below.refl _ _).setCell (by simp) _).setCell (by simp) _) ?_⟩
        · intro L hL hl
          exact (Blk.put (Blk.put (Blk.start hL (j * 2)) (j * 2) (by simp) (by simp; omega) _) (j * 2 + 1) (by simp) (by simp; omega) _)
        · intro b hb
          rw [Below.heap_setCell _ _ _ b hb]; rw [Below.heap_setCell _ _ _ b hb]
    · clear hC
      go_wp2_with fail
      go_ret
      exact HB.out.done (by rw [HL.out]; omega) _ HL.out.symm

set_option maxRecDepth 100000 in
set_option maxHeartbeats 1000000 in
theorem sz_WinS (a : Option Addr) (len cap : Nat) (l : List (Int × Int)) (fp : List Nat) (n : Int) (w : World) (h0 : 0 ≤ n) (h1 : n ≤ 1048576) (hcap : len ≤ cap) (hm : cap ≤ 9223372036854775807) (hrow : GRow 2 RWin w a len l fp) :
    Calls Try.prog 73 #[.slice a len cap, .int .i64 n] w (Left n (l.length) w) := by
  have hl := hrow.1
  clear hrow
  unfold Left
  rw [hl]
  clear hl
  by_cases h : (len : Int) ≤ n
  · rw [if_pos h]
    go_enter Try.func73, Try.ntmps73
    go_wp2_with fail
    go_ret
    exact ⟨rfl, Below.refl _ _⟩
  · rw [if_neg h]
    go_enter Try.func73, Try.ntmps73
    go_wp2_with fail
    go_ret
    exact ⟨rfl, Below.refl _ _⟩

set_option maxRecDepth 100000 in
set_option maxHeartbeats 1000000 in
theorem eq_WinS (a a' : Option Addr) (len cap cap' : Nat) (l : List (Int × Int)) (fp fp' : List Nat) (w : World) (hmax : l.length ≤ 2000000) (hrow : GRow 2 RWin w a len l fp) (hrow' : GRow 2 RWin w a' len l fp') :
    Calls Try.prog 81 #[.slice a len cap, .slice a' len cap'] w fun e w' => e = .returned (.bool true) ∧ Below w.heap.size w w' := by
  have hsz := hmax
  have hlm : len ≤ 2000000 := by rw [← hrow.1]; exact hsz
  have HC := Lib.hid hrow
  have HC' := Lib.hid hrow'
  have HM := Lib.hid hmax
  clear hrow hrow' hmax hsz
  go_enter Try.func81, Try.ntmps81
  go_wp2_with fail
  go_loopg [5] len (fun k i wr => ∃ j : Nat, j + k = len ∧ i = .int .i64 j ∧ Below w.heap.size w wr)
  case atStart => exact ⟨0, by omega, rfl, Below.refl _ _⟩
  case round =>
    obtain ⟨j, hj, rfl, hb⟩ := hrel
    have HB := Lib.hid hb
    by_cases hlt : j < len
    · have hlt2 : (j : Int) < (len : Int) := by omega
      have h02 : (0 : Int) ≤ (j : Int) := by omega
      obtain ⟨b, off, x, f, cs, rfl, hbl, hx, hcl, hR, hc⟩ := HC.out.at hlt
      obtain ⟨b', off', x', f', cs', rfl, hbl', hx', hcl', hR', hc'⟩ := HC'.out.at hlt
      obtain rfl : x = x' := by rw [hx] at hx'; exact Option.some.inj hx'
      obtain ⟨rfl, rfl⟩ := hR
      obtain ⟨rfl, rfl⟩ := hR'
      have c0 : wr.cell? ⟨b, off + j * 2, none⟩ = some (.int .i64 x.1) := by have := (hb.cell (p := ⟨b, off + j * 2 + 0, none⟩) hbl).trans (hc 0 (by omega)); simpa [Win.list] using this
      have c1 : wr.cell? ⟨b, off + j * 2 + 1, none⟩ = some (.int .i64 x.2) := by have := (hb.cell (p := ⟨b, off + j * 2 + 1, none⟩) hbl).trans (hc 1 (by omega)); simpa [Win.list] using this
      have c0' : wr.cell? ⟨b', off' + j * 2, none⟩ = some (.int .i64 x.1) := by have := (hb.cell (p := ⟨b', off' + j * 2 + 0, none⟩) hbl').trans (hc' 0 (by omega)); simpa [Win.list] using this
      have c1' : wr.cell? ⟨b', off' + j * 2 + 1, none⟩ = some (.int .i64 x.2) := by have := (hb.cell (p := ⟨b', off' + j * 2 + 1, none⟩) hbl').trans (hc' 1 (by omega)); simpa [Win.list] using this
      clear hb hc hc' hx hx'
      go_wp2_with fail
      go_still_tail 8, (by kernel_rfl)
      change wpList _ _ _ _ _ wr.drew
      have HB2 := Lib.hid (HB.out.drew)
      generalize wr.drew = wd at *
      go_wp2_with fail
      refine (eq_Win x _).mono ?_
      rintro e w3 ⟨rfl, hb3⟩
      have HB3 := Lib.hid (HB2.out.trans (hb3.mono HB2.out.size))
      clear hb3
      go_wp2_with fail
      go_roundg (len - (j + 1))
      case measure => omega
      case rel => exact ⟨j + 1, by omega, by go_num, HB3.out⟩
    · clear hb
      go_wp2_with fail
      go_ret
      exact ⟨rfl, HB.out⟩

end Go.Proofs.Ytoglclmaacjdaaa.dat
