/-
  A ROW'S LINE OF THE MODEL IS THE PROGRAM'S: the word, a blank, all its numbers with a blank between each two.
-/
import Derived.Test.YtemefahhogdoaaaDoorRowNums
namespace Go.Proofs.YtemefahhogdoaaaDoor.dat
open Go.RowKit Go.Proofs.YtemefahhogdoaaaDoor.win
open Go.Proofs.YtemefahhogdoaaaDoor.num (aggText)
open Go.Proofs.YtemefahhogdoaaaDoor.agg (okB)

theorem behind_append (a b : List Int) : behind (a ++ b) = behind a ++ behind b := by simp [behind, Lib.joinTail]
theorem behind_cons (x : Int) (l : List Int) : behind (x :: l) = [32] ++ numsT (x :: l) := by
  unfold behind numsT
  rw [List.map_cons, Lib.join_cons]
  simp [Lib.joinTail]
/-- All numbers of a row. -/
def RowD.nums (x : RowD) : List Int := [x.win, x.mask, x.start, (x.key.length : Int)] ++ x.key ++ [x.a.n, x.a.sm, x.a.mn, x.a.mx] ++ [x.times]
theorem rowT_line (x : RowD) (h : okB x.a.n x.a.sm x.a.mn x.a.mx = true) : rowT x = lineT [114, 111, 119] x.nums := by
  have h1 : lineT [114, 111, 119] x.nums = [114, 111, 119] ++ behind x.nums := by
    have : x.nums = x.win :: ([x.mask, x.start, (x.key.length : Int)] ++ x.key ++ [x.a.n, x.a.sm, x.a.mn, x.a.mx] ++ [x.times]) := by simp [RowD.nums]
    rw [this, behind_cons]
    simp [lineT]
  have h2 : [32] ++ aggText x.a.n x.a.sm x.a.mn x.a.mx = behind [x.a.n, x.a.sm, x.a.mn, x.a.mx] := by
    unfold aggText
    rw [if_pos h]
    simp [behind, Lib.joinTail]
  have h3 : [32] ++ Lib.itoa x.times = behind [x.times] := by simp [behind, Lib.joinTail]
  rw [h1]
  unfold rowT paneWords RowD.nums
  rw [if_pos h, behind_append, behind_append, behind_append, ← h2, ← h3]
  simp [RowD.pane]
end Go.Proofs.YtemefahhogdoaaaDoor.dat
