/-
  THE CONTRACT OF DiskCrash of the model.
-/
import Derived.Test.YtoglclmaacjdaaaDiskCrash
namespace Go.Proofs.Ytoglclmaacjdaaa.dat
open Go.RowKit Go.Proofs.Ytoglclmaacjdaaa.win

theorem hkeep8 {B : Nat} {w w' : World} {g : Nat} {t : TypeId} {vs : List Value} (h : Blk w g t vs) (hb : Below B w.drew w') (hg : g < B) : Blk w' g t vs := (hb.block g hg).trans h
end Go.Proofs.Ytoglclmaacjdaaa.dat
