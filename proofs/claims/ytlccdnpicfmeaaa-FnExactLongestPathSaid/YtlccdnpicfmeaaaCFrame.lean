/-
  What the frame of a law of an orientation wants (FRAME kind cube).
-/
import Derived.Test.YtlccdnpicfmeaaaPMem
import Derived.Test.YtlccdnpicfmeaaaPFrame
namespace Go.Proofs.Ytlccdnpicfmeaaa
open Go.ChangeShapes Go.WideShapes Go.ChangeAt Go.RowKit Go.Joins Go.Deep
open Go.Proofs.Ytlccdnpicfmeaaa.PM
theorem cellsCube : Try.prog.cellsOf 40 = 2 := by kernel_rfl
end Go.Proofs.Ytlccdnpicfmeaaa
