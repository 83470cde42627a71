/-
  What the frame of a law of a game wants (FRAME kind game).
-/
import Derived.Test.YtimcokealhnfhaaPCore
import Derived.Test.YtimcokealhnfhaaPFrame
namespace Go.Proofs.Ytimcokealhnfhaa
open Go.ChangeShapes Go.WideShapes Go.ChangeAt Go.RowKit Go.Joins Go.Deep
open Go.Proofs.Ytimcokealhnfhaa.PM
theorem cellsGame : Try.prog.cellsOf 40 = 2 := by kernel_rfl
end Go.Proofs.Ytimcokealhnfhaa
