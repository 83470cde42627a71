/-
  Walks: the array of an orientation, in the program: the walk.
-/
import Derived.Test.YtoglmkjmnknbbaaCOm
namespace Go.Proofs.Ytoglmkjmnknbbaa.PW
open Go.RowKit Go.Proofs.Ytoglmkjmnknbbaa
open Go.Proofs.Ytoglmkjmnknbbaa.PM

end Go.Proofs.Ytoglmkjmnknbbaa.PW
