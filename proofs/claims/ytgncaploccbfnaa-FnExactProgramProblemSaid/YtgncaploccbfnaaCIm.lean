/-
  Walks: what is an orientation of a cube, in the program.
-/
import Derived.Test.YtgncaploccbfnaaCIs
import Derived.Test.YtgncaploccbfnaaCSnk
import Derived.Test.YtgncaploccbfnaaCBit
import Derived.Test.YtgncaploccbfnaaPCol
import Derived.BigQuiet
namespace Go.Proofs.Ytgncaploccbfnaa.PW
open Go.RowKit Go.Proofs.Ytgncaploccbfnaa
open Go.Proofs.Ytgncaploccbfnaa.PM

end Go.Proofs.Ytgncaploccbfnaa.PW
