/-
  LeastAlong: the model's three sums and what it tells of them.
-/
import Derived.Test.YtbfpneonmefndaaWIp
import Derived.Test.YtbfpneonmefndaaFracWalkD
namespace Go.Proofs.Ytbfpneonmefndaa.PW
open Go.RowKit Go.Proofs.Ytbfpneonmefndaa
open Go.Proofs.Ytbfpneonmefndaa.PM

/-- A row of a double sum, up to t. -/
def laR (D : List (List Int)) (a b : List Int) (i : Nat) : Nat → Int
  | 0 => 0
  | t + 1 => laR D a b i t + a.getD i 0 * wE D i t * b.getD t 0
/-- A double sum with something ahead of each row. -/
def laS (e : Nat → Int) (D : List (List Int)) (a b : List Int) (n : Nat) : Nat → Int
  | 0 => 0
  | i + 1 => laS e D a b n i + e i + laR D a b i n
/-- What the model tells of its three sums. -/
def laF (f g h : Int) : (Int × Int) × (Int × Int) × Int :=
  if h ≤ 0 then ((0, 0), (0, 0), 5) else
  if FM.isF (FM.redN (-g) h) (FM.redD (-g) h) = true ∧ FM.isF (FM.redN (f * h - g * g) (2 * h)) (FM.redD (f * h - g * g) (2 * h)) = true then ((FM.redN (-g) h, FM.redD (-g) h), (FM.redN (f * h - g * g) (2 * h), FM.redD (f * h - g * g) (2 * h)), 0) else ((0, 0), (0, 0), 3)
end Go.Proofs.Ytbfpneonmefndaa.PW
