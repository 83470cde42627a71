/-
  No cell of these rows narrows 'for every input' (looked for: loops, veiled, ifaces, maps, wideKeys, modest, calm, conditions, laid).
  DERIVED. THE GIVEN ROWS OF THIS SEAT. 12 by the template 'for every input the law returns true; each argument reads behind the call as it read before'; 0 by the template 'total and deterministic' (their statements: YtimcokealhnfhaaTotals.lean).
  GIVEN WITH THE SEED: the statements are not yours to turn. If you find one false, say at which input.
  Laid BY PROGRAM, IN A SANDBOX (cutbox-rows.mjs): the forced cells as the released guide's own fill.sh prints them over the translation 269244b9ce427732… (all of the seat's roots in one cut). By AI agents, Wed Nov 11 2026. No macro, syntax, notation, axiom, sorry.
-/
import Derived.Test.YtimcokealhnfhaaChecked
import GoSem.Claim
import GoSem.ClaimJoined
import GoSem.ClaimMapViews
import Derived.JoinedTies
import Derived.KernelRfl
namespace Go.Proofs.Ytimcokealhnfhaa
/- THE CELL 'sum', in the pinned program and in every row, IS THE sha256 OF THE DUMP (.gsa) THAT YtimcokealhnfhaaProg.lean LOADS. Nothing in Lean hashes anything: it is a label: what it is worth is what the hold of that sum in a sandbox is worth. -/
noncomputable def Try.pinned : Pinned := { name := "ytimcokealhnfhaa", sum := "269244b9ce427732d8f40f7c8f9a7561150e47ff5a5e4ce42064229b6f20af97", checked := Try.checked }
namespace Rows
def none {H : Type} : Left H := { results := [], args := [] }

/-- 'laws.FnExactScaleRow': WHATEVER THE INPUT: true; the input reads as it did. -/
def fnExactScaleRowSpec : ChangeSpec := { name := "fnExactScaleRow", fn := fun _ => fun
  | [d1, d2, d3] => { results := [.lit (.bool true)], args := [d1, d2, d3] }
  | _ => none }
def fnExactScaleRowRow : OpenClaim := { program := "ytimcokealhnfhaa", sum := "269244b9ce427732d8f40f7c8f9a7561150e47ff5a5e4ce42064229b6f20af97", func := "loop.example/g01343/laws.FnExactScaleRow", spec := "fnExactScaleRow", plainKeys := false, apart := false }
def FnExactScaleRowSaid : Prop := fnExactScaleRowRow.holds Try.pinned (OpenSpec.ofChange fnExactScaleRowSpec)

/-- ITS FALSE NEIGHBOUR: 'it returns false'. Refute it at one input. -/
def fnExactScaleRowWrong : ChangeSpec := { name := "fnExactScaleRow", fn := fun _ => fun
  | [d1, d2, d3] => { results := [.lit (.bool false)], args := [d1, d2, d3] }
  | _ => none }
def FnExactScaleRowWrongFalsely : Prop := fnExactScaleRowRow.holds Try.pinned (OpenSpec.ofChange fnExactScaleRowWrong)

/-- 'laws.FnExactColumnsOf': WHATEVER THE INPUT: true; the input reads as it did. -/
def fnExactColumnsOfSpec : ChangeSpec := { name := "fnExactColumnsOf", fn := fun _ => fun
  | [d1, d2] => { results := [.lit (.bool true)], args := [d1, d2] }
  | _ => none }
def fnExactColumnsOfRow : OpenClaim := { program := "ytimcokealhnfhaa", sum := "269244b9ce427732d8f40f7c8f9a7561150e47ff5a5e4ce42064229b6f20af97", func := "loop.example/g01343/laws.FnExactColumnsOf", spec := "fnExactColumnsOf", unfollowed := true, recurses := true, plainKeys := false, apart := false }
def FnExactColumnsOfSaid : Prop := fnExactColumnsOfRow.holds Try.pinned (OpenSpec.ofChange fnExactColumnsOfSpec)

/-- ITS FALSE NEIGHBOUR: 'it returns false'. Refute it at one input. -/
def fnExactColumnsOfWrong : ChangeSpec := { name := "fnExactColumnsOf", fn := fun _ => fun
  | [d1, d2] => { results := [.lit (.bool false)], args := [d1, d2] }
  | _ => none }
def FnExactColumnsOfWrongFalsely : Prop := fnExactColumnsOfRow.holds Try.pinned (OpenSpec.ofChange fnExactColumnsOfWrong)

/-- 'laws.FnExactIsGame': WHATEVER THE INPUT: true; the input reads as it did. -/
def fnExactIsGameSpec : ChangeSpec := { name := "fnExactIsGame", fn := fun _ => fun
  | [d] => { results := [.lit (.bool true)], args := [d] }
  | _ => none }
def fnExactIsGameRow : OpenClaim := { program := "ytimcokealhnfhaa", sum := "269244b9ce427732d8f40f7c8f9a7561150e47ff5a5e4ce42064229b6f20af97", func := "loop.example/g01343/laws.FnExactIsGame", spec := "fnExactIsGame", plainKeys := false, apart := false }
def FnExactIsGameSaid : Prop := fnExactIsGameRow.holds Try.pinned (OpenSpec.ofChange fnExactIsGameSpec)

/-- ITS FALSE NEIGHBOUR: 'it returns false'. Refute it at one input. -/
def fnExactIsGameWrong : ChangeSpec := { name := "fnExactIsGame", fn := fun _ => fun
  | [d] => { results := [.lit (.bool false)], args := [d] }
  | _ => none }
def FnExactIsGameWrongFalsely : Prop := fnExactIsGameRow.holds Try.pinned (OpenSpec.ofChange fnExactIsGameWrong)

/-- 'laws.FnExactGameProblem': WHATEVER THE INPUT: true; the input reads as it did. -/
def fnExactGameProblemSpec : ChangeSpec := { name := "fnExactGameProblem", fn := fun _ => fun
  | [d] => { results := [.lit (.bool true)], args := [d] }
  | _ => none }
def fnExactGameProblemRow : OpenClaim := { program := "ytimcokealhnfhaa", sum := "269244b9ce427732d8f40f7c8f9a7561150e47ff5a5e4ce42064229b6f20af97", func := "loop.example/g01343/laws.FnExactGameProblem", spec := "fnExactGameProblem", unfollowed := true, recurses := true, plainKeys := false, apart := false }
def FnExactGameProblemSaid : Prop := fnExactGameProblemRow.holds Try.pinned (OpenSpec.ofChange fnExactGameProblemSpec)

/-- ITS FALSE NEIGHBOUR: 'it returns false'. Refute it at one input. -/
def fnExactGameProblemWrong : ChangeSpec := { name := "fnExactGameProblem", fn := fun _ => fun
  | [d] => { results := [.lit (.bool false)], args := [d] }
  | _ => none }
def FnExactGameProblemWrongFalsely : Prop := fnExactGameProblemRow.holds Try.pinned (OpenSpec.ofChange fnExactGameProblemWrong)

/-- 'laws.FnExactBestReplies': WHATEVER THE INPUT: true; the input reads as it did. -/
def fnExactBestRepliesSpec : ChangeSpec := { name := "fnExactBestReplies", fn := fun _ => fun
  | [d1, d2, d3] => { results := [.lit (.bool true)], args := [d1, d2, d3] }
  | _ => none }
def fnExactBestRepliesRow : OpenClaim := { program := "ytimcokealhnfhaa", sum := "269244b9ce427732d8f40f7c8f9a7561150e47ff5a5e4ce42064229b6f20af97", func := "loop.example/g01343/laws.FnExactBestReplies", spec := "fnExactBestReplies", unfollowed := true, recurses := true, plainKeys := false, apart := false }
def FnExactBestRepliesSaid : Prop := fnExactBestRepliesRow.holds Try.pinned (OpenSpec.ofChange fnExactBestRepliesSpec)

/-- ITS FALSE NEIGHBOUR: 'it returns false'. Refute it at one input. -/
def fnExactBestRepliesWrong : ChangeSpec := { name := "fnExactBestReplies", fn := fun _ => fun
  | [d1, d2, d3] => { results := [.lit (.bool false)], args := [d1, d2, d3] }
  | _ => none }
def FnExactBestRepliesWrongFalsely : Prop := fnExactBestRepliesRow.holds Try.pinned (OpenSpec.ofChange fnExactBestRepliesWrong)

/-- 'laws.FnExactPayoffsAt': WHATEVER THE INPUT: true; the input reads as it did. -/
def fnExactPayoffsAtSpec : ChangeSpec := { name := "fnExactPayoffsAt", fn := fun _ => fun
  | [d1, d2, d3] => { results := [.lit (.bool true)], args := [d1, d2, d3] }
  | _ => none }
def fnExactPayoffsAtRow : OpenClaim := { program := "ytimcokealhnfhaa", sum := "269244b9ce427732d8f40f7c8f9a7561150e47ff5a5e4ce42064229b6f20af97", func := "loop.example/g01343/laws.FnExactPayoffsAt", spec := "fnExactPayoffsAt", unfollowed := true, recurses := true, plainKeys := false, apart := false }
def FnExactPayoffsAtSaid : Prop := fnExactPayoffsAtRow.holds Try.pinned (OpenSpec.ofChange fnExactPayoffsAtSpec)

/-- ITS FALSE NEIGHBOUR: 'it returns false'. Refute it at one input. -/
def fnExactPayoffsAtWrong : ChangeSpec := { name := "fnExactPayoffsAt", fn := fun _ => fun
  | [d1, d2, d3] => { results := [.lit (.bool false)], args := [d1, d2, d3] }
  | _ => none }
def FnExactPayoffsAtWrongFalsely : Prop := fnExactPayoffsAtRow.holds Try.pinned (OpenSpec.ofChange fnExactPayoffsAtWrong)

/-- 'laws.FnExactExchangePlayers': WHATEVER THE INPUT: true; the input reads as it did. -/
def fnExactExchangePlayersSpec : ChangeSpec := { name := "fnExactExchangePlayers", fn := fun _ => fun
  | [d] => { results := [.lit (.bool true)], args := [d] }
  | _ => none }
def fnExactExchangePlayersRow : OpenClaim := { program := "ytimcokealhnfhaa", sum := "269244b9ce427732d8f40f7c8f9a7561150e47ff5a5e4ce42064229b6f20af97", func := "loop.example/g01343/laws.FnExactExchangePlayers", spec := "fnExactExchangePlayers", plainKeys := false, apart := false }
def FnExactExchangePlayersSaid : Prop := fnExactExchangePlayersRow.holds Try.pinned (OpenSpec.ofChange fnExactExchangePlayersSpec)

/-- ITS FALSE NEIGHBOUR: 'it returns false'. Refute it at one input. -/
def fnExactExchangePlayersWrong : ChangeSpec := { name := "fnExactExchangePlayers", fn := fun _ => fun
  | [d] => { results := [.lit (.bool false)], args := [d] }
  | _ => none }
def FnExactExchangePlayersWrongFalsely : Prop := fnExactExchangePlayersRow.holds Try.pinned (OpenSpec.ofChange fnExactExchangePlayersWrong)

/-- 'laws.FnExactMurtyProblem': WHATEVER THE INPUT: true; the input reads as it did. -/
def fnExactMurtyProblemSpec : ChangeSpec := { name := "fnExactMurtyProblem", fn := fun _ => fun
  | [d] => { results := [.lit (.bool true)], args := [d] }
  | _ => none }
def fnExactMurtyProblemRow : OpenClaim := { program := "ytimcokealhnfhaa", sum := "269244b9ce427732d8f40f7c8f9a7561150e47ff5a5e4ce42064229b6f20af97", func := "loop.example/g01343/laws.FnExactMurtyProblem", spec := "fnExactMurtyProblem", plainKeys := false, apart := false }
def FnExactMurtyProblemSaid : Prop := fnExactMurtyProblemRow.holds Try.pinned (OpenSpec.ofChange fnExactMurtyProblemSpec)

/-- ITS FALSE NEIGHBOUR: 'it returns false'. Refute it at one input. -/
def fnExactMurtyProblemWrong : ChangeSpec := { name := "fnExactMurtyProblem", fn := fun _ => fun
  | [d] => { results := [.lit (.bool false)], args := [d] }
  | _ => none }
def FnExactMurtyProblemWrongFalsely : Prop := fnExactMurtyProblemRow.holds Try.pinned (OpenSpec.ofChange fnExactMurtyProblemWrong)

/-- 'laws.FnExactPureEquilibria': WHATEVER THE INPUT: true; the input reads as it did. -/
def fnExactPureEquilibriaSpec : ChangeSpec := { name := "fnExactPureEquilibria", fn := fun _ => fun
  | [d] => { results := [.lit (.bool true)], args := [d] }
  | _ => none }
def fnExactPureEquilibriaRow : OpenClaim := { program := "ytimcokealhnfhaa", sum := "269244b9ce427732d8f40f7c8f9a7561150e47ff5a5e4ce42064229b6f20af97", func := "loop.example/g01343/laws.FnExactPureEquilibria", spec := "fnExactPureEquilibria", unfollowed := true, recurses := true, plainKeys := false, apart := false }
def FnExactPureEquilibriaSaid : Prop := fnExactPureEquilibriaRow.holds Try.pinned (OpenSpec.ofChange fnExactPureEquilibriaSpec)

/-- ITS FALSE NEIGHBOUR: 'it returns false'. Refute it at one input. -/
def fnExactPureEquilibriaWrong : ChangeSpec := { name := "fnExactPureEquilibria", fn := fun _ => fun
  | [d] => { results := [.lit (.bool false)], args := [d] }
  | _ => none }
def FnExactPureEquilibriaWrongFalsely : Prop := fnExactPureEquilibriaRow.holds Try.pinned (OpenSpec.ofChange fnExactPureEquilibriaWrong)

/-- 'laws.FnExactIsEquilibrium': WHATEVER THE INPUT: true; the input reads as it did. -/
def fnExactIsEquilibriumSpec : ChangeSpec := { name := "fnExactIsEquilibrium", fn := fun _ => fun
  | [d1, d2, d3] => { results := [.lit (.bool true)], args := [d1, d2, d3] }
  | _ => none }
def fnExactIsEquilibriumRow : OpenClaim := { program := "ytimcokealhnfhaa", sum := "269244b9ce427732d8f40f7c8f9a7561150e47ff5a5e4ce42064229b6f20af97", func := "loop.example/g01343/laws.FnExactIsEquilibrium", spec := "fnExactIsEquilibrium", unfollowed := true, recurses := true, plainKeys := false, apart := false }
def FnExactIsEquilibriumSaid : Prop := fnExactIsEquilibriumRow.holds Try.pinned (OpenSpec.ofChange fnExactIsEquilibriumSpec)

/-- ITS FALSE NEIGHBOUR: 'it returns false'. Refute it at one input. -/
def fnExactIsEquilibriumWrong : ChangeSpec := { name := "fnExactIsEquilibrium", fn := fun _ => fun
  | [d1, d2, d3] => { results := [.lit (.bool false)], args := [d1, d2, d3] }
  | _ => none }
def FnExactIsEquilibriumWrongFalsely : Prop := fnExactIsEquilibriumRow.holds Try.pinned (OpenSpec.ofChange fnExactIsEquilibriumWrong)

/-- 'laws.FnExactRemainingChoices': WHATEVER THE INPUT: true; the input reads as it did. -/
def fnExactRemainingChoicesSpec : ChangeSpec := { name := "fnExactRemainingChoices", fn := fun _ => fun
  | [d] => { results := [.lit (.bool true)], args := [d] }
  | _ => none }
def fnExactRemainingChoicesRow : OpenClaim := { program := "ytimcokealhnfhaa", sum := "269244b9ce427732d8f40f7c8f9a7561150e47ff5a5e4ce42064229b6f20af97", func := "loop.example/g01343/laws.FnExactRemainingChoices", spec := "fnExactRemainingChoices", unfollowed := true, recurses := true, plainKeys := false, apart := false }
def FnExactRemainingChoicesSaid : Prop := fnExactRemainingChoicesRow.holds Try.pinned (OpenSpec.ofChange fnExactRemainingChoicesSpec)

/-- ITS FALSE NEIGHBOUR: 'it returns false'. Refute it at one input. -/
def fnExactRemainingChoicesWrong : ChangeSpec := { name := "fnExactRemainingChoices", fn := fun _ => fun
  | [d] => { results := [.lit (.bool false)], args := [d] }
  | _ => none }
def FnExactRemainingChoicesWrongFalsely : Prop := fnExactRemainingChoicesRow.holds Try.pinned (OpenSpec.ofChange fnExactRemainingChoicesWrong)

/-- 'laws.FnExactCubeOfProblem': WHATEVER THE INPUT: true; the input reads as it did. -/
def fnExactCubeOfProblemSpec : ChangeSpec := { name := "fnExactCubeOfProblem", fn := fun _ => fun
  | [d] => { results := [.lit (.bool true)], args := [d] }
  | _ => none }
def fnExactCubeOfProblemRow : OpenClaim := { program := "ytimcokealhnfhaa", sum := "269244b9ce427732d8f40f7c8f9a7561150e47ff5a5e4ce42064229b6f20af97", func := "loop.example/g01343/laws.FnExactCubeOfProblem", spec := "fnExactCubeOfProblem", unfollowed := true, recurses := true, plainKeys := false, apart := false }
def FnExactCubeOfProblemSaid : Prop := fnExactCubeOfProblemRow.holds Try.pinned (OpenSpec.ofChange fnExactCubeOfProblemSpec)

/-- ITS FALSE NEIGHBOUR: 'it returns false'. Refute it at one input. -/
def fnExactCubeOfProblemWrong : ChangeSpec := { name := "fnExactCubeOfProblem", fn := fun _ => fun
  | [d] => { results := [.lit (.bool false)], args := [d] }
  | _ => none }
def FnExactCubeOfProblemWrongFalsely : Prop := fnExactCubeOfProblemRow.holds Try.pinned (OpenSpec.ofChange fnExactCubeOfProblemWrong)

/- THE SECOND FORM. 'bulk': how many values and letters a reading holds, each counted each time it is reached (what is shared counts as often as it is met; a slice's spare places count too). A statement '..UptoSaid' is the law's where the arguments, and the package variables that the reading takes, are together of bulk at most 1048576: NARROWER than '..Said'. Prove '..Said' where nothing that the law and all that it calls make is longer than what came in: it says more and counts as full. Else prove '..UptoSaid'. A law counts once. -/
mutual
def uptoBulk {H : Type} : DataW H → Nat
  | .lit (.string bytes) => bytes.length + 1
  | .lit _ => 1
  | .nil => 1
  | .ptr d => uptoBulk d + 1
  | .slice elems spare => uptoBulkAll elems + uptoBulkAll spare + 1
  | .agg parts => uptoBulkAll parts + 1
  | .iface _ d => uptoBulk d + 1
  | .map entries => uptoBulkEntries entries + 1
  | .held _ => 1
def uptoBulkAll {H : Type} : List (DataW H) → Nat
  | [] => 0
  | d :: r => uptoBulk d + uptoBulkAll r
def uptoBulkEntries {H : Type} : List (Lit × DataW H) → Nat
  | [] => 0
  | x :: r => uptoBulkEntry x + uptoBulkEntries r
def uptoBulkEntry {H : Type} : Lit × DataW H → Nat
  | (.string bytes, d) => bytes.length + uptoBulk d + 1
  | (_, d) => uptoBulk d + 1
 end
def uptoSmall : (H : Type) → List (DataW H) → Bool := fun _ ds => decide (uptoBulkAll ds ≤ 1048576)
def OpenSpec.upto (s : _root_.Go.ChangeSpec) : _root_.Go.OpenSpec := { _root_.Go.OpenSpec.ofChange s with cond := some uptoSmall }

/-- 'laws.FnExactScaleRow', WHERE WHAT IT READS IS OF BULK AT MOST 1048576: true; the input reads as it did. -/
def fnExactScaleRowUptoRow : OpenClaim := { program := "ytimcokealhnfhaa", sum := "269244b9ce427732d8f40f7c8f9a7561150e47ff5a5e4ce42064229b6f20af97", func := "loop.example/g01343/laws.FnExactScaleRow", spec := "fnExactScaleRow", plainKeys := false, apart := false, narrowed := true }
def FnExactScaleRowUptoSaid : Prop := fnExactScaleRowUptoRow.holds Try.pinned (OpenSpec.upto fnExactScaleRowSpec)

/-- 'laws.FnExactColumnsOf', WHERE WHAT IT READS IS OF BULK AT MOST 1048576: true; the input reads as it did. -/
def fnExactColumnsOfUptoRow : OpenClaim := { program := "ytimcokealhnfhaa", sum := "269244b9ce427732d8f40f7c8f9a7561150e47ff5a5e4ce42064229b6f20af97", func := "loop.example/g01343/laws.FnExactColumnsOf", spec := "fnExactColumnsOf", unfollowed := true, recurses := true, plainKeys := false, apart := false, narrowed := true }
def FnExactColumnsOfUptoSaid : Prop := fnExactColumnsOfUptoRow.holds Try.pinned (OpenSpec.upto fnExactColumnsOfSpec)

/-- 'laws.FnExactIsGame', WHERE WHAT IT READS IS OF BULK AT MOST 1048576: true; the input reads as it did. -/
def fnExactIsGameUptoRow : OpenClaim := { program := "ytimcokealhnfhaa", sum := "269244b9ce427732d8f40f7c8f9a7561150e47ff5a5e4ce42064229b6f20af97", func := "loop.example/g01343/laws.FnExactIsGame", spec := "fnExactIsGame", plainKeys := false, apart := false, narrowed := true }
def FnExactIsGameUptoSaid : Prop := fnExactIsGameUptoRow.holds Try.pinned (OpenSpec.upto fnExactIsGameSpec)

/-- 'laws.FnExactGameProblem', WHERE WHAT IT READS IS OF BULK AT MOST 1048576: true; the input reads as it did. -/
def fnExactGameProblemUptoRow : OpenClaim := { program := "ytimcokealhnfhaa", sum := "269244b9ce427732d8f40f7c8f9a7561150e47ff5a5e4ce42064229b6f20af97", func := "loop.example/g01343/laws.FnExactGameProblem", spec := "fnExactGameProblem", unfollowed := true, recurses := true, plainKeys := false, apart := false, narrowed := true }
def FnExactGameProblemUptoSaid : Prop := fnExactGameProblemUptoRow.holds Try.pinned (OpenSpec.upto fnExactGameProblemSpec)

/-- 'laws.FnExactBestReplies', WHERE WHAT IT READS IS OF BULK AT MOST 1048576: true; the input reads as it did. -/
def fnExactBestRepliesUptoRow : OpenClaim := { program := "ytimcokealhnfhaa", sum := "269244b9ce427732d8f40f7c8f9a7561150e47ff5a5e4ce42064229b6f20af97", func := "loop.example/g01343/laws.FnExactBestReplies", spec := "fnExactBestReplies", unfollowed := true, recurses := true, plainKeys := false, apart := false, narrowed := true }
def FnExactBestRepliesUptoSaid : Prop := fnExactBestRepliesUptoRow.holds Try.pinned (OpenSpec.upto fnExactBestRepliesSpec)

/-- 'laws.FnExactPayoffsAt', WHERE WHAT IT READS IS OF BULK AT MOST 1048576: true; the input reads as it did. -/
def fnExactPayoffsAtUptoRow : OpenClaim := { program := "ytimcokealhnfhaa", sum := "269244b9ce427732d8f40f7c8f9a7561150e47ff5a5e4ce42064229b6f20af97", func := "loop.example/g01343/laws.FnExactPayoffsAt", spec := "fnExactPayoffsAt", unfollowed := true, recurses := true, plainKeys := false, apart := false, narrowed := true }
def FnExactPayoffsAtUptoSaid : Prop := fnExactPayoffsAtUptoRow.holds Try.pinned (OpenSpec.upto fnExactPayoffsAtSpec)

/-- 'laws.FnExactExchangePlayers', WHERE WHAT IT READS IS OF BULK AT MOST 1048576: true; the input reads as it did. -/
def fnExactExchangePlayersUptoRow : OpenClaim := { program := "ytimcokealhnfhaa", sum := "269244b9ce427732d8f40f7c8f9a7561150e47ff5a5e4ce42064229b6f20af97", func := "loop.example/g01343/laws.FnExactExchangePlayers", spec := "fnExactExchangePlayers", plainKeys := false, apart := false, narrowed := true }
def FnExactExchangePlayersUptoSaid : Prop := fnExactExchangePlayersUptoRow.holds Try.pinned (OpenSpec.upto fnExactExchangePlayersSpec)

/-- 'laws.FnExactMurtyProblem', WHERE WHAT IT READS IS OF BULK AT MOST 1048576: true; the input reads as it did. -/
def fnExactMurtyProblemUptoRow : OpenClaim := { program := "ytimcokealhnfhaa", sum := "269244b9ce427732d8f40f7c8f9a7561150e47ff5a5e4ce42064229b6f20af97", func := "loop.example/g01343/laws.FnExactMurtyProblem", spec := "fnExactMurtyProblem", plainKeys := false, apart := false, narrowed := true }
def FnExactMurtyProblemUptoSaid : Prop := fnExactMurtyProblemUptoRow.holds Try.pinned (OpenSpec.upto fnExactMurtyProblemSpec)

/-- 'laws.FnExactPureEquilibria', WHERE WHAT IT READS IS OF BULK AT MOST 1048576: true; the input reads as it did. -/
def fnExactPureEquilibriaUptoRow : OpenClaim := { program := "ytimcokealhnfhaa", sum := "269244b9ce427732d8f40f7c8f9a7561150e47ff5a5e4ce42064229b6f20af97", func := "loop.example/g01343/laws.FnExactPureEquilibria", spec := "fnExactPureEquilibria", unfollowed := true, recurses := true, plainKeys := false, apart := false, narrowed := true }
def FnExactPureEquilibriaUptoSaid : Prop := fnExactPureEquilibriaUptoRow.holds Try.pinned (OpenSpec.upto fnExactPureEquilibriaSpec)

/-- 'laws.FnExactIsEquilibrium', WHERE WHAT IT READS IS OF BULK AT MOST 1048576: true; the input reads as it did. -/
def fnExactIsEquilibriumUptoRow : OpenClaim := { program := "ytimcokealhnfhaa", sum := "269244b9ce427732d8f40f7c8f9a7561150e47ff5a5e4ce42064229b6f20af97", func := "loop.example/g01343/laws.FnExactIsEquilibrium", spec := "fnExactIsEquilibrium", unfollowed := true, recurses := true, plainKeys := false, apart := false, narrowed := true }
def FnExactIsEquilibriumUptoSaid : Prop := fnExactIsEquilibriumUptoRow.holds Try.pinned (OpenSpec.upto fnExactIsEquilibriumSpec)

/-- 'laws.FnExactRemainingChoices', WHERE WHAT IT READS IS OF BULK AT MOST 1048576: true; the input reads as it did. -/
def fnExactRemainingChoicesUptoRow : OpenClaim := { program := "ytimcokealhnfhaa", sum := "269244b9ce427732d8f40f7c8f9a7561150e47ff5a5e4ce42064229b6f20af97", func := "loop.example/g01343/laws.FnExactRemainingChoices", spec := "fnExactRemainingChoices", unfollowed := true, recurses := true, plainKeys := false, apart := false, narrowed := true }
def FnExactRemainingChoicesUptoSaid : Prop := fnExactRemainingChoicesUptoRow.holds Try.pinned (OpenSpec.upto fnExactRemainingChoicesSpec)

/-- 'laws.FnExactCubeOfProblem', WHERE WHAT IT READS IS OF BULK AT MOST 1048576: true; the input reads as it did. -/
def fnExactCubeOfProblemUptoRow : OpenClaim := { program := "ytimcokealhnfhaa", sum := "269244b9ce427732d8f40f7c8f9a7561150e47ff5a5e4ce42064229b6f20af97", func := "loop.example/g01343/laws.FnExactCubeOfProblem", spec := "fnExactCubeOfProblem", unfollowed := true, recurses := true, plainKeys := false, apart := false, narrowed := true }
def FnExactCubeOfProblemUptoSaid : Prop := fnExactCubeOfProblemUptoRow.holds Try.pinned (OpenSpec.upto fnExactCubeOfProblemSpec)

end Rows
end Go.Proofs.Ytimcokealhnfhaa
