/-
  An answer that is an orientation (a number and a list) and a code: what the laws do with it (kind C).
-/
import Derived.Test.YtoglmkjmnknbbaaCCube
namespace Go.Proofs.Ytoglmkjmnknbbaa.PW
open Go.RowKit Go.Proofs.Ytoglmkjmnknbbaa
open Go.Proofs.Ytoglmkjmnknbbaa.PM

structure FineC (o : Int × List Int) : Prop where
  list : FineI o.2
/-- What a function leaves that returns a bool, or a number, and a code (OutB and OutN of PDetA under other names: PDetA wants the seat's determinants). -/
def OutCB (w : World) (o : Bool × Int) (e : Ending) (w' : World) : Prop := e = .returned (.tuple #[.bool o.1, .int .i64 o.2]) ∧ Below w.heap.size w w'
def OutCN (w : World) (o : Int × Int) (e : Ending) (w' : World) : Prop := e = .returned (.tuple #[.int .i64 o.1, .int .i64 o.2]) ∧ Below w.heap.size w w'
/-- What a function leaves that returns an orientation and a code. -/
def OutC (w : World) (o : (Int × List Int) × Int) (e : Ending) (w' : World) : Prop :=
  ∃ v, e = .returned (.tuple #[.agg #[.int .i64 o.1.1, v], .int .i64 o.2]) ∧ RngI w.heap.size w'.heap.size w' v o.1.2 ∧ Below w.heap.size w w'
theorem OutC.out {w w' : World} {o : (Int × List Int) × Int} {e : Ending} (h : OutC w o e w') :
    ∃ a c, e = .returned (.tuple #[.agg #[.int .i64 o.1.1, .slice a o.1.2.length c], .int .i64 o.2]) ∧ RngI w.heap.size w'.heap.size w' (.slice a o.1.2.length c) o.1.2 ∧ Below w.heap.size w w' := by
  obtain ⟨v, rfl, ho, hb⟩ := h
  obtain ⟨a1, c1, rfl⟩ := OwnI.shape ho.own
  exact ⟨a1, c1, rfl, ho, hb⟩
end Go.Proofs.Ytoglmkjmnknbbaa.PW
