/-
  ProgramProblem: the bounds of its answer, and the program's side in the words of the law's walk.
-/
import Derived.Test.YtgncaploccbfnaaWPpm
import Derived.Test.YtgncaploccbfnaaLKW
import Derived.Test.YtgncaploccbfnaaLKP
namespace Go.Proofs.Ytgncaploccbfnaa.PW
open Go.RowKit Go.Proofs.Ytgncaploccbfnaa
open Go.Proofs.Ytgncaploccbfnaa.PM
theorem fine_ppx (D : List (List Int)) (C : List Int) (A : List (List Int)) (B : List Int) : FinePx (ppOut D C A B).1 (ppOut D C A B).2.1 := by
  have hf := fine_pp D C A B
  refine ⟨hf.m64, hf.q64, ?_⟩
  cases hc : isWB D C A B
  · rw [ppOut_no hc]; simp [PM.tot]
  · rw [ppOut_ok hc]
    have h := (isWB_is D C A B).1 hc
    have h5 := h.n5
    show PM.tot (tab _ _) + (ppQ C B).length ≤ _
    have e : (ppQ C B).length = C.length + B.length := by unfold ppQ; rw [List.length_append, List.length_map]
    rw [e]
    generalize C.length + B.length = n at *
    unfold PM.tot
    have ht : ((tab n (ppG D A C.length)).map List.length).sum = n * n := by
      unfold tab
      rw [List.map_map]
      have : (List.length ∘ fun i => (List.range n).map (ppG D A C.length i)) = fun _ => n := by funext i; simp
      rw [this, List.map_const', List.sum_replicate_nat]
      simp
    rw [ht, tab_length]
    have : n * n ≤ 5 * 5 := Nat.mul_le_mul h5 h5
    omega
theorem implProgramProblem_any (d c a b : Value) (D : List (List Int)) (C : List Int) (A : List (List Int)) (B : List Int) (w : World) (h1 : PM.Rows w d D) (h2 : Ints w c C) (h3 : PM.Rows w a A) (h4 : Ints w b B) (hs : szWn D C A B ≤ 1048576) :
    Calls Try.prog 42 #[.agg #[d, c, a, b]] w (OutPx w (ppOut D C A B)) :=
  (implProgramProblem_p d c a b D C A B w h1 h2 h3 h4 hs).mono fun _ _ h => h.px
end Go.Proofs.Ytgncaploccbfnaa.PW
