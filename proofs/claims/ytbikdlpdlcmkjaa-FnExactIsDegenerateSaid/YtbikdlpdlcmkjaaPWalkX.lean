/-
  Walks: a row of a problem scaled, in the model.
-/
import Derived.Test.YtbikdlpdlcmkjaaPWalkV
namespace Go.Proofs.Ytbikdlpdlcmkjaa.PW
open Go.RowKit Go.Proofs.Ytbikdlpdlcmkjaa
open Go.Proofs.Ytbikdlpdlcmkjaa.PM

/-- l01Copy's answer with its slices written out. -/
theorem l01Copy_out (m q : Value) (M : List (List Int)) (Q : List Int) (w : World) (h1 : PM.Rows w m M) (h2 : Ints w q Q) (h0 : M ≠ []) (hne : ∀ i, i < M.length → M.getD i [] ≠ []) (hq0 : Q ≠ []) (hn : tot M ≤ 1048576) (hn2 : Q.length ≤ 1048576) :
    Calls Try.prog 56 #[.agg #[m, q]] w fun e w' => ∃ gm cm gq cq us, e = .returned (.agg #[.slice (some ⟨gm, 0, none⟩) M.length cm, .slice (some ⟨gq, 0, none⟩) Q.length cq]) ∧ w.heap.size ≤ gm ∧ gm < w'.heap.size ∧ w.heap.size ≤ gq ∧ gq < w'.heap.size ∧ gm ≠ gq ∧
      FreshP w.heap.size w' (.slice (some ⟨gm, 0, none⟩) M.length cm) (.slice (some ⟨gq, 0, none⟩) Q.length cq) M Q us ∧ Below w.heap.size w w' := by
  refine (l01Copy_any m q M Q w h1 h2 h0 hne hq0 hn hn2).mono ?_
  rintro e w' ⟨m', q', us, rfl, hfp, hb⟩
  obtain ⟨gm, cm, rfl, hm1, hm2⟩ := hfp.rows.top
  obtain ⟨gq, cq, rfl, hq1, hq2, _⟩ := hfp.right
  exact ⟨gm, cm, gq, cq, us, rfl, hm1, hm2, hq1, hq2, fun c => (hfp.apart gq rfl).1 (by rw [c]; rfl), hfp, hb⟩

end Go.Proofs.Ytbikdlpdlcmkjaa.PW
