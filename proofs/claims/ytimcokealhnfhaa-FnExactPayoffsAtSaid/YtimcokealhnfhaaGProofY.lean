/-
  The exact law of PayoffsAt holds of whatever input: the law's Go function returns true, and its arguments read afterwards as before. No further condition.
-/
import Derived.Test.YtimcokealhnfhaaGLawY
import Derived.Test.YtimcokealhnfhaaGFrame
import Derived.Test.YtimcokealhnfhaaVFrame
namespace Go.Proofs.Ytimcokealhnfhaa
open Go.ChangeShapes Go.WideShapes Go.ChangeAt Go.RowKit Go.Joins Go.Deep
open Go.Proofs.Ytimcokealhnfhaa.PM Go.Proofs.Ytimcokealhnfhaa.PW
namespace FnExactPayoffsAt
set_option maxRecDepth 100000 in
theorem lifted (os : Os) (started : os.Started) (H : Type) (enc : TypeId × Value → H) :
    ReturnsInHanded {} Try.checked os 8 .any (Rows.fnExactPayoffsAtSpec.pre6 enc Try.prog Try.f8 Rows.fnExactPayoffsAtRow.domain false) (Rows.fnExactPayoffsAtSpec.post enc Try.prog Try.f8 false true false false) := by
  refine returnsInHanded_of_change (C := Try.checked) own started (by kernel_rfl) Try.func8
    (ChangeSpec.witness6 (enc := enc) (C := Try.checked) false ⟨#[], #[.agg #[.slice none 0 0, .slice none 0 0], .slice none 0 0, .slice none 0 0], []⟩ 8 (by kernel_rfl) (by kernel_rfl) (by kernel_rfl) (by kernel_rfl)) ?_
  intro W base args ds gs before hval0 hW _ _
  have hval : ∀ (j : Nat) t v, Try.f8.params[j]? = some t → args[j]? = some v → Value.okWide Try.prog W .any base t v := hval0
  have hW' := hW
  obtain ⟨p, q, hA0, hV, rfl, _, _⟩ := hW
  have hA : DataW.TrodAll enc Try.prog W 0 (fun _ => true) true Try.f8.params.toList args.toList ds p := hA0
  rw [Try.params8] at hA hval
  obtain ⟨v0, vs0, d0, ds0, p0, q0, hargs, rfl, rfl, h0, r0⟩ := trodAll_cons hA
  obtain ⟨v1, vs1, d1, ds1, p1, q1, rfl, rfl, rfl, h1, r1⟩ := trodAll_cons r0
  obtain ⟨v2, vs2, d2, ds2, p2, q2, rfl, rfl, rfl, h2, r2⟩ := trodAll_cons r1
  obtain ⟨rfl, rfl, rfl⟩ := trodAll_nil r2
  obtain rfl : args = #[v0, v1, v2] := by cases args; simp_all
  obtain ⟨rfl, rfl⟩ := trodVars_none hV
  have K0 := h0
  have L0 : ∀ x ∈ p0, x.block < W.heap.size := by obtain ⟨mm, hmm⟩ := K0; exact DataW.trod_lt mm _ _ _ hmm
  obtain ⟨m0, qq0, rfl, hM0, hQ0⟩ : ∃ m q, v0 = .agg #[m, q] ∧ (∃ M, PM.Rows W m M) ∧ ∃ Q, PM.Rows W q Q := by
    obtain ⟨c0, c1, y0, y1, mm, e1, e2, e3, hy0, hy1⟩ := open_agg2 Try.underlying40 (by kernel_rfl) cellsGame (hval 0 40 v0 rfl rfl) h0
    exact ⟨c0, c1, e1, rows_in hy0, rows_in hy1⟩
  obtain ⟨M0, hM0⟩ := hM0
  obtain ⟨Q0, hQ0⟩ := hQ0
  have K1 := h1
  have L1 : ∀ x ∈ p1, x.block < W.heap.size := by obtain ⟨mm, hmm⟩ := K1; exact DataW.trod_lt mm _ _ _ hmm
  obtain ⟨al1, ln1, cp1, rfl⟩ := okWide_slice Try.underlying49 (hval 1 49 v1 rfl rfl)
  obtain ⟨Z1, hZ1⟩ : ∃ Z, PW.Frs W (.slice al1 ln1 cp1) Z := by obtain ⟨mm, hmm⟩ := K1; exact fracs_in (c := .slice al1 ln1 cp1) hmm
  have K2 := h2
  have L2 : ∀ x ∈ p2, x.block < W.heap.size := by obtain ⟨mm, hmm⟩ := K2; exact DataW.trod_lt mm _ _ _ hmm
  obtain ⟨al2, ln2, cp2, rfl⟩ := okWide_slice Try.underlying49 (hval 2 49 v2 rfl rfl)
  obtain ⟨Z2, hZ2⟩ : ∃ Z, PW.Frs W (.slice al2 ln2 cp2) Z := by obtain ⟨mm, hmm⟩ := K2; exact fracs_in (c := .slice al2 ln2 cp2) hmm
  clear hA0 hval0
  simp only [List.append_nil] at hW'
  refine (law_FnExactPayoffsAt m0 qq0 M0 Q0 (.slice al1 ln1 cp1) Z1 (.slice al2 ln2 cp2) Z2 W hM0 hQ0 hZ1 hZ2).mono fun e W' ⟨he, hb⟩ => ?_
  subst he
  exact ⟨_, rfl, _, _, _, [], _, [], hW', trodAll_mk1 (shut_bool Try.underlying4 _), trodAll_cons_mk (Below.trod laidOut (by kernel_rfl) (of_decide_eq_true (by kernel_rfl)) K0 hb L0) (trodAll_cons_mk (Below.trod laidOut (by kernel_rfl) (of_decide_eq_true (by kernel_rfl)) K1 hb L1) (trodAll_cons_mk (Below.trod laidOut (by kernel_rfl) (of_decide_eq_true (by kernel_rfl)) K2 hb L2) trodAll_mk0)), rfl, hb.frame _, fun h => by cases h⟩
theorem over : Rows.fnExactPayoffsAtRow.holds Try.pinned (OpenSpec.ofChange Rows.fnExactPayoffsAtSpec) :=
  OpenClaim.holds_of_wide 8 Try.f8 rfl rfl rfl rfl rfl rfl rfl ⟨rfl, rfl, rfl, rfl, rfl⟩ rfl rfl rfl rfl rfl (by kernel_rfl) Try.func8 (by kernel_rfl)
    (of_decide_eq_true (by kernel_rfl)) (by unfold Func.isWrapper; first | (rw [if_pos (by decide +kernel)]; kernel_rfl) | (rw [if_neg (by decide +kernel)]; exact ⟨rfl, rfl⟩))
    (fun os started H enc _ => lifted os started H enc)
theorem proved : Rows.FnExactPayoffsAtSaid := over
end FnExactPayoffsAt
end Go.Proofs.Ytimcokealhnfhaa
