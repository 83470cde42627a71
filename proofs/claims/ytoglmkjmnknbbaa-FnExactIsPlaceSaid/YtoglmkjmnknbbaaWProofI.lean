/-
  The exact law of IsPlace holds of whatever input: the law's Go function returns true, and its arguments read afterwards as before. No further condition.
-/
import Derived.Test.YtoglmkjmnknbbaaWLawI
import Derived.Test.YtoglmkjmnknbbaaWFrame
import Derived.Test.YtoglmkjmnknbbaaVFrame
namespace Go.Proofs.Ytoglmkjmnknbbaa
open Go.ChangeShapes Go.WideShapes Go.ChangeAt Go.RowKit Go.Joins Go.Deep
open Go.Proofs.Ytoglmkjmnknbbaa.PM Go.Proofs.Ytoglmkjmnknbbaa.PW
namespace FnExactIsPlace
set_option maxRecDepth 100000 in
theorem lifted (os : Os) (started : os.Started) (H : Type) (enc : TypeId × Value → H) :
    ReturnsInHanded {} Try.checked os 14 .any (Rows.fnExactIsPlaceSpec.pre6 enc Try.prog Try.f14 Rows.fnExactIsPlaceRow.domain false) (Rows.fnExactIsPlaceSpec.post enc Try.prog Try.f14 false true false false) := by
  refine returnsInHanded_of_change (C := Try.checked) own started (by kernel_rfl) Try.func14
    (ChangeSpec.witness6 (enc := enc) (C := Try.checked) false ⟨#[], #[.agg #[.slice none 0 0, .slice none 0 0, .slice none 0 0, .slice none 0 0], .slice none 0 0], []⟩ 8 (by kernel_rfl) (by kernel_rfl) (by kernel_rfl) (by kernel_rfl)) ?_
  intro W base args ds gs before hval0 hW _ _
  have hval : ∀ (j : Nat) t v, Try.f14.params[j]? = some t → args[j]? = some v → Value.okWide Try.prog W .any base t v := hval0
  have hW' := hW
  obtain ⟨p, q, hA0, hV, rfl, _, _⟩ := hW
  have hA : DataW.TrodAll enc Try.prog W 0 (fun _ => true) true Try.f14.params.toList args.toList ds p := hA0
  rw [Try.params14] at hA hval
  obtain ⟨v0, vs0, d0, ds0, p0, q0, hargs, rfl, rfl, h0, r0⟩ := trodAll_cons hA
  obtain ⟨v1, vs1, d1, ds1, p1, q1, rfl, rfl, rfl, h1, r1⟩ := trodAll_cons r0
  obtain ⟨rfl, rfl, rfl⟩ := trodAll_nil r1
  obtain rfl : args = #[v0, v1] := by cases args; simp_all
  obtain ⟨rfl, rfl⟩ := trodVars_none hV
  have K0 := h0
  have L0 : ∀ x ∈ p0, x.block < W.heap.size := by obtain ⟨mm, hmm⟩ := K0; exact DataW.trod_lt mm _ _ _ hmm
  obtain ⟨d0v, c0v, a0v, b0v, rfl, hDp0, hCp0, hAp0, hBp0⟩ : ∃ d c a b, v0 = .agg #[d, c, a, b] ∧ (∃ M, PM.Rows W d M) ∧ (∃ Q, PM.Ints W c Q) ∧ (∃ M, PM.Rows W a M) ∧ ∃ Q, PM.Ints W b Q := by
    obtain ⟨c0, c1, c2, c3, y0, y1, y2, y3, mm, e1, e2, e3, hy0, hy1, hy2, hy3⟩ := open_agg4 Try.underlying68 (by kernel_rfl) cellsProg (hval 0 68 v0 rfl rfl) h0
    exact ⟨c0, c1, c2, c3, e1, rows_in hy0, ints_in hy1, rows_in hy2, ints_in hy3⟩
  obtain ⟨D0x, hDp0⟩ := hDp0
  obtain ⟨C0x, hCp0⟩ := hCp0
  obtain ⟨A0x, hAp0⟩ := hAp0
  obtain ⟨B0x, hBp0⟩ := hBp0
  have K1 := h1
  have L1 : ∀ x ∈ p1, x.block < W.heap.size := by obtain ⟨mm, hmm⟩ := K1; exact DataW.trod_lt mm _ _ _ hmm
  obtain ⟨al1, ln1, cp1, rfl⟩ := okWide_slice Try.underlying39 (hval 1 39 v1 rfl rfl)
  obtain ⟨Z1, hZ1⟩ : ∃ Z, PW.Frs W (.slice al1 ln1 cp1) Z := by obtain ⟨mm, hmm⟩ := K1; exact fracs_in (c := .slice al1 ln1 cp1) hmm
  clear hA0 hval0
  simp only [List.append_nil] at hW'
  refine (law_FnExactIsPlace d0v c0v a0v b0v D0x C0x A0x B0x (.slice al1 ln1 cp1) Z1 W hDp0 hCp0 hAp0 hBp0 hZ1).mono fun e W' ⟨he, hb⟩ => ?_
  subst he
  exact ⟨_, rfl, _, _, _, [], _, [], hW', trodAll_mk1 (shut_bool Try.underlying4 _), trodAll_cons_mk (Below.trod laidOut (by kernel_rfl) (of_decide_eq_true (by kernel_rfl)) K0 hb L0) (trodAll_cons_mk (Below.trod laidOut (by kernel_rfl) (of_decide_eq_true (by kernel_rfl)) K1 hb L1) trodAll_mk0), rfl, hb.frame _, fun h => by cases h⟩
theorem over : Rows.fnExactIsPlaceRow.holds Try.pinned (OpenSpec.ofChange Rows.fnExactIsPlaceSpec) :=
  OpenClaim.holds_of_wide 14 Try.f14 rfl rfl rfl rfl rfl rfl rfl ⟨rfl, rfl, rfl, rfl, rfl⟩ rfl rfl rfl rfl rfl (by kernel_rfl) Try.func14 (by kernel_rfl)
    (of_decide_eq_true (by kernel_rfl)) (by unfold Func.isWrapper; first | (rw [if_pos (by decide +kernel)]; kernel_rfl) | (rw [if_neg (by decide +kernel)]; exact ⟨rfl, rfl⟩))
    (fun os started H enc _ => lifted os started H enc)
theorem proved : Rows.FnExactIsPlaceSaid := over
end FnExactIsPlace
end Go.Proofs.Ytoglmkjmnknbbaa
