/-
  The exact law of IsStationary holds of whatever input: the law's Go function returns true, and its arguments read afterwards as before. No further condition.
-/
import Derived.Test.YtgncaploccbfnaaWLawT
import Derived.Test.YtgncaploccbfnaaWFrame
import Derived.Test.YtgncaploccbfnaaVFrame
namespace Go.Proofs.Ytgncaploccbfnaa
open Go.ChangeShapes Go.WideShapes Go.ChangeAt Go.RowKit Go.Joins Go.Deep
open Go.Proofs.Ytgncaploccbfnaa.PM Go.Proofs.Ytgncaploccbfnaa.PW
namespace FnExactIsStationary
set_option maxRecDepth 100000 in
theorem lifted (os : Os) (started : os.Started) (H : Type) (enc : TypeId × Value → H) :
    ReturnsInHanded {} Try.checked os 9 .any (Rows.fnExactIsStationarySpec.pre6 enc Try.prog Try.f9 Rows.fnExactIsStationaryRow.domain false) (Rows.fnExactIsStationarySpec.post enc Try.prog Try.f9 false true false false) := by
  refine returnsInHanded_of_change (C := Try.checked) own started (by kernel_rfl) Try.func9
    (ChangeSpec.witness6 (enc := enc) (C := Try.checked) false ⟨#[], #[.agg #[.slice none 0 0, .slice none 0 0, .slice none 0 0, .slice none 0 0], .slice none 0 0, .slice none 0 0], []⟩ 8 (by kernel_rfl) (by kernel_rfl) (by kernel_rfl) (by kernel_rfl)) ?_
  intro W base args ds gs before hval0 hW _ _
  have hval : ∀ (j : Nat) t v, Try.f9.params[j]? = some t → args[j]? = some v → Value.okWide Try.prog W .any base t v := hval0
  have hW' := hW
  obtain ⟨p, q, hA0, hV, rfl, _, _⟩ := hW
  have hA : DataW.TrodAll enc Try.prog W 0 (fun _ => true) true Try.f9.params.toList args.toList ds p := hA0
  rw [Try.params9] at hA hval
  obtain ⟨v0, vs0, d0, ds0, p0, q0, hargs, rfl, rfl, h0, r0⟩ := trodAll_cons hA
  obtain ⟨v1, vs1, d1, ds1, p1, q1, rfl, rfl, rfl, h1, r1⟩ := trodAll_cons r0
  obtain ⟨v2, vs2, d2, ds2, p2, q2, rfl, rfl, rfl, h2, r2⟩ := trodAll_cons r1
  obtain ⟨rfl, rfl, rfl⟩ := trodAll_nil r2
  obtain rfl : args = #[v0, v1, v2] := by cases args; simp_all
  obtain ⟨rfl, rfl⟩ := trodVars_none hV
  have K0 := h0
  have L0 : ∀ x ∈ p0, x.block < W.heap.size := by obtain ⟨mm, hmm⟩ := K0; exact DataW.trod_lt mm _ _ _ hmm
  obtain ⟨d0v, c0v, a0v, b0v, rfl, hDp0, hCp0, hAp0, hBp0⟩ : ∃ d c a b, v0 = .agg #[d, c, a, b] ∧ (∃ M, PM.Rows W d M) ∧ (∃ Q, PM.Ints W c Q) ∧ (∃ M, PM.Rows W a M) ∧ ∃ Q, PM.Ints W b Q := by
    obtain ⟨c0, c1, c2, c3, y0, y1, y2, y3, mm, e1, e2, e3, hy0, hy1, hy2, hy3⟩ := open_agg4 Try.underlying51 (by kernel_rfl) cellsProg (hval 0 51 v0 rfl rfl) h0
    exact ⟨c0, c1, c2, c3, e1, rows_in hy0, ints_in hy1, rows_in hy2, ints_in hy3⟩
  obtain ⟨D0x, hDp0⟩ := hDp0
  obtain ⟨C0x, hCp0⟩ := hCp0
  obtain ⟨A0x, hAp0⟩ := hAp0
  obtain ⟨B0x, hBp0⟩ := hBp0
  have K1 := h1
  have L1 : ∀ x ∈ p1, x.block < W.heap.size := by obtain ⟨mm, hmm⟩ := K1; exact DataW.trod_lt mm _ _ _ hmm
  obtain ⟨al1, ln1, cp1, rfl⟩ := okWide_slice Try.underlying39 (hval 1 39 v1 rfl rfl)
  obtain ⟨Z1, hZ1⟩ : ∃ Z, PW.Frs W (.slice al1 ln1 cp1) Z := by obtain ⟨mm, hmm⟩ := K1; exact fracs_in (c := .slice al1 ln1 cp1) hmm
  have K2 := h2
  have L2 : ∀ x ∈ p2, x.block < W.heap.size := by obtain ⟨mm, hmm⟩ := K2; exact DataW.trod_lt mm _ _ _ hmm
  obtain ⟨al2, ln2, cp2, rfl⟩ := okWide_slice Try.underlying39 (hval 2 39 v2 rfl rfl)
  obtain ⟨Z2, hZ2⟩ : ∃ Z, PW.Frs W (.slice al2 ln2 cp2) Z := by obtain ⟨mm, hmm⟩ := K2; exact fracs_in (c := .slice al2 ln2 cp2) hmm
  clear hA0 hval0
  simp only [List.append_nil] at hW'
  refine (law_FnExactIsStationary d0v c0v a0v b0v D0x C0x A0x B0x (.slice al1 ln1 cp1) Z1 (.slice al2 ln2 cp2) Z2 W hDp0 hCp0 hAp0 hBp0 hZ1 hZ2).mono fun e W' ⟨he, hb⟩ => ?_
  subst he
  exact ⟨_, rfl, _, _, _, [], _, [], hW', trodAll_mk1 (shut_bool Try.underlying4 _), trodAll_cons_mk (Below.trod laidOut (by kernel_rfl) (of_decide_eq_true (by kernel_rfl)) K0 hb L0) (trodAll_cons_mk (Below.trod laidOut (by kernel_rfl) (of_decide_eq_true (by kernel_rfl)) K1 hb L1) (trodAll_cons_mk (Below.trod laidOut (by kernel_rfl) (of_decide_eq_true (by kernel_rfl)) K2 hb L2) trodAll_mk0)), rfl, hb.frame _, fun h => by cases h⟩
theorem over : Rows.fnExactIsStationaryRow.holds Try.pinned (OpenSpec.ofChange Rows.fnExactIsStationarySpec) :=
  OpenClaim.holds_of_wide 9 Try.f9 rfl rfl rfl rfl rfl rfl rfl ⟨rfl, rfl, rfl, rfl, rfl⟩ rfl rfl rfl rfl rfl (by kernel_rfl) Try.func9 (by kernel_rfl)
    (of_decide_eq_true (by kernel_rfl)) (by unfold Func.isWrapper; first | (rw [if_pos (by decide +kernel)]; kernel_rfl) | (rw [if_neg (by decide +kernel)]; exact ⟨rfl, rfl⟩))
    (fun os started H enc _ => lifted os started H enc)
theorem proved : Rows.FnExactIsStationarySaid := over
end FnExactIsStationary
end Go.Proofs.Ytgncaploccbfnaa
