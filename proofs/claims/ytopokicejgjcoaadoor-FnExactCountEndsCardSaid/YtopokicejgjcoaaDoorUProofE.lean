/-
  The exact law of CountEnds, for every problem and rule: the program answers as the model, leaves the problem as it was, and answers in memory of its own.
  Under the card's own condition alone: the library's table of least bits holds what its initialiser lays.
-/
import Derived.Test.YtopokicejgjcoaaDoorUCe
import Derived.Test.YtopokicejgjcoaaDoorUFrame
namespace Go.Proofs.YtopokicejgjcoaaDoor
open Go.ChangeShapes Go.WideShapes Go.ChangeAt Go.RowKit Go.Joins Go.Deep
open Go.Proofs.YtopokicejgjcoaaDoor.PW Go.Proofs.YtopokicejgjcoaaDoor.PM
namespace FnExactCountEnds
set_option maxRecDepth 100000 in
theorem lifted (os : Os) (started : os.Started) (H : Type) (enc : TypeId × Value → H) :
    ReturnsInHanded {} Tryd.checked os 11 .any (fun w args => (Rows.fnExactCountEndsSpec.pre enc Tryd.prog Tryd.f11 [] false w args ∧ laidMetH Tryd.prog laidT w) ∧ sizedMet enc Tryd.prog Tryd.f11 (OpenSpec.ofChange Rows.fnExactCountEndsSpec) false w args) (Rows.fnExactCountEndsSpec.post enc Tryd.prog Tryd.f11 false true false false) := by
  refine returnsInHanded_of_change_and (C := Tryd.checked) (X := fun w _ => laidMetH Tryd.prog laidT w) (fun _ _ _ hh h => h.of_heap hh) own started (by kernel_rfl) Tryd.func11
    (ChangeSpec.witness_shaped (enc := enc) (C := Tryd.checked) (os := os) (X := fun w _ => laidMetH Tryd.prog laidT w) false (World.doorLaid Tryd.prog 64 os) #[.agg #[.slice none 0 0, .slice none 0 0], .int .i64 0] 8 rfl (World.shaped_of_RefB (by kernel_rfl) (by kernel_rfl)) (by kernel_rfl) (by kernel_rfl) (by kernel_rfl) (doorT_met os _)) ?_
  intro W base args ds gs before hval0 hW _ _ hL _
  have hval : ∀ (j : Nat) t v, Tryd.f11.params[j]? = some t → args[j]? = some v → Value.okWide Tryd.prog W .any base t v := hval0
  have hW' := hW
  obtain ⟨p, q, hA0, hV, rfl, _, _⟩ := hW
  have hA : DataW.TrodAll enc Tryd.prog W 0 (fun _ => true) true Tryd.f11.params.toList args.toList ds p := hA0
  rw [Tryd.params11] at hA hval
  obtain ⟨v0, vs0, d0, ds0, p0, q0, hargs, rfl, rfl, h0, r0⟩ := trodAll_cons hA
  obtain ⟨v1, vs1, d1, ds1, p1, q1, rfl, rfl, rfl, h1, r1⟩ := trodAll_cons r0
  obtain ⟨rfl, rfl, rfl⟩ := trodAll_nil r1
  obtain rfl : args = #[v0, v1] := by cases args; simp_all
  obtain ⟨rfl, rfl⟩ := trodVars_none hV
  have hG := of_laidT hL
  have K0 := h0
  have L0 : ∀ x ∈ p0, x.block < W.heap.size := by obtain ⟨mm, hmm⟩ := K0; exact DataW.trod_lt mm _ _ _ hmm
  obtain ⟨m0, qq0, rfl, hM0, hQ0⟩ : ∃ m q, v0 = .agg #[m, q] ∧ (∃ M, PM.Rows W m M) ∧ ∃ Q, PM.Ints W q Q := by
    obtain ⟨c0, c1, y0, y1, mm, e1, e2, e3, hy0, hy1⟩ := open_agg2 Tryd.underlying25 (by kernel_rfl) cellsProb (hval 0 25 v0 rfl rfl) h0
    exact ⟨c0, c1, e1, rows_in hy0, ints_in hy1⟩
  obtain ⟨M0, hM0⟩ := hM0
  obtain ⟨Q0, hQ0⟩ := hQ0
  obtain ⟨x1, rfl, rfl, rfl, wx1⟩ := open_int Tryd.underlying2 (hval 1 2 v1 rfl rfl) h1
  clear hA0 hval0
  simp only [List.append_nil] at hW'
  refine (law_FnExactCountEnds m0 qq0 M0 Q0 x1 W hG hM0 hQ0).mono fun e W' ⟨he, hb⟩ => ?_
  subst he
  exact ⟨_, rfl, _, _, _, [], _, [], hW', trodAll_mk1 (shut_bool Tryd.underlying4 _), trodAll_cons_mk (Below.trod laidOut (by kernel_rfl) (of_decide_eq_true (by kernel_rfl)) K0 hb L0) (trodAll_cons_mk (shut_int Tryd.underlying2 wx1) trodAll_mk0), rfl, hb.frame _, fun h => by cases h⟩
theorem over : Rows.fnExactCountEndsRow.holds Tryd.pinned (OpenSpec.ofChange Rows.fnExactCountEndsSpec) :=
  OpenClaim.holds_of_wide 11 Tryd.f11 rfl rfl rfl rfl rfl rfl rfl ⟨rfl, rfl, rfl, rfl, rfl⟩ rfl rfl rfl rfl rfl (by kernel_rfl) Tryd.func11 (by kernel_rfl)
    (of_decide_eq_true (by kernel_rfl)) (by unfold Func.isWrapper; first | (rw [if_pos (by decide +kernel)]; kernel_rfl) | (rw [if_neg (by decide +kernel)]; exact ⟨rfl, rfl⟩))
    (fun os started H enc _ => lifted os started H enc)
theorem proved : Rows.FnExactCountEndsCardSaid :=
  Claim7.holds_tied_plain_at .later [] [.data] true (true, _) true
    over (fun _ h => by cases h) (by kernel_rfl) (fun _ h => by cases h) fnExactCountEnds_row_tie rfl ⟨rfl, rfl⟩ (by kernel_rfl) rfl
    (fun f fn hf hfn => by
      obtain rfl : f = 11 := Option.some.inj ((show Tryd.prog.funcNamed "loop.example/g01343/laws.FnExactCountEnds" = some 11 by kernel_rfl).symm.trans hf) |>.symm
      obtain rfl : fn = Tryd.f11 := (Option.some.inj (Tryd.func11.symm.trans hfn)).symm
      exact ⟨by kernel_rfl, fun j t ht => by
        rw [Tryd.params11] at ht
        have hm : t ∈ ([25, 2] : List TypeId) := by simpa using Array.mem_of_getElem? ht
        have hall : (([25, 2] : List TypeId).all fun u => !Tryd.prog.wantsStandIn u) = true := by kernel_rfl
        exact (show Tryd.prog.wantsStandIn t = false by simpa using List.all_eq_true.1 hall t hm)⟩)
    (by kernel_rfl)
end FnExactCountEnds
end Go.Proofs.YtopokicejgjcoaaDoor
