/-
  Walks of the functions on fractions: the program's test of a fraction, and what is told of one.
-/
import Derived.Test.YtmlfkgakbcjdgaaFracWalkB
namespace Go.Proofs.Ytmlfkgakbcjdgaa.FW
open Go.RowKit Go.Proofs.Ytmlfkgakbcjdgaa
open Go.Proofs.Ytmlfkgakbcjdgaa.FM

theorem isWithin_yes (x l : Int) (w : World) (h0 : 0 ≤ l) (h1 : l ≤ 1000000000000) (h2 : -l ≤ x) (h3 : x ≤ l) :
    Calls Try.prog 114 #[.int .i64 x, .int .i64 l] w fun e w' => e = .returned (.bool true) ∧ w = w' :=
  (isWithin_any x l w h0 h1).mono fun e w' ⟨he, hw⟩ => ⟨by rw [he, decide_eq_true ⟨h2, h3⟩], hw⟩
theorem isWithin_no (x l : Int) (w : World) (h0 : 0 ≤ l) (h1 : l ≤ 1000000000000) (h2 : x < -l ∨ l < x) :
    Calls Try.prog 114 #[.int .i64 x, .int .i64 l] w fun e w' => e = .returned (.bool false) ∧ w = w' :=
  (isWithin_any x l w h0 h1).mono fun e w' ⟨he, hw⟩ => ⟨by rw [he, decide_eq_false (by omega)], hw⟩

theorem implIsFrac_no1 (n d : Int) (w : World) (h : n < -1000000000 ∨ 1000000000 < n) :
    Calls Try.prog 120 #[.agg #[.int .i64 n, .int .i64 d]] w fun e w' => e = .returned (.bool false) ∧ Below w.heap.size w w' := by
  go_enter Try.func120, Try.ntmps120
  go_wp2
  go_quiet ((go_at_call 114; exact Calls.quiet_of_same ((isWithin_no _ _ _ (by omega) (by omega) h).mono fun e w' ⟨he, hw⟩ => ⟨he, hw.symm⟩)))
  go_wp2
  go_returns
  exact ⟨rfl, by (repeat' (first | (with_reducible exact Below.refl _ _) | (with_reducible assumption) | (with_reducible refine Below.alloc ?_ ?_ _) | (with_reducible refine Below.drew ?_) | (with_reducible refine below_drewN ?_ _) | (with_reducible refine Below.setCell ?_ ?_ _) | (with_reducible refine Below.trans ?_ (Below.mono (by with_reducible assumption) ?_)) | (with_reducible exact Below.size (by with_reducible assumption)) | go_size))⟩

theorem fields_frac : (Try.prog.fieldsOf 76).toList.map (fun f => (f.name, f.type, f.offset)) = [("Num", 2, 0), ("Den", 2, 1)] := by kernel_rfl

theorem eql_frac (a b c e : Int) (w : World) : (Go.binOp .eql 76 (.agg #[.int .i64 a, .int .i64 b]) (.agg #[.int .i64 c, .int .i64 e])).run Try.prog w = .ok (.bool (a == c && b == e)) w := by
  rw [run_eql_struct, run_equalIn_struct w 9999 _ _ _ (by kernel_rfl) (by kernel_rfl)]
  have h := fields_frac
  generalize (Try.prog.fieldsOf 76).toList = fs at h ⊢
  rcases fs with _ | ⟨f, _ | ⟨g, _ | ⟨x, fs⟩⟩⟩ <;> simp at h
  obtain ⟨⟨h1, h2, h3⟩, h4, h5, h6⟩ := h
  simp [Op.eqFields, h1, h2, h3, h4, h5, h6, go_sem]
  by_cases hac : a = c <;> by_cases hbe : b = e <;> simp [hac, hbe]

theorem guard_frac : Try.prog.eqGuardType Try.prog.depth 76 = false := by kernel_rfl
theorem eqGuard_frac (op : BinOp) (x y : Operand) (xs ys : Array Value) (w : World) : (eqGuard op 76 x y (.agg xs) (.agg ys)).run Try.prog w = .ok () w :=
  run_eqGuard_agg w op _ x y xs ys guard_frac
attribute [local go_sem high] eql_frac eqGuard_frac

theorem implIsFrac_yes (n d : Int) (w : World) (h1 : -1000000000 ≤ n) (h2 : n ≤ 1000000000) (h3 : 1 ≤ d) (h4 : d ≤ 1000000000) :
    Calls Try.prog 120 #[.agg #[.int .i64 n, .int .i64 d]] w fun e w' => e = .returned (.bool (decide (gcdI n d = 1))) ∧ Below w.heap.size w w' := by
  go_enter Try.func120, Try.ntmps120
  go_wp2
  go_region_held3 (fun w' => w'.cell? ⟨w.heap.size, 0, none⟩ = some (.int .i64 n) ∧ w'.cell? ⟨w.heap.size, 1, none⟩ = some (.int .i64 d)) (first | go_keep | (refine ⟨?_, ?_⟩ <;> (rw [hb.cell (by simp)]; simp [*])))
    (first | (go_at_call 114; refine (isWithin_yes _ _ _ (by omega) (by omega) (by omega) (by omega)).mono ?_; rintro e w' ⟨rfl, rfl⟩) | (go_at_call 119; refine (lowestTerms_any _ _ _ (by omega) (by omega) (by omega) (by omega) (by omega)).mono ?_; rintro e w' ⟨rfl, hb⟩))
  go_wp2
  go_returns
  refine ⟨ret_bool ?_, ?_⟩
  · rw [Bool.eq_iff_iff]
    have := red_self_iff n d h3
    constructor
    · intro h
      simp only [Bool.and_eq_true, beq_iff_eq] at h
      exact decide_eq_true (this.1 ⟨h.1.symm, h.2.symm⟩)
    · intro h
      have h := this.2 (of_decide_eq_true h)
      simp only [Bool.and_eq_true, beq_iff_eq]
      exact ⟨h.1.symm, h.2.symm⟩
  · have h : Below w.heap.size w (w.alloc (Obj.cells #[Value.int IntKind.i64 n, Value.int IntKind.i64 d] 76)).drew := by (repeat' (first | (with_reducible exact Below.refl _ _) | (with_reducible assumption) | (with_reducible refine Below.alloc ?_ ?_ _) | (with_reducible refine Below.drew ?_) | (with_reducible refine below_drewN ?_ _) | (with_reducible refine Below.setCell ?_ ?_ _) | (with_reducible refine Below.trans ?_ (Below.mono (by with_reducible assumption) ?_)) | (with_reducible exact Below.size (by with_reducible assumption)) | go_size))
    refine h.trans (hb.mono (by simp))

theorem implIsFrac_no2 (n d : Int) (w : World) (h1 : -1000000000 ≤ n) (h2 : n ≤ 1000000000) (h : d < 1) :
    Calls Try.prog 120 #[.agg #[.int .i64 n, .int .i64 d]] w fun e w' => e = .returned (.bool false) ∧ Below w.heap.size w w' := by
  have hdec : decide (1 ≤ d) = false := decide_eq_false (by omega)
  go_enter Try.func120, Try.ntmps120
  go_wp2
  go_quiet ((go_at_call 114; exact Calls.quiet_of_same ((isWithin_yes _ _ _ (by omega) (by omega) (by omega) (by omega)).mono fun e w' ⟨he, hw⟩ => ⟨he, hw.symm⟩)))
  go_wp2
  go_returns
  exact ⟨rfl, by (repeat' (first | (with_reducible exact Below.refl _ _) | (with_reducible assumption) | (with_reducible refine Below.alloc ?_ ?_ _) | (with_reducible refine Below.drew ?_) | (with_reducible refine below_drewN ?_ _) | (with_reducible refine Below.setCell ?_ ?_ _) | (with_reducible refine Below.trans ?_ (Below.mono (by with_reducible assumption) ?_)) | (with_reducible exact Below.size (by with_reducible assumption)) | go_size))⟩

theorem implIsFrac_no3 (n d : Int) (w : World) (h1 : -1000000000 ≤ n) (h2 : n ≤ 1000000000) (h3 : 1 ≤ d) (h : 1000000000 < d) :
    Calls Try.prog 120 #[.agg #[.int .i64 n, .int .i64 d]] w fun e w' => e = .returned (.bool false) ∧ Below w.heap.size w w' := by
  have hdec : decide (d ≤ 1000000000) = false := decide_eq_false (by omega)
  go_enter Try.func120, Try.ntmps120
  go_wp2
  go_quiet ((go_at_call 114; exact Calls.quiet_of_same ((isWithin_yes _ _ _ (by omega) (by omega) (by omega) (by omega)).mono fun e w' ⟨he, hw⟩ => ⟨he, hw.symm⟩)))
  go_wp2
  go_returns
  exact ⟨rfl, by (repeat' (first | (with_reducible exact Below.refl _ _) | (with_reducible assumption) | (with_reducible refine Below.alloc ?_ ?_ _) | (with_reducible refine Below.drew ?_) | (with_reducible refine below_drewN ?_ _) | (with_reducible refine Below.setCell ?_ ?_ _) | (with_reducible refine Below.trans ?_ (Below.mono (by with_reducible assumption) ?_)) | (with_reducible exact Below.size (by with_reducible assumption)) | go_size))⟩

/-- The program's test of a fraction, at every pair of numbers. -/
theorem implIsFrac_any (n d : Int) (w : World) :
    Calls Try.prog 120 #[.agg #[.int .i64 n, .int .i64 d]] w fun e w' => e = .returned (.bool (isF n d)) ∧ Below w.heap.size w w' := by
  by_cases h1 : n < -1000000000 ∨ 1000000000 < n
  · refine (implIsFrac_no1 n d w h1).mono fun e w' ⟨he, hb⟩ => ⟨?_, hb⟩
    rw [he, isF, decide_eq_false (by unfold IsF; omega)]
  by_cases h2 : d < 1
  · refine (implIsFrac_no2 n d w (by omega) (by omega) h2).mono fun e w' ⟨he, hb⟩ => ⟨?_, hb⟩
    rw [he, isF, decide_eq_false (by unfold IsF; omega)]
  by_cases h3 : 1000000000 < d
  · refine (implIsFrac_no3 n d w (by omega) (by omega) (by omega) h3).mono fun e w' ⟨he, hb⟩ => ⟨?_, hb⟩
    rw [he, isF, decide_eq_false (by unfold IsF; omega)]
  refine (implIsFrac_yes n d w (by omega) (by omega) (by omega) (by omega)).mono fun e w' ⟨he, hb⟩ => ⟨?_, hb⟩
  rw [he]
  refine ret_bool ?_
  unfold isF
  rw [decide_eq_decide]
  unfold IsF
  omega

theorem specIsFrac_any (n d : Int) (w : World) :
    Calls Try.prog 70 #[.agg #[.int .i64 n, .int .i64 d]] w fun e w' => e = .returned (.bool (isF n d)) ∧ Below w.heap.size w w' := by
  have e0 : decide (1 ≤ d ∧ d ≤ 1000000000 ∧ -1000000000 ≤ n ∧ n ≤ 1000000000 ∧ gcdI n d = 1) = isF n d := by
    unfold isF
    rw [decide_eq_decide]
    unfold IsF
    omega
  have E := Lib.hid e0
  clear e0
  go_enter Try.func70, Try.ntmps70
  go_wp2_with (go_at_call 105; refine (l01IsFrac_any _ _ _ _ (by omega) (by omega)).mono ?_; rw [E.out]; rintro e w' ⟨rfl, hb⟩)
  go_returns
  refine ⟨rfl, ?_⟩
  (repeat' (first | (with_reducible exact Below.refl _ _) | (with_reducible assumption) | (with_reducible refine Below.alloc ?_ ?_ _) | (with_reducible refine Below.drew ?_) | (with_reducible refine below_drewN ?_ _) | (with_reducible refine Below.setCell ?_ ?_ _) | (with_reducible refine Below.trans ?_ (Below.mono (by with_reducible assumption) ?_)) | (with_reducible exact Below.size (by with_reducible assumption)) | go_size))
end Go.Proofs.Ytmlfkgakbcjdgaa.FW
