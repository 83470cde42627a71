/-
  Walks: the door behind which a set that is not basic is a panic: the deferred closure in its two modes, the door when its work returns and when it panics.
-/
import Derived.Test.YthnefjllijoobaaDoorPGlob
import Derived.Defers
import Derived.Recover
namespace Go.Proofs.YthnefjllijoobaaDoor.PW
open Go.RowKit Go.Proofs.YthnefjllijoobaaDoor
open Go.Proofs.YthnefjllijoobaaDoor.PM

theorem assert_err (a : Addr) (w : World) : Sem.run Tryd.prog (Instr.typeAssert (.iface 105 (.pointer (some a))) 20 87 true) w = .ok (.tuple #[.iface 105 (.pointer (some a)), .bool true]) w := by kernel_rfl
theorem assert_nil (w : World) : Sem.run Tryd.prog (Instr.typeAssert .nilIface 20 87 true) w = .ok (.tuple #[.nilIface, .bool false]) w := by kernel_rfl
/-- The world in which a work behind the door runs: the code that the door is told, and the code of its answer. -/
def DW1 (rf : Int) (w : World) : World := (w.alloc (.cells #[.int .i64 rf] 2)).alloc (.cells #[.int .i64 0] 2)
theorem DW1.size (rf : Int) (w : World) : (DW1 rf w).heap.size = w.heap.size + 2 := by simp [DW1]
theorem DW1.low (rf : Int) (w : World) : Below w.heap.size w (DW1 rf w) := ((Below.refl _ _).alloc (Nat.le_refl _) _).alloc (by simp) _
def PvW1 (rf : Int) (w : World) : World := ((w.alloc (.cells #[.int .i64 rf] 2)).alloc (.cells #[.int .i64 0, .slice none 0 0, .slice none 0 0] 28)).alloc (.cells #[.int .i64 0] 2)
theorem PvW1.size (rf : Int) (w : World) : (PvW1 rf w).heap.size = w.heap.size + 3 := by simp [PvW1]
theorem PvW1.low (rf : Int) (w : World) : Below w.heap.size w (PvW1 rf w) := (((Below.refl _ _).alloc (Nat.le_refl _) _).alloc (by simp) _).alloc (by simp; omega) _
theorem DW1.rf (rf : Int) (w : World) : (DW1 rf w).cell? ⟨w.heap.size, 0, none⟩ = some (.int .i64 rf) := by unfold DW1; simp
theorem DW1.code (rf : Int) (w : World) : (DW1 rf w).cell? ⟨w.heap.size + 1, 0, none⟩ = some (.int .i64 0) ∧ (DW1 rf w).frozen? ⟨w.heap.size + 1, 0, none⟩ = false := by unfold DW1; constructor <;> simp
theorem PvW1.rf (rf : Int) (w : World) : (PvW1 rf w).cell? ⟨w.heap.size, 0, none⟩ = some (.int .i64 rf) := by
  have h : (w.alloc (.cells #[.int .i64 rf] 2)).cell? ⟨w.heap.size, 0, none⟩ = some (.int .i64 rf) := by simp
  exact ((((Below.refl (w.alloc (.cells #[.int .i64 rf] 2)).heap.size _).alloc (Nat.le_refl _) _).alloc (by simp) _).cell (p := ⟨w.heap.size, 0, none⟩) (by simp)).trans h
theorem PvW1.code (rf : Int) (w : World) : (PvW1 rf w).cell? ⟨w.heap.size + 1 + 1, 0, none⟩ = some (.int .i64 0) ∧ (PvW1 rf w).frozen? ⟨w.heap.size + 1 + 1, 0, none⟩ = false := by
  unfold PvW1
  have e : (w.alloc (.cells #[.int .i64 rf] 2)).heap.size = w.heap.size + 1 := by simp
  generalize w.alloc (.cells #[.int .i64 rf] 2) = w1 at *
  rw [← e]
  constructor <;> simp
theorem PvW1.pv (rf : Int) (w : World) : (PvW1 rf w).cell? ⟨w.heap.size + 1, 0, none⟩ = some (.int .i64 0) ∧ (PvW1 rf w).cell? ⟨w.heap.size + 1, 1, none⟩ = some (.slice none 0 0) ∧ (PvW1 rf w).cell? ⟨w.heap.size + 1, 2, none⟩ = some (.slice none 0 0) ∧ ∀ o, (PvW1 rf w).frozen? ⟨w.heap.size + 1, o, none⟩ = false := by
  unfold PvW1
  have e : (w.alloc (.cells #[.int .i64 rf] 2)).heap.size = w.heap.size + 1 := by simp
  generalize w.alloc (.cells #[.int .i64 rf] 2) = w1 at *
  rw [← e]
  refine ⟨?_, ?_, ?_, fun o => ?_⟩ <;> simp
theorem doorN_catch (rf : Int) (p0 p a : Addr) (w : World) (h0 : w.cell? p0 = some (.int .i64 rf)) (hc : w.cell? p = some (.int .i64 0)) (hz : w.frozen? p = false) :
    CallsD Tryd.prog 82 #[.pointer (some p0), .pointer (some p)] (.panicking [{ v := .iface 105 (.pointer (some a)), recovered := false }]) w fun e u' w' =>
      e = .returned (.tuple #[]) ∧ u' = .panicking [{ v := .iface 105 (.pointer (some a)), recovered := true }] ∧ w' = w.setCell p (.int .i64 rf) := by
  refine callsD_of_wpS Tryd.func82 rfl fun c₀ cs hu => ?_
  apply wpS_seq
  apply wpS_region
  simp [wpOpsS, go_sem, recoverD, hu, Tryd.ntmps82, Exit.thenS, assert_err]
  apply wpS_seq
  apply wpS_region
  simp [wpOpsS, go_sem, Exit.thenS]
  refine wpS_cond (t := true) (by simp [Act.eval, Array.replicate]) ?_
  simp only [if_true]
  apply wpS_region
  simp [wpOpsS, go_sem, h0, hc, hz, bodyPostS, results, Tryd.results82]
theorem doorN_idle (p0 p : Addr) (w : World) :
    CallsD Tryd.prog 82 #[.pointer (some p0), .pointer (some p)] .returning w fun e u' w' => e = .returned (.tuple #[]) ∧ u' = .returning ∧ w' = w := by
  refine callsD_of_wpS Tryd.func82 rfl fun c₀ cs hu => ?_
  apply wpS_seq
  apply wpS_region
  simp [wpOpsS, go_sem, recoverD, hu, Tryd.ntmps82, Exit.thenS, assert_nil]
  apply wpS_seq
  apply wpS_region
  simp [wpOpsS, go_sem, Exit.thenS]
  refine wpS_cond (t := false) (by simp [Act.eval, Array.replicate]) ?_
  simp only [Bool.false_eq_true, if_false]
  refine wpS_of_wp (wp_skip ?_)
  cases c₀
  simp_all [bodyPostS, results, Tryd.results82]
set_option maxRecDepth 100000 in
theorem doorN_panic (rf : Int) (cap : Array Value) (w : World) (hw : Calls Tryd.prog 60 cap (DW1 rf w) fun e W' => (∃ a, e = .panicked [{ v := .iface 105 (.pointer (some a)), recovered := false }]) ∧ Below (w.heap.size + 2) (DW1 rf w) W') :
    Calls Tryd.prog 59 #[.int .i64 rf, .func (.func 60) #[] cap] w fun e w' => e = .returned (.tuple #[.int .i64 0, .int .i64 rf]) ∧ Below w.heap.size w w' := by
  have hmf : ∀ (fn : Fn) (first cap : Array Value) (w : World), (Instr.makeFunc fn first cap).run Tryd.prog w = .ok (.func fn first cap) w := fun _ _ _ _ => rfl
  have HW := Lib.hid hw
  clear hw
  go_enter_defers Tryd.func59, Tryd.ntmps59
  go_wp2_with fail
  refine HW.out.mono ?_
  rintro e W' ⟨⟨a, rfl⟩, hb⟩
  have hr : W'.cell? ⟨w.heap.size, 0, none⟩ = some (.int .i64 rf) := (hb.cell (p := ⟨w.heap.size, 0, none⟩) (by show w.heap.size < _; omega)).trans (DW1.rf rf w)
  have hc : W'.cell? ⟨w.heap.size + 1, 0, none⟩ = some (.int .i64 0) := (hb.cell (p := ⟨w.heap.size + 1, 0, none⟩) (by show w.heap.size + 1 < _; omega)).trans (DW1.code rf w).1
  have hz : W'.frozen? ⟨w.heap.size + 1, 0, none⟩ = false := (hb.frozen (p := ⟨w.heap.size + 1, 0, none⟩) (by show w.heap.size + 1 < _; omega)).trans (DW1.code rf w).2
  have hB : Below w.heap.size w W' := (DW1.low rf w).trans (hb.mono (by omega))
  go_wp2_with fail
  refine leaves_cons (f := 82) (args := #[.pointer (some ⟨w.heap.size, 0, none⟩), .pointer (some ⟨w.heap.size + 1, 0, none⟩)]) (by simp) (by simp [go_sem]) ?_
  refine (doorN_catch rf ⟨w.heap.size, 0, none⟩ ⟨w.heap.size + 1, 0, none⟩ a _ hr hc hz).mono ?_
  rintro e u' w'' ⟨rfl, rfl, rfl⟩
  simp [Leaves, settle, results, Tryd.results59, go_sem, hc]
  exact hB.setCell (by simp) _
set_option maxRecDepth 100000 in
theorem doorN_ok (rf : Int) (cap : Array Value) (w : World) (R : Value → World → Prop) (hw : Calls Tryd.prog 60 cap (DW1 rf w) fun e W' => (∃ v, e = .returned v ∧ R v W') ∧ Below (w.heap.size + 2) (DW1 rf w) W') :
    Calls Tryd.prog 59 #[.int .i64 rf, .func (.func 60) #[] cap] w fun e w' => ∃ v W', e = .returned (.tuple #[v, .int .i64 0]) ∧ R v W' ∧ Below (w.heap.size + 2) (DW1 rf w) W' ∧ w' = W'.setCell ⟨w.heap.size + 1, 0, none⟩ (.int .i64 0) := by
  have hmf : ∀ (fn : Fn) (first cap : Array Value) (w : World), (Instr.makeFunc fn first cap).run Tryd.prog w = .ok (.func fn first cap) w := fun _ _ _ _ => rfl
  have HW := Lib.hid hw
  clear hw
  go_enter_defers Tryd.func59, Tryd.ntmps59
  go_wp2_with fail
  refine HW.out.mono ?_
  rintro e W' ⟨⟨v, rfl, hR⟩, hb⟩
  have hc : W'.cell? ⟨w.heap.size + 1, 0, none⟩ = some (.int .i64 0) := (hb.cell (p := ⟨w.heap.size + 1, 0, none⟩) (by show w.heap.size + 1 < _; omega)).trans (DW1.code rf w).1
  have hz : W'.frozen? ⟨w.heap.size + 1, 0, none⟩ = false := (hb.frozen (p := ⟨w.heap.size + 1, 0, none⟩) (by show w.heap.size + 1 < _; omega)).trans (DW1.code rf w).2
  go_wp2_with fail
  refine leaves_cons (f := 82) (args := #[.pointer (some ⟨w.heap.size, 0, none⟩), .pointer (some ⟨w.heap.size + 1, 0, none⟩)]) (by simp) (by simp [go_sem]) ?_
  refine (doorN_idle ⟨w.heap.size, 0, none⟩ ⟨w.heap.size + 1, 0, none⟩ _).mono ?_
  rintro e u' w'' ⟨rfl, rfl, rfl⟩
  simp [Leaves, settle, results, Tryd.results59, go_sem, hc]
  exact ⟨W', hR, hb, rfl⟩
theorem doorI_catch (rf : Int) (p0 p a : Addr) (w : World) (h0 : w.cell? p0 = some (.int .i64 rf)) (hc : w.cell? p = some (.int .i64 0)) (hz : w.frozen? p = false) :
    CallsD Tryd.prog 85 #[.pointer (some p0), .pointer (some p)] (.panicking [{ v := .iface 105 (.pointer (some a)), recovered := false }]) w fun e u' w' =>
      e = .returned (.tuple #[]) ∧ u' = .panicking [{ v := .iface 105 (.pointer (some a)), recovered := true }] ∧ w' = w.setCell p (.int .i64 rf) := by
  refine callsD_of_wpS Tryd.func85 rfl fun c₀ cs hu => ?_
  apply wpS_seq
  apply wpS_region
  simp [wpOpsS, go_sem, recoverD, hu, Tryd.ntmps85, Exit.thenS, assert_err]
  apply wpS_seq
  apply wpS_region
  simp [wpOpsS, go_sem, Exit.thenS]
  refine wpS_cond (t := true) (by simp [Act.eval, Array.replicate]) ?_
  simp only [if_true]
  apply wpS_region
  simp [wpOpsS, go_sem, h0, hc, hz, bodyPostS, results, Tryd.results85]
theorem doorI_idle (p0 p : Addr) (w : World) :
    CallsD Tryd.prog 85 #[.pointer (some p0), .pointer (some p)] .returning w fun e u' w' => e = .returned (.tuple #[]) ∧ u' = .returning ∧ w' = w := by
  refine callsD_of_wpS Tryd.func85 rfl fun c₀ cs hu => ?_
  apply wpS_seq
  apply wpS_region
  simp [wpOpsS, go_sem, recoverD, hu, Tryd.ntmps85, Exit.thenS, assert_nil]
  apply wpS_seq
  apply wpS_region
  simp [wpOpsS, go_sem, Exit.thenS]
  refine wpS_cond (t := false) (by simp [Act.eval, Array.replicate]) ?_
  simp only [Bool.false_eq_true, if_false]
  refine wpS_of_wp (wp_skip ?_)
  cases c₀
  simp_all [bodyPostS, results, Tryd.results85]
set_option maxRecDepth 100000 in
theorem doorI_panic (rf : Int) (cap : Array Value) (w : World) (hw : Calls Tryd.prog 68 cap (DW1 rf w) fun e W' => (∃ a, e = .panicked [{ v := .iface 105 (.pointer (some a)), recovered := false }]) ∧ Below (w.heap.size + 2) (DW1 rf w) W') :
    Calls Tryd.prog 67 #[.int .i64 rf, .func (.func 68) #[] cap] w fun e w' => e = .returned (.tuple #[.slice none 0 0, .int .i64 rf]) ∧ Below w.heap.size w w' := by
  have hmf : ∀ (fn : Fn) (first cap : Array Value) (w : World), (Instr.makeFunc fn first cap).run Tryd.prog w = .ok (.func fn first cap) w := fun _ _ _ _ => rfl
  have HW := Lib.hid hw
  clear hw
  go_enter_defers Tryd.func67, Tryd.ntmps67
  go_wp2_with fail
  refine HW.out.mono ?_
  rintro e W' ⟨⟨a, rfl⟩, hb⟩
  have hr : W'.cell? ⟨w.heap.size, 0, none⟩ = some (.int .i64 rf) := (hb.cell (p := ⟨w.heap.size, 0, none⟩) (by show w.heap.size < _; omega)).trans (DW1.rf rf w)
  have hc : W'.cell? ⟨w.heap.size + 1, 0, none⟩ = some (.int .i64 0) := (hb.cell (p := ⟨w.heap.size + 1, 0, none⟩) (by show w.heap.size + 1 < _; omega)).trans (DW1.code rf w).1
  have hz : W'.frozen? ⟨w.heap.size + 1, 0, none⟩ = false := (hb.frozen (p := ⟨w.heap.size + 1, 0, none⟩) (by show w.heap.size + 1 < _; omega)).trans (DW1.code rf w).2
  have hB : Below w.heap.size w W' := (DW1.low rf w).trans (hb.mono (by omega))
  go_wp2_with fail
  refine leaves_cons (f := 85) (args := #[.pointer (some ⟨w.heap.size, 0, none⟩), .pointer (some ⟨w.heap.size + 1, 0, none⟩)]) (by simp) (by simp [go_sem]) ?_
  refine (doorI_catch rf ⟨w.heap.size, 0, none⟩ ⟨w.heap.size + 1, 0, none⟩ a _ hr hc hz).mono ?_
  rintro e u' w'' ⟨rfl, rfl, rfl⟩
  simp [Leaves, settle, results, Tryd.results67, go_sem, hc]
  exact hB.setCell (by simp) _
set_option maxRecDepth 100000 in
theorem doorI_ok (rf : Int) (cap : Array Value) (w : World) (R : Value → World → Prop) (hw : Calls Tryd.prog 68 cap (DW1 rf w) fun e W' => (∃ v, e = .returned v ∧ R v W') ∧ Below (w.heap.size + 2) (DW1 rf w) W') :
    Calls Tryd.prog 67 #[.int .i64 rf, .func (.func 68) #[] cap] w fun e w' => ∃ v W', e = .returned (.tuple #[v, .int .i64 0]) ∧ R v W' ∧ Below (w.heap.size + 2) (DW1 rf w) W' ∧ w' = W'.setCell ⟨w.heap.size + 1, 0, none⟩ (.int .i64 0) := by
  have hmf : ∀ (fn : Fn) (first cap : Array Value) (w : World), (Instr.makeFunc fn first cap).run Tryd.prog w = .ok (.func fn first cap) w := fun _ _ _ _ => rfl
  have HW := Lib.hid hw
  clear hw
  go_enter_defers Tryd.func67, Tryd.ntmps67
  go_wp2_with fail
  refine HW.out.mono ?_
  rintro e W' ⟨⟨v, rfl, hR⟩, hb⟩
  have hc : W'.cell? ⟨w.heap.size + 1, 0, none⟩ = some (.int .i64 0) := (hb.cell (p := ⟨w.heap.size + 1, 0, none⟩) (by show w.heap.size + 1 < _; omega)).trans (DW1.code rf w).1
  have hz : W'.frozen? ⟨w.heap.size + 1, 0, none⟩ = false := (hb.frozen (p := ⟨w.heap.size + 1, 0, none⟩) (by show w.heap.size + 1 < _; omega)).trans (DW1.code rf w).2
  go_wp2_with fail
  refine leaves_cons (f := 85) (args := #[.pointer (some ⟨w.heap.size, 0, none⟩), .pointer (some ⟨w.heap.size + 1, 0, none⟩)]) (by simp) (by simp [go_sem]) ?_
  refine (doorI_idle ⟨w.heap.size, 0, none⟩ ⟨w.heap.size + 1, 0, none⟩ _).mono ?_
  rintro e u' w'' ⟨rfl, rfl, rfl⟩
  simp [Leaves, settle, results, Tryd.results67, go_sem, hc]
  exact ⟨W', hR, hb, rfl⟩
theorem doorP_catch (rf : Int) (p0 p a : Addr) (w : World) (h0 : w.cell? p0 = some (.int .i64 rf)) (hc : w.cell? p = some (.int .i64 0)) (hz : w.frozen? p = false) :
    CallsD Tryd.prog 73 #[.pointer (some p0), .pointer (some p)] (.panicking [{ v := .iface 105 (.pointer (some a)), recovered := false }]) w fun e u' w' =>
      e = .returned (.tuple #[]) ∧ u' = .panicking [{ v := .iface 105 (.pointer (some a)), recovered := true }] ∧ w' = w.setCell p (.int .i64 rf) := by
  refine callsD_of_wpS Tryd.func73 rfl fun c₀ cs hu => ?_
  apply wpS_seq
  apply wpS_region
  simp [wpOpsS, go_sem, recoverD, hu, Tryd.ntmps73, Exit.thenS, assert_err]
  apply wpS_seq
  apply wpS_region
  simp [wpOpsS, go_sem, Exit.thenS]
  refine wpS_cond (t := true) (by simp [Act.eval, Array.replicate]) ?_
  simp only [if_true]
  apply wpS_region
  simp [wpOpsS, go_sem, h0, hc, hz, bodyPostS, results, Tryd.results73]
theorem doorP_idle (p0 p : Addr) (w : World) :
    CallsD Tryd.prog 73 #[.pointer (some p0), .pointer (some p)] .returning w fun e u' w' => e = .returned (.tuple #[]) ∧ u' = .returning ∧ w' = w := by
  refine callsD_of_wpS Tryd.func73 rfl fun c₀ cs hu => ?_
  apply wpS_seq
  apply wpS_region
  simp [wpOpsS, go_sem, recoverD, hu, Tryd.ntmps73, Exit.thenS, assert_nil]
  apply wpS_seq
  apply wpS_region
  simp [wpOpsS, go_sem, Exit.thenS]
  refine wpS_cond (t := false) (by simp [Act.eval, Array.replicate]) ?_
  simp only [Bool.false_eq_true, if_false]
  refine wpS_of_wp (wp_skip ?_)
  cases c₀
  simp_all [bodyPostS, results, Tryd.results73]
set_option maxRecDepth 100000 in
theorem doorP_panic (rf : Int) (cap : Array Value) (w : World) (hw : Calls Tryd.prog 49 cap (PvW1 rf w) fun e W' => (∃ a, e = .panicked [{ v := .iface 105 (.pointer (some a)), recovered := false }]) ∧ Below (w.heap.size + 3) (PvW1 rf w) W') :
    Calls Tryd.prog 48 #[.int .i64 rf, .func (.func 49) #[] cap] w fun e w' => e = .returned (.tuple #[.agg #[.int .i64 0, .slice none 0 0, .slice none 0 0], .int .i64 rf]) ∧ Below w.heap.size w w' := by
  have hmf : ∀ (fn : Fn) (first cap : Array Value) (w : World), (Instr.makeFunc fn first cap).run Tryd.prog w = .ok (.func fn first cap) w := fun _ _ _ _ => rfl
  have HW := Lib.hid hw
  clear hw
  go_enter_defers Tryd.func48, Tryd.ntmps48
  go_wp2_with fail
  refine HW.out.mono ?_
  rintro e W' ⟨⟨a, rfl⟩, hb⟩
  have hr : W'.cell? ⟨w.heap.size, 0, none⟩ = some (.int .i64 rf) := (hb.cell (p := ⟨w.heap.size, 0, none⟩) (by show w.heap.size < _; omega)).trans (PvW1.rf rf w)
  have hc : W'.cell? ⟨w.heap.size + 1 + 1, 0, none⟩ = some (.int .i64 0) := (hb.cell (p := ⟨w.heap.size + 1 + 1, 0, none⟩) (by show w.heap.size + 1 + 1 < _; omega)).trans (PvW1.code rf w).1
  have hz : W'.frozen? ⟨w.heap.size + 1 + 1, 0, none⟩ = false := (hb.frozen (p := ⟨w.heap.size + 1 + 1, 0, none⟩) (by show w.heap.size + 1 + 1 < _; omega)).trans (PvW1.code rf w).2
  have h0 : W'.cell? ⟨w.heap.size + 1, 0, none⟩ = some (.int .i64 0) := (hb.cell (p := ⟨w.heap.size + 1, 0, none⟩) (by show w.heap.size + 1 < _; omega)).trans (PvW1.pv rf w).1
  have h1 : W'.cell? ⟨w.heap.size + 1, 1, none⟩ = some (.slice none 0 0) := (hb.cell (p := ⟨w.heap.size + 1, 1, none⟩) (by show w.heap.size + 1 < _; omega)).trans (PvW1.pv rf w).2.1
  have h2 : W'.cell? ⟨w.heap.size + 1, 2, none⟩ = some (.slice none 0 0) := (hb.cell (p := ⟨w.heap.size + 1, 2, none⟩) (by show w.heap.size + 1 < _; omega)).trans (PvW1.pv rf w).2.2.1
  have hB : Below w.heap.size w W' := (PvW1.low rf w).trans (hb.mono (by omega))
  go_wp2_with fail
  refine leaves_cons (f := 73) (args := #[.pointer (some ⟨w.heap.size, 0, none⟩), .pointer (some ⟨w.heap.size + 1 + 1, 0, none⟩)]) (by simp) (by simp [go_sem]) ?_
  refine (doorP_catch rf ⟨w.heap.size, 0, none⟩ ⟨w.heap.size + 1 + 1, 0, none⟩ a _ hr hc hz).mono ?_
  rintro e u' w'' ⟨rfl, rfl, rfl⟩
  have c0 : (W'.setCell ⟨w.heap.size + 1 + 1, 0, none⟩ (.int .i64 rf)).cell? ⟨w.heap.size + 1 + 1, 0, none⟩ = some (.int .i64 rf) := World.cell?_setCell_same _ _ _ hc
  simp [Leaves, settle, results, Tryd.results48, go_sem, h0, h1, h2, c0]
  exact hB.setCell (by simp; omega) _
end Go.Proofs.YthnefjllijoobaaDoor.PW
