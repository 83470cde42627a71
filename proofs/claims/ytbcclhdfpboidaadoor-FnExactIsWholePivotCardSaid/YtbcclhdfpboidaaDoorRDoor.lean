/-
  Walks: the door behind which a set that is not basic is a panic: the deferred closure in its two modes, the door when its work returns and when it panics.
-/
import Derived.Test.YtbcclhdfpboidaaDoorPGlob
import Derived.Defers
import Derived.Recover
namespace Go.Proofs.YtbcclhdfpboidaaDoor.PW
open Go.RowKit Go.Proofs.YtbcclhdfpboidaaDoor
open Go.Proofs.YtbcclhdfpboidaaDoor.PM

theorem assert_err (a : Addr) (w : World) : Sem.run Tryd.prog (Instr.typeAssert (.iface 105 (.pointer (some a))) 20 87 true) w = .ok (.tuple #[.iface 105 (.pointer (some a)), .bool true]) w := by kernel_rfl
theorem assert_nil (w : World) : Sem.run Tryd.prog (Instr.typeAssert .nilIface 20 87 true) w = .ok (.tuple #[.nilIface, .bool false]) w := by kernel_rfl
theorem doorN_catch (p a : Addr) (w : World) (hc : w.cell? p = some (.int .i64 0)) (hz : w.frozen? p = false) :
    CallsD Tryd.prog 82 #[.pointer (some p)] (.panicking [{ v := .iface 105 (.pointer (some a)), recovered := false }]) w fun e u' w' =>
      e = .returned (.tuple #[]) ∧ u' = .panicking [{ v := .iface 105 (.pointer (some a)), recovered := true }] ∧ w' = w.setCell p (.int .i64 5) := by
  refine callsD_of_wpS Tryd.func82 rfl fun c₀ cs hu => ?_
  apply wpS_seq
  apply wpS_region
  simp [wpOpsS, go_sem, recoverD, hu, Tryd.ntmps82, Exit.thenS, assert_err]
  apply wpS_seq
  apply wpS_region
  simp [wpOpsS, go_sem, Exit.thenS]
  refine wpS_cond (t := true) (by simp [Act.eval, Array.replicate]) ?_
  simp only [if_true]
  apply wpS_region
  simp [wpOpsS, go_sem, hc, hz, bodyPostS, results, Tryd.results82]
theorem doorN_idle (p : Addr) (w : World) :
    CallsD Tryd.prog 82 #[.pointer (some p)] .returning w fun e u' w' => e = .returned (.tuple #[]) ∧ u' = .returning ∧ w' = w := by
  refine callsD_of_wpS Tryd.func82 rfl fun c₀ cs hu => ?_
  apply wpS_seq
  apply wpS_region
  simp [wpOpsS, go_sem, recoverD, hu, Tryd.ntmps82, Exit.thenS, assert_nil]
  apply wpS_seq
  apply wpS_region
  simp [wpOpsS, go_sem, Exit.thenS]
  refine wpS_cond (t := false) (by simp [Act.eval, Array.replicate]) ?_
  simp only [Bool.false_eq_true, if_false]
  refine wpS_of_wp (wp_skip ?_)
  cases c₀
  simp_all [bodyPostS, results, Tryd.results82]
set_option maxRecDepth 100000 in
theorem doorN_panic (cap : Array Value) (w : World) (hw : Calls Tryd.prog 60 cap (w.alloc (.cells #[.int .i64 0] 2)) fun e W' => (∃ a, e = .panicked [{ v := .iface 105 (.pointer (some a)), recovered := false }]) ∧ Below (w.heap.size + 1) (w.alloc (.cells #[.int .i64 0] 2)) W') :
    Calls Tryd.prog 59 #[.func (.func 60) #[] cap] w fun e w' => e = .returned (.tuple #[.int .i64 0, .int .i64 5]) ∧ Below w.heap.size w w' := by
  have hmf : ∀ (fn : Fn) (first cap : Array Value) (w : World), (Instr.makeFunc fn first cap).run Tryd.prog w = .ok (.func fn first cap) w := fun _ _ _ _ => rfl
  have HW := Lib.hid hw
  clear hw
  go_enter_defers Tryd.func59, Tryd.ntmps59
  go_wp2_with fail
  refine HW.out.mono ?_
  rintro e W' ⟨⟨a, rfl⟩, hb⟩
  have hc : W'.cell? ⟨w.heap.size, 0, none⟩ = some (.int .i64 0) := (hb.cell (p := ⟨w.heap.size, 0, none⟩) (by show w.heap.size < _; omega)).trans (by simp)
  have hz : W'.frozen? ⟨w.heap.size, 0, none⟩ = false := (hb.frozen (p := ⟨w.heap.size, 0, none⟩) (by show w.heap.size < _; omega)).trans (by simp)
  have hB : Below w.heap.size w W' := ((Below.refl w.heap.size w).alloc (Nat.le_refl _) _).trans (hb.mono (by omega))
  go_wp2_with fail
  refine leaves_cons (f := 82) (args := #[.pointer (some ⟨w.heap.size, 0, none⟩)]) (by simp) (by simp [go_sem]) ?_
  refine (doorN_catch ⟨w.heap.size, 0, none⟩ a _ hc hz).mono ?_
  rintro e u' w'' ⟨rfl, rfl, rfl⟩
  simp [Leaves, settle, results, Tryd.results59, go_sem, hc]
  exact hB.setCell (Nat.le_refl _) _
set_option maxRecDepth 100000 in
theorem doorN_ok (cap : Array Value) (w : World) (R : Value → World → Prop) (hw : Calls Tryd.prog 60 cap (w.alloc (.cells #[.int .i64 0] 2)) fun e W' => (∃ v, e = .returned v ∧ R v W') ∧ Below (w.heap.size + 1) (w.alloc (.cells #[.int .i64 0] 2)) W') :
    Calls Tryd.prog 59 #[.func (.func 60) #[] cap] w fun e w' => ∃ v W', e = .returned (.tuple #[v, .int .i64 0]) ∧ R v W' ∧ Below (w.heap.size + 1) (w.alloc (.cells #[.int .i64 0] 2)) W' ∧ w' = W'.setCell ⟨w.heap.size, 0, none⟩ (.int .i64 0) := by
  have hmf : ∀ (fn : Fn) (first cap : Array Value) (w : World), (Instr.makeFunc fn first cap).run Tryd.prog w = .ok (.func fn first cap) w := fun _ _ _ _ => rfl
  have HW := Lib.hid hw
  clear hw
  go_enter_defers Tryd.func59, Tryd.ntmps59
  go_wp2_with fail
  refine HW.out.mono ?_
  rintro e W' ⟨⟨v, rfl, hR⟩, hb⟩
  have hc : W'.cell? ⟨w.heap.size, 0, none⟩ = some (.int .i64 0) := (hb.cell (p := ⟨w.heap.size, 0, none⟩) (by show w.heap.size < _; omega)).trans (by simp)
  have hz : W'.frozen? ⟨w.heap.size, 0, none⟩ = false := (hb.frozen (p := ⟨w.heap.size, 0, none⟩) (by show w.heap.size < _; omega)).trans (by simp)
  go_wp2_with fail
  refine leaves_cons (f := 82) (args := #[.pointer (some ⟨w.heap.size, 0, none⟩)]) (by simp) (by simp [go_sem]) ?_
  refine (doorN_idle ⟨w.heap.size, 0, none⟩ _).mono ?_
  rintro e u' w'' ⟨rfl, rfl, rfl⟩
  simp [Leaves, settle, results, Tryd.results59, go_sem, hc]
  exact ⟨W', hR, hb, rfl⟩
theorem doorI_catch (p a : Addr) (w : World) (hc : w.cell? p = some (.int .i64 0)) (hz : w.frozen? p = false) :
    CallsD Tryd.prog 85 #[.pointer (some p)] (.panicking [{ v := .iface 105 (.pointer (some a)), recovered := false }]) w fun e u' w' =>
      e = .returned (.tuple #[]) ∧ u' = .panicking [{ v := .iface 105 (.pointer (some a)), recovered := true }] ∧ w' = w.setCell p (.int .i64 5) := by
  refine callsD_of_wpS Tryd.func85 rfl fun c₀ cs hu => ?_
  apply wpS_seq
  apply wpS_region
  simp [wpOpsS, go_sem, recoverD, hu, Tryd.ntmps85, Exit.thenS, assert_err]
  apply wpS_seq
  apply wpS_region
  simp [wpOpsS, go_sem, Exit.thenS]
  refine wpS_cond (t := true) (by simp [Act.eval, Array.replicate]) ?_
  simp only [if_true]
  apply wpS_region
  simp [wpOpsS, go_sem, hc, hz, bodyPostS, results, Tryd.results85]
theorem doorI_idle (p : Addr) (w : World) :
    CallsD Tryd.prog 85 #[.pointer (some p)] .returning w fun e u' w' => e = .returned (.tuple #[]) ∧ u' = .returning ∧ w' = w := by
  refine callsD_of_wpS Tryd.func85 rfl fun c₀ cs hu => ?_
  apply wpS_seq
  apply wpS_region
  simp [wpOpsS, go_sem, recoverD, hu, Tryd.ntmps85, Exit.thenS, assert_nil]
  apply wpS_seq
  apply wpS_region
  simp [wpOpsS, go_sem, Exit.thenS]
  refine wpS_cond (t := false) (by simp [Act.eval, Array.replicate]) ?_
  simp only [Bool.false_eq_true, if_false]
  refine wpS_of_wp (wp_skip ?_)
  cases c₀
  simp_all [bodyPostS, results, Tryd.results85]
set_option maxRecDepth 100000 in
theorem doorI_panic (cap : Array Value) (w : World) (hw : Calls Tryd.prog 68 cap (w.alloc (.cells #[.int .i64 0] 2)) fun e W' => (∃ a, e = .panicked [{ v := .iface 105 (.pointer (some a)), recovered := false }]) ∧ Below (w.heap.size + 1) (w.alloc (.cells #[.int .i64 0] 2)) W') :
    Calls Tryd.prog 67 #[.func (.func 68) #[] cap] w fun e w' => e = .returned (.tuple #[.slice none 0 0, .int .i64 5]) ∧ Below w.heap.size w w' := by
  have hmf : ∀ (fn : Fn) (first cap : Array Value) (w : World), (Instr.makeFunc fn first cap).run Tryd.prog w = .ok (.func fn first cap) w := fun _ _ _ _ => rfl
  have HW := Lib.hid hw
  clear hw
  go_enter_defers Tryd.func67, Tryd.ntmps67
  go_wp2_with fail
  refine HW.out.mono ?_
  rintro e W' ⟨⟨a, rfl⟩, hb⟩
  have hc : W'.cell? ⟨w.heap.size, 0, none⟩ = some (.int .i64 0) := (hb.cell (p := ⟨w.heap.size, 0, none⟩) (by show w.heap.size < _; omega)).trans (by simp)
  have hz : W'.frozen? ⟨w.heap.size, 0, none⟩ = false := (hb.frozen (p := ⟨w.heap.size, 0, none⟩) (by show w.heap.size < _; omega)).trans (by simp)
  have hB : Below w.heap.size w W' := ((Below.refl w.heap.size w).alloc (Nat.le_refl _) _).trans (hb.mono (by omega))
  go_wp2_with fail
  refine leaves_cons (f := 85) (args := #[.pointer (some ⟨w.heap.size, 0, none⟩)]) (by simp) (by simp [go_sem]) ?_
  refine (doorI_catch ⟨w.heap.size, 0, none⟩ a _ hc hz).mono ?_
  rintro e u' w'' ⟨rfl, rfl, rfl⟩
  simp [Leaves, settle, results, Tryd.results67, go_sem, hc]
  exact hB.setCell (Nat.le_refl _) _
set_option maxRecDepth 100000 in
theorem doorI_ok (cap : Array Value) (w : World) (R : Value → World → Prop) (hw : Calls Tryd.prog 68 cap (w.alloc (.cells #[.int .i64 0] 2)) fun e W' => (∃ v, e = .returned v ∧ R v W') ∧ Below (w.heap.size + 1) (w.alloc (.cells #[.int .i64 0] 2)) W') :
    Calls Tryd.prog 67 #[.func (.func 68) #[] cap] w fun e w' => ∃ v W', e = .returned (.tuple #[v, .int .i64 0]) ∧ R v W' ∧ Below (w.heap.size + 1) (w.alloc (.cells #[.int .i64 0] 2)) W' ∧ w' = W'.setCell ⟨w.heap.size, 0, none⟩ (.int .i64 0) := by
  have hmf : ∀ (fn : Fn) (first cap : Array Value) (w : World), (Instr.makeFunc fn first cap).run Tryd.prog w = .ok (.func fn first cap) w := fun _ _ _ _ => rfl
  have HW := Lib.hid hw
  clear hw
  go_enter_defers Tryd.func67, Tryd.ntmps67
  go_wp2_with fail
  refine HW.out.mono ?_
  rintro e W' ⟨⟨v, rfl, hR⟩, hb⟩
  have hc : W'.cell? ⟨w.heap.size, 0, none⟩ = some (.int .i64 0) := (hb.cell (p := ⟨w.heap.size, 0, none⟩) (by show w.heap.size < _; omega)).trans (by simp)
  have hz : W'.frozen? ⟨w.heap.size, 0, none⟩ = false := (hb.frozen (p := ⟨w.heap.size, 0, none⟩) (by show w.heap.size < _; omega)).trans (by simp)
  go_wp2_with fail
  refine leaves_cons (f := 85) (args := #[.pointer (some ⟨w.heap.size, 0, none⟩)]) (by simp) (by simp [go_sem]) ?_
  refine (doorI_idle ⟨w.heap.size, 0, none⟩ _).mono ?_
  rintro e u' w'' ⟨rfl, rfl, rfl⟩
  simp [Leaves, settle, results, Tryd.results67, go_sem, hc]
  exact ⟨W', hR, hb, rfl⟩
theorem doorP_catch (p a : Addr) (w : World) (hc : w.cell? p = some (.int .i64 0)) (hz : w.frozen? p = false) :
    CallsD Tryd.prog 73 #[.pointer (some p)] (.panicking [{ v := .iface 105 (.pointer (some a)), recovered := false }]) w fun e u' w' =>
      e = .returned (.tuple #[]) ∧ u' = .panicking [{ v := .iface 105 (.pointer (some a)), recovered := true }] ∧ w' = w.setCell p (.int .i64 5) := by
  refine callsD_of_wpS Tryd.func73 rfl fun c₀ cs hu => ?_
  apply wpS_seq
  apply wpS_region
  simp [wpOpsS, go_sem, recoverD, hu, Tryd.ntmps73, Exit.thenS, assert_err]
  apply wpS_seq
  apply wpS_region
  simp [wpOpsS, go_sem, Exit.thenS]
  refine wpS_cond (t := true) (by simp [Act.eval, Array.replicate]) ?_
  simp only [if_true]
  apply wpS_region
  simp [wpOpsS, go_sem, hc, hz, bodyPostS, results, Tryd.results73]
theorem doorP_idle (p : Addr) (w : World) :
    CallsD Tryd.prog 73 #[.pointer (some p)] .returning w fun e u' w' => e = .returned (.tuple #[]) ∧ u' = .returning ∧ w' = w := by
  refine callsD_of_wpS Tryd.func73 rfl fun c₀ cs hu => ?_
  apply wpS_seq
  apply wpS_region
  simp [wpOpsS, go_sem, recoverD, hu, Tryd.ntmps73, Exit.thenS, assert_nil]
  apply wpS_seq
  apply wpS_region
  simp [wpOpsS, go_sem, Exit.thenS]
  refine wpS_cond (t := false) (by simp [Act.eval, Array.replicate]) ?_
  simp only [Bool.false_eq_true, if_false]
  refine wpS_of_wp (wp_skip ?_)
  cases c₀
  simp_all [bodyPostS, results, Tryd.results73]
set_option maxRecDepth 100000 in
theorem doorP_panic (cap : Array Value) (w : World) (hw : Calls Tryd.prog 49 cap ((w.alloc (.cells #[.int .i64 0, .slice none 0 0, .slice none 0 0] 28)).alloc (.cells #[.int .i64 0] 2)) fun e W' => (∃ a, e = .panicked [{ v := .iface 105 (.pointer (some a)), recovered := false }]) ∧ Below (w.heap.size + 2) ((w.alloc (.cells #[.int .i64 0, .slice none 0 0, .slice none 0 0] 28)).alloc (.cells #[.int .i64 0] 2)) W') :
    Calls Tryd.prog 48 #[.func (.func 49) #[] cap] w fun e w' => e = .returned (.tuple #[.agg #[.int .i64 0, .slice none 0 0, .slice none 0 0], .int .i64 5]) ∧ Below w.heap.size w w' := by
  have hmf : ∀ (fn : Fn) (first cap : Array Value) (w : World), (Instr.makeFunc fn first cap).run Tryd.prog w = .ok (.func fn first cap) w := fun _ _ _ _ => rfl
  have HW := Lib.hid hw
  clear hw
  go_enter_defers Tryd.func48, Tryd.ntmps48
  go_wp2_with fail
  refine HW.out.mono ?_
  rintro e W' ⟨⟨a, rfl⟩, hb⟩
  have hc : W'.cell? ⟨w.heap.size + 1, 0, none⟩ = some (.int .i64 0) := (hb.cell (p := ⟨w.heap.size + 1, 0, none⟩) (by show w.heap.size + 1 < _; omega)).trans (by simp)
  have hz : W'.frozen? ⟨w.heap.size + 1, 0, none⟩ = false := (hb.frozen (p := ⟨w.heap.size + 1, 0, none⟩) (by show w.heap.size + 1 < _; omega)).trans (by simp)
  have h0 : W'.cell? ⟨w.heap.size, 0, none⟩ = some (.int .i64 0) := (hb.cell (p := ⟨w.heap.size, 0, none⟩) (by show w.heap.size < _; omega)).trans (by simp)
  have z0 : W'.frozen? ⟨w.heap.size, 0, none⟩ = false := (hb.frozen (p := ⟨w.heap.size, 0, none⟩) (by show w.heap.size < _; omega)).trans (by simp)
  have h1 : W'.cell? ⟨w.heap.size, 1, none⟩ = some (.slice none 0 0) := (hb.cell (p := ⟨w.heap.size, 1, none⟩) (by show w.heap.size < _; omega)).trans (by simp)
  have z1 : W'.frozen? ⟨w.heap.size, 1, none⟩ = false := (hb.frozen (p := ⟨w.heap.size, 1, none⟩) (by show w.heap.size < _; omega)).trans (by simp)
  have h2 : W'.cell? ⟨w.heap.size, 2, none⟩ = some (.slice none 0 0) := (hb.cell (p := ⟨w.heap.size, 2, none⟩) (by show w.heap.size < _; omega)).trans (by simp)
  have z2 : W'.frozen? ⟨w.heap.size, 2, none⟩ = false := (hb.frozen (p := ⟨w.heap.size, 2, none⟩) (by show w.heap.size < _; omega)).trans (by simp)
  have hB : Below w.heap.size w W' := (((Below.refl w.heap.size w).alloc (Nat.le_refl _) _).alloc (by simp) _).trans (hb.mono (by omega))
  go_wp2_with fail
  refine leaves_cons (f := 73) (args := #[.pointer (some ⟨w.heap.size + 1, 0, none⟩)]) (by simp) (by simp [go_sem]) ?_
  refine (doorP_catch ⟨w.heap.size + 1, 0, none⟩ a _ hc hz).mono ?_
  rintro e u' w'' ⟨rfl, rfl, rfl⟩
  have c0 : (W'.setCell ⟨w.heap.size + 1, 0, none⟩ (.int .i64 5)).cell? ⟨w.heap.size + 1, 0, none⟩ = some (.int .i64 5) := World.cell?_setCell_same _ _ _ hc
  simp [Leaves, settle, results, Tryd.results48, go_sem, h0, h1, h2, c0]
  exact hB.setCell (by simp) _

end Go.Proofs.YtbcclhdfpboidaaDoor.PW
