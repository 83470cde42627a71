/-
  Walks: the array of an orientation, in the program: the walk.
-/
import Derived.Test.YtlccdnpicfmeaaaCOm
namespace Go.Proofs.Ytlccdnpicfmeaaa.PW
open Go.RowKit Go.Proofs.Ytlccdnpicfmeaaa
open Go.Proofs.Ytlccdnpicfmeaaa.PM

set_option maxRecDepth 100000 in
set_option maxHeartbeats 2000000 in
theorem outmapOf_any (D : Int) (b off n c : Nat) (O : List Int) (w : World) (ho : n = O.length ∧ 1 ≤ n ∧ n ≤ 32 ∧ b < w.heap.size ∧ ∀ k, k < n → w.cell? ⟨b, off + k, none⟩ = some (.int .i64 (O.getD k 0))) :
    Calls Try.prog 69 #[.agg #[.int .i64 D, .slice (some ⟨b, off, none⟩) n c]] w fun e w' => e = .returned (arrV fun j => O.getD j 0) ∧ Below w.heap.size w w' := by
  have HO := Lib.hid ho
  have HL := Lib.hid ho.1
  have HMK : Hid (∀ w', (Instr.makeSlice 23 (.int .i64 32) (.int .i64 32)).run Try.prog w' = .ok (.slice (some ⟨w'.heap.size, 0, none⟩) 32 32) (w'.alloc (.cells (arrC fun _ => 0) 2))) := fun w' => by kernel_rfl
  have HSA : Hid (∀ g gc w', (Instr.arrayAt 76 (.slice (some ⟨g, 0, none⟩) (n + 32) gc)).run Try.prog w' = .ok (.pointer (some ⟨g, 0, none⟩)) w') := fun g gc w' => by
    simp [Instr.arrayAt, Sem.run_bind, run_underlying Try.underlying76 w']
    intro h
    omega
  clear ho
  have hmx : Try.prog.follows .mixedOrders = true := by kernel_rfl
  go_enter Try.func69, Try.ntmps69
  go_wp2_with fail
  rw [← arrC_zero]
  rename_i K0 hK0
  refine (wpIn_wide (n := 8)).1 ?_
  refine PR.wpIn_region_inv hmx (by kernel_rfl) (fun listed ac w' =>
      ∃ (b0 b1 b2 b3 b4 b5 b6 b7 : Bool) (gz : Nat) (gs : Nat) (g : Nat) (gc : Nat), ((b1 = true → b0 = true) ∧ (b3 = true → b1 = true ∧ b2 = true) ∧ (b4 = true → b3 = true) ∧ (b5 = true → b4 = true) ∧ (b6 = true → b5 = true) ∧ (b7 = true → b6 = true)) ∧ listed = #[b0, b1, b2, b3, b4, b5, b6, b7] ∧
        ac = { tmps := #[.agg #[.int .i64 D, .slice (some ⟨b, off, none⟩) n c], .pointer (some ⟨w.heap.size, 0, none⟩), .pointer (some ⟨w.heap.size + 1, 0, none⟩), cond b0 (.pointer (some ⟨w.heap.size, 1, none⟩)) undef, cond b1 (.slice (some ⟨b, off, none⟩) n c) undef, cond b2 (.slice (some ⟨gz, 0, none⟩) 32 32) undef, cond b3 (.slice (some ⟨gs, 0, none⟩) 2 2) undef, cond b4 (.slice (some ⟨g, 0, none⟩) (n + 32) gc) undef, cond b5 (.pointer (some ⟨g, 0, none⟩)) undef, cond b6 (.agg (arrC fun j => O.getD j 0)) undef], defers := [] } ∧ OmR w w' b off n c O b2 b3 b4 b7 gz gs g) ?_ ?_ ?_ ?_
  · rintro listed ac w' ⟨b0, b1, b2, b3, b4, b5, b6, b7, gz, gs, g, gc, _, rfl, _⟩
    rfl
  · rintro listed ac w' ⟨b0, b1, b2, b3, b4, b5, b6, b7, gz, gs, g, gc, _, rfl, rfl, hR⟩ hall
    have h0 := hall 0 (by simp)
    have h1 := hall 1 (by simp)
    have h2 := hall 2 (by simp)
    have h3 := hall 3 (by simp)
    have h4 := hall 4 (by simp)
    have h5 := hall 5 (by simp)
    have h6 := hall 6 (by simp)
    have h7 := hall 7 (by simp)
    simp at h0 h1 h2 h3 h4 h5 h6 h7
    subst h0 h1 h2 h3 h4 h5 h6 h7
    clear hall
    refine hK0 _ _ ?_
    simp only [cond_true]
    have HR := Lib.hid hR.res
    have HB := Lib.hid hR.low
    clear hR HMK HSA
    go_wp2_with fail
    refine bodyPost_ret (v := arrV fun j => O.getD j 0) ?r rfl ?q
    case r => exact results_cell_row Try.results69 _ _ _ _ _ (0, 0) _ rfl HR.out Try.underlying76 rfl (by rw [arrC_size]; exact info_arr)
    case q => exact ⟨rfl, HB.out⟩
  · exact ⟨false, false, false, false, false, false, false, false, 0, 0, 0, 0, by simp, rfl, rfl, OmR.start_ w b off n c D O⟩
  · rintro listed ac w' i oi ⟨b0, b1, b2, b3, b4, b5, b6, b7, gz, gs, g, gc, ⟨e1, e3, e4, e5, e6, e7⟩, rfl, rfl, hR⟩ ho hun hdep
    have hi : i < 8 := by simpa using (Array.getElem?_eq_some_iff.1 ho).1
    obtain rfl | rfl | rfl | rfl | rfl | rfl | rfl | rfl : i = 0 ∨ i = 1 ∨ i = 2 ∨ i = 3 ∨ i = 4 ∨ i = 5 ∨ i = 6 ∨ i = 7 := by omega
    · -- 0
      simp only [List.getElem?_toArray, List.getElem?_cons_zero, Option.some.injEq] at ho
      subst ho
      have hbi : b0 = false := by simpa using hun
      subst hbi
      obtain rfl : b1 = false := Bool.eq_false_iff.2 (fun h => Bool.noConfusion (e1 h))
      obtain rfl : b3 = false := Bool.eq_false_iff.2 (fun h => Bool.noConfusion (e3 h).1)
      obtain rfl : b4 = false := Bool.eq_false_iff.2 (fun h => Bool.noConfusion (e4 h))
      obtain rfl : b5 = false := Bool.eq_false_iff.2 (fun h => Bool.noConfusion (e5 h))
      obtain rfl : b6 = false := Bool.eq_false_iff.2 (fun h => Bool.noConfusion (e6 h))
      obtain rfl : b7 = false := Bool.eq_false_iff.2 (fun h => Bool.noConfusion (e7 h))
      refine wpOpIn_step rfl (fun K hK => ?_)
      clear hun hdep hi
      go_simp
      refine hK _ _ ⟨true, false, b2, false, false, false, false, false, gz, gs, g, gc, ⟨fun h => Bool.noConfusion h, fun h => Bool.noConfusion h, fun h => Bool.noConfusion h, fun h => Bool.noConfusion h, fun h => Bool.noConfusion h, fun h => Bool.noConfusion h⟩, rfl, rfl, hR⟩
    · -- 1
      simp only [List.getElem?_toArray, List.getElem?_cons_succ, List.getElem?_cons_zero, Option.some.injEq] at ho
      subst ho
      have hbi : b1 = false := by simpa using hun
      subst hbi
      have hd0 : b0 = true := by have := hdep ⟨0, .data⟩ (by simp) rfl; simpa using this
      subst hd0
      obtain rfl : b3 = false := Bool.eq_false_iff.2 (fun h => Bool.noConfusion (e3 h).1)
      obtain rfl : b4 = false := Bool.eq_false_iff.2 (fun h => Bool.noConfusion (e4 h))
      obtain rfl : b5 = false := Bool.eq_false_iff.2 (fun h => Bool.noConfusion (e5 h))
      obtain rfl : b6 = false := Bool.eq_false_iff.2 (fun h => Bool.noConfusion (e6 h))
      obtain rfl : b7 = false := Bool.eq_false_iff.2 (fun h => Bool.noConfusion (e7 h))
      refine wpOpIn_step rfl (fun K hK => ?_)
      clear hun hdep hi
      have k0 := hR.box
      go_simp
      refine hK _ _ ⟨true, true, b2, false, false, false, false, false, gz, gs, g, gc, ⟨fun _ => rfl, fun h => Bool.noConfusion h, fun h => Bool.noConfusion h, fun h => Bool.noConfusion h, fun h => Bool.noConfusion h, fun h => Bool.noConfusion h⟩, rfl, rfl, hR⟩
    · -- 2
      simp only [List.getElem?_toArray, List.getElem?_cons_succ, List.getElem?_cons_zero, Option.some.injEq] at ho
      subst ho
      have hbi : b2 = false := by simpa using hun
      subst hbi
      obtain rfl : b3 = false := Bool.eq_false_iff.2 (fun h => Bool.noConfusion (e3 h).2)
      obtain rfl : b4 = false := Bool.eq_false_iff.2 (fun h => Bool.noConfusion (e4 h))
      obtain rfl : b5 = false := Bool.eq_false_iff.2 (fun h => Bool.noConfusion (e5 h))
      obtain rfl : b6 = false := Bool.eq_false_iff.2 (fun h => Bool.noConfusion (e6 h))
      obtain rfl : b7 = false := Bool.eq_false_iff.2 (fun h => Bool.noConfusion (e7 h))
      refine wpOpIn_step rfl (fun K hK => ?_)
      clear hun hdep hi
      have k0 := HMK.out w'
      go_simp
      refine hK _ _ ⟨b0, b1, true, false, false, false, false, false, w'.heap.size, gs, g, gc, ⟨e1, fun h => Bool.noConfusion h, fun h => Bool.noConfusion h, fun h => Bool.noConfusion h, fun h => Bool.noConfusion h, fun h => Bool.noConfusion h⟩, rfl, rfl, hR.make_⟩
    · -- 3
      simp only [List.getElem?_toArray, List.getElem?_cons_succ, List.getElem?_cons_zero, Option.some.injEq] at ho
      subst ho
      have hbi : b3 = false := by simpa using hun
      subst hbi
      have hd1 : b1 = true := by have := hdep ⟨1, .data⟩ (by simp) rfl; simpa using this
      have hd2 : b2 = true := by have := hdep ⟨2, .data⟩ (by simp) rfl; simpa using this
      have hd0 : b0 = true := (e1 hd1)
      subst hd0 hd1 hd2
      obtain rfl : b4 = false := Bool.eq_false_iff.2 (fun h => Bool.noConfusion (e4 h))
      obtain rfl : b5 = false := Bool.eq_false_iff.2 (fun h => Bool.noConfusion (e5 h))
      obtain rfl : b6 = false := Bool.eq_false_iff.2 (fun h => Bool.noConfusion (e6 h))
      obtain rfl : b7 = false := Bool.eq_false_iff.2 (fun h => Bool.noConfusion (e7 h))
      refine wpOpIn_step rfl (fun K hK => ?_)
      clear hun hdep hi
      go_simp
      refine hK _ _ ⟨true, true, true, true, false, false, false, false, gz, w'.heap.size, g, gc, ⟨fun _ => rfl, fun _ => ⟨rfl, rfl⟩, fun h => Bool.noConfusion h, fun h => Bool.noConfusion h, fun h => Bool.noConfusion h, fun h => Bool.noConfusion h⟩, rfl, rfl, hR.build_⟩
    · -- 4
      simp only [List.getElem?_toArray, List.getElem?_cons_succ, List.getElem?_cons_zero, Option.some.injEq] at ho
      subst ho
      have hbi : b4 = false := by simpa using hun
      subst hbi
      have hd3 : b3 = true := by have := hdep ⟨3, .data⟩ (by simp) rfl; simpa using this
      have hd2 : b2 = true := (e3 hd3).2
      have hd1 : b1 = true := (e3 hd3).1
      have hd0 : b0 = true := (e1 hd1)
      subst hd0 hd1 hd2 hd3
      obtain rfl : b5 = false := Bool.eq_false_iff.2 (fun h => Bool.noConfusion (e5 h))
      obtain rfl : b6 = false := Bool.eq_false_iff.2 (fun h => Bool.noConfusion (e6 h))
      obtain rfl : b7 = false := Bool.eq_false_iff.2 (fun h => Bool.noConfusion (e7 h))
      refine wpOpIn_step rfl (fun K hK => ?_)
      clear hun hdep hi
      go_simp
      refine ⟨trivial, (callsIn_wide.2 (hR.concat HO.out)).mono ?_⟩
      rintro e w'' ⟨yg, yc, rfl, hf, hb⟩
      refine hK _ _ ⟨true, true, true, true, true, false, false, false, gz, gs, yg, yc, ⟨fun _ => rfl, fun _ => ⟨rfl, rfl⟩, fun _ => rfl, fun h => Bool.noConfusion h, fun h => Bool.noConfusion h, fun h => Bool.noConfusion h⟩, rfl, rfl, hR.call_ hf hb HL.out⟩
    · -- 5
      simp only [List.getElem?_toArray, List.getElem?_cons_succ, List.getElem?_cons_zero, Option.some.injEq] at ho
      subst ho
      have hbi : b5 = false := by simpa using hun
      subst hbi
      have hd4 : b4 = true := by have := hdep ⟨4, .data⟩ (by simp) rfl; simpa using this
      have hd3 : b3 = true := (e4 hd4)
      have hd2 : b2 = true := (e3 hd3).2
      have hd1 : b1 = true := (e3 hd3).1
      have hd0 : b0 = true := (e1 hd1)
      subst hd0 hd1 hd2 hd3 hd4
      obtain rfl : b6 = false := Bool.eq_false_iff.2 (fun h => Bool.noConfusion (e6 h))
      obtain rfl : b7 = false := Bool.eq_false_iff.2 (fun h => Bool.noConfusion (e7 h))
      refine wpOpIn_step rfl (fun K hK => ?_)
      clear hun hdep hi
      have k0 := HSA.out g gc w'
      go_simp
      refine hK _ _ ⟨true, true, true, true, true, true, false, false, gz, gs, g, gc, ⟨fun _ => rfl, fun _ => ⟨rfl, rfl⟩, fun _ => rfl, fun _ => rfl, fun h => Bool.noConfusion h, fun h => Bool.noConfusion h⟩, rfl, rfl, hR⟩
    · -- 6
      simp only [List.getElem?_toArray, List.getElem?_cons_succ, List.getElem?_cons_zero, Option.some.injEq] at ho
      subst ho
      have hbi : b6 = false := by simpa using hun
      subst hbi
      have hd5 : b5 = true := by have := hdep ⟨5, .data⟩ (by simp) rfl; simpa using this
      have hd4 : b4 = true := (e5 hd5)
      have hd3 : b3 = true := (e4 hd4)
      have hd2 : b2 = true := (e3 hd3).2
      have hd1 : b1 = true := (e3 hd3).1
      have hd0 : b0 = true := (e1 hd1)
      subst hd0 hd1 hd2 hd3 hd4 hd5
      obtain rfl : b7 = false := Bool.eq_false_iff.2 (fun h => Bool.noConfusion (e7 h))
      refine wpOpIn_step rfl (fun K hK => ?_)
      clear hun hdep hi
      refine PR.stepIn_load_row _ rfl _ _ rfl _ _ rfl (hR.load rfl) ?_
      refine hK _ _ ⟨true, true, true, true, true, true, true, false, gz, gs, g, gc, ⟨fun _ => rfl, fun _ => ⟨rfl, rfl⟩, fun _ => rfl, fun _ => rfl, fun _ => rfl, fun h => Bool.noConfusion h⟩, rfl, rfl, hR⟩
    · -- 7
      simp only [List.getElem?_toArray, List.getElem?_cons_succ, List.getElem?_cons_zero, Option.some.injEq] at ho
      subst ho
      have hbi : b7 = false := by simpa using hun
      subst hbi
      have hd6 : b6 = true := by have := hdep ⟨6, .data⟩ (by simp) rfl; simpa using this
      have hd5 : b5 = true := (e6 hd6)
      have hd4 : b4 = true := (e5 hd5)
      have hd3 : b3 = true := (e4 hd4)
      have hd2 : b2 = true := (e3 hd3).2
      have hd1 : b1 = true := (e3 hd3).1
      have hd0 : b0 = true := (e1 hd1)
      subst hd0 hd1 hd2 hd3 hd4 hd5 hd6
      refine wpOpIn_step rfl (fun K hK => ?_)
      clear hun hdep hi
      refine PR.stepIn_store_row _ _ rfl _ _ _ rfl _ _ rfl rfl (hR.store _) ?_
      refine hK _ _ ⟨true, true, true, true, true, true, true, true, gz, gs, g, gc, ⟨fun _ => rfl, fun _ => ⟨rfl, rfl⟩, fun _ => rfl, fun _ => rfl, fun _ => rfl, fun _ => rfl⟩, rfl, rfl, hR.store_⟩
end Go.Proofs.Ytlccdnpicfmeaaa.PW
