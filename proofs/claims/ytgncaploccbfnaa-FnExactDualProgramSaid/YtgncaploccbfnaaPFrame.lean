/-
  From the rows' readings of problems, lists of numbers and numbers to this seat's words for them.
-/
import Derived.Test.YtgncaploccbfnaaPCore
import Derived.Test.YtgncaploccbfnaaRows
import Derived.OpenShut
import Derived.ShutString
import Derived.ChangeOld
import Derived.Lib.SmallJoins
namespace Go.Proofs.Ytgncaploccbfnaa
open Go.ChangeShapes Go.WideShapes Go.ChangeAt Go.RowKit Go.Joins Go.Deep
open Go.Proofs.Ytgncaploccbfnaa.PM

theorem own : ownKnob Try.prog.godebug = none := by kernel_rfl
theorem laidOut : laidOutB Try.prog = true := by kernel_rfl
theorem cellsProb : Try.prog.cellsOf 25 = 2 := by kernel_rfl

theorem add_zero (a : Addr) : a.add 0 = a := by simp [Addr.add]
theorem add_none (b o i : Nat) : (⟨b, o, none⟩ : Addr).add i = ⟨b, o + i, none⟩ := by
  unfold Addr.add
  by_cases h : i = 0
  · subst h; simp
  · simp [h]
theorem spot_none {w : World} {a : Addr} {v : Value} (h : w.cell? (a.add 0) = some v) : a = ⟨a.block, a.off, none⟩ := by
  have hs := World.cell?_spot h
  rw [add_zero] at hs
  obtain ⟨b, o, s⟩ := a
  simp only at hs
  subst hs
  rfl

theorem ints_in {H : Type} {enc : TypeId × Value → H} {W : World} {held : Bool} {n : Nat} {c : Value} {y : DataW H × List MemPlace}
    (h : DataW.trod enc Try.prog W 0 (fun _ => true) held n 23 [c] = some y) : ∃ Q, PM.Ints W c Q := by
  rcases open_ints Try.underlying23 Try.underlying2 (by kernel_rfl) h with ⟨hcs, _⟩ | ⟨a, len, cap, zs, hcs, _, hl, hm, hz, _, hcell, hwz⟩
  · simp only [List.cons.injEq, and_true] at hcs
    exact ⟨[], none, 0, hcs, Nat.le_refl _, Nat.zero_le _, by simp, .inl rfl⟩
  · simp only [List.cons.injEq, and_true] at hcs
    simp only [if_true] at hz
    have hlen : (zs.take len).length = len := by rw [List.length_take]; omega
    refine ⟨zs.take len, some a, cap, by rw [hlen]; exact hcs, by rw [hlen]; exact hl, hm, fun x hx => bounds_i64 (hwz x (List.mem_of_mem_take hx)), ?_⟩
    by_cases h0 : len = 0
    · left; rw [h0]; rfl
    · right
      have hc0 := hcell 0 (by omega)
      have ha := spot_none hc0
      refine ⟨a.block, a.off, by rw [← ha], ?_, fun i hi => ?_⟩
      · have := World.block_lt_of_cell? W _ hc0; rw [add_zero] at this; exact this
      · rw [hlen] at hi
        have := hcell i (by omega)
        rw [ha, add_none] at this
        rw [this]
        congr 2
        simp [hi]

theorem rows_in {H : Type} {enc : TypeId × Value → H} {W : World} {held : Bool} {n : Nat} {c : Value} {y : DataW H × List MemPlace}
    (h : DataW.trod enc Try.prog W 0 (fun _ => true) held n 22 [c] = some y) : ∃ M, PM.Rows W c M := by
  rcases open_int_rows Try.underlying22 Try.underlying23 Try.underlying2 (by kernel_rfl) (by kernel_rfl) h with ⟨hcs, _⟩ | ⟨a, len, cap, A, L, C, Z, hcs, _, hl, hm, _, hr⟩
  · simp only [List.cons.injEq, and_true] at hcs
    exact ⟨[], none, 0, hcs, Nat.le_refl _, Nat.zero_le _, .inl rfl⟩
  · simp only [List.cons.injEq, and_true] at hcs
    refine ⟨(List.range len).map fun r => (Z r).take (L r), some a, cap, by simpa using hcs, by simpa using hl, hm, ?_⟩
    by_cases h0 : len = 0
    · left; rw [h0]; rfl
    · right
      have hc0 := (hr 0 (by omega)).1
      have ha := spot_none hc0
      refine ⟨a.block, a.off, by rw [← ha], ?_, fun i hi => ?_⟩
      · have := World.block_lt_of_cell? W _ hc0; rw [add_zero] at this; exact this
      · have hi' : i < len := by simpa using hi
        obtain ⟨hc, hLC, hCm, hZ, hwz, hnil, hcell⟩ := hr i (by omega)
        rw [ha, add_none] at hc
        have e : ((List.range len).map fun r => (Z r).take (L r)).getD i [] = (Z i).take (L i) := by simp [hi']
        rw [e]
        have hlen : ((Z i).take (L i)).length = L i := by rw [List.length_take]; omega
        refine ⟨_, hc, A i, C i, by rw [hlen], by rw [hlen]; exact hLC, hCm, fun x hx => bounds_i64 (hwz x (List.mem_of_mem_take hx)), ?_⟩
        by_cases hL : L i = 0
        · left; rw [hL]; rfl
        · right
          cases hA : A i with
          | none => have := hnil hA; omega
          | some a' =>
            have hcc := (hcell a' hA).2
            have hc1 := hcc 0 (by omega)
            have ha' := spot_none hc1
            refine ⟨a'.block, a'.off, by rw [← ha'], ?_, fun j hj => ?_⟩
            · have := World.block_lt_of_cell? W _ hc1; rw [add_zero] at this; exact this
            · rw [hlen] at hj
              have := hcc j (by omega)
              rw [ha', add_none] at this
              rw [this]
              congr 2
              simp [hj]
end Go.Proofs.Ytgncaploccbfnaa
