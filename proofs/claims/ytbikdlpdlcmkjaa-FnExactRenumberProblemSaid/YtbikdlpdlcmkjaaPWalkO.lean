/-
  Walks: is a list a numbering? In the model.
-/
import Derived.Test.YtbikdlpdlcmkjaaPWalkQ
namespace Go.Proofs.Ytbikdlpdlcmkjaa.PW
open Go.RowKit Go.Proofs.Ytbikdlpdlcmkjaa
open Go.Proofs.Ytbikdlpdlcmkjaa.PM

theorem info_bool : (Try.prog.info? 4).map (fun i => (i.zero, i.size, i.bytes)) = some (some (.bool false), 1, 1) := by kernel_rfl

theorem l01Order_any (v : Value) (xs : List Int) (n : Nat) (w : World) (hv : Ints w v xs) (hn1 : 1 ≤ n) (hn : n ≤ 1000) :
    Calls Try.prog 55 #[v, .int .i64 n] w fun e w' => e = .returned (.bool (numB xs n)) ∧ Below w.heap.size w w' := by
  obtain ⟨a, cap, rfl, hc, hm0, _, hx⟩ := hv
  have hm := maxLen_le (Nat.le_trans hc hm0)
  have hcell : ∃ b off, xs = [] ∨ (a = some ⟨b, off, none⟩ ∧ b < w.heap.size ∧ CellsAt w b off xs) := by
    rcases hx with hx | ⟨b, off, ha, hlt, hce⟩
    · exact ⟨0, 0, .inl hx⟩
    · exact ⟨b, off, .inr ⟨ha, hlt, hce⟩⟩
  obtain ⟨b, off, hcell⟩ := hcell
  have HC := Lib.hid hcell
  clear hcell hx hc hm0
  obtain ⟨r, hr⟩ : ∃ r, r = numB xs n := ⟨_, rfl⟩
  have hb : r = true ↔ xs.length = n ∧ (∀ x, x ∈ xs → 0 ≤ x ∧ x < n) ∧ xs.Nodup := by rw [hr, numB_iff2]
  have HB := Lib.hid hb
  rw [← hr]
  clear hr hb
  have hmk := run_make_row' (P := Try.prog) 98 4 (.bool false) 1 Try.underlying98 info_bool rfl .i64 .i64 n (by omega) (by omega)
  go_enter Try.func55, Try.ntmps55
  go_wp2
  go_loopw [6] (fun i wr => ∃ k : Nat, k ≤ xs.length ∧ i = .int .i64 k ∧ Below w.heap.size w wr ∧ wr.rowIs w.heap.size 4 n (fun j => .bool (decide ((j : Int) ∈ xs.take k))) ∧ (xs.take k).Nodup ∧ ∀ x, x ∈ xs.take k → 0 ≤ x ∧ x < n) (fun i _ => xs.length - (intOf i).toNat)
  case atStart =>
    refine ⟨0, Nat.zero_le _, rfl, (Below.refl _ _).alloc (Nat.le_refl _) _, (World.rowIs_made w _ _ _).congr (fun i _ => by simp), by simp, by simp⟩
  case round =>
    obtain ⟨k, hk, rfl, hbel, hrow, hnd, hrg⟩ := hrel
    by_cases hlt : k < xs.length
    · have hcell : a = some ⟨b, off, none⟩ ∧ b < w.heap.size ∧ CellsAt w b off xs := by
        rcases HC.out with h | h
        · rw [h] at hlt; simp at hlt
        · exact h
      obtain ⟨rfl, hblt, hce⟩ := hcell
      have hu := (hbel.cell (p := ⟨b, off + k, none⟩) hblt).trans (hce k hlt)
      have hxm : xs.getD k 0 ∈ xs := by simp [hlt]
      have htk : xs.take (k + 1) = xs.take k ++ [xs.getD k 0] := by
        rw [List.take_succ_eq_append_getElem hlt]
        simp [hlt]
      have hmx : ∀ y, y ∈ xs.take k → y ∈ xs := fun y hy => List.mem_of_mem_take hy
      have hdx : xs = xs.take k ++ xs.getD k 0 :: xs.drop (k + 1) := by
        have h1 : xs.drop k = xs[k] :: xs.drop (k + 1) := List.drop_eq_getElem_cons hlt
        have h2 := List.take_append_drop k xs
        rw [h1] at h2
        simp only [List.getD_eq_getElem?_getD, List.getElem?_eq_getElem hlt, Option.getD_some]
        exact h2.symm
      have hdup : xs.getD k 0 ∈ xs.take k → r = false := fun hm' => by
        cases hrr : r
        · rfl
        · obtain ⟨_, _, hnd2⟩ := HB.out.1 hrr
          rw [hdx, List.nodup_append] at hnd2
          exact absurd rfl (hnd2.2.2 _ hm' _ (List.mem_cons_self))
      have hout : ¬ (0 ≤ xs.getD k 0 ∧ xs.getD k 0 ≤ (n : Int) - 1) → r = false := fun hno => by
        cases hrr : r
        · rfl
        · have := (HB.out.1 hrr).2.1 _ hxm
          exact absurd ⟨this.1, by omega⟩ hno
      have HTK := Lib.hid htk
      have HDUP := Lib.hid hdup
      have HOUT := Lib.hid hout
      have HND := Lib.hid hnd
      have HRG := Lib.hid hrg
      have HROW := Lib.hid hrow
      clear htk hdup hout hnd hrg hce hxm hmx hdx
      generalize xs.getD k 0 = x at *
      by_cases hin : 0 ≤ x ∧ x ≤ (n : Int) - 1
      · have hd : decide (0 ≤ x ∧ x ≤ (n : Int) - 1) = true := decide_eq_true hin
        have HD := Lib.hid hd
        clear hd
        obtain ⟨hx0, hx1⟩ := hin
        obtain ⟨j, rfl⟩ := Int.eq_ofNat_of_zero_le hx0
        have hj : j < n := by omega
        have hc := HROW.out.cell hj
        have hf := HROW.out.frozen j
        have hzl := HROW.out.lt
        by_cases hmem : (j : Int) ∈ xs.take k
        · have hr := HDUP.out hmem
          subst hr
          have hdt : decide ((j : Int) ∈ xs.take k) = true := decide_eq_true hmem
          rw [hdt] at hc
          clear hdt hmem hrow
          go_wp2_with fail
          refine (l01In_is _ 0 ((n : Int) - 1) true _ HD.out).mono ?_; rintro e w2 ⟨rfl, rfl⟩
          go_wp2_with fail
          go_ret
          exact ⟨rfl, hbel⟩
        · have hdt : decide ((j : Int) ∈ xs.take k) = false := decide_eq_false hmem
          rw [hdt] at hc
          have HM := Lib.hid hmem
          clear hdt hmem hrow
          go_wp2_with fail
          refine (l01In_is _ 0 ((n : Int) - 1) true _ HD.out).mono ?_; rintro e w2 ⟨rfl, rfl⟩
          go_wp2_with fail
          go_roundw
          case rel =>
            refine ⟨k + 1, by omega, by go_num, hbel.setCell (Nat.le_refl _) _, (HROW.out.set j _).congr (fun i hi => ?_), ?_, fun y hy => ?_⟩
            · rw [HTK.out]
              by_cases e : i = j
              · subst e; simp
              · have : ¬ (i : Int) = (j : Int) := by omega
                rw [if_neg e]
                simp [this]
            · rw [HTK.out, List.nodup_append]
              exact ⟨HND.out, by simp, fun y hy z hz c => by rw [List.mem_singleton.1 hz] at c; rw [c] at hy; exact HM.out hy⟩
            · rw [HTK.out, List.mem_append, List.mem_singleton] at hy
              rcases hy with hy | rfl
              · exact HRG.out y hy
              · omega
          case measure => simp [intOf]; omega
      · have hr := HOUT.out hin
        subst hr
        have hd : decide (0 ≤ x ∧ x ≤ (n : Int) - 1) = false := decide_eq_false hin
        have HD := Lib.hid hd
        clear hd hin hrow
        go_wp2_with fail
        refine (l01In_is _ 0 ((n : Int) - 1) false _ HD.out).mono ?_; rintro e w2 ⟨rfl, rfl⟩
        go_wp2_with fail
        go_ret
        exact ⟨rfl, hbel⟩
    · obtain rfl : k = xs.length := by omega
      rw [List.take_length] at hnd hrg
      have hfin : r = decide ((xs.length : Int) = (n : Int)) := by
        by_cases e : xs.length = n
        · rw [HB.out.2 ⟨e, hrg, hnd⟩]
          exact (decide_eq_true (by omega)).symm
        · cases hrr : r
          · exact (decide_eq_false (by omega)).symm
          · exact absurd (HB.out.1 hrr).1 e
      subst hfin
      clear hrow hnd hrg HB
      go_wp2_with fail
      go_ret
      exact ⟨rfl, hbel⟩
end Go.Proofs.Ytbikdlpdlcmkjaa.PW
