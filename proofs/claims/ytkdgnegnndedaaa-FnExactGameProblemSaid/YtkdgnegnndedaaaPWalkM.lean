/-
  Walks of the laws' own helpers: marks written into what a call owns, and read again.
-/
import Derived.Test.YtkdgnegnndedaaaPOwn
namespace Go.Proofs.Ytkdgnegnndedaaa.PW
open Go.RowKit Go.Proofs.Ytkdgnegnndedaaa
open Go.Proofs.Ytkdgnegnndedaaa.PM

theorem markInt64S_any (v : Value) (xs : List Int) (k : Int) (w : World) (hv : OwnI w v xs) (h0 : 0 ≤ k) (h1 : k + xs.length ≤ 4611686018427387904) :
    Calls Try.prog 42 #[v, .int .i64 k] w fun e w' => e = .returned (.int .i64 (k + xs.length)) ∧ OwnI w' v (marks k xs.length) ∧ Tch (blks v) w w' := by
  rcases hv.2 with ⟨rfl, hn⟩ | ⟨g, cap, cur, rfl, hg0, hg, hnc, hcm, hcs, htake⟩
  · have hx : xs = [] := List.length_eq_zero_iff.1 hn
    subst hx
    clear hn
    go_enter Try.func42, Try.ntmps42
    go_wp2
    go_rounds 1
    all_goals go_ret
    all_goals exact ⟨ret_int (by simp), hv, Tch.refl _ _⟩
  · clear hg0 hg hnc hcm hcs htake
    have HV := Lib.hid hv
    clear hv
    go_enter Try.func42, Try.ntmps42
    go_wp2
    go_loopw [1, 5] (fun s i wr => ∃ j : Nat, j ≤ xs.length ∧ i = .int .i64 j ∧ s = .int .i64 (k + j) ∧ OwnI wr (.slice (some ⟨g, 0, none⟩) xs.length cap) (marked k xs j) ∧ Tch [g] w wr) (fun _ i _ => xs.length - (intOf i).toNat)
    case atStart => exact ⟨0, Nat.zero_le _, rfl, by simp, by rw [marked_zero]; exact HV.out, Tch.refl _ _⟩
    case round =>
      obtain ⟨j, hj, rfl, rfl, hown, ht⟩ := hrel
      by_cases hlt : j < xs.length
      · have hl := marked_length k xs j hj
        have hown' : wr.ownsRow 0 2 1 (.slice (some ⟨g, 0, none⟩) xs.length cap) xs.length ((marked k xs j).map (Value.int .i64)) := by
          have h := hown
          unfold OwnI at h
          rw [hl] at h
          exact h
        have hc := World.ownsRow.cellAt hown' j (by omega)
        have hf := World.ownsRow.frozenAt hown' j
        have hs := World.ownsRow.stored hown' j (.int .i64 (k + j))
        obtain ⟨x, hx⟩ : ∃ x, ((marked k xs j).map (Value.int .i64))[j]? = some x := ⟨_, List.getElem?_eq_getElem (by simp [hl, hlt])⟩
        rw [hx] at hc
        have hnext : Hid (OwnI (wr.setCell ⟨g, j, none⟩ (.int .i64 (k + j))) (.slice (some ⟨g, 0, none⟩) xs.length cap) (marked k xs (j + 1))) := by
          have h := hs.1
          rw [← List.map_set, marked_set k xs j hlt] at h
          show World.ownsRow _ _ _ _ _ _ _
          rw [marked_length k xs (j + 1) hlt]
          exact h
        have hnt : Hid (Tch [g] w (wr.setCell ⟨g, j, none⟩ (.int .i64 (k + j)))) := ht.setCell (by simp) _
        clear hx hs hown hown' hl ht
        go_wp2
        go_roundw
        case rel => exact ⟨j + 1, by omega, by go_num, by go_num, hnext, hnt⟩
        case measure => simp [intOf]; omega
      · obtain rfl : j = xs.length := by omega
        have hend : Hid (OwnI wr (.slice (some ⟨g, 0, none⟩) xs.length cap) (marks k xs.length)) := by rw [← marked_all]; exact hown
        clear hown
        go_wp2
        go_ret
        exact ⟨rfl, hend, ht⟩

theorem heldInt64S_any (v : Value) (n : Nat) (k : Int) (w : World) (hv : Ints w v (marks k n)) (h0 : 0 ≤ k) (h1 : k + n ≤ 4611686018427387904) :
    Calls Try.prog 43 #[v, .int .i64 k] w fun e w' => e = .returned (.int .i64 (k + n)) ∧ w = w' := by
  obtain ⟨a, cap, rfl, hc, hm0, _, hx⟩ := hv
  rw [marks_length] at hc ⊢
  clear hc hm0
  by_cases hn : n = 0
  · subst hn
    go_enter Try.func43, Try.ntmps43
    go_wp2
    go_rounds 1
    all_goals go_ret
    all_goals exact ⟨ret_int (by simp), rfl⟩
  rcases hx with hx | ⟨b, off, rfl, hlt, hcell⟩
  · have := marks_length k n
    rw [hx] at this
    simp at this
    omega
  have HC := Lib.hid hcell
  clear hcell hn
  go_enter Try.func43, Try.ntmps43
  go_wp2
  go_loop [1, 5] (fun s i => ∃ j : Nat, j ≤ n ∧ i = .int .i64 j ∧ s = .int .i64 (k + j)) (fun _ i => n - (intOf i).toNat)
  case atStart => exact ⟨0, Nat.zero_le _, rfl, by simp⟩
  case round =>
    obtain ⟨j, hj, rfl, rfl⟩ := hrel
    by_cases hlt3 : j < n
    · have h1c := HC.out j (by rw [marks_length]; exact hlt3)
      rw [marks_getD k n j hlt3] at h1c
      go_wp2
      go_round
      case rel => exact ⟨j + 1, by omega, by go_num, by go_num⟩
      case measure => simp [intOf]; omega
    · obtain rfl : j = n := by omega
      go_wp2
      go_ret
      exact ⟨rfl, rfl⟩

/-- Rows j < i are marked, the others as they were. -/
def midR (k : Int) (xss : List (List Int)) (i : Nat) (j : Nat) : List Int := if j < i then marks (k + (pre xss j : Int)) (xss.getD j []).length else xss.getD j []

structure Mid (w wr : World) (v : Value) (xss : List (List Int)) (us : List Value) (k : Int) (i : Nat) : Prop where
  tch : Tch (rblks us) w wr
  rows : ∀ j, j < xss.length → OwnI wr (us.getD j undef) (midR k xss i j)

theorem mid_start {w : World} {v : Value} {xss : List (List Int)} {us : List Value} (h : OwnR w v xss us) (k : Int) : Mid w w v xss us k 0 :=
  ⟨Tch.refl _ _, fun j hj => by have := h.rows j hj; simpa [midR] using this⟩
theorem mid_step {w wr w2 : World} {v : Value} {xss : List (List Int)} {us : List Value} {k : Int} {i : Nat} (h0 : OwnR w v xss us) (h : Mid w wr v xss us k i) (hi : i < xss.length)
    (ho : OwnI w2 (us.getD i undef) (marks (k + (pre xss i : Int)) (xss.getD i []).length)) (ht : Tch (blks (us.getD i undef)) wr w2) : Mid w w2 v xss us k (i + 1) := by
  refine ⟨h.tch.trans (ht.mono fun b hb => ?_), fun j hj => ?_⟩
  · refine mem_rblks (i := i) (by rw [h0.len]; exact hi) ?_
    unfold blks at hb
    simpa using hb
  · unfold midR
    by_cases e : j = i
    · subst e; rw [if_pos (by omega)]; exact ho
    · have h2 := (h.rows j hj).tch ht (fun b hb c => by
        unfold blks at c
        have c' : (us.getD i undef).ownBlock = some b := by simpa using c
        exact e (h0.apart j i b hj hi hb c'))
      unfold midR at h2
      by_cases hlt : j < i
      · rw [if_pos hlt] at h2; rw [if_pos (by omega)]; exact h2
      · rw [if_neg hlt] at h2; rw [if_neg (by omega)]; exact h2
theorem mid_end {w wr : World} {v : Value} {xss : List (List Int)} {us : List Value} {k : Int} (h0 : OwnR w v xss us) (h : Mid w wr v xss us k xss.length) : OwnR wr v (marksR k xss) us := by
  refine ⟨by rw [marksR_length]; exact h0.len, ?_, fun i hi => ?_, fun i j b hi hj => ?_, fun i b hi => ?_⟩
  · rw [marksR_length]
    refine ⟨h0.top.1, ?_⟩
    rcases h0.top.2 with h2 | ⟨g, cap, cur, hv, hb, hg, r⟩
    · exact .inl h2
    · refine .inr ⟨g, cap, cur, hv, hb, ?_, r⟩
      rw [h.tch.block g (fun c => ?_)]; exact hg
      obtain ⟨i, hi, hib⟩ := of_mem_rblks c
      exact h0.over i g (by rw [← h0.len]; exact hi) (by rw [hv]; rfl) hib
  · rw [marksR_length] at hi
    rw [marksR_getD _ _ _ hi]
    have := h.rows i hi
    unfold midR at this
    rw [if_pos hi] at this
    exact this
  · rw [marksR_length] at hi hj
    exact h0.apart i j b hi hj
  · rw [marksR_length] at hi
    exact h0.over i b hi

theorem OwnI.shape {w : World} {v : Value} {xs : List Int} (h : OwnI w v xs) : ∃ a cap, v = .slice a xs.length cap := by
  rcases h.2 with ⟨hv, hn⟩ | ⟨g, cap, cur, hv, _⟩
  · exact ⟨none, 0, by rw [hv, hn]⟩
  · exact ⟨_, cap, hv⟩

theorem markInt64SS_any (v : Value) (xss : List (List Int)) (us : List Value) (k : Int) (w : World) (hv : OwnR w v xss us) (h0 : 0 ≤ k) (h1 : k + tot xss ≤ 4611686018427387904) :
    Calls Try.prog 25 #[v, .int .i64 k] w fun e w' => e = .returned (.int .i64 (k + pre xss xss.length)) ∧ OwnR w' v (marksR k xss) us ∧ Tch (rblks us) w w' := by
  have hpl := fun i => pre_le xss i
  have hbnd : ∀ i, i < xss.length → (pre xss i : Int) + (xss.getD i []).length ≤ tot xss := fun i hi => by
    have a1 := pre_succ xss i hi
    have a2 := pre_le xss (i + 1)
    unfold tot
    omega
  have hnl : (xss.length : Int) ≤ tot xss := by unfold tot; omega
  have HB := Lib.hid hbnd
  clear hbnd hpl
  rcases hv.top.2 with ⟨rfl, hn⟩ | ⟨g, cap, cur, rfl, hg0, hg, hnc, hcm, hcs, htake⟩
  · have hx : xss = [] := List.length_eq_zero_iff.1 hn
    subst hx
    clear hn
    have hus : us = [] := by have := hv.len; simpa using this
    subst hus
    go_enter Try.func25, Try.ntmps25
    go_wp2
    go_rounds 1
    all_goals go_ret
    all_goals exact ⟨ret_int (by simp [pre]), mid_end hv (mid_start hv k), Tch.refl _ _⟩
  · clear hg0 hg hnc hcm hcs htake
    have HV := Lib.hid hv
    have HT := Lib.hid h1
    clear hv h1
    have hnl2 : (xss.length : Int) ≤ 4611686018427387904 := by have := HT.out; omega
    clear hnl
    go_enter Try.func25, Try.ntmps25
    go_wp2
    go_loopw [1, 5] (fun s i wr => ∃ j : Nat, j ≤ xss.length ∧ i = .int .i64 j ∧ s = .int .i64 (k + pre xss j) ∧ Mid w wr (.slice (some ⟨g, 0, none⟩) xss.length cap) xss us k j) (fun _ i _ => xss.length - (intOf i).toNat)
    case atStart => exact ⟨0, Nat.zero_le _, rfl, by rw [pre_zero]; simp, mid_start HV.out k⟩
    case round =>
      obtain ⟨j, hj, rfl, rfl, hmid⟩ := hrel
      by_cases hlt : j < xss.length
      · have hju : j < us.length := by rw [HV.out.len]; exact hlt
        have hcell : wr.cell? ⟨g, j, none⟩ = some (us.getD j undef) := by
          have htop := HV.out.top
          have hb : wr.heap[g]? = w.heap[g]? := hmid.tch.block g (fun c => by
            obtain ⟨i, hi, hib⟩ := of_mem_rblks c
            exact HV.out.over i g (by rw [← HV.out.len]; exact hi) rfl hib)
          rw [World.cell?_of_block (w := w) (a := ⟨g, j, none⟩) hb, World.ownsRow.cellAt htop j (by omega)]
          simp [hju]
        have hrow := hmid.rows j hlt
        unfold midR at hrow
        rw [if_neg (Nat.lt_irrefl j)] at hrow
        have hb1 := HB.out j hlt
        have hb2 := HT.out
        have hk1 : 0 ≤ k + (pre xss j : Int) := by omega
        have hk2 : k + (pre xss j : Int) + (xss.getD j []).length ≤ 4611686018427387904 := by omega
        have hps := pre_succ xss j hlt
        have hnew : k + (pre xss j : Int) + ((xss.getD j []).length : Int) = k + (pre xss (j + 1) : Int) := by rw [hps]; omega
        have HNW := Lib.hid hnew
        have hstep := fun (w2 : World) ho ht => mid_step (w2 := w2) HV.out hmid hlt ho ht
        have HST := Lib.hid hstep
        clear hb1 hb2 hps hnew hstep hmid
        obtain ⟨ra, rc, hsh⟩ := OwnI.shape hrow
        obtain ⟨L, hL⟩ : ∃ L, L = (xss.getD j []).length := ⟨_, rfl⟩
        rw [← hL] at hsh
        rw [hsh] at hcell
        clear hL
        have HSH := Lib.hid hsh
        have HRW := Lib.hid hrow
        clear hsh hrow hju
        go_wp2_with fail
        rw [← HSH.out]
        refine (markInt64S_any _ _ _ _ HRW.out hk1 hk2).mono ?_
        rintro e w2 ⟨rfl, ho, ht⟩
        rw [HNW.out]
        have hnext := HST.out w2 ho ht
        clear ho ht
        go_wp2_with fail
        go_roundw
        case rel => exact ⟨j + 1, by omega, by go_num, rfl, hnext⟩
        case measure => simp [intOf]; omega
      · obtain rfl : j = xss.length := by omega
        go_wp2
        go_ret
        exact ⟨rfl, mid_end HV.out hmid, hmid.tch⟩

theorem heldInt64SS_any (v : Value) (xss : List (List Int)) (k : Int) (w : World) (hv : PM.Rows w v (marksR k xss)) (h0 : 0 ≤ k) (h1 : k + tot xss ≤ 4611686018427387904) :
    Calls Try.prog 26 #[v, .int .i64 k] w fun e w' => e = .returned (.int .i64 (k + pre xss xss.length)) ∧ w = w' := by
  have hbnd : ∀ i, i < xss.length → (pre xss i : Int) + (xss.getD i []).length ≤ tot xss := fun i hi => by
    have a1 := pre_succ xss i hi
    have a2 := pre_le xss (i + 1)
    unfold tot
    omega
  have hnl : (xss.length : Int) ≤ tot xss := by unfold tot; omega
  have HB := Lib.hid hbnd
  clear hbnd
  obtain ⟨a, cap, rfl, hc, hm0, hx⟩ := hv
  rw [marksR_length] at hc ⊢
  clear hc hm0
  by_cases hn : xss = []
  · subst hn
    show Calls _ _ #[.slice a 0 cap, .int .i64 k] _ _
    go_enter Try.func26, Try.ntmps26
    go_wp2
    go_rounds 1
    all_goals go_ret
    all_goals exact ⟨ret_int (by simp [pre]), rfl⟩
  rcases hx with hx | ⟨b, off, rfl, hlt, hcell⟩
  · have := marksR_length k xss
    rw [hx] at this
    exact absurd (List.length_eq_zero_iff.1 (by simpa using this.symm)) hn
  have HC := Lib.hid hcell
  have HT := Lib.hid h1
  have hnl2 : (xss.length : Int) ≤ 4611686018427387904 := by omega
  clear hcell hn h1 hnl
  go_enter Try.func26, Try.ntmps26
  go_wp2
  go_loop [1, 5] (fun s i => ∃ j : Nat, j ≤ xss.length ∧ i = .int .i64 j ∧ s = .int .i64 (k + pre xss j)) (fun _ i => xss.length - (intOf i).toNat)
  case atStart => exact ⟨0, Nat.zero_le _, rfl, by rw [pre_zero]; simp⟩
  case round =>
    obtain ⟨j, hj, rfl, rfl⟩ := hrel
    by_cases hlt3 : j < xss.length
    · obtain ⟨u, hu, hI⟩ := HC.out j (by rw [marksR_length]; exact hlt3)
      rw [marksR_getD k xss j hlt3] at hI
      have hb1 := HB.out j hlt3
      have hb2 := HT.out
      have hk1 : 0 ≤ k + (pre xss j : Int) := by omega
      have hk2 : k + (pre xss j : Int) + (xss.getD j []).length ≤ 4611686018427387904 := by omega
      have hps := pre_succ xss j hlt3
      have hnew : k + (pre xss j : Int) + ((xss.getD j []).length : Int) = k + (pre xss (j + 1) : Int) := by rw [hps]; omega
      have HNW := Lib.hid hnew
      have hsg : Hid (¬ k + (pre xss (j + 1) : Int) < 0) := by show ¬ _; omega
      have hdec : decide (k + (pre xss (j + 1) : Int) < 0) = false := decide_eq_false hsg.out
      clear hb1 hb2 hps hnew
      have HI := Lib.hid hI
      obtain ⟨ra, rc, hsh, _⟩ := hI
      obtain ⟨L, hL⟩ : ∃ L, L = (marks (k + (pre xss j : Int)) (xss.getD j []).length).length := ⟨_, rfl⟩
      rw [← hL] at hsh
      rw [hsh] at hu
      clear hL
      have HSH := Lib.hid hsh
      clear hsh
      go_wp2_with fail
      rw [← HSH.out]
      refine (heldInt64S_any _ _ _ _ HI.out hk1 hk2).mono ?_
      rintro e w2 ⟨rfl, rfl⟩
      rw [HNW.out]
      go_wp2_with fail
      go_round
      case rel => exact ⟨j + 1, by omega, by go_num, rfl⟩
      case measure => simp [intOf]; omega
    · obtain rfl : j = xss.length := by omega
      go_wp2
      go_ret
      exact ⟨rfl, rfl⟩
end Go.Proofs.Ytkdgnegnndedaaa.PW
