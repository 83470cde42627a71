/-
  The exact law of SignsOfSet: both sides' answers, and the law.
-/
import Derived.Test.YtbikdlpdlcmkjaaPSgA
namespace Go.Proofs.Ytbikdlpdlcmkjaa.PW
open Go.RowKit Go.Proofs.Ytbikdlpdlcmkjaa
open Go.Proofs.Ytbikdlpdlcmkjaa.PM Go.Proofs.Ytbikdlpdlcmkjaa.PX

set_option maxHeartbeats 1000000 in
theorem implSignsOfSet_any (m q : Value) (M : List (List Int)) (Q : List Int) (s : Int) (w : World) (h1 : PM.Rows w m M) (h2 : Ints w q Q) :
    Calls Try.prog 34 #[.agg #[m, q], .int .i64 s] w (OutI w (sgOut M Q s)) := by
  have g1 := fun (w' : World) (h : Below w.heap.size w w') => h1.below h
  have g2 := fun (w' : World) (h : Below w.heap.size w w') => h2.below h
  obtain ⟨a1, c1, rfl, _⟩ := h1
  obtain ⟨a2, c2, rfl, _⟩ := h2
  rcases ptOut_cases M Q s with ⟨c, hc, hpo, hso⟩ | ⟨h, hp, hD⟩
  · rw [hso]
    have HC := Lib.hid hpo
    clear hpo hso
    rcases hc with rfl | rfl | rfl
    all_goals
      go_enter Try.func34, Try.ntmps34
      go_wp2_with fail
      refine (implPointOf_any _ _ M Q s _ (g1 _ (by (repeat' (first | (with_reducible exact Below.refl _ _) | (with_reducible assumption) | (with_reducible refine Below.alloc ?_ ?_ _) | (with_reducible refine Below.drew ?_) | (with_reducible refine below_drewN ?_ _) | (with_reducible refine Below.setCell ?_ ?_ _) | (with_reducible refine Below.trans ?_ (Below.mono (by with_reducible assumption) ?_)) | (with_reducible exact Below.size (by with_reducible assumption)) | go_size)))) (g2 _ (by (repeat' (first | (with_reducible exact Below.refl _ _) | (with_reducible assumption) | (with_reducible refine Below.alloc ?_ ?_ _) | (with_reducible refine Below.drew ?_) | (with_reducible refine below_drewN ?_ _) | (with_reducible refine Below.setCell ?_ ?_ _) | (with_reducible refine Below.trans ?_ (Below.mono (by with_reducible assumption) ?_)) | (with_reducible exact Below.size (by with_reducible assumption)) | go_size))))).mono ?_; rw [HC.out]; rintro e w1 ho; obtain ⟨a3, c3, rfl, hr, hb1⟩ := ho.out; dsimp only; clear ho hr; obtain ⟨hc_hb1, hf_hb1⟩ := bcell hb1; obtain ⟨hcA_hb1, hfA_hb1⟩ := bcellG (W0 := w) hb1 (by (repeat' (first | (with_reducible exact Below.refl _ _) | (with_reducible assumption) | (with_reducible refine Below.alloc ?_ ?_ _) | (with_reducible refine Below.drew ?_) | (with_reducible refine below_drewN ?_ _) | (with_reducible refine Below.setCell ?_ ?_ _) | (with_reducible refine Below.trans ?_ (Below.mono (by with_reducible assumption) ?_)) | (with_reducible exact Below.size (by with_reducible assumption)) | go_size))); have hz_hb1 := hb1.size; (try simp at hz_hb1); (try simp only [Nat.add_one_le_iff] at hz_hb1); have hz0_hb1 : w.heap.size < w1.heap.size := (by omega)
      go_wp2_with fail
      go_ret2
      exact outI_nil (by (repeat' (first | (with_reducible exact Below.refl _ _) | (with_reducible assumption) | (with_reducible refine Below.alloc ?_ ?_ _) | (with_reducible refine Below.drew ?_) | (with_reducible refine below_drewN ?_ _) | (with_reducible refine Below.setCell ?_ ?_ _) | (with_reducible refine Below.trans ?_ (Below.mono (by with_reducible assumption) ?_)) | (with_reducible exact Below.size (by with_reducible assumption)) | go_size)))
  · rw [sgOut_ok h hD]
    have HC := Lib.hid (ptOut_ok h hD)
    have f1 := (isPB_facts hp).1
    have f2 := (isPB_facts hp).2.1
    have HPL : Hid (∀ j, j < M.length → (ptL M Q s).getD j (0, 0) = ptF M Q s j) := by
      show ∀ j, j < M.length → _
      intro j hj
      unfold ptL
      simp [hj]
    have HLL : Hid ((ptL M Q s).length = M.length) := by
      show _ = _
      unfold ptL
      rw [rowF_length]
    have hmk := run_make_row' (P := Try.prog) 23 2 (.int .i64 0) 8 Try.underlying23 info_int rfl .i64 .i64 M.length (by omega) (by omega)
    clear h hp hD
    go_enter Try.func34, Try.ntmps34
    go_wp2_with fail
    refine (implPointOf_any _ _ M Q s _ (g1 _ (by (repeat' (first | (with_reducible exact Below.refl _ _) | (with_reducible assumption) | (with_reducible refine Below.alloc ?_ ?_ _) | (with_reducible refine Below.drew ?_) | (with_reducible refine below_drewN ?_ _) | (with_reducible refine Below.setCell ?_ ?_ _) | (with_reducible refine Below.trans ?_ (Below.mono (by with_reducible assumption) ?_)) | (with_reducible exact Below.size (by with_reducible assumption)) | go_size)))) (g2 _ (by (repeat' (first | (with_reducible exact Below.refl _ _) | (with_reducible assumption) | (with_reducible refine Below.alloc ?_ ?_ _) | (with_reducible refine Below.drew ?_) | (with_reducible refine below_drewN ?_ _) | (with_reducible refine Below.setCell ?_ ?_ _) | (with_reducible refine Below.trans ?_ (Below.mono (by with_reducible assumption) ?_)) | (with_reducible exact Below.size (by with_reducible assumption)) | go_size))))).mono ?_; rw [HC.out]; rintro e w1 ho; obtain ⟨a3, c3, rfl, hr, hb1⟩ := ho.out; dsimp only at hr; dsimp only; rw [HLL.out] at hr ⊢; clear ho; obtain ⟨hc_hb1, hf_hb1⟩ := bcell hb1; obtain ⟨hcA_hb1, hfA_hb1⟩ := bcellG (W0 := w) hb1 (by (repeat' (first | (with_reducible exact Below.refl _ _) | (with_reducible assumption) | (with_reducible refine Below.alloc ?_ ?_ _) | (with_reducible refine Below.drew ?_) | (with_reducible refine below_drewN ?_ _) | (with_reducible refine Below.setCell ?_ ?_ _) | (with_reducible refine Below.trans ?_ (Below.mono (by with_reducible assumption) ?_)) | (with_reducible exact Below.size (by with_reducible assumption)) | go_size))); have hz_hb1 := hb1.size; (try simp at hz_hb1); (try simp only [Nat.add_one_le_iff] at hz_hb1); have hz0_hb1 : w.heap.size < w1.heap.size := (by omega)
    have hw1 : Below w.heap.size w w1 := by (repeat' (first | (with_reducible exact Below.refl _ _) | (with_reducible assumption) | (with_reducible refine Below.alloc ?_ ?_ _) | (with_reducible refine Below.drew ?_) | (with_reducible refine below_drewN ?_ _) | (with_reducible refine Below.setCell ?_ ?_ _) | (with_reducible refine Below.trans ?_ (Below.mono (by with_reducible assumption) ?_)) | (with_reducible exact Below.size (by with_reducible assumption)) | go_size))
    have hown := hr.own
    obtain ⟨g, hg, hgl⟩ : ∃ g, a3 = some ⟨g, 0, none⟩ ∧ g < w1.heap.size := by
      rcases hown.cases with ⟨hv, hn⟩ | ⟨g, cap, hv, hlt⟩
      · have := HLL.out; rw [hn] at this; simp at this; omega
      · simp at hv; exact ⟨g, hv.1, hlt⟩
    subst hg
    have HOW := Lib.hid hown
    have HZ := Lib.hid (zeros_fresh w1 M.length (by unfold maxLen; omega))
    have hsg : sgL M Q s = (List.range M.length).map fun j => sgn (ptF M Q s j).1 := rfl
    have HSG := Lib.hid hsg
    obtain ⟨G, hG⟩ : ∃ G : Nat → Int, G = fun j => sgn (ptF M Q s j).1 := ⟨_, rfl⟩
    have HG := Lib.hid hG
    clear hown hr hsg hG
    go_wp2_with fail
    go_loopw [9, 10, 25] (fun _ _ i wr => ∃ k : Nat, k ≤ M.length ∧ i = .int .i64 k ∧ FreshI w1.heap.size wr (.slice (some ⟨w1.heap.size, 0, none⟩) M.length M.length) (fillI M.length k G) ∧ Below w1.heap.size w1 wr) (fun _ _ i _ => M.length - (intOf i).toNat)
    case atStart => exact ⟨0, Nat.zero_le _, rfl, by rw [fillI_zero]; exact HZ.out, (Below.refl _ _).alloc (Nat.le_refl _) _⟩
    case round =>
      obtain ⟨k, hk, rfl, hO, hB⟩ := hrel
      by_cases hlt : k < M.length
      · have ho := HOW.out.below hB hgl
        have t0 := ho.cell0 HLL.out.symm hlt
        have t1 := ho.cell1 HLL.out.symm hlt
        rw [HPL.out k hlt] at t0 t1
        have hGk : G k = sgn (ptF M Q s k).1 := by rw [HG.out]
        obtain ⟨_, _, hvv, _, hz4, hoo⟩ := id hO
        have hgz : w1.heap.size < wr.heap.size := by simp at hvv; omega
        clear hvv hz4
        have hl : M.length = (fillI M.length k G).length := by simp [fillI]
        have c6 := own_cellN hoo hl hlt
        have c7 := own_frozenN hoo hl k
        have hal : Below wr.heap.size wr (wr.alloc (.cells #[.int .i64 (ptF M Q s k).1, .int .i64 (ptF M Q s k).2] 69)) := (Below.refl _ _).alloc (Nat.le_refl _) _
        have hst := (hO.below hal).set k (G k)
        have hbl := (hB.trans (hal.mono hB.size)).setCell (p := ⟨w1.heap.size, k, none⟩) (Nat.le_refl _) (.int .i64 (G k))
        rw [fillI_set, World.setCell_alloc_past _ _ _ _ hgz] at hst
        rw [World.setCell_alloc_past _ _ _ _ hgz] at hbl
        rw [hGk] at hst hbl
        have HST := Lib.hid hst
        have HBL := Lib.hid hbl
        clear hst hbl hal hl hoo hO hB ho hGk
        generalize (ptF M Q s k).1 = x at *
        generalize (ptF M Q s k).2 = y at *
        generalize (fillI M.length k G).getD k 0 = z at *
        go_wp2_with fail
        refine (compare_any _ _).mono ?_
        rintro e w' ⟨rfl, rfl⟩
        generalize sgn x = sx at *
        go_wp2_with fail
        go_roundw
        case rel => exact ⟨k + 1, by omega, by go_num, HST.out, HBL.out⟩
        case measure => simp [intOf]; omega
      · obtain rfl : k = M.length := by omega
        rw [fillI_all, HG.out, ← HSG.out] at hO
        have HO := Lib.hid hO
        have HB := Lib.hid hB
        clear hO hB
        go_wp2_with fail
        go_ret2
        exact ⟨_, rfl, (HO.out.mono hw1.size).rng, hw1.trans (HB.out.mono hw1.size)⟩
end Go.Proofs.Ytbikdlpdlcmkjaa.PW
