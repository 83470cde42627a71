/-
  Walks: programs of the laws: sizes, copies, comparisons, marks.
-/
import Derived.Test.YtgncaploccbfnaaPAnsR
import Derived.Test.YtgncaploccbfnaaLKX
namespace Go.Proofs.Ytgncaploccbfnaa.PW
open Go.RowKit Go.Proofs.Ytgncaploccbfnaa
open Go.Proofs.Ytgncaploccbfnaa.PM

def szWn (D : List (List Int)) (C : List Int) (A : List (List Int)) (B : List Int) : Nat := tot D + C.length + tot A + B.length
theorem szW_a {D : List (List Int)} {C : List Int} {A : List (List Int)} {B : List Int} {left l1 : Int} (h : l1 = szR D left) (c : l1 < 0) : (-1 : Int) = szI (szWn D C A B) left := by
  unfold szR at h; unfold szI szWn; split at h <;> split <;> omega
theorem szW_b {D : List (List Int)} {C : List Int} {A : List (List Int)} {B : List Int} {left l1 l2 : Int} (h : l1 = szR D left) (c1 : 0 ≤ l1) (h2 : l2 = szI C.length l1) (c : l2 < 0) : (-1 : Int) = szI (szWn D C A B) left := by
  unfold szR at h; unfold szI at h2; unfold szI szWn; split at h <;> split at h2 <;> split <;> omega
theorem szW_c {D : List (List Int)} {C : List Int} {A : List (List Int)} {B : List Int} {left l1 l2 l3 : Int} (h : l1 = szR D left) (c1 : 0 ≤ l1) (h2 : l2 = szI C.length l1) (c2 : 0 ≤ l2) (h3 : l3 = szR A l2) (c : l3 < 0) : (-1 : Int) = szI (szWn D C A B) left := by
  unfold szR at h h3; unfold szI at h2; unfold szI szWn; split at h <;> split at h2 <;> split at h3 <;> split <;> omega
theorem szW_d {D : List (List Int)} {C : List Int} {A : List (List Int)} {B : List Int} {left l1 l2 l3 l4 : Int} (h : l1 = szR D left) (c1 : 0 ≤ l1) (h2 : l2 = szI C.length l1) (c2 : 0 ≤ l2) (h3 : l3 = szR A l2) (c3 : 0 ≤ l3) (h4 : l4 = szI B.length l3) : l4 = szI (szWn D C A B) left ∧ (l4 < 0 → l4 = -1) := by
  unfold szR at h h3; unfold szI at h2 h4; unfold szI szWn; split at h <;> split at h2 <;> split at h3 <;> split at h4 <;> split <;> omega
theorem szR_le {D : List (List Int)} {left l : Int} (h : l = szR D left) (h1 : left ≤ 1048576) : l ≤ 1048576 := by
  unfold szR at h; split at h <;> omega
theorem szI_le {n : Nat} {left l : Int} (h : l = szI n left) (h1 : left ≤ 1048576) : l ≤ 1048576 := by
  unfold szI at h; split at h <;> omega
set_option maxHeartbeats 1000000 in
theorem szW_x (d c a b : Value) (D : List (List Int)) (C : List Int) (A : List (List Int)) (B : List Int) (left : Int) (w : World) (h1 : PM.Rows w d D) (h2 : Ints w c C) (h3 : PM.Rows w a A) (h4 : Ints w b B) (h0 : 0 ≤ left) (hl : left ≤ 1048576) :
    Calls Try.prog 36 #[.agg #[d, c, a, b], .int .i64 left] w fun e w' => e = .returned (.int .i64 (szI (szWn D C A B) left)) ∧ Below w.heap.size w w' := by
  have g1 := fun (w' : World) (h : Below w.heap.size w w') => h1.below h
  have g3 := fun (w' : World) (h : Below w.heap.size w w') => h3.below h
  obtain ⟨a1, c1, rfl, _⟩ := h1
  obtain ⟨a2, c2, rfl, hl2, hm2, _⟩ := h2
  obtain ⟨a3, c3, rfl, _⟩ := h3
  obtain ⟨a4, c4, rfl, hl4, hm4, _⟩ := h4
  have hm := maxLen_le (Nat.le_trans hl2 hm2)
  have hn := maxLen_le (Nat.le_trans hl4 hm4)
  clear hl2 hm2 hl4 hm4
  go_enter Try.func36, Try.ntmps36
  go_wp2_with fail
  refine (szInt64SS_any _ D _ _ (g1 _ (by (repeat' (first | (with_reducible exact Below.refl _ _) | (with_reducible assumption) | (with_reducible refine Below.alloc ?_ ?_ _) | (with_reducible refine Below.drew ?_) | (with_reducible refine below_drewN ?_ _) | (with_reducible refine Below.setCell ?_ ?_ _) | (with_reducible refine Below.trans ?_ (Below.mono (by with_reducible assumption) ?_)) | (with_reducible exact Below.size (by with_reducible assumption)) | go_size)))) (by omega) (by omega)).mono ?_; rintro e _ ⟨rfl, rfl⟩
  obtain ⟨l1, e1⟩ : ∃ l, l = szR D left := ⟨_, rfl⟩
  rw [← e1]
  have hl1 := szR_le e1 hl
  have E1 := Lib.hid e1
  clear e1
  by_cases k1 : l1 < 0
  · go_wp2_with fail
    go_ret
    exact ⟨ret_i64 (szW_a E1.out k1), by (repeat' (first | (with_reducible exact Below.refl _ _) | (with_reducible assumption) | (with_reducible refine Below.alloc ?_ ?_ _) | (with_reducible refine Below.drew ?_) | (with_reducible refine below_drewN ?_ _) | (with_reducible refine Below.setCell ?_ ?_ _) | (with_reducible refine Below.trans ?_ (Below.mono (by with_reducible assumption) ?_)) | (with_reducible exact Below.size (by with_reducible assumption)) | go_size))⟩
  have k1' : 0 ≤ l1 := by omega
  go_wp2_with fail
  refine (szInt64S_any _ _ _ _ _ hm (by omega) (by omega)).mono ?_; rintro e _ ⟨rfl, rfl⟩
  obtain ⟨l2, e2⟩ : ∃ l, l = szI C.length l1 := ⟨_, rfl⟩
  rw [← e2]
  have hl2 := szI_le e2 hl1
  have E2 := Lib.hid e2
  clear e2
  by_cases k2 : l2 < 0
  · go_wp2_with fail
    go_ret
    exact ⟨ret_i64 (szW_b E1.out k1' E2.out k2), by (repeat' (first | (with_reducible exact Below.refl _ _) | (with_reducible assumption) | (with_reducible refine Below.alloc ?_ ?_ _) | (with_reducible refine Below.drew ?_) | (with_reducible refine below_drewN ?_ _) | (with_reducible refine Below.setCell ?_ ?_ _) | (with_reducible refine Below.trans ?_ (Below.mono (by with_reducible assumption) ?_)) | (with_reducible exact Below.size (by with_reducible assumption)) | go_size))⟩
  have k2' : 0 ≤ l2 := by omega
  go_wp2_with fail
  refine (szInt64SS_any _ A _ _ (g3 _ (by (repeat' (first | (with_reducible exact Below.refl _ _) | (with_reducible assumption) | (with_reducible refine Below.alloc ?_ ?_ _) | (with_reducible refine Below.drew ?_) | (with_reducible refine below_drewN ?_ _) | (with_reducible refine Below.setCell ?_ ?_ _) | (with_reducible refine Below.trans ?_ (Below.mono (by with_reducible assumption) ?_)) | (with_reducible exact Below.size (by with_reducible assumption)) | go_size)))) (by omega) (by omega)).mono ?_; rintro e _ ⟨rfl, rfl⟩
  obtain ⟨l3, e3⟩ : ∃ l, l = szR A l2 := ⟨_, rfl⟩
  rw [← e3]
  have hl3 := szR_le e3 hl2
  have E3 := Lib.hid e3
  clear e3
  by_cases k3 : l3 < 0
  · go_wp2_with fail
    go_ret
    exact ⟨ret_i64 (szW_c E1.out k1' E2.out k2' E3.out k3), by (repeat' (first | (with_reducible exact Below.refl _ _) | (with_reducible assumption) | (with_reducible refine Below.alloc ?_ ?_ _) | (with_reducible refine Below.drew ?_) | (with_reducible refine below_drewN ?_ _) | (with_reducible refine Below.setCell ?_ ?_ _) | (with_reducible refine Below.trans ?_ (Below.mono (by with_reducible assumption) ?_)) | (with_reducible exact Below.size (by with_reducible assumption)) | go_size))⟩
  have k3' : 0 ≤ l3 := by omega
  go_wp2_with fail
  refine (szInt64S_any _ _ _ _ _ hn (by omega) (by omega)).mono ?_; rintro e _ ⟨rfl, rfl⟩
  obtain ⟨l4, e4⟩ : ∃ l, l = szI B.length l3 := ⟨_, rfl⟩
  rw [← e4]
  have E4 := Lib.hid e4
  clear e4
  by_cases k4 : l4 < 0
  · go_wp2_with fail
    go_ret
    exact ⟨ret_i64 (((szW_d E1.out k1' E2.out k2' E3.out k3' E4.out).2 k4).symm.trans (szW_d E1.out k1' E2.out k2' E3.out k3' E4.out).1), by (repeat' (first | (with_reducible exact Below.refl _ _) | (with_reducible assumption) | (with_reducible refine Below.alloc ?_ ?_ _) | (with_reducible refine Below.drew ?_) | (with_reducible refine below_drewN ?_ _) | (with_reducible refine Below.setCell ?_ ?_ _) | (with_reducible refine Below.trans ?_ (Below.mono (by with_reducible assumption) ?_)) | (with_reducible exact Below.size (by with_reducible assumption)) | go_size))⟩
  have k4' : 0 ≤ l4 := by omega
  go_wp2_with fail
  go_ret
  exact ⟨ret_i64 (szW_d E1.out k1' E2.out k2' E3.out k3' E4.out).1, by (repeat' (first | (with_reducible exact Below.refl _ _) | (with_reducible assumption) | (with_reducible refine Below.alloc ?_ ?_ _) | (with_reducible refine Below.drew ?_) | (with_reducible refine below_drewN ?_ _) | (with_reducible refine Below.setCell ?_ ?_ _) | (with_reducible refine Below.trans ?_ (Below.mono (by with_reducible assumption) ?_)) | (with_reducible exact Below.size (by with_reducible assumption)) | go_size))⟩

theorem eqW_x (d c a b d2 c2 a2 b2 : Value) (D : List (List Int)) (C : List Int) (A : List (List Int)) (B : List Int) (w : World) (h1 : PM.Rows w d D) (h2 : Ints w c C) (h3 : PM.Rows w a A) (h4 : Ints w b B)
    (i1 : PM.Rows w d2 D) (i2 : Ints w c2 C) (i3 : PM.Rows w a2 A) (i4 : Ints w b2 B) :
    Calls Try.prog 40 #[.agg #[d, c, a, b], .agg #[d2, c2, a2, b2]] w fun e w' => e = .returned (.bool true) ∧ Below w.heap.size w w' := by
  have g1 := fun (w' : World) (h : Below w.heap.size w w') => h1.below h
  have g2 := fun (w' : World) (h : Below w.heap.size w w') => h2.below h
  have g3 := fun (w' : World) (h : Below w.heap.size w w') => h3.below h
  have g4 := fun (w' : World) (h : Below w.heap.size w w') => h4.below h
  have f1 := fun (w' : World) (h : Below w.heap.size w w') => i1.below h
  have f2 := fun (w' : World) (h : Below w.heap.size w w') => i2.below h
  have f3 := fun (w' : World) (h : Below w.heap.size w w') => i3.below h
  have f4 := fun (w' : World) (h : Below w.heap.size w w') => i4.below h
  obtain ⟨x1, y1, rfl, _⟩ := h1
  obtain ⟨x2, y2, rfl, _⟩ := h2
  obtain ⟨x3, y3, rfl, _⟩ := h3
  obtain ⟨x4, y4, rfl, _⟩ := h4
  obtain ⟨z1, t1, rfl, _⟩ := i1
  obtain ⟨z2, t2, rfl, _⟩ := i2
  obtain ⟨z3, t3, rfl, _⟩ := i3
  obtain ⟨z4, t4, rfl, _⟩ := i4
  go_enter Try.func40, Try.ntmps40
  go_wp2_with fail
  refine (eqInt64SS_same _ _ D _ (g1 _ (by (repeat' (first | (with_reducible exact Below.refl _ _) | (with_reducible assumption) | (with_reducible refine Below.alloc ?_ ?_ _) | (with_reducible refine Below.drew ?_) | (with_reducible refine below_drewN ?_ _) | (with_reducible refine Below.setCell ?_ ?_ _) | (with_reducible refine Below.trans ?_ (Below.mono (by with_reducible assumption) ?_)) | (with_reducible exact Below.size (by with_reducible assumption)) | go_size)))) (f1 _ (by (repeat' (first | (with_reducible exact Below.refl _ _) | (with_reducible assumption) | (with_reducible refine Below.alloc ?_ ?_ _) | (with_reducible refine Below.drew ?_) | (with_reducible refine below_drewN ?_ _) | (with_reducible refine Below.setCell ?_ ?_ _) | (with_reducible refine Below.trans ?_ (Below.mono (by with_reducible assumption) ?_)) | (with_reducible exact Below.size (by with_reducible assumption)) | go_size))))).mono ?_; rintro e w1 ⟨rfl, hb1⟩; obtain ⟨hc_hb1, hf_hb1⟩ := bcell hb1; obtain ⟨hcA_hb1, hfA_hb1⟩ := bcellG (W0 := w) hb1 (by (repeat' (first | (with_reducible exact Below.refl _ _) | (with_reducible assumption) | (with_reducible refine Below.alloc ?_ ?_ _) | (with_reducible refine Below.drew ?_) | (with_reducible refine below_drewN ?_ _) | (with_reducible refine Below.setCell ?_ ?_ _) | (with_reducible refine Below.trans ?_ (Below.mono (by with_reducible assumption) ?_)) | (with_reducible exact Below.size (by with_reducible assumption)) | go_size))); have hz_hb1 := hb1.size; (try simp at hz_hb1); (try simp only [Nat.add_one_le_iff] at hz_hb1); have hz0_hb1 : w.heap.size < w1.heap.size := (by omega); have hz1_hb1 : w.heap.size + 1 < w1.heap.size := (by omega)
  go_wp2_with fail
  refine (eqInt64S_same _ _ C _ (g2 _ (by (repeat' (first | (with_reducible exact Below.refl _ _) | (with_reducible assumption) | (with_reducible refine Below.alloc ?_ ?_ _) | (with_reducible refine Below.drew ?_) | (with_reducible refine below_drewN ?_ _) | (with_reducible refine Below.setCell ?_ ?_ _) | (with_reducible refine Below.trans ?_ (Below.mono (by with_reducible assumption) ?_)) | (with_reducible exact Below.size (by with_reducible assumption)) | go_size)))) (f2 _ (by (repeat' (first | (with_reducible exact Below.refl _ _) | (with_reducible assumption) | (with_reducible refine Below.alloc ?_ ?_ _) | (with_reducible refine Below.drew ?_) | (with_reducible refine below_drewN ?_ _) | (with_reducible refine Below.setCell ?_ ?_ _) | (with_reducible refine Below.trans ?_ (Below.mono (by with_reducible assumption) ?_)) | (with_reducible exact Below.size (by with_reducible assumption)) | go_size))))).mono ?_; rintro e w2 ⟨rfl, hb2⟩; obtain ⟨hc_hb2, hf_hb2⟩ := bcell hb2; obtain ⟨hcA_hb2, hfA_hb2⟩ := bcellG (W0 := w1) hb2 (by (repeat' (first | (with_reducible exact Below.refl _ _) | (with_reducible assumption) | (with_reducible refine Below.alloc ?_ ?_ _) | (with_reducible refine Below.drew ?_) | (with_reducible refine below_drewN ?_ _) | (with_reducible refine Below.setCell ?_ ?_ _) | (with_reducible refine Below.trans ?_ (Below.mono (by with_reducible assumption) ?_)) | (with_reducible exact Below.size (by with_reducible assumption)) | go_size))); have hz_hb2 := hb2.size; (try simp at hz_hb2); (try simp only [Nat.add_one_le_iff] at hz_hb2); have hz0_hb2 : w.heap.size < w2.heap.size := (by omega); have hz1_hb2 : w.heap.size + 1 < w2.heap.size := (by omega)
  go_wp2_with fail
  refine (eqInt64SS_same _ _ A _ (g3 _ (by (repeat' (first | (with_reducible exact Below.refl _ _) | (with_reducible assumption) | (with_reducible refine Below.alloc ?_ ?_ _) | (with_reducible refine Below.drew ?_) | (with_reducible refine below_drewN ?_ _) | (with_reducible refine Below.setCell ?_ ?_ _) | (with_reducible refine Below.trans ?_ (Below.mono (by with_reducible assumption) ?_)) | (with_reducible exact Below.size (by with_reducible assumption)) | go_size)))) (f3 _ (by (repeat' (first | (with_reducible exact Below.refl _ _) | (with_reducible assumption) | (with_reducible refine Below.alloc ?_ ?_ _) | (with_reducible refine Below.drew ?_) | (with_reducible refine below_drewN ?_ _) | (with_reducible refine Below.setCell ?_ ?_ _) | (with_reducible refine Below.trans ?_ (Below.mono (by with_reducible assumption) ?_)) | (with_reducible exact Below.size (by with_reducible assumption)) | go_size))))).mono ?_; rintro e w3 ⟨rfl, hb3⟩; obtain ⟨hc_hb3, hf_hb3⟩ := bcell hb3; obtain ⟨hcA_hb3, hfA_hb3⟩ := bcellG (W0 := w2) hb3 (by (repeat' (first | (with_reducible exact Below.refl _ _) | (with_reducible assumption) | (with_reducible refine Below.alloc ?_ ?_ _) | (with_reducible refine Below.drew ?_) | (with_reducible refine below_drewN ?_ _) | (with_reducible refine Below.setCell ?_ ?_ _) | (with_reducible refine Below.trans ?_ (Below.mono (by with_reducible assumption) ?_)) | (with_reducible exact Below.size (by with_reducible assumption)) | go_size))); have hz_hb3 := hb3.size; (try simp at hz_hb3); (try simp only [Nat.add_one_le_iff] at hz_hb3); have hz0_hb3 : w.heap.size < w3.heap.size := (by omega); have hz1_hb3 : w.heap.size + 1 < w3.heap.size := (by omega)
  go_wp2_with fail
  refine (eqInt64S_same _ _ B _ (g4 _ (by (repeat' (first | (with_reducible exact Below.refl _ _) | (with_reducible assumption) | (with_reducible refine Below.alloc ?_ ?_ _) | (with_reducible refine Below.drew ?_) | (with_reducible refine below_drewN ?_ _) | (with_reducible refine Below.setCell ?_ ?_ _) | (with_reducible refine Below.trans ?_ (Below.mono (by with_reducible assumption) ?_)) | (with_reducible exact Below.size (by with_reducible assumption)) | go_size)))) (f4 _ (by (repeat' (first | (with_reducible exact Below.refl _ _) | (with_reducible assumption) | (with_reducible refine Below.alloc ?_ ?_ _) | (with_reducible refine Below.drew ?_) | (with_reducible refine below_drewN ?_ _) | (with_reducible refine Below.setCell ?_ ?_ _) | (with_reducible refine Below.trans ?_ (Below.mono (by with_reducible assumption) ?_)) | (with_reducible exact Below.size (by with_reducible assumption)) | go_size))))).mono ?_; rintro e w4 ⟨rfl, hb4⟩; obtain ⟨hc_hb4, hf_hb4⟩ := bcell hb4; obtain ⟨hcA_hb4, hfA_hb4⟩ := bcellG (W0 := w3) hb4 (by (repeat' (first | (with_reducible exact Below.refl _ _) | (with_reducible assumption) | (with_reducible refine Below.alloc ?_ ?_ _) | (with_reducible refine Below.drew ?_) | (with_reducible refine below_drewN ?_ _) | (with_reducible refine Below.setCell ?_ ?_ _) | (with_reducible refine Below.trans ?_ (Below.mono (by with_reducible assumption) ?_)) | (with_reducible exact Below.size (by with_reducible assumption)) | go_size))); have hz_hb4 := hb4.size; (try simp at hz_hb4); (try simp only [Nat.add_one_le_iff] at hz_hb4); have hz0_hb4 : w.heap.size < w4.heap.size := (by omega); have hz1_hb4 : w.heap.size + 1 < w4.heap.size := (by omega)
  go_wp2_with fail
  go_ret
  refine ⟨rfl, ?_⟩
  (repeat' (first | (with_reducible exact Below.refl _ _) | (with_reducible assumption) | (with_reducible refine Below.alloc ?_ ?_ _) | (with_reducible refine Below.drew ?_) | (with_reducible refine below_drewN ?_ _) | (with_reducible refine Below.setCell ?_ ?_ _) | (with_reducible refine Below.trans ?_ (Below.mono (by with_reducible assumption) ?_)) | (with_reducible exact Below.size (by with_reducible assumption)) | go_size))

theorem _root_.Go.Proofs.Ytgncaploccbfnaa.PM.OwnR.touch' {bs : List Nat} {w w' : World} {v : Value} {xss : List (List Int)} {us : List Value} (h : OwnR w v xss us) (ht : Tch bs w w') (hd : ∀ k, k ∈ blks v ++ rblks us → k ∉ bs) : OwnR w' v xss us :=
  ⟨h.len, own_touch h.top ht (fun b hb => hd b (List.mem_append.2 (.inl (by unfold blks; rw [hb]; simp)))), fun i hi => (h.rows i hi).tch ht (fun b hb => hd b (List.mem_append.2 (.inr (mem_rblks (by rw [h.len]; exact hi) hb)))), h.apart, h.over⟩
theorem _root_.Go.Proofs.Ytgncaploccbfnaa.PM.OwnR.betw' {lo hi lo' hi' : Nat} {w w' : World} {v : Value} {xss : List (List Int)} {us : List Value} (h : OwnR w v xss us) (hb : ∀ b, b ∈ blks v ++ rblks us → lo ≤ b ∧ b < hi) (ht : Bet lo' hi' w w') (hd : hi ≤ lo' ∨ hi' ≤ lo) : OwnR w' v xss us :=
  ⟨h.len, row_bet h.top ht (fun b hb' => by have := hb b (List.mem_append.2 (.inl (by unfold blks; rw [hb']; simp))); omega), fun i hi => row_bet (h.rows i hi) ht (fun b hb' => by have := hb b (List.mem_append.2 (.inr (mem_rblks (by rw [h.len]; exact hi) hb'))); omega), h.apart, h.over⟩
theorem mem_blks' {v : Value} {b : Nat} : b ∈ blks v ↔ v.ownBlock = some b := by unfold blks; simp

/-- A program in memory of its own, all in blocks from lo on below hi. -/
structure RngW (lo hi : Nat) (w : World) (d c a b : Value) (D : List (List Int)) (C : List Int) (A : List (List Int)) (B : List Int) (us : List Value × List Value) : Prop where
  od : OwnR w d D us.1
  oc : OwnI w c C
  oa : OwnR w a A us.2
  ob : OwnI w b B
  bd : ∀ k, k ∈ blks d ++ rblks us.1 → lo ≤ k ∧ k < hi
  bc : ∀ k, k ∈ blks c → lo ≤ k ∧ k < hi
  ba : ∀ k, k ∈ blks a ++ rblks us.2 → lo ≤ k ∧ k < hi
  bb : ∀ k, k ∈ blks b → lo ≤ k ∧ k < hi
  dc : ∀ k, k ∈ blks d ++ rblks us.1 → k ∈ blks c → False
  da : ∀ k, k ∈ blks d ++ rblks us.1 → k ∈ blks a ++ rblks us.2 → False
  db : ∀ k, k ∈ blks d ++ rblks us.1 → k ∈ blks b → False
  ca : ∀ k, k ∈ blks c → k ∈ blks a ++ rblks us.2 → False
  cb : ∀ k, k ∈ blks c → k ∈ blks b → False
  ab : ∀ k, k ∈ blks a ++ rblks us.2 → k ∈ blks b → False
theorem RngW.bet {lo hi lo' hi' : Nat} {w w' : World} {d c a b : Value} {D : List (List Int)} {C : List Int} {A : List (List Int)} {B : List Int} {us : List Value × List Value} (h : RngW lo hi w d c a b D C A B us) (ht : Bet lo' hi' w w') (hd : hi ≤ lo' ∨ hi' ≤ lo) : RngW lo hi w' d c a b D C A B us :=
  ⟨h.od.betw' h.bd ht hd, row_bet h.oc ht (fun k hk => by have := h.bc k (mem_blks'.2 hk); omega), h.oa.betw' h.ba ht hd, row_bet h.ob ht (fun k hk => by have := h.bb k (mem_blks'.2 hk); omega), h.bd, h.bc, h.ba, h.bb, h.dc, h.da, h.db, h.ca, h.cb, h.ab⟩
def RngWx (lo hi : Nat) (w : World) (d c a b : Value) (D : List (List Int)) (C : List Int) (A : List (List Int)) (B : List Int) : Prop := ∃ us, RngW lo hi w d c a b D C A B us
theorem RngWx.bet {lo hi lo' hi' : Nat} {w w' : World} {d c a b : Value} {D : List (List Int)} {C : List Int} {A : List (List Int)} {B : List Int} (h : RngWx lo hi w d c a b D C A B) (ht : Bet lo' hi' w w') (hd : hi ≤ lo' ∨ hi' ≤ lo) : RngWx lo hi w' d c a b D C A B := by
  obtain ⟨us, h⟩ := h
  exact ⟨us, h.bet ht hd⟩
theorem RngWx.below {lo hi B0 : Nat} {w w' : World} {d c a b : Value} {D : List (List Int)} {C : List Int} {A : List (List Int)} {B : List Int} (h : RngWx lo hi w d c a b D C A B) (ht : Below B0 w w') (hd : hi ≤ B0) : RngWx lo hi w' d c a b D C A B :=
  h.bet (lo' := B0) (hi' := w.heap.size + B0) ⟨ht.os, ht.tape, ht.output, ht.size, fun k _ hr => by
    rcases hr with hr | hr
    · exact ht.block k hr
    · omega⟩ (.inl hd)
theorem RngWx.reads {lo hi : Nat} {w : World} {d c a b : Value} {D : List (List Int)} {C : List Int} {A : List (List Int)} {B : List Int} (h : RngWx lo hi w d c a b D C A B) (hD : ∀ i, i < D.length → ∀ x ∈ D.getD i [], I64 x) (hC : ∀ x ∈ C, I64 x) (hA : ∀ i, i < A.length → ∀ x ∈ A.getD i [], I64 x) (hB : ∀ x ∈ B, I64 x) :
    PM.Rows w d D ∧ Ints w c C ∧ PM.Rows w a A ∧ Ints w b B := by
  obtain ⟨us, h⟩ := h
  exact ⟨h.od.rows' hD, h.oc.ints hC, h.oa.rows' hA, h.ob.ints hB⟩
/-- Four parts that were made one after the other. -/
theorem RngWx.of_four {l0 l1 l2 l3 l4 : Nat} {w : World} {d c a b : Value} {D : List (List Int)} {C : List Int} {A : List (List Int)} {B : List Int} (h1 : RngR l0 l1 w d D) (h2 : RngI l1 l2 w c C) (h3 : RngR l2 l3 w a A) (h4 : RngI l3 l4 w b B) (k1 : l0 ≤ l1) (k2 : l1 ≤ l2) (k3 : l2 ≤ l3) (k4 : l3 ≤ l4) : RngWx l0 l4 w d c a b D C A B := by
  obtain ⟨us, o1, m1, u1⟩ := h1.own
  obtain ⟨vs, o3, m3, u3⟩ := h3.own
  have b1 : ∀ k, k ∈ blks d ++ rblks us → l0 ≤ k ∧ k < l1 := fun k hk => by
    rcases List.mem_append.1 hk with hk | hk
    · exact m1 k (mem_blks'.1 hk)
    · obtain ⟨i, hi, hb⟩ := of_mem_rblks hk
      exact u1 i k (by rw [← o1.len]; exact hi) hb
  have b3 : ∀ k, k ∈ blks a ++ rblks vs → l2 ≤ k ∧ k < l3 := fun k hk => by
    rcases List.mem_append.1 hk with hk | hk
    · exact m3 k (mem_blks'.1 hk)
    · obtain ⟨i, hi, hb⟩ := of_mem_rblks hk
      exact u3 i k (by rw [← o3.len]; exact hi) hb
  have b2 : ∀ k, k ∈ blks c → l1 ≤ k ∧ k < l2 := fun k hk => h2.at_ k (mem_blks'.1 hk)
  have b4 : ∀ k, k ∈ blks b → l3 ≤ k ∧ k < l4 := fun k hk => h4.at_ k (mem_blks'.1 hk)
  exact ⟨(us, vs), o1, h2.own, o3, h4.own, fun k hk => by have := b1 k hk; omega, fun k hk => by have := b2 k hk; omega, fun k hk => by have := b3 k hk; omega, fun k hk => by have := b4 k hk; omega,
    fun k x y => by have := b1 k x; have := b2 k y; omega, fun k x y => by have := b1 k x; have := b3 k y; omega, fun k x y => by have := b1 k x; have := b4 k y; omega,
    fun k x y => by have := b2 k x; have := b3 k y; omega, fun k x y => by have := b2 k x; have := b4 k y; omega, fun k x y => by have := b3 k x; have := b4 k y; omega⟩
end Go.Proofs.Ytgncaploccbfnaa.PW
