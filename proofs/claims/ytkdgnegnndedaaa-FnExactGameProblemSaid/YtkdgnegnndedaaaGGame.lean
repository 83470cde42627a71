/-
  Walks: games of the laws: sizes, copies, comparisons, marks.
-/
import Derived.Test.YtkdgnegnndedaaaPAnsR
namespace Go.Proofs.Ytkdgnegnndedaaa.PW
open Go.RowKit Go.Proofs.Ytkdgnegnndedaaa
open Go.Proofs.Ytkdgnegnndedaaa.PM

def szG (m q : List (List Int)) (left : Int) : Int := if (tot m : Int) + tot q ≤ left then left - tot m - tot q else -1
theorem szG_fits {M Q : List (List Int)} (h : ¬ szG M Q 1048576 < 0) : tot M ≤ 1048576 ∧ tot Q ≤ 1048576 := by
  unfold szG at h
  split at h <;> omega
theorem szG_neg {M Q : List (List Int)} (h : szG M Q 1048576 < 0) : szG M Q 1048576 = -1 := by
  unfold szG at h ⊢
  split at h
  · omega
  · rename_i hc; rw [if_neg hc]
theorem szG_le (M Q : List (List Int)) : szG M Q 1048576 ≤ 1048576 := by
  unfold szG; split <;> omega
theorem szGame_any (m q : Value) (M Q : List (List Int)) (w : World) (h1 : PM.Rows w m M) (h2 : PM.Rows w q Q) :
    Calls Try.prog 27 #[.agg #[m, q], .int .i64 1048576] w fun e w' => e = .returned (.int .i64 (szG M Q 1048576)) ∧ Below w.heap.size w w' := by
  have g1 := fun (w' : World) (h : Below w.heap.size w w') => h1.below h
  have g2 := fun (w' : World) (h : Below w.heap.size w w') => h2.below h
  obtain ⟨a1, c1, rfl, _⟩ := h1
  obtain ⟨a2, c2, rfl, _⟩ := h2
  by_cases hA : (tot M : Int) ≤ 1048576
  · have e1 : szR M 1048576 = 1048576 - tot M := by unfold szR; rw [if_pos hA]
    have E1 := Lib.hid e1
    clear e1
    by_cases hB : (tot M : Int) + tot Q ≤ 1048576
    · have e2 : szR Q (1048576 - tot M) = 1048576 - tot M - tot Q := by unfold szR; rw [if_pos (by omega)]
      have e3 : szG M Q 1048576 = 1048576 - tot M - tot Q := by unfold szG; rw [if_pos hB]
      rw [e3]
      have E2 := Lib.hid e2
      clear e2 e3
      go_enter Try.func27, Try.ntmps27
      go_wp2_with fail
      refine (szInt64SS_any _ M _ _ (g1 _ (by (repeat' (first | (with_reducible exact Below.refl _ _) | (with_reducible assumption) | (with_reducible refine Below.alloc ?_ ?_ _) | (with_reducible refine Below.drew ?_) | (with_reducible refine below_drewN ?_ _) | (with_reducible refine Below.setCell ?_ ?_ _) | (with_reducible refine Below.trans ?_ (Below.mono (by with_reducible assumption) ?_)) | (with_reducible exact Below.size (by with_reducible assumption)) | go_size)))) (by omega) (by omega)).mono ?_; rw [E1.out]; rintro e w1 ⟨rfl, rfl⟩
      go_wp2_with fail
      refine (szInt64SS_any _ Q _ _ (g2 _ (by (repeat' (first | (with_reducible exact Below.refl _ _) | (with_reducible assumption) | (with_reducible refine Below.alloc ?_ ?_ _) | (with_reducible refine Below.drew ?_) | (with_reducible refine below_drewN ?_ _) | (with_reducible refine Below.setCell ?_ ?_ _) | (with_reducible refine Below.trans ?_ (Below.mono (by with_reducible assumption) ?_)) | (with_reducible exact Below.size (by with_reducible assumption)) | go_size)))) (by omega) (by omega)).mono ?_; rw [E2.out]; rintro e w1 ⟨rfl, rfl⟩
      go_wp2_with fail
      go_ret
      exact ⟨rfl, by (repeat' (first | (with_reducible exact Below.refl _ _) | (with_reducible assumption) | (with_reducible refine Below.alloc ?_ ?_ _) | (with_reducible refine Below.drew ?_) | (with_reducible refine below_drewN ?_ _) | (with_reducible refine Below.setCell ?_ ?_ _) | (with_reducible refine Below.trans ?_ (Below.mono (by with_reducible assumption) ?_)) | (with_reducible exact Below.size (by with_reducible assumption)) | go_size))⟩
    · have e2 : szR Q (1048576 - tot M) = -1 := by unfold szR; rw [if_neg (by omega)]
      have e3 : szG M Q 1048576 = -1 := by unfold szG; rw [if_neg hB]
      rw [e3]
      have E2 := Lib.hid e2
      clear e2 e3
      go_enter Try.func27, Try.ntmps27
      go_wp2_with fail
      refine (szInt64SS_any _ M _ _ (g1 _ (by (repeat' (first | (with_reducible exact Below.refl _ _) | (with_reducible assumption) | (with_reducible refine Below.alloc ?_ ?_ _) | (with_reducible refine Below.drew ?_) | (with_reducible refine below_drewN ?_ _) | (with_reducible refine Below.setCell ?_ ?_ _) | (with_reducible refine Below.trans ?_ (Below.mono (by with_reducible assumption) ?_)) | (with_reducible exact Below.size (by with_reducible assumption)) | go_size)))) (by omega) (by omega)).mono ?_; rw [E1.out]; rintro e w1 ⟨rfl, rfl⟩
      go_wp2_with fail
      refine (szInt64SS_any _ Q _ _ (g2 _ (by (repeat' (first | (with_reducible exact Below.refl _ _) | (with_reducible assumption) | (with_reducible refine Below.alloc ?_ ?_ _) | (with_reducible refine Below.drew ?_) | (with_reducible refine below_drewN ?_ _) | (with_reducible refine Below.setCell ?_ ?_ _) | (with_reducible refine Below.trans ?_ (Below.mono (by with_reducible assumption) ?_)) | (with_reducible exact Below.size (by with_reducible assumption)) | go_size)))) (by omega) (by omega)).mono ?_; rw [E2.out]; rintro e w1 ⟨rfl, rfl⟩
      go_wp2_with fail
      go_ret
      exact ⟨rfl, by (repeat' (first | (with_reducible exact Below.refl _ _) | (with_reducible assumption) | (with_reducible refine Below.alloc ?_ ?_ _) | (with_reducible refine Below.drew ?_) | (with_reducible refine below_drewN ?_ _) | (with_reducible refine Below.setCell ?_ ?_ _) | (with_reducible refine Below.trans ?_ (Below.mono (by with_reducible assumption) ?_)) | (with_reducible exact Below.size (by with_reducible assumption)) | go_size))⟩
  · have e1 : szR M 1048576 = -1 := by unfold szR; rw [if_neg hA]
    have e3 : szG M Q 1048576 = -1 := by unfold szG; rw [if_neg (by omega)]
    rw [e3]
    have E1 := Lib.hid e1
    clear e1 e3
    go_enter Try.func27, Try.ntmps27
    go_wp2_with fail
    refine (szInt64SS_any _ M _ _ (g1 _ (by (repeat' (first | (with_reducible exact Below.refl _ _) | (with_reducible assumption) | (with_reducible refine Below.alloc ?_ ?_ _) | (with_reducible refine Below.drew ?_) | (with_reducible refine below_drewN ?_ _) | (with_reducible refine Below.setCell ?_ ?_ _) | (with_reducible refine Below.trans ?_ (Below.mono (by with_reducible assumption) ?_)) | (with_reducible exact Below.size (by with_reducible assumption)) | go_size)))) (by omega) (by omega)).mono ?_; rw [E1.out]; rintro e w1 ⟨rfl, rfl⟩
    go_wp2_with fail
    go_ret
    exact ⟨rfl, by (repeat' (first | (with_reducible exact Below.refl _ _) | (with_reducible assumption) | (with_reducible refine Below.alloc ?_ ?_ _) | (with_reducible refine Below.drew ?_) | (with_reducible refine below_drewN ?_ _) | (with_reducible refine Below.setCell ?_ ?_ _) | (with_reducible refine Below.trans ?_ (Below.mono (by with_reducible assumption) ?_)) | (with_reducible exact Below.size (by with_reducible assumption)) | go_size))⟩

theorem eqGame_same (m q m2 q2 : Value) (M Q : List (List Int)) (w : World) (h1 : PM.Rows w m M) (h2 : PM.Rows w q Q) (h3 : PM.Rows w m2 M) (h4 : PM.Rows w q2 Q) :
    Calls Try.prog 31 #[.agg #[m, q], .agg #[m2, q2]] w fun e w' => e = .returned (.bool true) ∧ Below w.heap.size w w' := by
  have g1 := fun (w' : World) (h : Below w.heap.size w w') => h1.below h
  have g2 := fun (w' : World) (h : Below w.heap.size w w') => h2.below h
  have g3 := fun (w' : World) (h : Below w.heap.size w w') => h3.below h
  have g4 := fun (w' : World) (h : Below w.heap.size w w') => h4.below h
  obtain ⟨a1, c1, rfl, _⟩ := h1
  obtain ⟨a2, c2, rfl, _⟩ := h2
  obtain ⟨a3, c3, rfl, _⟩ := h3
  obtain ⟨a4, c4, rfl, _⟩ := h4
  go_enter Try.func31, Try.ntmps31
  go_wp2_with fail
  refine (eqInt64SS_same _ _ M _ (g1 _ (by (repeat' (first | (with_reducible exact Below.refl _ _) | (with_reducible assumption) | (with_reducible refine Below.alloc ?_ ?_ _) | (with_reducible refine Below.drew ?_) | (with_reducible refine below_drewN ?_ _) | (with_reducible refine Below.setCell ?_ ?_ _) | (with_reducible refine Below.trans ?_ (Below.mono (by with_reducible assumption) ?_)) | (with_reducible exact Below.size (by with_reducible assumption)) | go_size)))) (g3 _ (by (repeat' (first | (with_reducible exact Below.refl _ _) | (with_reducible assumption) | (with_reducible refine Below.alloc ?_ ?_ _) | (with_reducible refine Below.drew ?_) | (with_reducible refine below_drewN ?_ _) | (with_reducible refine Below.setCell ?_ ?_ _) | (with_reducible refine Below.trans ?_ (Below.mono (by with_reducible assumption) ?_)) | (with_reducible exact Below.size (by with_reducible assumption)) | go_size))))).mono ?_; rintro e w1 ⟨rfl, hb1⟩; obtain ⟨hc_hb1, hf_hb1⟩ := bcell hb1; obtain ⟨hcA_hb1, hfA_hb1⟩ := bcellG (W0 := w) hb1 (by (repeat' (first | (with_reducible exact Below.refl _ _) | (with_reducible assumption) | (with_reducible refine Below.alloc ?_ ?_ _) | (with_reducible refine Below.drew ?_) | (with_reducible refine below_drewN ?_ _) | (with_reducible refine Below.setCell ?_ ?_ _) | (with_reducible refine Below.trans ?_ (Below.mono (by with_reducible assumption) ?_)) | (with_reducible exact Below.size (by with_reducible assumption)) | go_size))); have hz_hb1 := hb1.size; (try simp at hz_hb1); (try simp only [Nat.add_one_le_iff] at hz_hb1); have hz0_hb1 : w.heap.size < w1.heap.size := (by omega); have hz1_hb1 : w.heap.size + 1 < w1.heap.size := (by omega)
  go_wp2_with fail
  refine (eqInt64SS_same _ _ Q _ (g2 _ (by (repeat' (first | (with_reducible exact Below.refl _ _) | (with_reducible assumption) | (with_reducible refine Below.alloc ?_ ?_ _) | (with_reducible refine Below.drew ?_) | (with_reducible refine below_drewN ?_ _) | (with_reducible refine Below.setCell ?_ ?_ _) | (with_reducible refine Below.trans ?_ (Below.mono (by with_reducible assumption) ?_)) | (with_reducible exact Below.size (by with_reducible assumption)) | go_size)))) (g4 _ (by (repeat' (first | (with_reducible exact Below.refl _ _) | (with_reducible assumption) | (with_reducible refine Below.alloc ?_ ?_ _) | (with_reducible refine Below.drew ?_) | (with_reducible refine below_drewN ?_ _) | (with_reducible refine Below.setCell ?_ ?_ _) | (with_reducible refine Below.trans ?_ (Below.mono (by with_reducible assumption) ?_)) | (with_reducible exact Below.size (by with_reducible assumption)) | go_size))))).mono ?_; rintro e w2 ⟨rfl, hb2⟩; obtain ⟨hc_hb2, hf_hb2⟩ := bcell hb2; obtain ⟨hcA_hb2, hfA_hb2⟩ := bcellG (W0 := w1) hb2 (by (repeat' (first | (with_reducible exact Below.refl _ _) | (with_reducible assumption) | (with_reducible refine Below.alloc ?_ ?_ _) | (with_reducible refine Below.drew ?_) | (with_reducible refine below_drewN ?_ _) | (with_reducible refine Below.setCell ?_ ?_ _) | (with_reducible refine Below.trans ?_ (Below.mono (by with_reducible assumption) ?_)) | (with_reducible exact Below.size (by with_reducible assumption)) | go_size))); have hz_hb2 := hb2.size; (try simp at hz_hb2); (try simp only [Nat.add_one_le_iff] at hz_hb2); have hz0_hb2 : w.heap.size < w2.heap.size := (by omega); have hz1_hb2 : w.heap.size + 1 < w2.heap.size := (by omega)
  go_wp2_with fail
  go_ret
  refine ⟨rfl, ?_⟩
  (repeat' (first | (with_reducible exact Below.refl _ _) | (with_reducible assumption) | (with_reducible refine Below.alloc ?_ ?_ _) | (with_reducible refine Below.drew ?_) | (with_reducible refine below_drewN ?_ _) | (with_reducible refine Below.setCell ?_ ?_ _) | (with_reducible refine Below.trans ?_ (Below.mono (by with_reducible assumption) ?_)) | (with_reducible exact Below.size (by with_reducible assumption)) | go_size))

/-- Rows in memory of their own: what a write elsewhere leaves. -/
theorem OwnR.touch {bs : List Nat} {w w' : World} {v : Value} {xss : List (List Int)} {us : List Value} (h : OwnR w v xss us) (ht : Tch bs w w') (hd : ∀ k, k ∈ blks v ∨ k ∈ rblks us → k ∉ bs) : OwnR w' v xss us :=
  ⟨h.len, own_touch h.top ht (fun b hb => hd b (.inl (by unfold blks; rw [hb]; simp))), fun i hi => (h.rows i hi).tch ht (fun b hb => hd b (.inr (mem_rblks (by rw [h.len]; exact hi) hb))), h.apart, h.over⟩

/-- Two tables in memory of their own, all in blocks from lo on below hi. -/
structure RngG (lo hi : Nat) (w : World) (m q : Value) (M Q : List (List Int)) (us : List Value × List Value) : Prop where
  fst : OwnR w m M us.1
  snd : OwnR w q Q us.2
  mb : ∀ b, b ∈ blks m ∨ b ∈ rblks us.1 → lo ≤ b ∧ b < hi
  qb : ∀ b, b ∈ blks q ∨ b ∈ rblks us.2 → lo ≤ b ∧ b < hi
  apart : ∀ b, b ∈ blks m ∨ b ∈ rblks us.1 → b ∈ blks q ∨ b ∈ rblks us.2 → False
theorem mem_blks {v : Value} {b : Nat} : b ∈ blks v ↔ v.ownBlock = some b := by unfold blks; simp
theorem OwnR.betw {lo hi lo' hi' : Nat} {w w' : World} {v : Value} {xss : List (List Int)} {us : List Value} (h : OwnR w v xss us) (hb : ∀ b, b ∈ blks v ∨ b ∈ rblks us → lo ≤ b ∧ b < hi) (ht : Bet lo' hi' w w') (hd : hi ≤ lo' ∨ hi' ≤ lo) : OwnR w' v xss us :=
  ⟨h.len, row_bet h.top ht (fun b hb' => by have := hb b (.inl (mem_blks.2 hb')); omega), fun i hi => row_bet (h.rows i hi) ht (fun b hb' => by have := hb b (.inr (mem_rblks (by rw [h.len]; exact hi) hb')); omega), h.apart, h.over⟩
theorem RngG.bet {lo hi lo' hi' : Nat} {w w' : World} {m q : Value} {M Q : List (List Int)} {us : List Value × List Value} (h : RngG lo hi w m q M Q us) (ht : Bet lo' hi' w w') (hd : hi ≤ lo' ∨ hi' ≤ lo) : RngG lo hi w' m q M Q us :=
  ⟨OwnR.betw h.fst h.mb ht hd, OwnR.betw h.snd h.qb ht hd, h.mb, h.qb, h.apart⟩
theorem RngG.below {lo hi B : Nat} {w w' : World} {m q : Value} {M Q : List (List Int)} {us : List Value × List Value} (h : RngG lo hi w m q M Q us) (ht : Below B w w') (hd : hi ≤ B) : RngG lo hi w' m q M Q us :=
  h.bet (lo' := B) (hi' := w.heap.size + B) ⟨ht.os, ht.tape, ht.output, ht.size, fun k _ hr => by
    rcases hr with hr | hr
    · exact ht.block k hr
    · omega⟩ (.inl hd)
theorem RngG.reads {lo hi : Nat} {w : World} {m q : Value} {M Q : List (List Int)} {us : List Value × List Value} (h : RngG lo hi w m q M Q us) (hM : ∀ i, i < M.length → ∀ x ∈ M.getD i [], I64 x) (hQ : ∀ i, i < Q.length → ∀ x ∈ Q.getD i [], I64 x) : PM.Rows w m M ∧ PM.Rows w q Q :=
  ⟨h.fst.rows' hM, h.snd.rows' hQ⟩
theorem RngG.of_two {lo mid hi : Nat} {w : World} {m q : Value} {M Q : List (List Int)} (h1 : RngR lo mid w m M) (h2 : RngR mid hi w q Q) (hl : lo ≤ mid) (hh : mid ≤ hi) : ∃ us, RngG lo hi w m q M Q us := by
  obtain ⟨us, ho, hm, hu⟩ := h1.own
  obtain ⟨vs, ho2, hm2, hu2⟩ := h2.own
  have b1 : ∀ b, b ∈ blks m ∨ b ∈ rblks us → lo ≤ b ∧ b < mid := fun b hb => by
    rcases hb with hb | hb
    · exact hm b (mem_blks.1 hb)
    · obtain ⟨i, hi, hb'⟩ := of_mem_rblks hb
      exact hu i b (by rw [← ho.len]; exact hi) hb'
  have b2 : ∀ b, b ∈ blks q ∨ b ∈ rblks vs → mid ≤ b ∧ b < hi := fun b hb => by
    rcases hb with hb | hb
    · exact hm2 b (mem_blks.1 hb)
    · obtain ⟨i, hi, hb'⟩ := of_mem_rblks hb
      exact hu2 i b (by rw [← ho2.len]; exact hi) hb'
  exact ⟨(us, vs), ho, ho2, fun b hb => by have := b1 b hb; omega, fun b hb => by have := b2 b hb; omega, fun b hb hb2 => by have := b1 b hb; have := b2 b hb2; omega⟩

theorem toGRows_out (v : Value) (M : List (List Int)) (w : World) (hx : PM.Rows w v M) (hn : tot M ≤ 1048576) :
    Calls Try.prog 68 #[v] w fun e w' => ∃ g, e = .returned (.slice (some ⟨g, 0, none⟩) M.length M.length) ∧
      RngR w.heap.size w'.heap.size w' (.slice (some ⟨g, 0, none⟩) M.length M.length) M ∧ Below w.heap.size w w' := by
  refine (toInt64SS_any v M w hx hn).mono ?_
  rintro e w' ⟨rfl, hb, hz, ht, hr⟩
  have hml : M.length ≤ maxLen := by unfold tot at hn; unfold maxLen; omega
  have hrl : ∀ i, i < M.length → (M.getD i []).length ≤ maxLen := fun i hi => by
    have a1 := pre_succ M i hi
    have a2 := pre_le M (i + 1)
    unfold tot at hn
    unfold maxLen
    omega
  obtain ⟨g, hg⟩ : ∃ g, g = w.heap.size := ⟨_, rfl⟩
  rw [← hg] at ht hr hz ⊢
  have hus : ∀ i, i < M.length → ((List.range M.length).map (partR g M M.length)).getD i undef = .slice (some ⟨g + 1 + i, 0, none⟩) (M.getD i []).length (M.getD i []).length := fun i hi => by
    have : partR g M M.length i = .slice (some ⟨g + 1 + i, 0, none⟩) (M.getD i []).length (M.getD i []).length := by unfold partR; rw [if_pos hi]
    rw [← this]
    simp [hi]
  have hltg := ht.lt
  refine ⟨g, rfl, ⟨(List.range M.length).map (partR g M M.length), ⟨by simp, ?_, fun i hi => ?_, fun i j b hi hj h1 h2 => ?_, fun i b hi h1 h2 => ?_⟩, fun b hb' => ?_, fun i b hi hb' => ?_⟩, by rw [hg]; exact hb⟩
  · obtain ⟨c, hb, hn, hc⟩ := ht
    refine ⟨by simp, .inr ⟨g, M.length, c, rfl, Nat.zero_le _, hb, Nat.le_refl _, hml, by simpa using hn, ?_⟩⟩
    rw [Nat.mul_one, List.take_of_length_le (by simp [hn])]
    apply List.ext_getElem?
    intro i
    by_cases hi : i < M.length
    · have := hc i hi
      rw [Array.getElem?_toList, this]
      simp [hi]
    · rw [List.getElem?_eq_none (by simp [hn]; omega), List.getElem?_eq_none (by simp; omega)]
  · rw [hus i hi]
    exact (hr i hi).own (hrl i hi)
  · rw [hus i hi] at h1
    rw [hus j hj] at h2
    simp [Value.ownBlock] at h1 h2
    omega
  · rw [hus i hi] at h2
    simp [Value.ownBlock] at h1 h2
    omega
  · simp [Value.ownBlock] at hb'
    omega
  · rw [hus i hi] at hb'
    have := (hr i hi).lt
    simp [Value.ownBlock] at hb'
    omega

theorem toGame_out (m q : Value) (M Q : List (List Int)) (w : World) (h1 : PM.Rows w m M) (h2 : PM.Rows w q Q) (hn : tot M ≤ 1048576) (hn2 : tot Q ≤ 1048576) :
    Calls Try.prog 29 #[.agg #[m, q]] w fun e w' => ∃ g h us, e = .returned (.agg #[.slice (some ⟨g, 0, none⟩) M.length M.length, .slice (some ⟨h, 0, none⟩) Q.length Q.length]) ∧
      RngG w.heap.size w'.heap.size w' (.slice (some ⟨g, 0, none⟩) M.length M.length) (.slice (some ⟨h, 0, none⟩) Q.length Q.length) M Q us ∧ Below w.heap.size w w' := by
  have g1 := fun (w' : World) (h : Below w.heap.size w w') => h1.below h
  have g2 := fun (w' : World) (h : Below w.heap.size w w') => h2.below h
  obtain ⟨a1, c1, rfl, _⟩ := h1
  obtain ⟨a2, c2, rfl, _⟩ := h2
  have HN := Lib.hid hn
  have HN2 := Lib.hid hn2
  clear hn hn2
  go_enter Try.func29, Try.ntmps29
  go_wp2_with fail
  refine (toGRows_out _ M _ (g1 _ (by (repeat' (first | (with_reducible exact Below.refl _ _) | (with_reducible assumption) | (with_reducible refine Below.alloc ?_ ?_ _) | (with_reducible refine Below.drew ?_) | (with_reducible refine below_drewN ?_ _) | (with_reducible refine Below.setCell ?_ ?_ _) | (with_reducible refine Below.trans ?_ (Below.mono (by with_reducible assumption) ?_)) | (with_reducible exact Below.size (by with_reducible assumption)) | go_size)))) HN.out).mono ?_; rintro e w1 ⟨gA, rfl, hr1, hb1⟩; obtain ⟨hc_hb1, hf_hb1⟩ := bcell hb1; obtain ⟨hcA_hb1, hfA_hb1⟩ := bcellG (W0 := w) hb1 (by (repeat' (first | (with_reducible exact Below.refl _ _) | (with_reducible assumption) | (with_reducible refine Below.alloc ?_ ?_ _) | (with_reducible refine Below.drew ?_) | (with_reducible refine below_drewN ?_ _) | (with_reducible refine Below.setCell ?_ ?_ _) | (with_reducible refine Below.trans ?_ (Below.mono (by with_reducible assumption) ?_)) | (with_reducible exact Below.size (by with_reducible assumption)) | go_size))); have hz_hb1 := hb1.size; (try simp at hz_hb1); (try simp only [Nat.add_one_le_iff] at hz_hb1); have hz0_hb1 : w.heap.size < w1.heap.size := (by omega); have hz1_hb1 : w.heap.size + 1 < w1.heap.size := (by omega); have hz2_hb1 : w.heap.size + 1 + 1 < w1.heap.size := (by omega)
  have HR1 := Lib.hid hr1
  clear hr1
  go_wp2_with fail
  refine (toGRows_out _ Q _ (g2 _ (by (repeat' (first | (with_reducible exact Below.refl _ _) | (with_reducible assumption) | (with_reducible refine Below.alloc ?_ ?_ _) | (with_reducible refine Below.drew ?_) | (with_reducible refine below_drewN ?_ _) | (with_reducible refine Below.setCell ?_ ?_ _) | (with_reducible refine Below.trans ?_ (Below.mono (by with_reducible assumption) ?_)) | (with_reducible exact Below.size (by with_reducible assumption)) | go_size)))) HN2.out).mono ?_; rintro e w2 ⟨gB, rfl, hr2, hb2⟩; obtain ⟨hc_hb2, hf_hb2⟩ := bcell hb2; have hz_hb2 := hb2.size; (try simp at hz_hb2); (try simp only [Nat.add_one_le_iff] at hz_hb2)
  have hz0_hb2 : w.heap.size < w2.heap.size := by omega
  have hz1_hb2 : w.heap.size + 1 < w2.heap.size := by omega
  have hz2_hb2 : w.heap.size + 1 + 1 < w2.heap.size := by omega
  have HR2 := Lib.hid hr2
  clear hr2
  go_wp2_with fail
  refine bodyPost_ret (v := .agg #[.slice (some ⟨gA, 0, none⟩) M.length M.length, .slice (some ⟨gB, 0, none⟩) Q.length Q.length]) (by simp [*, results, Try.results29, go_sem]) rfl ?_
  have hr1 := HR1.out
  have hr2 := HR2.out
  simp only [World.size_alloc] at hr1
  simp only [World.size_setCell] at hr2
  have B1 : Bet w.heap.size (w.heap.size + 1 + 1 + 1) w1 (w1.setCell ⟨w.heap.size + 1 + 1, 0, none⟩ (.slice (some ⟨gA, 0, none⟩) M.length M.length)) :=
    Bet.of_tch (bs := [w.heap.size + 1 + 1]) ((Tch.refl _ _).setCell (by simp) _) (fun b hb => by simp at hb; omega)
  have B2 : Bet w.heap.size (w.heap.size + 1 + 1 + 1) w2 (((w2.setCell ⟨w.heap.size + 1 + 1, 1, none⟩ (.slice (some ⟨gB, 0, none⟩) Q.length Q.length)).setCell ⟨w.heap.size + 1, 0, none⟩ (.slice (some ⟨gA, 0, none⟩) M.length M.length)).setCell ⟨w.heap.size + 1, 1, none⟩ (.slice (some ⟨gB, 0, none⟩) Q.length Q.length)) :=
    Bet.of_tch (bs := [w.heap.size + 1, w.heap.size + 1 + 1]) ((((Tch.refl _ _).setCell (by simp) _).setCell (by simp) _).setCell (by simp) _) (fun b hb => by simp at hb; omega)
  have B12 : Bet w.heap.size (w.heap.size + 1 + 1 + 1) (w1.setCell ⟨w.heap.size + 1 + 1, 0, none⟩ (.slice (some ⟨gA, 0, none⟩) M.length M.length)) w2 := ⟨hb2.os, hb2.tape, hb2.output, hb2.size, fun k hk _ => hb2.block k hk⟩
  have hm := ((hr1.bet B1 (.inr (Nat.le_refl _))).bet B12 (.inr (Nat.le_refl _))).bet B2 (.inr (Nat.le_refl _))
  have hq := hr2.bet B2 (.inr (by omega))
  obtain ⟨us, hG⟩ := RngG.of_two hm hq (by omega) (by omega)
  have h1 : Below w.heap.size w w1 := by (repeat' (first | (with_reducible exact Below.refl _ _) | (with_reducible assumption) | (with_reducible refine Below.alloc ?_ ?_ _) | (with_reducible refine Below.drew ?_) | (with_reducible refine below_drewN ?_ _) | (with_reducible refine Below.setCell ?_ ?_ _) | (with_reducible refine Below.trans ?_ (Below.mono (by with_reducible assumption) ?_)) | (with_reducible exact Below.size (by with_reducible assumption)) | go_size))
  refine ⟨gA, gB, us, rfl, ⟨hG.fst, hG.snd, fun b hb => ?_, fun b hb => ?_, hG.apart⟩, h1.trans (((B1.trans B12).trans B2).below (by omega))⟩
  · have := hG.mb b hb; simp; omega
  · have := hG.qb b hb; simp; omega

theorem heldGame_any (m q : Value) (M Q : List (List Int)) (k : Int) (w : World) (h1 : PM.Rows w m (marksR k M)) (h2 : PM.Rows w q (marksR (k + pre M M.length) Q)) (h0 : 0 ≤ k) (hb : k + tot M + tot Q ≤ 4611686018427387904) :
    Calls Try.prog 49 #[.agg #[m, q], .int .i64 k] w fun e w' => e = .returned (.int .i64 (k + pre M M.length + pre Q Q.length)) ∧ Below w.heap.size w w' := by
  have hpt : (pre M M.length : Int) ≤ tot M := by
    have := pre_le M M.length
    unfold tot
    omega
  have hpq : (pre Q Q.length : Int) ≤ tot Q := by
    have := pre_le Q Q.length
    unfold tot
    omega
  have hA' : ∀ o, Below w.heap.size w (w.alloc o) := fun o => (Below.refl _ _).alloc (Nat.le_refl _) _
  have g1 := fun o => h1.below (hA' o)
  have g2 := fun o => h2.below (hA' o)
  obtain ⟨a1, c1, rfl, _⟩ := h1
  obtain ⟨a2, c2, rfl, _⟩ := h2
  have G1 := Lib.hid g1
  have G2 := Lib.hid g2
  have HP := Lib.hid hpt
  have HP2 := Lib.hid hpq
  have HB := Lib.hid hb
  clear g1 g2 hpt hpq hb hA'
  have c0 := fun o => heldInt64SS_any _ M k _ (G1.out o) h0 (by have := HB.out; omega)
  generalize pre M M.length = pM at *
  have hpb : 0 ≤ k + (pM : Int) ∧ k + (pM : Int) ≤ 4611686018427387904 := by have := HB.out; have := HP.out; omega
  have d0 := fun o => heldInt64SS_any _ Q (k + pM) _ (G2.out o) hpb.1 (by have := HB.out; have := HP.out; omega)
  generalize pre Q Q.length = pQ at *
  have hpb2 : 0 ≤ k + (pM : Int) + pQ ∧ k + (pM : Int) + pQ ≤ 4611686018427387904 := by have := HB.out; have := HP.out; have := HP2.out; omega
  have C0 := Lib.hid c0
  have D0 := Lib.hid d0
  clear c0 d0
  go_enter Try.func49, Try.ntmps49
  go_wp2_with fail
  refine (C0.out _).mono ?_
  rintro e w1 ⟨rfl, rfl⟩
  go_wp2_with fail
  refine (D0.out _).mono ?_
  rintro e w1 ⟨rfl, rfl⟩
  go_wp2_with fail
  go_ret
  refine ⟨rfl, ?_⟩
  (repeat' (first | (with_reducible exact Below.refl _ _) | (with_reducible assumption) | (with_reducible refine Below.alloc ?_ ?_ _) | (with_reducible refine Below.drew ?_) | (with_reducible refine below_drewN ?_ _) | (with_reducible refine Below.setCell ?_ ?_ _) | (with_reducible refine Below.trans ?_ (Below.mono (by with_reducible assumption) ?_)) | (with_reducible exact Below.size (by with_reducible assumption)) | go_size))

theorem markGame_any (lo hi : Nat) (m q : Value) (M Q : List (List Int)) (us : List Value × List Value) (k : Int) (w : World) (h : RngG lo hi w m q M Q us) (hhi : hi ≤ w.heap.size) (h0 : 0 ≤ k) (h1 : k + tot M + tot Q ≤ 4611686018427387904) :
    Calls Try.prog 34 #[.agg #[m, q], .int .i64 k] w fun e w' => e = .returned (.int .i64 (k + pre M M.length + pre Q Q.length)) ∧ RngG lo hi w' m q (marksR k M) (marksR (k + pre M M.length) Q) us ∧ Bet lo hi w w' := by
  obtain ⟨a1, c1, rfl⟩ : ∃ a cap, m = .slice a M.length cap := by
    rcases h.fst.top.2 with ⟨rfl, hn⟩ | ⟨g, cap, cur, rfl, _⟩
    · exact ⟨none, 0, by rw [hn]⟩
    · exact ⟨_, cap, rfl⟩
  obtain ⟨a2, c2, rfl⟩ : ∃ a cap, q = .slice a Q.length cap := by
    rcases h.snd.top.2 with ⟨rfl, hn⟩ | ⟨g, cap, cur, rfl, _⟩
    · exact ⟨none, 0, by rw [hn]⟩
    · exact ⟨_, cap, rfl⟩
  have hpt : (pre M M.length : Int) ≤ tot M := by
    have := pre_le M M.length
    unfold tot
    omega
  have hA : Bet lo hi w (w.alloc (.cells #[.slice a1 M.length c1, .slice a2 Q.length c2] 43)) := .of_below ((Below.refl _ _).alloc (Nat.le_refl _) _)
  have hA' : Below w.heap.size w (w.alloc (.cells #[.slice a1 M.length c1, .slice a2 Q.length c2] 43)) := (Below.refl _ _).alloc (Nat.le_refl _) _
  have hR := h.below hA' hhi
  have HR := Lib.hid hR
  have HP := Lib.hid hpt
  have HB := Lib.hid h1
  clear hR h hpt h1 hA'
  have c0 := markInt64SS_any _ M us.1 k _ HR.out.fst h0 (by have := HB.out; omega)
  generalize pre M M.length = pM at *
  obtain ⟨pQ, hpQ⟩ : ∃ pQ, pQ = pre Q Q.length := ⟨_, rfl⟩
  rw [← hpQ]
  have HPQ := Lib.hid hpQ
  clear hpQ
  have C0 := Lib.hid c0
  clear c0
  go_enter Try.func34, Try.ntmps34
  go_wp2_with fail
  refine C0.out.mono ?_
  rintro e w1 ⟨rfl, hown, ht⟩
  have htb : ∀ b, b ∈ rblks us.1 → lo ≤ b ∧ b < hi := fun b hb => HR.out.mb b (.inr hb)
  have hc1 : ∀ o, w1.cell? ⟨w.heap.size, o, none⟩ = (w.alloc (.cells #[.slice a1 M.length c1, .slice a2 Q.length c2] 43)).cell? ⟨w.heap.size, o, none⟩ := fun o => (Bet.of_tch ht htb).cell (p := ⟨w.heap.size, o, none⟩) (by simp) (.inr hhi)
  have hq1 : OwnR w1 (.slice a2 Q.length c2) Q us.2 := OwnR.touch HR.out.snd ht (fun b hb c => HR.out.apart b (.inr c) hb)
  have hbt := Bet.of_tch ht htb
  have HO := Lib.hid hown
  have HBT := Lib.hid hbt
  clear hown hbt ht htb
  have hpb : 0 ≤ k + (pM : Int) ∧ k + (pM : Int) ≤ 4611686018427387904 := by have := HB.out; have := HP.out; omega
  have d0 := markInt64SS_any _ Q us.2 (k + pM) _ hq1 hpb.1 (by have := HB.out; have := HP.out; omega)
  rw [← HPQ.out] at d0
  have D0 := Lib.hid d0
  clear hq1 d0
  go_wp2_with fail
  refine D0.out.mono ?_
  rintro e w2 ⟨rfl, hown2, ht2⟩
  go_wp2_with fail
  go_ret
  have hbt2 : Bet lo hi w1 w2 := Bet.of_tch ht2 (fun b hb => HR.out.qb b (.inr hb))
  exact ⟨rfl, ⟨OwnR.touch HO.out ht2 (fun b hb c => HR.out.apart b hb (.inr c)), hown2, HR.out.mb, HR.out.qb, HR.out.apart⟩, (hA.trans HBT.out).trans hbt2⟩
end Go.Proofs.Ytkdgnegnndedaaa.PW
