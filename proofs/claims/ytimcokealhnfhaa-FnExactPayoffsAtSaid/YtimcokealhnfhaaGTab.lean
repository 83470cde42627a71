/-
  Walks: games of the laws: sizes, copies, comparisons, marks.
  Plain mathematics of games: what is a table of a game, what is a game. No program is named here.
  Walks: what is a game, in the model and in the program.
  Walks: has a game a constant sum? In the model and in the program.
-/
import Derived.Test.YtimcokealhnfhaaPAnsR
import Derived.KernelRfl
import Derived.Test.YtimcokealhnfhaaPCore
import Derived.Lib.MinMax
import Derived.BigQuiet
namespace Go.Proofs.Ytimcokealhnfhaa.PW
open Go.RowKit Go.Proofs.Ytimcokealhnfhaa
open Go.Proofs.Ytimcokealhnfhaa.PM

def szG (m q : List (List Int)) (left : Int) : Int := if (tot m : Int) + tot q ≤ left then left - tot m - tot q else -1
theorem szG_fits {M Q : List (List Int)} (h : ¬ szG M Q 1048576 < 0) : tot M ≤ 1048576 ∧ tot Q ≤ 1048576 := by
  unfold szG at h
  split at h <;> omega
theorem szG_neg {M Q : List (List Int)} (h : szG M Q 1048576 < 0) : szG M Q 1048576 = -1 := by
  unfold szG at h ⊢
  split at h
  · omega
  · rename_i hc; rw [if_neg hc]
theorem szG_le (M Q : List (List Int)) : szG M Q 1048576 ≤ 1048576 := by
  unfold szG; split <;> omega
theorem szGame_any (m q : Value) (M Q : List (List Int)) (w : World) (h1 : PM.Rows w m M) (h2 : PM.Rows w q Q) :
    Calls Try.prog 27 #[.agg #[m, q], .int .i64 1048576] w fun e w' => e = .returned (.int .i64 (szG M Q 1048576)) ∧ Below w.heap.size w w' := by
  have g1 := fun (w' : World) (h : Below w.heap.size w w') => h1.below h
  have g2 := fun (w' : World) (h : Below w.heap.size w w') => h2.below h
  obtain ⟨a1, c1, rfl, _⟩ := h1
  obtain ⟨a2, c2, rfl, _⟩ := h2
  by_cases hA : (tot M : Int) ≤ 1048576
  · have e1 : szR M 1048576 = 1048576 - tot M := by unfold szR; rw [if_pos hA]
    have E1 := Lib.hid e1
    clear e1
    by_cases hB : (tot M : Int) + tot Q ≤ 1048576
    · have e2 : szR Q (1048576 - tot M) = 1048576 - tot M - tot Q := by unfold szR; rw [if_pos (by omega)]
      have e3 : szG M Q 1048576 = 1048576 - tot M - tot Q := by unfold szG; rw [if_pos hB]
      rw [e3]
      have E2 := Lib.hid e2
      clear e2 e3
      go_enter Try.func27, Try.ntmps27
      go_wp2_with fail
      refine (szInt64SS_any _ M _ _ (g1 _ (by (repeat' (first | (with_reducible exact Below.refl _ _) | (with_reducible assumption) | (with_reducible refine Below.alloc ?_ ?_ _) | (with_reducible refine Below.drew ?_) | (with_reducible refine below_drewN ?_ _) | (with_reducible refine Below.setCell ?_ ?_ _) | (with_reducible refine Below.trans ?_ (Below.mono (by with_reducible assumption) ?_)) | (with_reducible exact Below.size (by with_reducible assumption)) | go_size)))) (by omega) (by omega)).mono ?_; rw [E1.out]; rintro e w1 ⟨rfl, rfl⟩
      go_wp2_with fail
      refine (szInt64SS_any _ Q _ _ (g2 _ (by (repeat' (first | (with_reducible exact Below.refl _ _) | (with_reducible assumption) | (with_reducible refine Below.alloc ?_ ?_ _) | (with_reducible refine Below.drew ?_) | (with_reducible refine below_drewN ?_ _) | (with_reducible refine Below.setCell ?_ ?_ _) | (with_reducible refine Below.trans ?_ (Below.mono (by with_reducible assumption) ?_)) | (with_reducible exact Below.size (by with_reducible assumption)) | go_size)))) (by omega) (by omega)).mono ?_; rw [E2.out]; rintro e w1 ⟨rfl, rfl⟩
      go_wp2_with fail
      go_ret
      exact ⟨rfl, by (repeat' (first | (with_reducible exact Below.refl _ _) | (with_reducible assumption) | (with_reducible refine Below.alloc ?_ ?_ _) | (with_reducible refine Below.drew ?_) | (with_reducible refine below_drewN ?_ _) | (with_reducible refine Below.setCell ?_ ?_ _) | (with_reducible refine Below.trans ?_ (Below.mono (by with_reducible assumption) ?_)) | (with_reducible exact Below.size (by with_reducible assumption)) | go_size))⟩
    · have e2 : szR Q (1048576 - tot M) = -1 := by unfold szR; rw [if_neg (by omega)]
      have e3 : szG M Q 1048576 = -1 := by unfold szG; rw [if_neg hB]
      rw [e3]
      have E2 := Lib.hid e2
      clear e2 e3
      go_enter Try.func27, Try.ntmps27
      go_wp2_with fail
      refine (szInt64SS_any _ M _ _ (g1 _ (by (repeat' (first | (with_reducible exact Below.refl _ _) | (with_reducible assumption) | (with_reducible refine Below.alloc ?_ ?_ _) | (with_reducible refine Below.drew ?_) | (with_reducible refine below_drewN ?_ _) | (with_reducible refine Below.setCell ?_ ?_ _) | (with_reducible refine Below.trans ?_ (Below.mono (by with_reducible assumption) ?_)) | (with_reducible exact Below.size (by with_reducible assumption)) | go_size)))) (by omega) (by omega)).mono ?_; rw [E1.out]; rintro e w1 ⟨rfl, rfl⟩
      go_wp2_with fail
      refine (szInt64SS_any _ Q _ _ (g2 _ (by (repeat' (first | (with_reducible exact Below.refl _ _) | (with_reducible assumption) | (with_reducible refine Below.alloc ?_ ?_ _) | (with_reducible refine Below.drew ?_) | (with_reducible refine below_drewN ?_ _) | (with_reducible refine Below.setCell ?_ ?_ _) | (with_reducible refine Below.trans ?_ (Below.mono (by with_reducible assumption) ?_)) | (with_reducible exact Below.size (by with_reducible assumption)) | go_size)))) (by omega) (by omega)).mono ?_; rw [E2.out]; rintro e w1 ⟨rfl, rfl⟩
      go_wp2_with fail
      go_ret
      exact ⟨rfl, by (repeat' (first | (with_reducible exact Below.refl _ _) | (with_reducible assumption) | (with_reducible refine Below.alloc ?_ ?_ _) | (with_reducible refine Below.drew ?_) | (with_reducible refine below_drewN ?_ _) | (with_reducible refine Below.setCell ?_ ?_ _) | (with_reducible refine Below.trans ?_ (Below.mono (by with_reducible assumption) ?_)) | (with_reducible exact Below.size (by with_reducible assumption)) | go_size))⟩
  · have e1 : szR M 1048576 = -1 := by unfold szR; rw [if_neg hA]
    have e3 : szG M Q 1048576 = -1 := by unfold szG; rw [if_neg (by omega)]
    rw [e3]
    have E1 := Lib.hid e1
    clear e1 e3
    go_enter Try.func27, Try.ntmps27
    go_wp2_with fail
    refine (szInt64SS_any _ M _ _ (g1 _ (by (repeat' (first | (with_reducible exact Below.refl _ _) | (with_reducible assumption) | (with_reducible refine Below.alloc ?_ ?_ _) | (with_reducible refine Below.drew ?_) | (with_reducible refine below_drewN ?_ _) | (with_reducible refine Below.setCell ?_ ?_ _) | (with_reducible refine Below.trans ?_ (Below.mono (by with_reducible assumption) ?_)) | (with_reducible exact Below.size (by with_reducible assumption)) | go_size)))) (by omega) (by omega)).mono ?_; rw [E1.out]; rintro e w1 ⟨rfl, rfl⟩
    go_wp2_with fail
    go_ret
    exact ⟨rfl, by (repeat' (first | (with_reducible exact Below.refl _ _) | (with_reducible assumption) | (with_reducible refine Below.alloc ?_ ?_ _) | (with_reducible refine Below.drew ?_) | (with_reducible refine below_drewN ?_ _) | (with_reducible refine Below.setCell ?_ ?_ _) | (with_reducible refine Below.trans ?_ (Below.mono (by with_reducible assumption) ?_)) | (with_reducible exact Below.size (by with_reducible assumption)) | go_size))⟩

theorem eqGame_same (m q m2 q2 : Value) (M Q : List (List Int)) (w : World) (h1 : PM.Rows w m M) (h2 : PM.Rows w q Q) (h3 : PM.Rows w m2 M) (h4 : PM.Rows w q2 Q) :
    Calls Try.prog 31 #[.agg #[m, q], .agg #[m2, q2]] w fun e w' => e = .returned (.bool true) ∧ Below w.heap.size w w' := by
  have g1 := fun (w' : World) (h : Below w.heap.size w w') => h1.below h
  have g2 := fun (w' : World) (h : Below w.heap.size w w') => h2.below h
  have g3 := fun (w' : World) (h : Below w.heap.size w w') => h3.below h
  have g4 := fun (w' : World) (h : Below w.heap.size w w') => h4.below h
  obtain ⟨a1, c1, rfl, _⟩ := h1
  obtain ⟨a2, c2, rfl, _⟩ := h2
  obtain ⟨a3, c3, rfl, _⟩ := h3
  obtain ⟨a4, c4, rfl, _⟩ := h4
  go_enter Try.func31, Try.ntmps31
  go_wp2_with fail
  refine (eqInt64SS_same _ _ M _ (g1 _ (by (repeat' (first | (with_reducible exact Below.refl _ _) | (with_reducible assumption) | (with_reducible refine Below.alloc ?_ ?_ _) | (with_reducible refine Below.drew ?_) | (with_reducible refine below_drewN ?_ _) | (with_reducible refine Below.setCell ?_ ?_ _) | (with_reducible refine Below.trans ?_ (Below.mono (by with_reducible assumption) ?_)) | (with_reducible exact Below.size (by with_reducible assumption)) | go_size)))) (g3 _ (by (repeat' (first | (with_reducible exact Below.refl _ _) | (with_reducible assumption) | (with_reducible refine Below.alloc ?_ ?_ _) | (with_reducible refine Below.drew ?_) | (with_reducible refine below_drewN ?_ _) | (with_reducible refine Below.setCell ?_ ?_ _) | (with_reducible refine Below.trans ?_ (Below.mono (by with_reducible assumption) ?_)) | (with_reducible exact Below.size (by with_reducible assumption)) | go_size))))).mono ?_; rintro e w1 ⟨rfl, hb1⟩; obtain ⟨hc_hb1, hf_hb1⟩ := bcell hb1; obtain ⟨hcA_hb1, hfA_hb1⟩ := bcellG (W0 := w) hb1 (by (repeat' (first | (with_reducible exact Below.refl _ _) | (with_reducible assumption) | (with_reducible refine Below.alloc ?_ ?_ _) | (with_reducible refine Below.drew ?_) | (with_reducible refine below_drewN ?_ _) | (with_reducible refine Below.setCell ?_ ?_ _) | (with_reducible refine Below.trans ?_ (Below.mono (by with_reducible assumption) ?_)) | (with_reducible exact Below.size (by with_reducible assumption)) | go_size))); have hz_hb1 := hb1.size; (try simp at hz_hb1); (try simp only [Nat.add_one_le_iff] at hz_hb1); have hz0_hb1 : w.heap.size < w1.heap.size := (by omega); have hz1_hb1 : w.heap.size + 1 < w1.heap.size := (by omega)
  go_wp2_with fail
  refine (eqInt64SS_same _ _ Q _ (g2 _ (by (repeat' (first | (with_reducible exact Below.refl _ _) | (with_reducible assumption) | (with_reducible refine Below.alloc ?_ ?_ _) | (with_reducible refine Below.drew ?_) | (with_reducible refine below_drewN ?_ _) | (with_reducible refine Below.setCell ?_ ?_ _) | (with_reducible refine Below.trans ?_ (Below.mono (by with_reducible assumption) ?_)) | (with_reducible exact Below.size (by with_reducible assumption)) | go_size)))) (g4 _ (by (repeat' (first | (with_reducible exact Below.refl _ _) | (with_reducible assumption) | (with_reducible refine Below.alloc ?_ ?_ _) | (with_reducible refine Below.drew ?_) | (with_reducible refine below_drewN ?_ _) | (with_reducible refine Below.setCell ?_ ?_ _) | (with_reducible refine Below.trans ?_ (Below.mono (by with_reducible assumption) ?_)) | (with_reducible exact Below.size (by with_reducible assumption)) | go_size))))).mono ?_; rintro e w2 ⟨rfl, hb2⟩; obtain ⟨hc_hb2, hf_hb2⟩ := bcell hb2; obtain ⟨hcA_hb2, hfA_hb2⟩ := bcellG (W0 := w1) hb2 (by (repeat' (first | (with_reducible exact Below.refl _ _) | (with_reducible assumption) | (with_reducible refine Below.alloc ?_ ?_ _) | (with_reducible refine Below.drew ?_) | (with_reducible refine below_drewN ?_ _) | (with_reducible refine Below.setCell ?_ ?_ _) | (with_reducible refine Below.trans ?_ (Below.mono (by with_reducible assumption) ?_)) | (with_reducible exact Below.size (by with_reducible assumption)) | go_size))); have hz_hb2 := hb2.size; (try simp at hz_hb2); (try simp only [Nat.add_one_le_iff] at hz_hb2); have hz0_hb2 : w.heap.size < w2.heap.size := (by omega); have hz1_hb2 : w.heap.size + 1 < w2.heap.size := (by omega)
  go_wp2_with fail
  go_ret
  refine ⟨rfl, ?_⟩
  (repeat' (first | (with_reducible exact Below.refl _ _) | (with_reducible assumption) | (with_reducible refine Below.alloc ?_ ?_ _) | (with_reducible refine Below.drew ?_) | (with_reducible refine below_drewN ?_ _) | (with_reducible refine Below.setCell ?_ ?_ _) | (with_reducible refine Below.trans ?_ (Below.mono (by with_reducible assumption) ?_)) | (with_reducible exact Below.size (by with_reducible assumption)) | go_size))

/-- Rows in memory of their own: what a write elsewhere leaves. -/
theorem OwnR.touch {bs : List Nat} {w w' : World} {v : Value} {xss : List (List Int)} {us : List Value} (h : OwnR w v xss us) (ht : Tch bs w w') (hd : ∀ k, k ∈ blks v ∨ k ∈ rblks us → k ∉ bs) : OwnR w' v xss us :=
  ⟨h.len, own_touch h.top ht (fun b hb => hd b (.inl (by unfold blks; rw [hb]; simp))), fun i hi => (h.rows i hi).tch ht (fun b hb => hd b (.inr (mem_rblks (by rw [h.len]; exact hi) hb))), h.apart, h.over⟩

/-- Two tables in memory of their own, all in blocks from lo on below hi. -/
structure RngG (lo hi : Nat) (w : World) (m q : Value) (M Q : List (List Int)) (us : List Value × List Value) : Prop where
  fst : OwnR w m M us.1
  snd : OwnR w q Q us.2
  mb : ∀ b, b ∈ blks m ∨ b ∈ rblks us.1 → lo ≤ b ∧ b < hi
  qb : ∀ b, b ∈ blks q ∨ b ∈ rblks us.2 → lo ≤ b ∧ b < hi
  apart : ∀ b, b ∈ blks m ∨ b ∈ rblks us.1 → b ∈ blks q ∨ b ∈ rblks us.2 → False
theorem mem_blks {v : Value} {b : Nat} : b ∈ blks v ↔ v.ownBlock = some b := by unfold blks; simp
theorem OwnR.betw {lo hi lo' hi' : Nat} {w w' : World} {v : Value} {xss : List (List Int)} {us : List Value} (h : OwnR w v xss us) (hb : ∀ b, b ∈ blks v ∨ b ∈ rblks us → lo ≤ b ∧ b < hi) (ht : Bet lo' hi' w w') (hd : hi ≤ lo' ∨ hi' ≤ lo) : OwnR w' v xss us :=
  ⟨h.len, row_bet h.top ht (fun b hb' => by have := hb b (.inl (mem_blks.2 hb')); omega), fun i hi => row_bet (h.rows i hi) ht (fun b hb' => by have := hb b (.inr (mem_rblks (by rw [h.len]; exact hi) hb')); omega), h.apart, h.over⟩
theorem RngG.bet {lo hi lo' hi' : Nat} {w w' : World} {m q : Value} {M Q : List (List Int)} {us : List Value × List Value} (h : RngG lo hi w m q M Q us) (ht : Bet lo' hi' w w') (hd : hi ≤ lo' ∨ hi' ≤ lo) : RngG lo hi w' m q M Q us :=
  ⟨OwnR.betw h.fst h.mb ht hd, OwnR.betw h.snd h.qb ht hd, h.mb, h.qb, h.apart⟩
theorem RngG.below {lo hi B : Nat} {w w' : World} {m q : Value} {M Q : List (List Int)} {us : List Value × List Value} (h : RngG lo hi w m q M Q us) (ht : Below B w w') (hd : hi ≤ B) : RngG lo hi w' m q M Q us :=
  h.bet (lo' := B) (hi' := w.heap.size + B) ⟨ht.os, ht.tape, ht.output, ht.size, fun k _ hr => by
    rcases hr with hr | hr
    · exact ht.block k hr
    · omega⟩ (.inl hd)
theorem RngG.reads {lo hi : Nat} {w : World} {m q : Value} {M Q : List (List Int)} {us : List Value × List Value} (h : RngG lo hi w m q M Q us) (hM : ∀ i, i < M.length → ∀ x ∈ M.getD i [], I64 x) (hQ : ∀ i, i < Q.length → ∀ x ∈ Q.getD i [], I64 x) : PM.Rows w m M ∧ PM.Rows w q Q :=
  ⟨h.fst.rows' hM, h.snd.rows' hQ⟩
theorem RngG.of_two {lo mid hi : Nat} {w : World} {m q : Value} {M Q : List (List Int)} (h1 : RngR lo mid w m M) (h2 : RngR mid hi w q Q) (hl : lo ≤ mid) (hh : mid ≤ hi) : ∃ us, RngG lo hi w m q M Q us := by
  obtain ⟨us, ho, hm, hu⟩ := h1.own
  obtain ⟨vs, ho2, hm2, hu2⟩ := h2.own
  have b1 : ∀ b, b ∈ blks m ∨ b ∈ rblks us → lo ≤ b ∧ b < mid := fun b hb => by
    rcases hb with hb | hb
    · exact hm b (mem_blks.1 hb)
    · obtain ⟨i, hi, hb'⟩ := of_mem_rblks hb
      exact hu i b (by rw [← ho.len]; exact hi) hb'
  have b2 : ∀ b, b ∈ blks q ∨ b ∈ rblks vs → mid ≤ b ∧ b < hi := fun b hb => by
    rcases hb with hb | hb
    · exact hm2 b (mem_blks.1 hb)
    · obtain ⟨i, hi, hb'⟩ := of_mem_rblks hb
      exact hu2 i b (by rw [← ho2.len]; exact hi) hb'
  exact ⟨(us, vs), ho, ho2, fun b hb => by have := b1 b hb; omega, fun b hb => by have := b2 b hb; omega, fun b hb hb2 => by have := b1 b hb; have := b2 b hb2; omega⟩

theorem toGRows_out (v : Value) (M : List (List Int)) (w : World) (hx : PM.Rows w v M) (hn : tot M ≤ 1048576) :
    Calls Try.prog 68 #[v] w fun e w' => ∃ g, e = .returned (.slice (some ⟨g, 0, none⟩) M.length M.length) ∧
      RngR w.heap.size w'.heap.size w' (.slice (some ⟨g, 0, none⟩) M.length M.length) M ∧ Below w.heap.size w w' := by
  refine (toInt64SS_any v M w hx hn).mono ?_
  rintro e w' ⟨rfl, hb, hz, ht, hr⟩
  have hml : M.length ≤ maxLen := by unfold tot at hn; unfold maxLen; omega
  have hrl : ∀ i, i < M.length → (M.getD i []).length ≤ maxLen := fun i hi => by
    have a1 := pre_succ M i hi
    have a2 := pre_le M (i + 1)
    unfold tot at hn
    unfold maxLen
    omega
  obtain ⟨g, hg⟩ : ∃ g, g = w.heap.size := ⟨_, rfl⟩
  rw [← hg] at ht hr hz ⊢
  have hus : ∀ i, i < M.length → ((List.range M.length).map (partR g M M.length)).getD i undef = .slice (some ⟨g + 1 + i, 0, none⟩) (M.getD i []).length (M.getD i []).length := fun i hi => by
    have : partR g M M.length i = .slice (some ⟨g + 1 + i, 0, none⟩) (M.getD i []).length (M.getD i []).length := by unfold partR; rw [if_pos hi]
    rw [← this]
    simp [hi]
  have hltg := ht.lt
  refine ⟨g, rfl, ⟨(List.range M.length).map (partR g M M.length), ⟨by simp, ?_, fun i hi => ?_, fun i j b hi hj h1 h2 => ?_, fun i b hi h1 h2 => ?_⟩, fun b hb' => ?_, fun i b hi hb' => ?_⟩, by rw [hg]; exact hb⟩
  · obtain ⟨c, hb, hn, hc⟩ := ht
    refine ⟨by simp, .inr ⟨g, M.length, c, rfl, Nat.zero_le _, hb, Nat.le_refl _, hml, by simpa using hn, ?_⟩⟩
    rw [Nat.mul_one, List.take_of_length_le (by simp [hn])]
    apply List.ext_getElem?
    intro i
    by_cases hi : i < M.length
    · have := hc i hi
      rw [Array.getElem?_toList, this]
      simp [hi]
    · rw [List.getElem?_eq_none (by simp [hn]; omega), List.getElem?_eq_none (by simp; omega)]
  · rw [hus i hi]
    exact (hr i hi).own (hrl i hi)
  · rw [hus i hi] at h1
    rw [hus j hj] at h2
    simp [Value.ownBlock] at h1 h2
    omega
  · rw [hus i hi] at h2
    simp [Value.ownBlock] at h1 h2
    omega
  · simp [Value.ownBlock] at hb'
    omega
  · rw [hus i hi] at hb'
    have := (hr i hi).lt
    simp [Value.ownBlock] at hb'
    omega

theorem toGame_out (m q : Value) (M Q : List (List Int)) (w : World) (h1 : PM.Rows w m M) (h2 : PM.Rows w q Q) (hn : tot M ≤ 1048576) (hn2 : tot Q ≤ 1048576) :
    Calls Try.prog 29 #[.agg #[m, q]] w fun e w' => ∃ g h us, e = .returned (.agg #[.slice (some ⟨g, 0, none⟩) M.length M.length, .slice (some ⟨h, 0, none⟩) Q.length Q.length]) ∧
      RngG w.heap.size w'.heap.size w' (.slice (some ⟨g, 0, none⟩) M.length M.length) (.slice (some ⟨h, 0, none⟩) Q.length Q.length) M Q us ∧ Below w.heap.size w w' := by
  have g1 := fun (w' : World) (h : Below w.heap.size w w') => h1.below h
  have g2 := fun (w' : World) (h : Below w.heap.size w w') => h2.below h
  obtain ⟨a1, c1, rfl, _⟩ := h1
  obtain ⟨a2, c2, rfl, _⟩ := h2
  have HN := Lib.hid hn
  have HN2 := Lib.hid hn2
  clear hn hn2
  go_enter Try.func29, Try.ntmps29
  go_wp2_with fail
  refine (toGRows_out _ M _ (g1 _ (by (repeat' (first | (with_reducible exact Below.refl _ _) | (with_reducible assumption) | (with_reducible refine Below.alloc ?_ ?_ _) | (with_reducible refine Below.drew ?_) | (with_reducible refine below_drewN ?_ _) | (with_reducible refine Below.setCell ?_ ?_ _) | (with_reducible refine Below.trans ?_ (Below.mono (by with_reducible assumption) ?_)) | (with_reducible exact Below.size (by with_reducible assumption)) | go_size)))) HN.out).mono ?_; rintro e w1 ⟨gA, rfl, hr1, hb1⟩; obtain ⟨hc_hb1, hf_hb1⟩ := bcell hb1; obtain ⟨hcA_hb1, hfA_hb1⟩ := bcellG (W0 := w) hb1 (by (repeat' (first | (with_reducible exact Below.refl _ _) | (with_reducible assumption) | (with_reducible refine Below.alloc ?_ ?_ _) | (with_reducible refine Below.drew ?_) | (with_reducible refine below_drewN ?_ _) | (with_reducible refine Below.setCell ?_ ?_ _) | (with_reducible refine Below.trans ?_ (Below.mono (by with_reducible assumption) ?_)) | (with_reducible exact Below.size (by with_reducible assumption)) | go_size))); have hz_hb1 := hb1.size; (try simp at hz_hb1); (try simp only [Nat.add_one_le_iff] at hz_hb1); have hz0_hb1 : w.heap.size < w1.heap.size := (by omega); have hz1_hb1 : w.heap.size + 1 < w1.heap.size := (by omega); have hz2_hb1 : w.heap.size + 1 + 1 < w1.heap.size := (by omega)
  have HR1 := Lib.hid hr1
  clear hr1
  go_wp2_with fail
  refine (toGRows_out _ Q _ (g2 _ (by (repeat' (first | (with_reducible exact Below.refl _ _) | (with_reducible assumption) | (with_reducible refine Below.alloc ?_ ?_ _) | (with_reducible refine Below.drew ?_) | (with_reducible refine below_drewN ?_ _) | (with_reducible refine Below.setCell ?_ ?_ _) | (with_reducible refine Below.trans ?_ (Below.mono (by with_reducible assumption) ?_)) | (with_reducible exact Below.size (by with_reducible assumption)) | go_size)))) HN2.out).mono ?_; rintro e w2 ⟨gB, rfl, hr2, hb2⟩; obtain ⟨hc_hb2, hf_hb2⟩ := bcell hb2; have hz_hb2 := hb2.size; (try simp at hz_hb2); (try simp only [Nat.add_one_le_iff] at hz_hb2)
  have hz0_hb2 : w.heap.size < w2.heap.size := by omega
  have hz1_hb2 : w.heap.size + 1 < w2.heap.size := by omega
  have hz2_hb2 : w.heap.size + 1 + 1 < w2.heap.size := by omega
  have HR2 := Lib.hid hr2
  clear hr2
  go_wp2_with fail
  refine bodyPost_ret (v := .agg #[.slice (some ⟨gA, 0, none⟩) M.length M.length, .slice (some ⟨gB, 0, none⟩) Q.length Q.length]) (by simp [*, results, Try.results29, go_sem]) rfl ?_
  have hr1 := HR1.out
  have hr2 := HR2.out
  simp only [World.size_alloc] at hr1
  simp only [World.size_setCell] at hr2
  have B1 : Bet w.heap.size (w.heap.size + 1 + 1 + 1) w1 (w1.setCell ⟨w.heap.size + 1 + 1, 0, none⟩ (.slice (some ⟨gA, 0, none⟩) M.length M.length)) :=
    Bet.of_tch (bs := [w.heap.size + 1 + 1]) ((Tch.refl _ _).setCell (by simp) _) (fun b hb => by simp at hb; omega)
  have B2 : Bet w.heap.size (w.heap.size + 1 + 1 + 1) w2 (((w2.setCell ⟨w.heap.size + 1 + 1, 1, none⟩ (.slice (some ⟨gB, 0, none⟩) Q.length Q.length)).setCell ⟨w.heap.size + 1, 0, none⟩ (.slice (some ⟨gA, 0, none⟩) M.length M.length)).setCell ⟨w.heap.size + 1, 1, none⟩ (.slice (some ⟨gB, 0, none⟩) Q.length Q.length)) :=
    Bet.of_tch (bs := [w.heap.size + 1, w.heap.size + 1 + 1]) ((((Tch.refl _ _).setCell (by simp) _).setCell (by simp) _).setCell (by simp) _) (fun b hb => by simp at hb; omega)
  have B12 : Bet w.heap.size (w.heap.size + 1 + 1 + 1) (w1.setCell ⟨w.heap.size + 1 + 1, 0, none⟩ (.slice (some ⟨gA, 0, none⟩) M.length M.length)) w2 := ⟨hb2.os, hb2.tape, hb2.output, hb2.size, fun k hk _ => hb2.block k hk⟩
  have hm := ((hr1.bet B1 (.inr (Nat.le_refl _))).bet B12 (.inr (Nat.le_refl _))).bet B2 (.inr (Nat.le_refl _))
  have hq := hr2.bet B2 (.inr (by omega))
  obtain ⟨us, hG⟩ := RngG.of_two hm hq (by omega) (by omega)
  have h1 : Below w.heap.size w w1 := by (repeat' (first | (with_reducible exact Below.refl _ _) | (with_reducible assumption) | (with_reducible refine Below.alloc ?_ ?_ _) | (with_reducible refine Below.drew ?_) | (with_reducible refine below_drewN ?_ _) | (with_reducible refine Below.setCell ?_ ?_ _) | (with_reducible refine Below.trans ?_ (Below.mono (by with_reducible assumption) ?_)) | (with_reducible exact Below.size (by with_reducible assumption)) | go_size))
  refine ⟨gA, gB, us, rfl, ⟨hG.fst, hG.snd, fun b hb => ?_, fun b hb => ?_, hG.apart⟩, h1.trans (((B1.trans B12).trans B2).below (by omega))⟩
  · have := hG.mb b hb; simp; omega
  · have := hG.qb b hb; simp; omega

theorem heldGame_any (m q : Value) (M Q : List (List Int)) (k : Int) (w : World) (h1 : PM.Rows w m (marksR k M)) (h2 : PM.Rows w q (marksR (k + pre M M.length) Q)) (h0 : 0 ≤ k) (hb : k + tot M + tot Q ≤ 4611686018427387904) :
    Calls Try.prog 49 #[.agg #[m, q], .int .i64 k] w fun e w' => e = .returned (.int .i64 (k + pre M M.length + pre Q Q.length)) ∧ Below w.heap.size w w' := by
  have hpt : (pre M M.length : Int) ≤ tot M := by
    have := pre_le M M.length
    unfold tot
    omega
  have hpq : (pre Q Q.length : Int) ≤ tot Q := by
    have := pre_le Q Q.length
    unfold tot
    omega
  have hA' : ∀ o, Below w.heap.size w (w.alloc o) := fun o => (Below.refl _ _).alloc (Nat.le_refl _) _
  have g1 := fun o => h1.below (hA' o)
  have g2 := fun o => h2.below (hA' o)
  obtain ⟨a1, c1, rfl, _⟩ := h1
  obtain ⟨a2, c2, rfl, _⟩ := h2
  have G1 := Lib.hid g1
  have G2 := Lib.hid g2
  have HP := Lib.hid hpt
  have HP2 := Lib.hid hpq
  have HB := Lib.hid hb
  clear g1 g2 hpt hpq hb hA'
  have c0 := fun o => heldInt64SS_any _ M k _ (G1.out o) h0 (by have := HB.out; omega)
  generalize pre M M.length = pM at *
  have hpb : 0 ≤ k + (pM : Int) ∧ k + (pM : Int) ≤ 4611686018427387904 := by have := HB.out; have := HP.out; omega
  have d0 := fun o => heldInt64SS_any _ Q (k + pM) _ (G2.out o) hpb.1 (by have := HB.out; have := HP.out; omega)
  generalize pre Q Q.length = pQ at *
  have hpb2 : 0 ≤ k + (pM : Int) + pQ ∧ k + (pM : Int) + pQ ≤ 4611686018427387904 := by have := HB.out; have := HP.out; have := HP2.out; omega
  have C0 := Lib.hid c0
  have D0 := Lib.hid d0
  clear c0 d0
  go_enter Try.func49, Try.ntmps49
  go_wp2_with fail
  refine (C0.out _).mono ?_
  rintro e w1 ⟨rfl, rfl⟩
  go_wp2_with fail
  refine (D0.out _).mono ?_
  rintro e w1 ⟨rfl, rfl⟩
  go_wp2_with fail
  go_ret
  refine ⟨rfl, ?_⟩
  (repeat' (first | (with_reducible exact Below.refl _ _) | (with_reducible assumption) | (with_reducible refine Below.alloc ?_ ?_ _) | (with_reducible refine Below.drew ?_) | (with_reducible refine below_drewN ?_ _) | (with_reducible refine Below.setCell ?_ ?_ _) | (with_reducible refine Below.trans ?_ (Below.mono (by with_reducible assumption) ?_)) | (with_reducible exact Below.size (by with_reducible assumption)) | go_size))

theorem markGame_any (lo hi : Nat) (m q : Value) (M Q : List (List Int)) (us : List Value × List Value) (k : Int) (w : World) (h : RngG lo hi w m q M Q us) (hhi : hi ≤ w.heap.size) (h0 : 0 ≤ k) (h1 : k + tot M + tot Q ≤ 4611686018427387904) :
    Calls Try.prog 34 #[.agg #[m, q], .int .i64 k] w fun e w' => e = .returned (.int .i64 (k + pre M M.length + pre Q Q.length)) ∧ RngG lo hi w' m q (marksR k M) (marksR (k + pre M M.length) Q) us ∧ Bet lo hi w w' := by
  obtain ⟨a1, c1, rfl⟩ : ∃ a cap, m = .slice a M.length cap := by
    rcases h.fst.top.2 with ⟨rfl, hn⟩ | ⟨g, cap, cur, rfl, _⟩
    · exact ⟨none, 0, by rw [hn]⟩
    · exact ⟨_, cap, rfl⟩
  obtain ⟨a2, c2, rfl⟩ : ∃ a cap, q = .slice a Q.length cap := by
    rcases h.snd.top.2 with ⟨rfl, hn⟩ | ⟨g, cap, cur, rfl, _⟩
    · exact ⟨none, 0, by rw [hn]⟩
    · exact ⟨_, cap, rfl⟩
  have hpt : (pre M M.length : Int) ≤ tot M := by
    have := pre_le M M.length
    unfold tot
    omega
  have hA : Bet lo hi w (w.alloc (.cells #[.slice a1 M.length c1, .slice a2 Q.length c2] 43)) := .of_below ((Below.refl _ _).alloc (Nat.le_refl _) _)
  have hA' : Below w.heap.size w (w.alloc (.cells #[.slice a1 M.length c1, .slice a2 Q.length c2] 43)) := (Below.refl _ _).alloc (Nat.le_refl _) _
  have hR := h.below hA' hhi
  have HR := Lib.hid hR
  have HP := Lib.hid hpt
  have HB := Lib.hid h1
  clear hR h hpt h1 hA'
  have c0 := markInt64SS_any _ M us.1 k _ HR.out.fst h0 (by have := HB.out; omega)
  generalize pre M M.length = pM at *
  obtain ⟨pQ, hpQ⟩ : ∃ pQ, pQ = pre Q Q.length := ⟨_, rfl⟩
  rw [← hpQ]
  have HPQ := Lib.hid hpQ
  clear hpQ
  have C0 := Lib.hid c0
  clear c0
  go_enter Try.func34, Try.ntmps34
  go_wp2_with fail
  refine C0.out.mono ?_
  rintro e w1 ⟨rfl, hown, ht⟩
  have htb : ∀ b, b ∈ rblks us.1 → lo ≤ b ∧ b < hi := fun b hb => HR.out.mb b (.inr hb)
  have hc1 : ∀ o, w1.cell? ⟨w.heap.size, o, none⟩ = (w.alloc (.cells #[.slice a1 M.length c1, .slice a2 Q.length c2] 43)).cell? ⟨w.heap.size, o, none⟩ := fun o => (Bet.of_tch ht htb).cell (p := ⟨w.heap.size, o, none⟩) (by simp) (.inr hhi)
  have hq1 : OwnR w1 (.slice a2 Q.length c2) Q us.2 := OwnR.touch HR.out.snd ht (fun b hb c => HR.out.apart b (.inr c) hb)
  have hbt := Bet.of_tch ht htb
  have HO := Lib.hid hown
  have HBT := Lib.hid hbt
  clear hown hbt ht htb
  have hpb : 0 ≤ k + (pM : Int) ∧ k + (pM : Int) ≤ 4611686018427387904 := by have := HB.out; have := HP.out; omega
  have d0 := markInt64SS_any _ Q us.2 (k + pM) _ hq1 hpb.1 (by have := HB.out; have := HP.out; omega)
  rw [← HPQ.out] at d0
  have D0 := Lib.hid d0
  clear hq1 d0
  go_wp2_with fail
  refine D0.out.mono ?_
  rintro e w2 ⟨rfl, hown2, ht2⟩
  go_wp2_with fail
  go_ret
  have hbt2 : Bet lo hi w1 w2 := Bet.of_tch ht2 (fun b hb => HR.out.qb b (.inr hb))
  exact ⟨rfl, ⟨OwnR.touch HO.out ht2 (fun b hb c => HR.out.apart b hb (.inr c)), hown2, HR.out.mb, HR.out.qb, HR.out.apart⟩, (hA.trans HBT.out).trans hbt2⟩
end Go.Proofs.Ytimcokealhnfhaa.PW
namespace Go.Proofs.Ytimcokealhnfhaa.PM

/-- A number of a table. -/
def gE (T : List (List Int)) (i j : Nat) : Int := (T.getD i []).getD j 0
/-- A table of a game: k rows of l numbers from 1 to 20. -/
def gtB (T : List (List Int)) (k l : Nat) : Bool := decide (T.length = k ∧ ∀ i, i < T.length → (T.getD i []).length = l ∧ ∀ j, j < l → 1 ≤ gE T i j ∧ gE T i j ≤ 20)
def gcols (A : List (List Int)) : Nat := (A.getD 0 []).length
/-- A game. -/
def isGB (A B : List (List Int)) : Bool := decide (1 ≤ A.length ∧ 1 ≤ gcols A ∧ A.length + gcols A ≤ 5) && (gtB A A.length (gcols A) && gtB B A.length (gcols A))
theorem gtB_iff (T : List (List Int)) (k l : Nat) : gtB T k l = true ↔ T.length = k ∧ ∀ i, i < k → (T.getD i []).length = l ∧ ∀ j, j < l → 1 ≤ gE T i j ∧ gE T i j ≤ 20 := by
  unfold gtB
  rw [decide_eq_true_iff]
  constructor
  · rintro ⟨h1, h2⟩; exact ⟨h1, fun i hi => h2 i (by omega)⟩
  · rintro ⟨h1, h2⟩; exact ⟨h1, fun i hi => h2 i (by omega)⟩
theorem gtB_no {T : List (List Int)} {k l : Nat} (h : ¬ (T.length = k ∧ ∀ i, i < k → (T.getD i []).length = l ∧ ∀ j, j < l → 1 ≤ gE T i j ∧ gE T i j ≤ 20)) : gtB T k l = false := by
  cases e : gtB T k l with
  | false => rfl
  | true => exact absurd ((gtB_iff T k l).1 e) h
structure Gm (A B : List (List Int)) : Prop where
  k1 : 1 ≤ A.length
  l1 : 1 ≤ gcols A
  n5 : A.length + gcols A ≤ 5
  bk : B.length = A.length
  al : ∀ i, i < A.length → (A.getD i []).length = gcols A
  bl : ∀ i, i < A.length → (B.getD i []).length = gcols A
  ae : ∀ i j, i < A.length → j < gcols A → 1 ≤ gE A i j ∧ gE A i j ≤ 20
  be : ∀ i j, i < A.length → j < gcols A → 1 ≤ gE B i j ∧ gE B i j ≤ 20
theorem isGB_iff (A B : List (List Int)) : isGB A B = true ↔ Gm A B := by
  unfold isGB
  rw [Bool.and_eq_true, Bool.and_eq_true, decide_eq_true_iff, gtB_iff, gtB_iff]
  constructor
  · rintro ⟨⟨h1, h2, h3⟩, ⟨_, h4⟩, h5, h6⟩
    exact ⟨h1, h2, h3, h5, fun i hi => (h4 i hi).1, fun i hi => (h6 i hi).1, fun i j hi hj => (h4 i hi).2 j hj, fun i j hi hj => (h6 i hi).2 j hj⟩
  · rintro ⟨h1, h2, h3, h4, h5, h6, h7, h8⟩
    exact ⟨⟨h1, h2, h3⟩, ⟨rfl, fun i hi => ⟨h5 i hi, fun j hj => h7 i j hi hj⟩⟩, h4, fun i hi => ⟨h6 i hi, fun j hj => h8 i j hi hj⟩⟩
theorem isGB_no {A B : List (List Int)} (h : ¬ Gm A B) : isGB A B = false := by
  cases e : isGB A B with
  | false => rfl
  | true => exact absurd ((isGB_iff A B).1 e) h
theorem isGB_size {A B : List (List Int)} (h : ¬ (1 ≤ A.length ∧ 1 ≤ gcols A ∧ A.length + gcols A ≤ 5)) : isGB A B = false := isGB_no (fun c => h ⟨c.k1, c.l1, c.n5⟩)
end Go.Proofs.Ytimcokealhnfhaa.PM
namespace Go.Proofs.Ytimcokealhnfhaa.PW
open Go.RowKit Go.Proofs.Ytimcokealhnfhaa
open Go.Proofs.Ytimcokealhnfhaa.PM

/-- The least and the greatest of a list that is not empty. -/
theorem listMin_any (v : Value) (xs : List Int) (w : World) (hv : Ints w v xs) (h0 : 0 < xs.length) :
    Calls Try.prog 117 #[v] w fun e w' => ∃ r : Int, e = .returned (.int .i64 r) ∧ Hid ((∀ j, j < xs.length → r ≤ xs.getD j 0) ∧ ∃ j, j < xs.length ∧ r = xs.getD j 0) ∧ w = w' := by
  obtain ⟨a, cap, rfl, hc, hm0, _, hx⟩ := hv
  have hm := maxLen_le (Nat.le_trans hc hm0)
  obtain ⟨b, off, rfl, _, hce⟩ : ∃ b off, a = some ⟨b, off, none⟩ ∧ b < w.heap.size ∧ CellsAt w b off xs := by
    rcases hx with hx | hx
    · rw [hx] at h0; simp at h0
    · exact hx
  have HC := Lib.hid hce
  have c0 : w.cell? ⟨b, off, none⟩ = some (.int .i64 (xs.getD 0 0)) := hce 0 h0
  obtain ⟨x0, hx0⟩ : ∃ x0, xs.getD 0 0 = x0 := ⟨_, rfl⟩
  rw [hx0] at c0
  have HX0 := Lib.hid hx0
  clear hce hc hm0 hx hx0
  go_enter Try.func117, Try.ntmps117
  go_wp2
  go_loop [3, 4] (fun m i => ∃ (k : Nat) (r : Int), 0 < k ∧ k ≤ xs.length ∧ i = .int .i64 k ∧ m = .int .i64 r ∧ Hid ((∀ j, j < k → r ≤ xs.getD j 0) ∧ ∃ j, j < k ∧ r = xs.getD j 0)) (fun _ i => xs.length - (intOf i).toNat)
  case atStart => exact ⟨1, _, Nat.one_pos, h0, rfl, rfl, ⟨fun j hj => by obtain rfl : j = 0 := (by omega); rw [HX0.out]; exact Int.le_refl _, 0, by omega, HX0.out.symm⟩⟩
  case round =>
    obtain ⟨k, r, hk0, hk, rfl, rfl, hr⟩ := hrel
    clear c0
    by_cases hlt : k < xs.length
    · have hu := HC.out k hlt
      have hnx : Hid ((∀ j, j < k + 1 → min r (xs.getD k 0) ≤ xs.getD j 0) ∧ ∃ j, j < k + 1 ∧ min r (xs.getD k 0) = xs.getD j 0) := by
        obtain ⟨h1, j0, h2, h3⟩ := hr.out
        refine ⟨fun j hj => ?_, ?_⟩
        · by_cases e : j = k
          · subst e; exact Int.min_le_right _ _
          · exact Int.le_trans (Int.min_le_left _ _) (h1 j (by omega))
        · rcases Int.le_total r (xs.getD k 0) with h | h
          · exact ⟨j0, by omega, by rw [Int.min_eq_left h]; exact h3⟩
          · exact ⟨k, by omega, Int.min_eq_right h⟩
      clear hr
      generalize xs.getD k 0 = x at hnx hu
      go_wp2
      go_round
      case rel => exact ⟨k + 1, _, by omega, by omega, by go_num, rfl, hnx⟩
      case measure => simp [intOf]; omega
    · obtain rfl : k = xs.length := by omega
      go_wp2
      go_ret
      exact ⟨r, rfl, hr, rfl⟩
theorem listMax_any (v : Value) (xs : List Int) (w : World) (hv : Ints w v xs) (h0 : 0 < xs.length) :
    Calls Try.prog 118 #[v] w fun e w' => ∃ r : Int, e = .returned (.int .i64 r) ∧ Hid ((∀ j, j < xs.length → xs.getD j 0 ≤ r) ∧ ∃ j, j < xs.length ∧ r = xs.getD j 0) ∧ w = w' := by
  obtain ⟨a, cap, rfl, hc, hm0, _, hx⟩ := hv
  have hm := maxLen_le (Nat.le_trans hc hm0)
  obtain ⟨b, off, rfl, _, hce⟩ : ∃ b off, a = some ⟨b, off, none⟩ ∧ b < w.heap.size ∧ CellsAt w b off xs := by
    rcases hx with hx | hx
    · rw [hx] at h0; simp at h0
    · exact hx
  have HC := Lib.hid hce
  have c0 : w.cell? ⟨b, off, none⟩ = some (.int .i64 (xs.getD 0 0)) := hce 0 h0
  obtain ⟨x0, hx0⟩ : ∃ x0, xs.getD 0 0 = x0 := ⟨_, rfl⟩
  rw [hx0] at c0
  have HX0 := Lib.hid hx0
  clear hce hc hm0 hx hx0
  go_enter Try.func118, Try.ntmps118
  go_wp2
  go_loop [3, 4] (fun m i => ∃ (k : Nat) (r : Int), 0 < k ∧ k ≤ xs.length ∧ i = .int .i64 k ∧ m = .int .i64 r ∧ Hid ((∀ j, j < k → xs.getD j 0 ≤ r) ∧ ∃ j, j < k ∧ r = xs.getD j 0)) (fun _ i => xs.length - (intOf i).toNat)
  case atStart => exact ⟨1, _, Nat.one_pos, h0, rfl, rfl, ⟨fun j hj => by obtain rfl : j = 0 := (by omega); rw [HX0.out]; exact Int.le_refl _, 0, by omega, HX0.out.symm⟩⟩
  case round =>
    obtain ⟨k, r, hk0, hk, rfl, rfl, hr⟩ := hrel
    clear c0
    by_cases hlt : k < xs.length
    · have hu := HC.out k hlt
      have hnx : Hid ((∀ j, j < k + 1 → xs.getD j 0 ≤ max r (xs.getD k 0)) ∧ ∃ j, j < k + 1 ∧ max r (xs.getD k 0) = xs.getD j 0) := by
        obtain ⟨h1, j0, h2, h3⟩ := hr.out
        refine ⟨fun j hj => ?_, ?_⟩
        · by_cases e : j = k
          · subst e; exact Int.le_max_right _ _
          · exact Int.le_trans (h1 j (by omega)) (Int.le_max_left _ _)
        · rcases Int.le_total r (xs.getD k 0) with h | h
          · exact ⟨k, by omega, Int.max_eq_right h⟩
          · exact ⟨j0, by omega, by rw [Int.max_eq_left h]; exact h3⟩
      clear hr
      generalize xs.getD k 0 = x at hnx hu
      go_wp2
      go_round
      case rel => exact ⟨k + 1, _, by omega, by omega, by go_num, rfl, hnx⟩
      case measure => simp [intOf]; omega
    · obtain rfl : k = xs.length := by omega
      go_wp2
      go_ret
      exact ⟨r, rfl, hr, rfl⟩

theorem ex_min (xs : List Int) (h : 0 < xs.length) : ∃ r : Int, (∀ j, j < xs.length → r ≤ xs.getD j 0) ∧ ∃ j, j < xs.length ∧ r = xs.getD j 0 := by
  have key : ∀ n, 0 < n → n ≤ xs.length → ∃ r : Int, (∀ j, j < n → r ≤ xs.getD j 0) ∧ ∃ j, j < n ∧ r = xs.getD j 0 := by
    intro n
    induction n with
    | zero => intro h; omega
    | succ n ih =>
      intro _ hn
      by_cases h0 : n = 0
      · subst h0
        exact ⟨xs.getD 0 0, fun j hj => by obtain rfl : j = 0 := (by omega); exact Int.le_refl _, 0, by omega, rfl⟩
      · obtain ⟨r, h1, j0, h2, h3⟩ := ih (by omega) (by omega)
        by_cases hc : r ≤ xs.getD n 0
        · exact ⟨r, fun j hj => by
            by_cases e : j = n
            · subst e; exact hc
            · exact h1 j (by omega), j0, by omega, h3⟩
        · exact ⟨xs.getD n 0, fun j hj => by
            by_cases e : j = n
            · subst e; exact Int.le_refl _
            · have := h1 j (by omega); omega, n, by omega, rfl⟩
  exact key xs.length h (Nat.le_refl _)
theorem ex_max (xs : List Int) (h : 0 < xs.length) : ∃ r : Int, (∀ j, j < xs.length → xs.getD j 0 ≤ r) ∧ ∃ j, j < xs.length ∧ r = xs.getD j 0 := by
  have key : ∀ n, 0 < n → n ≤ xs.length → ∃ r : Int, (∀ j, j < n → xs.getD j 0 ≤ r) ∧ ∃ j, j < n ∧ r = xs.getD j 0 := by
    intro n
    induction n with
    | zero => intro h; omega
    | succ n ih =>
      intro _ hn
      by_cases h0 : n = 0
      · subst h0
        exact ⟨xs.getD 0 0, fun j hj => by obtain rfl : j = 0 := (by omega); exact Int.le_refl _, 0, by omega, rfl⟩
      · obtain ⟨r, h1, j0, h2, h3⟩ := ih (by omega) (by omega)
        by_cases hc : xs.getD n 0 ≤ r
        · exact ⟨r, fun j hj => by
            by_cases e : j = n
            · subst e; exact hc
            · exact h1 j (by omega), j0, by omega, h3⟩
        · exact ⟨xs.getD n 0, fun j hj => by
            by_cases e : j = n
            · subst e; exact Int.le_refl _
            · have := h1 j (by omega); omega, n, by omega, rfl⟩
  exact key xs.length h (Nat.le_refl _)
theorem listMin_is (v : Value) (xs : List Int) (w : World) (hv : Ints w v xs) (h0 : 0 < xs.length) (r : Int) (hr : (∀ j, j < xs.length → r ≤ xs.getD j 0) ∧ ∃ j, j < xs.length ∧ r = xs.getD j 0) :
    Calls Try.prog 117 #[v] w fun e w' => e = .returned (.int .i64 r) ∧ w = w' := by
  refine (listMin_any v xs w hv h0).mono ?_
  rintro e w' ⟨q, rfl, ⟨h1, j, h2, h3⟩, rfl⟩
  obtain ⟨g1, k, g2, g3⟩ := hr
  have := h1 k g2
  have := g1 j h2
  obtain rfl : q = r := by omega
  exact ⟨rfl, rfl⟩
theorem listMax_is (v : Value) (xs : List Int) (w : World) (hv : Ints w v xs) (h0 : 0 < xs.length) (r : Int) (hr : (∀ j, j < xs.length → xs.getD j 0 ≤ r) ∧ ∃ j, j < xs.length ∧ r = xs.getD j 0) :
    Calls Try.prog 118 #[v] w fun e w' => e = .returned (.int .i64 r) ∧ w = w' := by
  refine (listMax_any v xs w hv h0).mono ?_
  rintro e w' ⟨q, rfl, ⟨h1, j, h2, h3⟩, rfl⟩
  obtain ⟨g1, k, g2, g3⟩ := hr
  have := h1 k g2
  have := g1 j h2
  obtain rfl : q = r := by omega
  exact ⟨rfl, rfl⟩
theorem ints_len63 {w : World} {v : Value} {O : List Int} (h : Ints w v O) : O.length ≤ 9223372036854775807 := by
  obtain ⟨a, cap, _, h1, h2, _⟩ := h
  exact maxLen_le (Nat.le_trans h1 h2)
theorem grows_at {w : World} {v : Value} {M : List (List Int)} (h : PM.Rows w v M) (hn : 1 ≤ M.length) : ∃ b off c, v = .slice (some ⟨b, off, none⟩) M.length c ∧ b < w.heap.size ∧ M.length ≤ 9223372036854775807 ∧
    ∀ i, i < M.length → ∃ u, w.cell? ⟨b, off + i, none⟩ = some u ∧ Ints w u (M.getD i []) := by
  obtain ⟨a, c, rfl, h1, h2, hx⟩ := h
  have := maxLen_le (Nat.le_trans h1 h2)
  rcases hx with hx | ⟨b, off, rfl, hb, hc⟩
  · rw [hx] at hn; simp at hn
  · exact ⟨b, off, c, rfl, hb, this, hc⟩
theorem row_len (M : List (List Int)) (i : Nat) (hi : i < M.length) : (M.getD i []).length ≤ tot M := by
  have h1 := pre_succ M i hi
  have h2 := pre_le M (i + 1)
  unfold tot
  omega

set_option maxHeartbeats 1000000 in
theorem isGameTable_any (v : Value) (T : List (List Int)) (k l : Nat) (w : World) (hv : PM.Rows w v T) (hl1 : 1 ≤ l) (hl : l ≤ 1048576) :
    Calls Try.prog 78 #[v, .int .i64 k, .int .i64 l] w fun e w' => e = .returned (.bool (gtB T k l)) ∧ w = w' := by
  by_cases h0 : T.length = 0
  · have hT : T = [] := List.length_eq_zero_iff.1 h0
    subst hT
    obtain ⟨a, c, rfl, _⟩ := hv
    have e : gtB [] k l = decide ((0 : Int) = k) := by
      unfold gtB
      apply Bool.eq_iff_iff.2
      simp
      omega
    rw [e]
    clear e
    show Calls _ _ #[.slice a 0 c, .int .i64 k, .int .i64 l] _ _
    go_enter Try.func78, Try.ntmps78
    go_wp2
    go_rounds 1
    all_goals go_ret
    all_goals exact ⟨rfl, rfl⟩
  have h1 : 1 ≤ T.length := by omega
  obtain ⟨b, off, c, rfl, hb, hm, hcell⟩ := grows_at hv h1
  have HC := Lib.hid hcell
  have HI := Lib.hid (gtB_iff T k l)
  have HNO := Lib.hid (fun i (hi : i < T.length) (h : ¬ ((T.getD i []).length = l ∧ ∀ j, j < l → 1 ≤ gE T i j ∧ gE T i j ≤ 20)) => show gtB T k l = false from gtB_no (fun c => h (c.2 i (by omega))))
  obtain ⟨A, hA⟩ : ∃ A, A = gtB T k l := ⟨_, rfl⟩
  rw [← hA] at HI HNO ⊢
  clear hcell hA h0
  go_enter Try.func78, Try.ntmps78
  go_wp2_with fail
  go_loop [8, 11] (fun _ i => ∃ n : Nat, n ≤ T.length ∧ i = .int .i64 n ∧ Hid (∀ j, j < n → (T.getD j []).length = l ∧ ∀ c, c < l → 1 ≤ gE T j c ∧ gE T j c ≤ 20)) (fun _ i => T.length - (intOf i).toNat)
  case atStart => exact ⟨0, Nat.zero_le _, rfl, fun j hj => absurd hj (Nat.not_lt_zero _)⟩
  case round =>
    obtain ⟨n, hn, rfl, hrows⟩ := hrel
    by_cases hlt : n < T.length
    · obtain ⟨u, hu, hU⟩ := HC.out n hlt
      have hno := HNO.out n hlt
      have hge : ∀ j, gE T n j = (T.getD n []).getD j 0 := fun _ => rfl
      simp only [hge] at hno
      have hlen64 := ints_len63 hU
      by_cases hlen : (T.getD n []).length = l
      · obtain ⟨mn, hmn⟩ := ex_min (T.getD n []) (by omega)
        obtain ⟨mx, hmx⟩ := ex_max (T.getD n []) (by omega)
        have HMN := Lib.hid (listMin_is u (T.getD n []) w hU (by omega) mn hmn)
        have HMX := Lib.hid (listMax_is u (T.getD n []) w hU (by omega) mx hmx)
        have HIF := Lib.hid (show (∀ j, j < l → 1 ≤ (T.getD n []).getD j 0 ∧ (T.getD n []).getD j 0 ≤ 20) ↔ ¬ mn < 1 ∧ ¬ 20 < mx from by
          constructor
          · intro h
            obtain ⟨_, j1, e1, e2⟩ := hmn
            obtain ⟨_, j2, e3, e4⟩ := hmx
            have := h j1 (by omega)
            have := h j2 (by omega)
            omega
          · intro h j hj
            have := hmn.1 j (by omega)
            have := hmx.1 j (by omega)
            omega)
        have HNX : Hid ((∀ j, j < l → 1 ≤ (T.getD n []).getD j 0 ∧ (T.getD n []).getD j 0 ≤ 20) → ∀ j, j < n + 1 → (T.getD j []).length = l ∧ ∀ c, c < l → 1 ≤ gE T j c ∧ gE T j c ≤ 20) := fun h j hj => by
          by_cases e : j = n
          · subst e; exact ⟨hlen, h⟩
          · exact hrows.out j (by omega)
        have HNO2 := Lib.hid (show ¬ (∀ j, j < l → 1 ≤ (T.getD n []).getD j 0 ∧ (T.getD n []).getD j 0 ≤ 20) → A = false from fun h => hno (fun c => h c.2))
        obtain ⟨ra, rc, rfl, _⟩ := hU
        rw [hlen] at hu HMN HMX
        clear hno hrows hge hmn hmx
        generalize T.getD n [] = r at *
        clear hlen hlen64
        by_cases h1 : mn < 1
        · have HO := Lib.hid (HNO2.out (fun h => (HIF.out.1 h).1 h1))
          go_wp2_with (first | (go_at_call 117; refine HMN.out.mono ?_; rintro e w' ⟨rfl, rfl⟩) | (go_at_call 118; refine HMX.out.mono ?_; rintro e w' ⟨rfl, rfl⟩))
          go_ret
          exact ⟨by rw [HO.out]; rfl, rfl⟩
        by_cases h2 : 20 < mx
        · have HO := Lib.hid (HNO2.out (fun h => (HIF.out.1 h).2 h2))
          go_wp2_with (first | (go_at_call 117; refine HMN.out.mono ?_; rintro e w' ⟨rfl, rfl⟩) | (go_at_call 118; refine HMX.out.mono ?_; rintro e w' ⟨rfl, rfl⟩))
          go_ret
          exact ⟨by rw [HO.out]; rfl, rfl⟩
        have HN2 := Lib.hid (HNX.out (HIF.out.2 ⟨h1, h2⟩))
        go_wp2_with (first | (go_at_call 117; refine HMN.out.mono ?_; rintro e w' ⟨rfl, rfl⟩) | (go_at_call 118; refine HMX.out.mono ?_; rintro e w' ⟨rfl, rfl⟩))
        go_round
        case rel => exact ⟨n + 1, by omega, by go_num, HN2⟩
        case measure => simp [intOf]; omega
      · have HO := Lib.hid (hno (fun c => hlen c.1))
        obtain ⟨ra, rc, rfl, _⟩ := hU
        clear hno
        generalize (T.getD n []).length = q at *
        have hne : ((q : Int) != (l : Int)) = true := by simp; omega
        clear hlen
        go_wp2_with fail
        go_ret
        exact ⟨by rw [HO.out]; rfl, rfl⟩
    · obtain rfl : n = T.length := by omega
      have hfin0 : A = decide ((T.length : Int) = k) := by
        have h := HI.out
        cases A
        · symm
          rw [Bool.eq_false_iff]
          intro c
          have c' : (T.length : Int) = k := of_decide_eq_true c
          exact Bool.noConfusion (h.2 ⟨by omega, fun i hi => hrows.out i (by omega)⟩)
        · symm
          exact decide_eq_true (by have := (h.1 rfl).1; omega)
      have hfin := Lib.hid hfin0
      clear hrows hfin0
      go_wp2_with fail
      go_ret
      exact ⟨ret_bool (by rw [hfin.out]; rfl), rfl⟩

theorem ints_row {w : World} {v : Value} {r : List Int} (h : Ints w v r) (hn : 1 ≤ r.length) : ∃ b off c, v = .slice (some ⟨b, off, none⟩) r.length c ∧ b < w.heap.size ∧ CellsAt w b off r := by
  obtain ⟨a, c, rfl, h1, h2, _, hx⟩ := h
  rcases hx with hx | ⟨b, off, rfl, hb, hc⟩
  · rw [hx] at hn; simp at hn
  · exact ⟨b, off, c, rfl, hb, hc⟩

theorem implIsGame_any (m q : Value) (M Q : List (List Int)) (w : World) (h1 : PM.Rows w m M) (h2 : PM.Rows w q Q) (hs : tot M ≤ 1048576) :
    Calls Try.prog 30 #[.agg #[m, q]] w fun e w' => e = .returned (.bool (isGB M Q)) ∧ Below w.heap.size w w' := by
  have g2 := fun (w' : World) (h : Below w.heap.size w w') => h2.below h
  have g1 := fun (w' : World) (h : Below w.heap.size w w') => h1.below h
  obtain ⟨a2, c2, rfl, _⟩ := h2
  by_cases h0 : M.length = 0
  · rw [isGB_size (by omega)]
    obtain ⟨a1, c1, rfl, _⟩ := h1
    rw [h0]
    clear h0 g1 g2
    go_enter Try.func30, Try.ntmps30
    go_wp2_with fail
    go_ret
    exact ⟨rfl, by (repeat' (first | (with_reducible exact Below.refl _ _) | (with_reducible assumption) | (with_reducible refine Below.alloc ?_ ?_ _) | (with_reducible refine Below.drew ?_) | (with_reducible refine below_drewN ?_ _) | (with_reducible refine Below.setCell ?_ ?_ _) | (with_reducible refine Below.trans ?_ (Below.mono (by with_reducible assumption) ?_)) | (with_reducible exact Below.size (by with_reducible assumption)) | go_size))⟩
  have hM1 : 1 ≤ M.length := by omega
  obtain ⟨b, off, c, rfl, hb, hm, hcell⟩ := grows_at h1 hM1
  obtain ⟨u, hu, hU⟩ := hcell 0 (by omega)
  obtain ⟨a0, c0, rfl, _⟩ := hU
  have hrl := row_len M 0 (by omega)
  have hMl : M.length ≤ 1048576 := by unfold tot at hs; omega
  have hG : isGB M Q = (decide (1 ≤ M.length ∧ 1 ≤ (M.getD 0 []).length ∧ M.length + (M.getD 0 []).length ≤ 5) && (gtB M M.length (M.getD 0 []).length && gtB Q M.length (M.getD 0 []).length)) := rfl
  have T1 := fun (w' : World) (h : Below w.heap.size w w') (hl1 : 1 ≤ (M.getD 0 []).length) (hl : (M.getD 0 []).length ≤ 1048576) => isGameTable_any _ M M.length (M.getD 0 []).length w' (g1 w' h) hl1 hl
  have T2 := fun (w' : World) (h : Below w.heap.size w w') (hl1 : 1 ≤ (M.getD 0 []).length) (hl : (M.getD 0 []).length ≤ 1048576) => isGameTable_any _ Q M.length (M.getD 0 []).length w' (g2 w' h) hl1 hl
  have T1 := Lib.hid T1
  have T2 := Lib.hid T2
  rw [hG]
  clear hG hcell h1 g1 g2
  simp only [Nat.add_zero] at hu
  obtain ⟨x1, hx1⟩ : ∃ x1, x1 = gtB M M.length (M.getD 0 []).length := ⟨_, rfl⟩
  obtain ⟨x2, hx2⟩ : ∃ x2, x2 = gtB Q M.length (M.getD 0 []).length := ⟨_, rfl⟩
  rw [← hx1] at T1
  rw [← hx2] at T2
  rw [← hx1, ← hx2]
  clear hx1 hx2
  generalize (M.getD 0 []).length = l at *
  have hl : l ≤ 1048576 := by omega
  clear hrl hs
  by_cases hl0 : l = 0
  · subst hl0
    rw [decide_eq_false (by omega), Bool.false_and]
    clear T1 T2
    go_enter Try.func30, Try.ntmps30
    go_wp2_with fail
    go_ret
    exact ⟨rfl, by (repeat' (first | (with_reducible exact Below.refl _ _) | (with_reducible assumption) | (with_reducible refine Below.alloc ?_ ?_ _) | (with_reducible refine Below.drew ?_) | (with_reducible refine below_drewN ?_ _) | (with_reducible refine Below.setCell ?_ ?_ _) | (with_reducible refine Below.trans ?_ (Below.mono (by with_reducible assumption) ?_)) | (with_reducible exact Below.size (by with_reducible assumption)) | go_size))⟩
  have hl1 : 1 ≤ l := by omega
  by_cases h5 : M.length + l ≤ 5
  case neg =>
    rw [decide_eq_false (by omega), Bool.false_and]
    clear T1 T2 hl0
    go_enter Try.func30, Try.ntmps30
    go_wp2_with fail
    go_ret
    exact ⟨rfl, by (repeat' (first | (with_reducible exact Below.refl _ _) | (with_reducible assumption) | (with_reducible refine Below.alloc ?_ ?_ _) | (with_reducible refine Below.drew ?_) | (with_reducible refine below_drewN ?_ _) | (with_reducible refine Below.setCell ?_ ?_ _) | (with_reducible refine Below.trans ?_ (Below.mono (by with_reducible assumption) ?_)) | (with_reducible exact Below.size (by with_reducible assumption)) | go_size))⟩
  rw [decide_eq_true (by omega), Bool.true_and]
  clear hl0
  cases x1
  · rw [Bool.false_and]
    go_enter Try.func30, Try.ntmps30
    go_wp2_with fail
    refine (T1.out _ (by (repeat' (first | (with_reducible exact Below.refl _ _) | (with_reducible assumption) | (with_reducible refine Below.alloc ?_ ?_ _) | (with_reducible refine Below.drew ?_) | (with_reducible refine below_drewN ?_ _) | (with_reducible refine Below.setCell ?_ ?_ _) | (with_reducible refine Below.trans ?_ (Below.mono (by with_reducible assumption) ?_)) | (with_reducible exact Below.size (by with_reducible assumption)) | go_size))) hl1 hl).mono ?_; rintro e w' ⟨rfl, rfl⟩
    go_wp2_with fail
    go_ret
    exact ⟨rfl, by (repeat' (first | (with_reducible exact Below.refl _ _) | (with_reducible assumption) | (with_reducible refine Below.alloc ?_ ?_ _) | (with_reducible refine Below.drew ?_) | (with_reducible refine below_drewN ?_ _) | (with_reducible refine Below.setCell ?_ ?_ _) | (with_reducible refine Below.trans ?_ (Below.mono (by with_reducible assumption) ?_)) | (with_reducible exact Below.size (by with_reducible assumption)) | go_size))⟩
  rw [Bool.true_and]
  go_enter Try.func30, Try.ntmps30
  go_wp2_with fail
  refine (T1.out _ (by (repeat' (first | (with_reducible exact Below.refl _ _) | (with_reducible assumption) | (with_reducible refine Below.alloc ?_ ?_ _) | (with_reducible refine Below.drew ?_) | (with_reducible refine below_drewN ?_ _) | (with_reducible refine Below.setCell ?_ ?_ _) | (with_reducible refine Below.trans ?_ (Below.mono (by with_reducible assumption) ?_)) | (with_reducible exact Below.size (by with_reducible assumption)) | go_size))) hl1 hl).mono ?_; rintro e w' ⟨rfl, rfl⟩
  go_wp2_with fail
  refine (T2.out _ (by (repeat' (first | (with_reducible exact Below.refl _ _) | (with_reducible assumption) | (with_reducible refine Below.alloc ?_ ?_ _) | (with_reducible refine Below.drew ?_) | (with_reducible refine below_drewN ?_ _) | (with_reducible refine Below.setCell ?_ ?_ _) | (with_reducible refine Below.trans ?_ (Below.mono (by with_reducible assumption) ?_)) | (with_reducible exact Below.size (by with_reducible assumption)) | go_size))) hl1 hl).mono ?_; rintro e w' ⟨rfl, rfl⟩
  go_wp2_with fail
  go_ret
  exact ⟨rfl, by (repeat' (first | (with_reducible exact Below.refl _ _) | (with_reducible assumption) | (with_reducible refine Below.alloc ?_ ?_ _) | (with_reducible refine Below.drew ?_) | (with_reducible refine below_drewN ?_ _) | (with_reducible refine Below.setCell ?_ ?_ _) | (with_reducible refine Below.trans ?_ (Below.mono (by with_reducible assumption) ?_)) | (with_reducible exact Below.size (by with_reducible assumption)) | go_size))⟩

set_option maxHeartbeats 2000000 in
theorem l07Is_any (m q : Value) (M Q : List (List Int)) (w : World) (h1 : PM.Rows w m M) (h2 : PM.Rows w q Q) :
    Calls Try.prog 77 #[.agg #[m, q]] w fun e w' => e = .returned (.bool (isGB M Q)) ∧ Below w.heap.size w w' := by
  by_cases hk1 : M.length < 1
  · rw [isGB_size (by omega)]
    obtain ⟨a1, c1, rfl, _⟩ := h1
    obtain ⟨a2, c2, rfl, _⟩ := h2
    obtain h0 : M.length = 0 := by omega
    rw [h0]
    clear h0 hk1
    go_enter Try.func77, Try.ntmps77
    go_wp2_with fail
    go_ret
    exact ⟨rfl, by (repeat' (first | (with_reducible exact Below.refl _ _) | (with_reducible assumption) | (with_reducible refine Below.alloc ?_ ?_ _) | (with_reducible refine Below.drew ?_) | (with_reducible refine below_drewN ?_ _) | (with_reducible refine Below.setCell ?_ ?_ _) | (with_reducible refine Below.trans ?_ (Below.mono (by with_reducible assumption) ?_)) | (with_reducible exact Below.size (by with_reducible assumption)) | go_size))⟩
  by_cases hk4 : 4 < M.length
  · have hno : isGB M Q = false := isGB_no (fun c => by have := c.n5; have := c.l1; omega)
    rw [hno]
    have hm := (grows_at h1 (by omega))
    obtain ⟨_, _, _, _, _, hm, _⟩ := hm
    obtain ⟨a1, c1, rfl, _⟩ := h1
    obtain ⟨a2, c2, rfl, _⟩ := h2
    clear hk1 hno
    go_enter Try.func77, Try.ntmps77
    go_wp2_with fail
    go_ret
    exact ⟨rfl, by (repeat' (first | (with_reducible exact Below.refl _ _) | (with_reducible assumption) | (with_reducible refine Below.alloc ?_ ?_ _) | (with_reducible refine Below.drew ?_) | (with_reducible refine below_drewN ?_ _) | (with_reducible refine Below.setCell ?_ ?_ _) | (with_reducible refine Below.trans ?_ (Below.mono (by with_reducible assumption) ?_)) | (with_reducible exact Below.size (by with_reducible assumption)) | go_size))⟩
  by_cases hQ : Q.length = M.length
  case neg =>
    have hno : isGB M Q = false := isGB_no (fun c => hQ c.bk)
    rw [hno]
    obtain ⟨a1, c1, rfl, _⟩ := h1
    obtain ⟨a2, c2, rfl, _⟩ := h2
    have hne : ((Q.length : Int) != (M.length : Int)) = true := by simp; omega
    clear hQ hno
    go_enter Try.func77, Try.ntmps77
    go_wp2_with fail
    go_ret
    exact ⟨rfl, by (repeat' (first | (with_reducible exact Below.refl _ _) | (with_reducible assumption) | (with_reducible refine Below.alloc ?_ ?_ _) | (with_reducible refine Below.drew ?_) | (with_reducible refine below_drewN ?_ _) | (with_reducible refine Below.setCell ?_ ?_ _) | (with_reducible refine Below.trans ?_ (Below.mono (by with_reducible assumption) ?_)) | (with_reducible exact Below.size (by with_reducible assumption)) | go_size))⟩
  obtain ⟨b, off, c, rfl, hb, _, hcell⟩ := grows_at h1 (by omega)
  obtain ⟨b2, off2, c2, rfl, hb2, _, hcell2⟩ := grows_at h2 (by omega)
  obtain ⟨u, hu, hU⟩ := hcell 0 (by omega)
  have hl63 := ints_len63 hU
  obtain ⟨a0, c0, rfl, _⟩ := hU
  simp only [Nat.add_zero] at hu
  obtain ⟨k, hk⟩ : ∃ k, k = M.length := ⟨_, rfl⟩
  obtain ⟨l, hl⟩ : ∃ l, l = (M.getD 0 []).length := ⟨_, rfl⟩
  have hIS := isGB_iff M Q
  have hcl : gcols M = l := by rw [hl]; rfl
  have HGM := Lib.hid (show isGB M Q = true ↔ (1 ≤ k ∧ 1 ≤ l ∧ k + l ≤ 5) ∧ ∀ i, i < k → ((M.getD i []).length = l ∧ (Q.getD i []).length = l) ∧ ∀ j, j < l → (1 ≤ gE M i j ∧ gE M i j ≤ 20) ∧ 1 ≤ gE Q i j ∧ gE Q i j ≤ 20 from by
    rw [hIS, hk]
    constructor
    · rintro ⟨f1, f2, f3, f4, f5, f6, f7, f8⟩
      rw [hcl] at *
      exact ⟨⟨f1, f2, f3⟩, fun i hi => ⟨⟨f5 i hi, f6 i hi⟩, fun j hj => ⟨f7 i j hi hj, f8 i j hi hj⟩⟩⟩
    · rintro ⟨⟨f1, f2, f3⟩, f4⟩
      exact ⟨f1, by rw [hcl]; exact f2, by rw [hcl]; exact f3, hQ, fun i hi => by rw [hcl]; exact (f4 i hi).1.1, fun i hi => by rw [hcl]; exact (f4 i hi).1.2, fun i j hi hj => ((f4 i hi).2 j (by rw [← hcl]; exact hj)).1, fun i j hi hj => ((f4 i hi).2 j (by rw [← hcl]; exact hj)).2⟩)
  obtain ⟨A, hA⟩ : ∃ A, A = isGB M Q := ⟨_, rfl⟩
  rw [← hA] at HGM ⊢
  rw [hQ]
  rw [hQ] at hcell2
  rw [← hk] at hcell hcell2 hk1 hk4 ⊢
  rw [← hl] at hu hl63
  have HC := Lib.hid hcell
  have HC2 := Lib.hid hcell2
  clear h1 h2 hIS hcl hA hcell hcell2 hQ
  have HL := Lib.hid (And.intro hk hl)
  clear hk hl
  by_cases hl1 : l < 1
  · obtain rfl : A = false := by
      cases A
      · rfl
      · have := HGM.out.1 rfl; omega
    obtain rfl : l = 0 := by omega
    clear hl1
    go_enter Try.func77, Try.ntmps77
    go_wp2_with fail
    go_ret
    exact ⟨rfl, by (repeat' (first | (with_reducible exact Below.refl _ _) | (with_reducible assumption) | (with_reducible refine Below.alloc ?_ ?_ _) | (with_reducible refine Below.drew ?_) | (with_reducible refine below_drewN ?_ _) | (with_reducible refine Below.setCell ?_ ?_ _) | (with_reducible refine Below.trans ?_ (Below.mono (by with_reducible assumption) ?_)) | (with_reducible exact Below.size (by with_reducible assumption)) | go_size))⟩
  by_cases hl4 : 4 < l
  · obtain rfl : A = false := by
      cases A
      · rfl
      · have := HGM.out.1 rfl; omega
    clear hl1
    go_enter Try.func77, Try.ntmps77
    go_wp2_with fail
    go_ret
    exact ⟨rfl, by (repeat' (first | (with_reducible exact Below.refl _ _) | (with_reducible assumption) | (with_reducible refine Below.alloc ?_ ?_ _) | (with_reducible refine Below.drew ?_) | (with_reducible refine below_drewN ?_ _) | (with_reducible refine Below.setCell ?_ ?_ _) | (with_reducible refine Below.trans ?_ (Below.mono (by with_reducible assumption) ?_)) | (with_reducible exact Below.size (by with_reducible assumption)) | go_size))⟩
  by_cases h5 : 5 < k + l
  · obtain rfl : A = false := by
      cases A
      · rfl
      · have := HGM.out.1 rfl; omega
    go_enter Try.func77, Try.ntmps77
    go_wp2_with fail
    go_ret
    exact ⟨rfl, by (repeat' (first | (with_reducible exact Below.refl _ _) | (with_reducible assumption) | (with_reducible refine Below.alloc ?_ ?_ _) | (with_reducible refine Below.drew ?_) | (with_reducible refine below_drewN ?_ _) | (with_reducible refine Below.setCell ?_ ?_ _) | (with_reducible refine Below.trans ?_ (Below.mono (by with_reducible assumption) ?_)) | (with_reducible exact Below.size (by with_reducible assumption)) | go_size))⟩
  have hbx : ∀ (W : World), W = w → b < W.heap.size ∧ b2 < W.heap.size := by rintro W rfl; exact ⟨hb, hb2⟩
  go_enter Try.func77, Try.ntmps77
  go_wp2_with fail
  go_loop [5, 6] (fun i _ => ∃ n : Nat, n ≤ k ∧ i = .int .i64 n ∧ Hid (∀ i, i < n → ((M.getD i []).length = l ∧ (Q.getD i []).length = l) ∧ ∀ j, j < l → (1 ≤ gE M i j ∧ gE M i j ≤ 20) ∧ 1 ≤ gE Q i j ∧ gE Q i j ≤ 20)) (fun i _ => k - (intOf i).toNat)
  case atStart => exact ⟨0, Nat.zero_le _, rfl, fun j hj => absurd hj (Nat.not_lt_zero _)⟩
  case round =>
    obtain ⟨n, hn, rfl, hrows⟩ := hrel
    by_cases hlt : n < k
    · obtain ⟨u1, hu1, hU1⟩ := HC.out n hlt
      obtain ⟨u2, hu2, hU2⟩ := HC2.out n hlt
      by_cases hlen : (M.getD n []).length = l
      case neg =>
        have HO : Hid (A = false) := by
          show A = false
          cases A
          · rfl
          · exact absurd ((HGM.out.1 rfl).2 n hlt).1.1 hlen
        obtain ⟨ra, rc, rfl, _⟩ := hU1
        clear hU2
        generalize (M.getD n []).length = z at *
        have hne : ((z : Int) != (l : Int)) = true := by simp; omega
        clear hlen
        go_wp2_with fail
        go_ret
        exact ⟨by rw [HO.out]; rfl, by (repeat' (first | (with_reducible exact Below.refl _ _) | (with_reducible assumption) | (with_reducible refine Below.alloc ?_ ?_ _) | (with_reducible refine Below.drew ?_) | (with_reducible refine below_drewN ?_ _) | (with_reducible refine Below.setCell ?_ ?_ _) | (with_reducible refine Below.trans ?_ (Below.mono (by with_reducible assumption) ?_)) | (with_reducible exact Below.size (by with_reducible assumption)) | go_size))⟩
      by_cases hlen2 : (Q.getD n []).length = l
      case neg =>
        have HO : Hid (A = false) := by
          show A = false
          cases A
          · rfl
          · exact absurd ((HGM.out.1 rfl).2 n hlt).1.2 hlen2
        obtain ⟨ra, rc, rfl, _⟩ := hU1
        obtain ⟨ra2, rc2, rfl, _⟩ := hU2
        rw [hlen] at hu1
        clear hlen
        generalize (Q.getD n []).length = z at *
        have hne : ((z : Int) != (l : Int)) = true := by simp; omega
        clear hlen2
        go_wp2_with fail
        go_ret
        exact ⟨by rw [HO.out]; rfl, by (repeat' (first | (with_reducible exact Below.refl _ _) | (with_reducible assumption) | (with_reducible refine Below.alloc ?_ ?_ _) | (with_reducible refine Below.drew ?_) | (with_reducible refine below_drewN ?_ _) | (with_reducible refine Below.setCell ?_ ?_ _) | (with_reducible refine Below.trans ?_ (Below.mono (by with_reducible assumption) ?_)) | (with_reducible exact Below.size (by with_reducible assumption)) | go_size))⟩
      have HROW := Lib.hid (show ∀ j, j < l → ¬ ((1 ≤ gE M n j ∧ gE M n j ≤ 20) ∧ 1 ≤ gE Q n j ∧ gE Q n j ≤ 20) → A = false from fun j hj h => by
          cases A
          · rfl
          · exact absurd (((HGM.out.1 rfl).2 n hlt).2 j hj) h)
      have HNX : Hid ((∀ j, j < l → (1 ≤ gE M n j ∧ gE M n j ≤ 20) ∧ 1 ≤ gE Q n j ∧ gE Q n j ≤ 20) → ∀ i, i < n + 1 → ((M.getD i []).length = l ∧ (Q.getD i []).length = l) ∧ ∀ j, j < l → (1 ≤ gE M i j ∧ gE M i j ≤ 20) ∧ 1 ≤ gE Q i j ∧ gE Q i j ≤ 20) := fun h i hi => by
          by_cases e : i = n
          · subst e; exact ⟨⟨hlen, hlen2⟩, h⟩
          · exact hrows.out i (by omega)
      obtain ⟨r1, o1, d1, rfl, hr1, hce1⟩ := ints_row hU1 (by omega)
      obtain ⟨r2, o2, d2, rfl, hr2, hce2⟩ := ints_row hU2 (by omega)
      have HE1 := Lib.hid (fun j (hj : j < l) => show w.cell? ⟨r1, o1 + j, none⟩ = some (.int .i64 (gE M n j)) from hce1 j (by omega))
      have HE2 := Lib.hid (fun j (hj : j < l) => show w.cell? ⟨r2, o2 + j, none⟩ = some (.int .i64 (gE Q n j)) from hce2 j (by omega))
      rw [hlen] at hu1
      rw [hlen2] at hu2
      clear hlen hlen2 hrows hU1 hU2 hce1 hce2
      go_wp2_with fail
      go_loop [6] (fun i => ∃ m : Nat, m ≤ l ∧ i = .int .i64 m ∧ Hid (∀ j, j < m → (1 ≤ gE M n j ∧ gE M n j ≤ 20) ∧ 1 ≤ gE Q n j ∧ gE Q n j ≤ 20)) (fun i => l - (intOf i).toNat)
      case atStart => exact ⟨0, Nat.zero_le _, rfl, fun j hj => absurd hj (Nat.not_lt_zero _)⟩
      case round =>
        obtain ⟨j, hj, rfl, hgood⟩ := hrel
        by_cases hlt2 : j < l
        · have e1 := HE1.out j hlt2
          have e2 := HE2.out j hlt2
          have hno := HROW.out j hlt2
          have hnx : Hid ((1 ≤ gE M n j ∧ gE M n j ≤ 20) ∧ 1 ≤ gE Q n j ∧ gE Q n j ≤ 20 → ∀ i, i < j + 1 → (1 ≤ gE M n i ∧ gE M n i ≤ 20) ∧ 1 ≤ gE Q n i ∧ gE Q n i ≤ 20) := fun h i hi => by
            by_cases e : i = j
            · subst e; exact h
            · exact hgood.out i (by omega)
          generalize gE M n j = x at *
          generalize gE Q n j = y at *
          have HNO := Lib.hid hno
          clear hno hgood
          by_cases hx : 1 ≤ x ∧ x ≤ 20
          case neg =>
            have HO := Lib.hid (HNO.out (fun c => hx c.1))
            have HD := Lib.hid (show decide (1 ≤ x ∧ x ≤ 20) = false from decide_eq_false hx)
            clear hx
            go_wp2_with (go_at_call 66; refine (l01In_is _ _ _ _ _ HD.out).mono ?_; rintro e w' ⟨rfl, rfl⟩)
            go_ret
            exact ⟨by rw [HO.out]; rfl, by (repeat' (first | (with_reducible exact Below.refl _ _) | (with_reducible assumption) | (with_reducible refine Below.alloc ?_ ?_ _) | (with_reducible refine Below.drew ?_) | (with_reducible refine below_drewN ?_ _) | (with_reducible refine Below.setCell ?_ ?_ _) | (with_reducible refine Below.trans ?_ (Below.mono (by with_reducible assumption) ?_)) | (with_reducible exact Below.size (by with_reducible assumption)) | go_size))⟩
          have HD := Lib.hid (show decide (1 ≤ x ∧ x ≤ 20) = true from decide_eq_true hx)
          by_cases hy : 1 ≤ y ∧ y ≤ 20
          case neg =>
            have HO := Lib.hid (HNO.out (fun c => hy c.2))
            have HD2 := Lib.hid (show decide (1 ≤ y ∧ y ≤ 20) = false from decide_eq_false hy)
            clear hx hy
            go_wp2_with fail
            refine (l01In_is x 1 20 _ _ HD.out).mono ?_; rintro e w' ⟨rfl, rfl⟩
            go_wp2_with fail
            refine (l01In_is y 1 20 _ _ HD2.out).mono ?_; rintro e w' ⟨rfl, rfl⟩
            go_wp2_with fail
            go_ret
            exact ⟨by rw [HO.out]; rfl, by (repeat' (first | (with_reducible exact Below.refl _ _) | (with_reducible assumption) | (with_reducible refine Below.alloc ?_ ?_ _) | (with_reducible refine Below.drew ?_) | (with_reducible refine below_drewN ?_ _) | (with_reducible refine Below.setCell ?_ ?_ _) | (with_reducible refine Below.trans ?_ (Below.mono (by with_reducible assumption) ?_)) | (with_reducible exact Below.size (by with_reducible assumption)) | go_size))⟩
          have HD2 := Lib.hid (show decide (1 ≤ y ∧ y ≤ 20) = true from decide_eq_true hy)
          have HX := Lib.hid (hnx.out ⟨hx, hy⟩)
          clear hx hy hnx
          go_wp2_with fail
          refine (l01In_is x 1 20 _ _ HD.out).mono ?_; rintro e w' ⟨rfl, rfl⟩
          go_wp2_with fail
          refine (l01In_is y 1 20 _ _ HD2.out).mono ?_; rintro e w' ⟨rfl, rfl⟩
          go_wp2_with fail
          go_round
          case rel => exact ⟨j + 1, by omega, by go_num, HX⟩
          case measure => simp [intOf]; omega
        · obtain rfl : j = l := by omega
          have HX := Lib.hid (HNX.out hgood.out)
          clear hgood
          go_wp2_with fail
          go_round
          case rel => exact ⟨n + 1, by omega, by go_num, HX⟩
          case measure => simp [intOf]; omega
    · obtain rfl : n = k := by omega
      have HO : Hid (A = true) := HGM.out.2 ⟨by omega, hrows.out⟩
      clear hrows
      go_wp2_with fail
      go_ret
      exact ⟨by rw [HO.out]; rfl, by (repeat' (first | (with_reducible exact Below.refl _ _) | (with_reducible assumption) | (with_reducible refine Below.alloc ?_ ?_ _) | (with_reducible refine Below.drew ?_) | (with_reducible refine below_drewN ?_ _) | (with_reducible refine Below.setCell ?_ ?_ _) | (with_reducible refine Below.trans ?_ (Below.mono (by with_reducible assumption) ?_)) | (with_reducible exact Below.size (by with_reducible assumption)) | go_size))⟩

theorem specIsGame_any (m q : Value) (M Q : List (List Int)) (w : World) (h1 : PM.Rows w m M) (h2 : PM.Rows w q Q) :
    Calls Try.prog 28 #[.agg #[m, q]] w fun e w' => e = .returned (.bool (isGB M Q)) ∧ Below w.heap.size w w' := by
  have g1 := fun (w' : World) (h : Below w.heap.size w w') => h1.below h
  have g2 := fun (w' : World) (h : Below w.heap.size w w') => h2.below h
  obtain ⟨a1, c1, rfl, _⟩ := h1
  obtain ⟨a2, c2, rfl, _⟩ := h2
  go_enter Try.func28, Try.ntmps28
  go_wp2_with fail
  refine (l07Is_any _ _ M Q _ (g1 _ (by (repeat' (first | (with_reducible exact Below.refl _ _) | (with_reducible assumption) | (with_reducible refine Below.alloc ?_ ?_ _) | (with_reducible refine Below.drew ?_) | (with_reducible refine below_drewN ?_ _) | (with_reducible refine Below.setCell ?_ ?_ _) | (with_reducible refine Below.trans ?_ (Below.mono (by with_reducible assumption) ?_)) | (with_reducible exact Below.size (by with_reducible assumption)) | go_size)))) (g2 _ (by (repeat' (first | (with_reducible exact Below.refl _ _) | (with_reducible assumption) | (with_reducible refine Below.alloc ?_ ?_ _) | (with_reducible refine Below.drew ?_) | (with_reducible refine below_drewN ?_ _) | (with_reducible refine Below.setCell ?_ ?_ _) | (with_reducible refine Below.trans ?_ (Below.mono (by with_reducible assumption) ?_)) | (with_reducible exact Below.size (by with_reducible assumption)) | go_size))))).mono ?_; rintro e w1 ⟨rfl, hb⟩
  have hw1 : Below w.heap.size w w1 := by (repeat' (first | (with_reducible exact Below.refl _ _) | (with_reducible assumption) | (with_reducible refine Below.alloc ?_ ?_ _) | (with_reducible refine Below.drew ?_) | (with_reducible refine below_drewN ?_ _) | (with_reducible refine Below.setCell ?_ ?_ _) | (with_reducible refine Below.trans ?_ (Below.mono (by with_reducible assumption) ?_)) | (with_reducible exact Below.size (by with_reducible assumption)) | go_size))
  go_wp2_with fail
  go_ret
  exact ⟨rfl, hw1⟩
end Go.Proofs.Ytimcokealhnfhaa.PW
namespace Go.Proofs.Ytimcokealhnfhaa.PW
open Go.RowKit Go.Proofs.Ytimcokealhnfhaa
open Go.Proofs.Ytimcokealhnfhaa.PM

/-- The rows of a table of a game, as they lie in whatever later world. -/
theorem tab_at {w : World} {v : Value} {M : List (List Int)} {l : Nat} (h : PM.Rows w v M) (hn : 1 ≤ M.length) (hl1 : 1 ≤ l) (hl : ∀ i, i < M.length → (M.getD i []).length = l) :
    ∃ b off c, v = .slice (some ⟨b, off, none⟩) M.length c ∧ ∀ wr, Below w.heap.size w wr → ∀ i, i < M.length → ∃ r o d, wr.cell? ⟨b, off + i, none⟩ = some (.slice (some ⟨r, o, none⟩) l d) ∧ ∀ j, j < l → wr.cell? ⟨r, o + j, none⟩ = some (.int .i64 (gE M i j)) := by
  obtain ⟨b, off, c, rfl, hb, _, hcell⟩ := grows_at h hn
  refine ⟨b, off, c, rfl, fun wr hw i hi => ?_⟩
  obtain ⟨u, hu, hU⟩ := hcell i hi
  obtain ⟨r, o, d, rfl, hr, hc⟩ := ints_row hU (by rw [hl i hi]; exact hl1)
  refine ⟨r, o, d, (hw.cell (p := ⟨b, off + i, none⟩) hb).trans (by rw [hu, hl i hi]), fun j hj => (hw.cell (p := ⟨r, o + j, none⟩) hr).trans (hc j (by rw [hl i hi]; exact hj))⟩

def conB (M Q : List (List Int)) : Bool := decide (∀ i, i < M.length → ∀ j, j < gcols M → gE M i j + gE Q i j = gE M 0 0 + gE Q 0 0)
def conOut (M Q : List (List Int)) : Bool × Int := if isGB M Q = true then (conB M Q, 0) else (false, 1)
theorem conOut_no {M Q : List (List Int)} (h : isGB M Q = false) : conOut M Q = (false, 1) := by unfold conOut; rw [if_neg (by simp [h])]
theorem conOut_ok {M Q : List (List Int)} (h : isGB M Q = true) : conOut M Q = (conB M Q, 0) := by unfold conOut; rw [if_pos h]

end Go.Proofs.Ytimcokealhnfhaa.PW
