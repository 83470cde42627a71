/-
  Marks on a problem, and what a change between two block numbers leaves as it was.
  The exact law of IsProblem: whatever the problem given, the program answers as the model, and leaves it as it was.
  The pieces of the laws on functions that return a problem and a code.
-/
import Derived.Test.YtkdgnegnndedaaaPWalkE
import Derived.Test.YtkdgnegnndedaaaPWalkX
import Derived.Test.YtkdgnegnndedaaaPWalkT
namespace Go.Proofs.Ytkdgnegnndedaaa.PW
open Go.RowKit Go.Proofs.Ytkdgnegnndedaaa
open Go.Proofs.Ytkdgnegnndedaaa.PM

/-- Of the old blocks only those from lo on below hi may have changed. -/
structure Bet (lo hi : Nat) (w w' : World) : Prop where
  os : w'.os = w.os
  tape : w'.tape = w.tape
  output : w'.output = w.output
  size : w.heap.size ≤ w'.heap.size
  block : ∀ k, k < w.heap.size → (k < lo ∨ hi ≤ k) → w'.heap[k]? = w.heap[k]?

theorem Bet.below {lo hi : Nat} {w w' : World} (h : Bet lo hi w w') (hl : lo ≤ w.heap.size) : Below lo w w' := ⟨h.os, h.tape, h.output, h.size, fun k hk => h.block k (by omega) (.inl hk)⟩
theorem Bet.of_below {lo hi : Nat} {w w' : World} (h : Below w.heap.size w w') : Bet lo hi w w' := ⟨h.os, h.tape, h.output, h.size, fun k hk _ => h.block k hk⟩
theorem Bet.of_tch {lo hi : Nat} {bs : List Nat} {w w' : World} (h : Tch bs w w') (hb : ∀ b, b ∈ bs → lo ≤ b ∧ b < hi) : Bet lo hi w w' :=
  ⟨h.os, h.tape, h.output, Nat.le_of_eq h.size.symm, fun k _ hr => h.block k (fun c => by have := hb k c; omega)⟩
theorem Bet.trans {lo hi : Nat} {a b c : World} (h : Bet lo hi a b) (k : Bet lo hi b c) : Bet lo hi a c :=
  ⟨k.os.trans h.os, k.tape.trans h.tape, k.output.trans h.output, Nat.le_trans h.size k.size, fun i hi' hr => (k.block i (Nat.lt_of_lt_of_le hi' h.size) hr).trans (h.block i hi' hr)⟩
theorem Bet.cell {lo hi : Nat} {w w' : World} (h : Bet lo hi w w') {p : Addr} (hp : p.block < w.heap.size) (hr : p.block < lo ∨ hi ≤ p.block) : w'.cell? p = w.cell? p := World.cell?_of_block (w := w) (h.block p.block hp hr)
theorem Bet.frozen {lo hi : Nat} {w w' : World} (h : Bet lo hi w w') {p : Addr} (hp : p.block < w.heap.size) (hr : p.block < lo ∨ hi ≤ p.block) : w'.frozen? p = w.frozen? p := World.frozen?_of_block (w := w) (h.block p.block hp hr)

theorem row_bet {w w' : World} {B T n lo hi : Nat} {v : Value} {xs : List Value} (h : w.ownsRow B T 1 v n xs) (ht : Bet lo hi w w') (hd : ∀ b, v.ownBlock = some b → b < lo ∨ hi ≤ b) : w'.ownsRow B T 1 v n xs := by
  have hl := h.lt
  refine ⟨h.1, ?_⟩
  rcases h.2 with h2 | ⟨g, cap, cur, hv, hb, hg, r⟩
  · exact .inl h2
  · have e : v.ownBlock = some g := by rw [hv]; rfl
    exact .inr ⟨g, cap, cur, hv, hb, by rw [ht.block g (hl g e).2 (hd g e)]; exact hg, r⟩

/-- A problem in memory of its own, all in blocks from lo on below hi. -/
structure RngP (lo hi : Nat) (w : World) (m q : Value) (M : List (List Int)) (Q : List Int) (us : List Value) : Prop where
  rows : OwnR w m M us
  right : OwnI w q Q
  mb : ∀ b, m.ownBlock = some b → lo ≤ b ∧ b < hi
  qb : ∀ b, q.ownBlock = some b → lo ≤ b ∧ b < hi
  ub : ∀ i b, i < M.length → (us.getD i undef).ownBlock = some b → lo ≤ b ∧ b < hi
  apart : ∀ b, q.ownBlock = some b → m.ownBlock ≠ some b ∧ ∀ i, i < M.length → (us.getD i undef).ownBlock ≠ some b

theorem OwnP.rng {B hi : Nat} {w : World} {m q : Value} {M : List (List Int)} {Q : List Int} {us : List Value} (h : OwnP B w m q M Q us) (hh : w.heap.size ≤ hi) : RngP B hi w m q M Q us :=
  ⟨h.rows, h.right, fun b hb => ⟨(h.mb b hb).1, Nat.lt_of_lt_of_le (h.mb b hb).2 hh⟩, fun b hb => ⟨(h.qb b hb).1, Nat.lt_of_lt_of_le (h.qb b hb).2 hh⟩, fun i b hi hb => ⟨(h.ub i b hi hb).1, Nat.lt_of_lt_of_le (h.ub i b hi hb).2 hh⟩, h.apart⟩
theorem RngP.bet {lo hi lo' hi' : Nat} {w w' : World} {m q : Value} {M : List (List Int)} {Q : List Int} {us : List Value} (h : RngP lo hi w m q M Q us) (ht : Bet lo' hi' w w') (hd : hi ≤ lo' ∨ hi' ≤ lo) : RngP lo hi w' m q M Q us := by
  obtain ⟨⟨h1, h2, h3, h4, h5⟩, hr, hm, hq, hu, ha⟩ := h
  exact ⟨⟨h1, row_bet h2 ht (fun b hb => by have := hm b hb; omega), fun i hi => row_bet (h3 i hi) ht (fun b hb => by have := hu i b hi hb; omega), h4, h5⟩, row_bet hr ht (fun b hb => by have := hq b hb; omega), hm, hq, hu, ha⟩
theorem RngP.below {lo hi B : Nat} {w w' : World} {m q : Value} {M : List (List Int)} {Q : List Int} {us : List Value} (h : RngP lo hi w m q M Q us) (ht : Below B w w') (hd : hi ≤ B) : RngP lo hi w' m q M Q us :=
  h.bet (lo' := B) (hi' := w.heap.size + B) ⟨ht.os, ht.tape, ht.output, ht.size, fun k _ hr => by
    rcases hr with hr | hr
    · exact ht.block k hr
    · omega⟩ (.inl hd)
theorem RngP.reads {lo hi : Nat} {w : World} {m q : Value} {M : List (List Int)} {Q : List Int} {us : List Value} (h : RngP lo hi w m q M Q us) (hM : ∀ i, i < M.length → ∀ x ∈ M.getD i [], I64 x) (hQ : ∀ x ∈ Q, I64 x) : PM.Rows w m M ∧ Ints w q Q :=
  ⟨h.rows.rows' hM, h.right.ints hQ⟩

theorem marks_i64 {k : Int} {n : Nat} (h0 : 0 ≤ k) (h1 : k + n ≤ 4611686018427387904) : ∀ x ∈ marks k n, I64 x := by
  intro x hx
  simp only [marks, List.mem_map, List.mem_range] at hx
  obtain ⟨i, hi, rfl⟩ := hx
  show -9223372036854775808 ≤ _ ∧ _ ≤ 9223372036854775807
  omega
theorem marksR_i64 {k : Int} {M : List (List Int)} (h0 : 0 ≤ k) (h1 : k + tot M ≤ 4611686018427387904) : ∀ i, i < (marksR k M).length → ∀ x ∈ (marksR k M).getD i [], I64 x := by
  intro i hi
  rw [marksR_length] at hi
  rw [marksR_getD _ _ _ hi]
  refine marks_i64 (by omega) ?_
  have a1 := pre_succ M i hi
  have a2 := pre_le M (i + 1)
  unfold tot at h1
  omega

theorem markProblem_any (lo hi : Nat) (m q : Value) (M : List (List Int)) (Q : List Int) (us : List Value) (k : Int) (w : World) (h : RngP lo hi w m q M Q us) (hhi : hi ≤ w.heap.size) (h0 : 0 ≤ k) (h1 : k + tot M + Q.length ≤ 4611686018427387904) :
    Calls Try.prog 20 #[.agg #[m, q], .int .i64 k] w fun e w' => e = .returned (.int .i64 (k + pre M M.length + Q.length)) ∧ RngP lo hi w' m q (marksR k M) (marks (k + pre M M.length) Q.length) us ∧ Bet lo hi w w' := by
  obtain ⟨a1, c1, rfl⟩ : ∃ a cap, m = .slice a M.length cap := by
    rcases h.rows.top.2 with ⟨rfl, hn⟩ | ⟨g, cap, cur, rfl, _⟩
    · exact ⟨none, 0, by rw [hn]⟩
    · exact ⟨_, cap, rfl⟩
  obtain ⟨a2, c2, rfl⟩ := OwnI.shape h.right
  have hpt : (pre M M.length : Int) ≤ tot M := by
    have := pre_le M M.length
    unfold tot
    omega
  have hA : Bet lo hi w (w.alloc (.cells #[.slice a1 M.length c1, .slice a2 Q.length c2] 27)) := .of_below ((Below.refl _ _).alloc (Nat.le_refl _) _)
  have hA' : Below w.heap.size w (w.alloc (.cells #[.slice a1 M.length c1, .slice a2 Q.length c2] 27)) := (Below.refl _ _).alloc (Nat.le_refl _) _
  have hR := h.below hA' hhi
  have HR := Lib.hid hR
  have H := Lib.hid h
  have HP := Lib.hid hpt
  have HB := Lib.hid h1
  have hul : us.length = M.length := h.rows.len
  clear hR h hpt h1 hA'
  have c0 := markInt64SS_any _ M us k _ HR.out.rows h0 (by have := HB.out; omega)
  generalize pre M M.length = pM at *
  have C0 := Lib.hid c0
  clear c0
  go_enter Try.func20, Try.ntmps20
  go_wp2_with fail
  refine C0.out.mono ?_
  rintro e w1 ⟨rfl, hown, ht⟩
  have htb : ∀ b, b ∈ rblks us → lo ≤ b ∧ b < hi := fun b hb => by
    obtain ⟨i, hi', hb'⟩ := of_mem_rblks hb
    exact HR.out.ub i b (by omega) hb'
  have hc1 : ∀ o, w1.cell? ⟨w.heap.size, o, none⟩ = (w.alloc (.cells #[.slice a1 M.length c1, .slice a2 Q.length c2] 27)).cell? ⟨w.heap.size, o, none⟩ := fun o => (Bet.of_tch ht htb).cell (p := ⟨w.heap.size, o, none⟩) (by simp) (.inr hhi)
  have hq1 : OwnI w1 (.slice a2 Q.length c2) Q := HR.out.right.tch ht (fun b hb c => by
    obtain ⟨i, hi', hb'⟩ := of_mem_rblks c
    exact (HR.out.apart b hb).2 i (by omega) hb')
  have hbt := Bet.of_tch ht htb
  have HO := Lib.hid hown
  have HBT := Lib.hid hbt
  clear hown hbt ht htb
  have hpb : 0 ≤ k + (pM : Int) ∧ k + (pM : Int) ≤ 4611686018427387904 := by have := HB.out; have := HP.out; omega
  have HQ1 := Lib.hid hq1
  clear hq1
  go_wp2_with fail
  refine (markInt64S_any _ Q (k + pM) _ HQ1.out hpb.1 (by have := HB.out; have := HP.out; omega)).mono ?_
  rintro e w2 ⟨rfl, hown2, ht2⟩
  go_wp2_with fail
  go_ret
  have hqb : ∀ b, b ∈ blks (.slice a2 Q.length c2) → (Value.slice a2 Q.length c2).ownBlock = some b := fun b hb => by
    unfold blks at hb
    exact Option.mem_toList.1 hb
  have hbt2 : Bet lo hi w1 w2 := Bet.of_tch ht2 (fun b hb => HR.out.qb b (hqb b hb))
  have hO := HO.out
  obtain ⟨o1, o2, o3, o4, o5⟩ := hO
  have hml := marksR_length k M
  refine ⟨rfl, ⟨⟨o1, own_touch o2 ht2 (fun b hb c => (HR.out.apart b (hqb b c)).1 hb), fun i hi' => (o3 i hi').tch ht2 (fun b hb c => (HR.out.apart b (hqb b c)).2 i (by omega) hb), o4, o5⟩, ?_, HR.out.mb, HR.out.qb, fun i b hi' hb => HR.out.ub i b (by omega) hb, fun b hb => ⟨(HR.out.apart b hb).1, fun i hi' => (HR.out.apart b hb).2 i (by omega)⟩⟩, (hA.trans HBT.out).trans hbt2⟩
  have e : (marks (k + (pM : Int)) Q.length).length = Q.length := marks_length _ _
  unfold OwnI at hown2 ⊢
  rw [e] at hown2 ⊢
  exact hown2

theorem heldProblem_any (m q : Value) (M : List (List Int)) (n : Nat) (k : Int) (w : World) (h1 : PM.Rows w m (marksR k M)) (h2 : Ints w q (marks (k + pre M M.length) n)) (h0 : 0 ≤ k) (hb : k + tot M + n ≤ 4611686018427387904) :
    Calls Try.prog 21 #[.agg #[m, q], .int .i64 k] w fun e w' => e = .returned (.int .i64 (k + pre M M.length + n)) ∧ Below w.heap.size w w' := by
  have hpt : (pre M M.length : Int) ≤ tot M := by
    have := pre_le M M.length
    unfold tot
    omega
  have hA' : ∀ o, Below w.heap.size w (w.alloc o) := fun o => (Below.refl _ _).alloc (Nat.le_refl _) _
  have g1 := fun o => h1.below (hA' o)
  have g2 := fun o => h2.below (hA' o)
  obtain ⟨a1, c1, rfl, _⟩ := h1
  obtain ⟨a2, c2, rfl, _⟩ := h2
  have G1 := Lib.hid g1
  have G2 := Lib.hid g2
  have HP := Lib.hid hpt
  have HB := Lib.hid hb
  clear g1 g2 hpt hb hA'
  have c0 := fun o => heldInt64SS_any _ M k _ (G1.out o) h0 (by have := HB.out; omega)
  generalize pre M M.length = pM at *
  have C0 := Lib.hid c0
  clear c0
  go_enter Try.func21, Try.ntmps21
  go_wp2_with fail
  refine (C0.out _).mono ?_
  rintro e w1 ⟨rfl, rfl⟩
  have hpb : 0 ≤ k + (pM : Int) ∧ k + (pM : Int) ≤ 4611686018427387904 := by have := HB.out; have := HP.out; omega
  go_wp2_with fail
  refine (heldInt64S_any _ n (k + pM) _ (G2.out _) hpb.1 (by have := HB.out; have := HP.out; omega)).mono ?_
  rintro e w1 ⟨rfl, rfl⟩
  have hpb2 : 0 ≤ k + (pM : Int) + n ∧ k + (pM : Int) + n ≤ 4611686018427387904 := by have := HB.out; have := HP.out; omega
  go_wp2_with fail
  go_ret
  refine ⟨rfl, ?_⟩
  (repeat' (first | (with_reducible exact Below.refl _ _) | (with_reducible assumption) | (with_reducible refine Below.alloc ?_ ?_ _) | (with_reducible refine Below.drew ?_) | (with_reducible refine below_drewN ?_ _) | (with_reducible refine Below.setCell ?_ ?_ _) | (with_reducible refine Below.trans ?_ (Below.mono (by with_reducible assumption) ?_)) | (with_reducible exact Below.size (by with_reducible assumption)) | go_size))
end Go.Proofs.Ytkdgnegnndedaaa.PW
namespace Go.Proofs.Ytkdgnegnndedaaa.PW
open Go.RowKit Go.Proofs.Ytkdgnegnndedaaa
open Go.Proofs.Ytkdgnegnndedaaa.PM

theorem rows_I64 {w : World} {v : Value} {M : List (List Int)} (h : PM.Rows w v M) : ∀ j, j < M.length → ∀ x ∈ M.getD j [], I64 x := by
  intro j hj
  obtain ⟨a, cap, _, _, _, hx⟩ := h
  rcases hx with rfl | ⟨b, off, _, _, hc⟩
  · simp at hj
  · obtain ⟨u, _, ra, rc, _, _, _, hI, _⟩ := hc j hj
    exact hI
theorem ints_I64 {w : World} {v : Value} {Q : List Int} (h : Ints w v Q) : ∀ x ∈ Q, I64 x := by
  obtain ⟨a, cap, _, _, _, hI, _⟩ := h
  exact hI

theorem szP_fits {M : List (List Int)} {Q : List Int} (h : ¬ szP M Q 1048576 < 0) : tot M ≤ 1048576 ∧ Q.length ≤ 1048576 := by
  unfold szP at h
  split at h
  · omega
  · omega
theorem szP_neg {M : List (List Int)} {Q : List Int} (h : szP M Q 1048576 < 0) : szP M Q 1048576 = -1 := by
  unfold szP at h ⊢
  split at h
  · omega
  · rename_i hc; rw [if_neg hc]
theorem szP_le (M : List (List Int)) (Q : List Int) : szP M Q 1048576 ≤ 1048576 := by
  unfold szP; split <;> omega

end Go.Proofs.Ytkdgnegnndedaaa.PW
namespace Go.Proofs.Ytkdgnegnndedaaa.PW
open Go.RowKit Go.Proofs.Ytkdgnegnndedaaa
open Go.Proofs.Ytkdgnegnndedaaa.PM

theorem Bet.mono {lo hi lo' hi' : Nat} {w w' : World} (h : Bet lo hi w w') (hl : lo' ≤ lo) (hh : hi ≤ hi') : Bet lo' hi' w w' := ⟨h.os, h.tape, h.output, h.size, fun k hk hr => h.block k hk (by omega)⟩

theorem toProblem_out (m q : Value) (M : List (List Int)) (Q : List Int) (w : World) (h1 : PM.Rows w m M) (h2 : Ints w q Q) (hn : tot M ≤ 1048576) (hn2 : Q.length ≤ 1048576) :
    Calls Try.prog 17 #[.agg #[m, q]] w fun e w' => ∃ g h us, e = .returned (.agg #[.slice (some ⟨g, 0, none⟩) M.length M.length, .slice (some ⟨h, 0, none⟩) Q.length Q.length]) ∧
      RngP w.heap.size w'.heap.size w' (.slice (some ⟨g, 0, none⟩) M.length M.length) (.slice (some ⟨h, 0, none⟩) Q.length Q.length) M Q us ∧ Below w.heap.size w w' := by
  refine (toProblem_any m q M Q w h1 h2 hn hn2).mono ?_
  rintro e w' ⟨g, h, rfl, hg, hh, ht, hr, hq, hb⟩
  have hml : M.length ≤ maxLen := by unfold tot at hn; unfold maxLen; omega
  have hrl : ∀ i, i < M.length → (M.getD i []).length ≤ maxLen := fun i hi => by
    have a1 := pre_succ M i hi
    have a2 := pre_le M (i + 1)
    unfold tot at hn
    unfold maxLen
    omega
  have hus : ∀ i, i < M.length → ((List.range M.length).map (partR g M M.length)).getD i undef = .slice (some ⟨g + 1 + i, 0, none⟩) (M.getD i []).length (M.getD i []).length := fun i hi => by
    have : partR g M M.length i = .slice (some ⟨g + 1 + i, 0, none⟩) (M.getD i []).length (M.getD i []).length := by unfold partR; rw [if_pos hi]
    rw [← this]
    simp [hi]
  have hltg := ht.lt
  have hltq := hq.lt
  refine ⟨g, h, (List.range M.length).map (partR g M M.length), rfl, ⟨⟨by simp, ?_, fun i hi => ?_, fun i j b hi hj h1 h2 => ?_, fun i b hi h1 h2 => ?_⟩, hq.own (by unfold maxLen; omega), fun b hb' => ?_, fun b hb' => ?_, fun i b hi hb' => ?_, fun b hb' => ⟨fun c => ?_, fun i hi c => ?_⟩⟩, hb⟩
  · obtain ⟨c, hb, hn, hc⟩ := ht
    refine ⟨by simp, .inr ⟨g, M.length, c, rfl, Nat.zero_le _, hb, Nat.le_refl _, hml, by simpa using hn, ?_⟩⟩
    rw [Nat.mul_one, List.take_of_length_le (by simp [hn])]
    apply List.ext_getElem?
    intro i
    by_cases hi : i < M.length
    · have := hc i hi
      rw [Array.getElem?_toList, this]
      simp [hi]
    · rw [List.getElem?_eq_none (by simp [hn]; omega), List.getElem?_eq_none (by simp; omega)]
  · rw [hus i hi]
    exact (hr i hi).own (hrl i hi)
  · rw [hus i hi] at h1
    rw [hus j hj] at h2
    simp [Value.ownBlock] at h1 h2
    omega
  · rw [hus i hi] at h2
    simp [Value.ownBlock] at h1 h2
    omega
  · simp [Value.ownBlock] at hb'
    omega
  · simp [Value.ownBlock] at hb'
    omega
  · rw [hus i hi] at hb'
    have := (hr i hi).lt
    simp [Value.ownBlock] at hb'
    omega
  · simp [Value.ownBlock] at hb' c
    omega
  · rw [hus i hi] at c
    simp [Value.ownBlock] at hb' c
    omega

theorem OutP.out {w w' : World} {o : List (List Int) × List Int × Int} {e : Ending} (h : OutP w o e w') :
    ∃ a c b d us, e = .returned (.tuple #[.agg #[.slice a o.1.length c, .slice b o.2.1.length d], .int .i64 o.2.2]) ∧ RngP w.heap.size w'.heap.size w' (.slice a o.1.length c) (.slice b o.2.1.length d) o.1 o.2.1 us ∧ Below w.heap.size w w' := by
  obtain ⟨m, q, us, rfl, ho, hb⟩ := h
  obtain ⟨a1, c1, rfl⟩ : ∃ a cap, m = .slice a o.1.length cap := by
    rcases ho.rows.top.2 with ⟨rfl, hn⟩ | ⟨g, cap, cur, rfl, _⟩
    · exact ⟨none, 0, by rw [hn]⟩
    · exact ⟨_, cap, rfl⟩
  obtain ⟨a2, c2, rfl⟩ := OwnI.shape ho.right
  exact ⟨a1, c1, a2, c2, us, rfl, ho.rng (Nat.le_refl _), hb⟩

/-- What stands of a result of such a function. -/
structure Fine (o : List (List Int) × List Int × Int) : Prop where
  m64 : ∀ j, j < o.1.length → ∀ x ∈ o.1.getD j [], I64 x
  q64 : ∀ x ∈ o.2.1, I64 x
  tot : tot o.1 ≤ 1048576
  len : o.2.1.length ≤ 1048576
theorem fine_nil (c : Int) : Fine ([], [], c) := ⟨fun j hj => absurd hj (Nat.not_lt_zero _), fun x hx => (List.not_mem_nil hx).elim, (show PM.tot [] ≤ 1048576 by unfold PM.tot; simp), (show ([] : List Int).length ≤ 1048576 by simp)⟩
theorem fine_of_isPB {M : List (List Int)} {Q : List Int} (c : Int) (h : isPB M Q = true) : Fine (M, Q, c) := by
  obtain ⟨f1, f2, f3, f4, f5⟩ := isPB_facts h
  refine ⟨fun j hj x hx => ?_, fun x hx => ?_, tot_small h, by show Q.length ≤ _; omega⟩
  · obtain ⟨i, hi, rfl⟩ := getD_of_mem hx
    have hb := (f4 j hj).2 i (by rw [← (f4 j hj).1]; exact hi)
    show -9223372036854775808 ≤ (M.getD j []).getD i 0 ∧ (M.getD j []).getD i 0 ≤ 9223372036854775807
    omega
  · obtain ⟨i, hi, rfl⟩ := getD_of_mem hx
    have hb := f5 i hi
    show -9223372036854775808 ≤ Q.getD i 0 ∧ Q.getD i 0 ≤ 9223372036854775807
    omega
theorem fine_scale (M : List (List Int)) (Q : List Int) (i k : Int) : Fine (scaleOut M Q i k) := by
  unfold scaleOut
  split
  · exact fine_nil _
  · split
    · exact fine_nil _
    · split
      · exact fine_nil _
      · rename_i h
        exact fine_of_isPB _ (by simpa using h)

/-- The law's variables: the argument, the model's answer, the program's answer. -/
structure Vs (W : World) (P V0 V2 : Nat) (p0 p1 a0 a1 g0 g1 : Value) : Prop where
  cp0 : W.cell? ⟨P, 0, none⟩ = some p0
  cp1 : W.cell? ⟨P, 1, none⟩ = some p1
  ca0 : W.cell? ⟨V0, 0, none⟩ = some a0
  ca1 : W.cell? ⟨V0, 1, none⟩ = some a1
  cg0 : W.cell? ⟨V2, 0, none⟩ = some g0
  cg1 : W.cell? ⟨V2, 1, none⟩ = some g1
  lP : P < W.heap.size
  lA : V0 < W.heap.size
  lG : V2 < W.heap.size
theorem Vs.bet {W w' : World} {P V0 V2 lo hi : Nat} {p0 p1 a0 a1 g0 g1 : Value} (h : Vs W P V0 V2 p0 p1 a0 a1 g0 g1) (ht : Bet lo hi W w') (hP : P < lo ∨ hi ≤ P) (hA : V0 < lo ∨ hi ≤ V0) (hG : V2 < lo ∨ hi ≤ V2) : Vs w' P V0 V2 p0 p1 a0 a1 g0 g1 := by
  obtain ⟨h1, h2, h3, h4, h5, h6, l1, l2, l3⟩ := h
  have hz := ht.size
  exact ⟨(ht.cell (p := ⟨P, 0, none⟩) l1 hP).trans h1, (ht.cell (p := ⟨P, 1, none⟩) l1 hP).trans h2, (ht.cell (p := ⟨V0, 0, none⟩) l2 hA).trans h3, (ht.cell (p := ⟨V0, 1, none⟩) l2 hA).trans h4, (ht.cell (p := ⟨V2, 0, none⟩) l3 hG).trans h5, (ht.cell (p := ⟨V2, 1, none⟩) l3 hG).trans h6, by omega, by omega, by omega⟩
theorem Vs.next {W w' : World} {P V0 V2 : Nat} {p0 p1 a0 a1 g0 g1 : Value} (h : Vs W P V0 V2 p0 p1 a0 a1 g0 g1) (ht : Below W.heap.size W w') : Vs w' P V0 V2 p0 p1 a0 a1 g0 g1 :=
  h.bet (lo := W.heap.size) (hi := W.heap.size) (.of_below ht) (.inl h.lP) (.inl h.lA) (.inl h.lG)
end Go.Proofs.Ytkdgnegnndedaaa.PW
