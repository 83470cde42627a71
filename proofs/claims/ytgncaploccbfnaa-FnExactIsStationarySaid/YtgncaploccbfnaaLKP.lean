/-
  Problems, as the walks of the laws want them (lawx.py).
-/
import Derived.Test.YtgncaploccbfnaaPProb
import Derived.Test.YtgncaploccbfnaaLKX
namespace Go.Proofs.Ytgncaploccbfnaa.PW
open Go.RowKit Go.Proofs.Ytgncaploccbfnaa
open Go.Proofs.Ytgncaploccbfnaa.PM

theorem szP_x (m q : Value) (M : List (List Int)) (Q : List Int) (w : World) (h1 : PM.Rows w m M) (h2 : Ints w q Q) :
    Calls Try.prog 15 #[.agg #[m, q], .int .i64 1048576] w fun e w' => e = .returned (.int .i64 (szI (tot M + Q.length) 1048576)) ∧ Below w.heap.size w w' := by
  have e : szP M Q 1048576 = szI (tot M + Q.length) 1048576 := by unfold szP szI; split <;> split <;> omega
  rw [← e]
  exact szProblem_any m q M Q w h1 h2
def RngPx (lo hi : Nat) (w : World) (m q : Value) (M : List (List Int)) (Q : List Int) : Prop := ∃ us, RngP lo hi w m q M Q us
theorem RngPx.below {lo hi B : Nat} {w w' : World} {m q : Value} {M : List (List Int)} {Q : List Int} (h : RngPx lo hi w m q M Q) (ht : Below B w w') (hd : hi ≤ B) : RngPx lo hi w' m q M Q := by
  obtain ⟨us, h⟩ := h
  exact ⟨us, h.below ht hd⟩
theorem RngPx.bet {lo hi lo' hi' : Nat} {w w' : World} {m q : Value} {M : List (List Int)} {Q : List Int} (h : RngPx lo hi w m q M Q) (ht : Bet lo' hi' w w') (hd : hi ≤ lo' ∨ hi' ≤ lo) : RngPx lo hi w' m q M Q := by
  obtain ⟨us, h⟩ := h
  exact ⟨us, h.bet ht hd⟩
theorem RngPx.reads {lo hi : Nat} {w : World} {m q : Value} {M : List (List Int)} {Q : List Int} (h : RngPx lo hi w m q M Q) (hM : ∀ i, i < M.length → ∀ x ∈ M.getD i [], I64 x) (hQ : ∀ x ∈ Q, I64 x) : PM.Rows w m M ∧ Ints w q Q := by
  obtain ⟨us, h⟩ := h
  exact h.reads hM hQ
theorem toP_x (m q : Value) (M : List (List Int)) (Q : List Int) (w : World) (h1 : PM.Rows w m M) (h2 : Ints w q Q) (hn : tot M + Q.length ≤ 1048576) :
    Calls Try.prog 17 #[.agg #[m, q]] w fun e w' => ∃ a c b d, e = .returned (.agg #[.slice a M.length c, .slice b Q.length d]) ∧ RngPx w.heap.size w'.heap.size w' (.slice a M.length c) (.slice b Q.length d) M Q ∧ Below w.heap.size w w' := by
  refine (toProblem_out m q M Q w h1 h2 (by omega) (by omega)).mono ?_
  rintro e w' ⟨g, h, us, rfl, hr, hb⟩
  exact ⟨_, _, _, _, rfl, ⟨us, hr⟩, hb⟩
theorem eqP_x (m q m2 q2 : Value) (M : List (List Int)) (Q : List Int) (w : World) (h1 : PM.Rows w m M) (h2 : Ints w q Q) (h3 : PM.Rows w m2 M) (h4 : Ints w q2 Q) :
    Calls Try.prog 19 #[.agg #[m, q], .agg #[m2, q2]] w fun e w' => e = .returned (.bool true) ∧ Below w.heap.size w w' := eqProblem_same m q m2 q2 M Q w h1 h2 h3 h4
theorem markP_x {lo hi : Nat} {w : World} {m q : Value} {M : List (List Int)} {Q : List Int} (h : RngPx lo hi w m q M Q) (hn : tot M + Q.length ≤ 1048576) (hhi : hi ≤ w.heap.size) (k : Int) (h0 : 0 ≤ k) (h1 : k ≤ 4194304) :
    Calls Try.prog 20 #[.agg #[m, q], .int .i64 k] w fun e w' => ∃ k', e = .returned (.int .i64 k') ∧ 0 ≤ k' ∧ k' ≤ k + 2097152 ∧ Bet lo hi w w' := by
  obtain ⟨us, h⟩ := h
  refine (markProblem_any lo hi m q M Q us k w h hhi h0 (by omega)).mono ?_
  rintro e w' ⟨rfl, _, ht⟩
  have := pre_le M M.length
  unfold tot at hn
  exact ⟨_, rfl, by omega, by omega, ht⟩
structure FinePx (M : List (List Int)) (Q : List Int) : Prop where
  m : ∀ i, i < M.length → ∀ x ∈ M.getD i [], I64 x
  q : ∀ x ∈ Q, I64 x
  n : tot M + Q.length ≤ 1048576
def sizePx (M : List (List Int)) (Q : List Int) : Nat := pre M M.length + Q.length
theorem sizePx_le {M : List (List Int)} {Q : List Int} (h : FinePx M Q) : (sizePx M Q : Int) ≤ 1048576 := by
  have h := h.n
  have := pre_le M M.length
  unfold tot at h
  unfold sizePx
  omega
theorem eqP_ans {lo hi lo' hi' : Nat} {w : World} {m q m2 q2 : Value} {M : List (List Int)} {Q : List Int} (h : RngPx lo hi w m q M Q) (h' : RngPx lo' hi' w m2 q2 M Q) (hf : FinePx M Q) :
    Calls Try.prog 19 #[.agg #[m, q], .agg #[m2, q2]] w fun e w' => e = .returned (.bool true) ∧ Below w.heap.size w w' := by
  obtain ⟨r1, r2⟩ := h.reads hf.m hf.q
  obtain ⟨s1, s2⟩ := h'.reads hf.m hf.q
  exact eqP_x m q m2 q2 M Q w r1 r2 s1 s2
def MkP (k : Int) (lo hi : Nat) (w : World) (m q : Value) (M : List (List Int)) (Q : List Int) : Prop := RngPx lo hi w m q (marksR k M) (marks (k + pre M M.length) Q.length)
theorem MkP.below {k : Int} {lo hi B : Nat} {w w' : World} {m q : Value} {M : List (List Int)} {Q : List Int} (h : MkP k lo hi w m q M Q) (ht : Below B w w') (hd : hi ≤ B) : MkP k lo hi w' m q M Q := RngPx.below h ht hd
theorem MkP.bet {k : Int} {lo hi lo' hi' : Nat} {w w' : World} {m q : Value} {M : List (List Int)} {Q : List Int} (h : MkP k lo hi w m q M Q) (ht : Bet lo' hi' w w') (hd : hi ≤ lo' ∨ hi' ≤ lo) : MkP k lo hi w' m q M Q := RngPx.bet h ht hd
theorem markP_k {lo hi : Nat} {w : World} {m q : Value} {M : List (List Int)} {Q : List Int} (h : RngPx lo hi w m q M Q) (hf : FinePx M Q) (hhi : hi ≤ w.heap.size) (k : Int) (h0 : 0 ≤ k) (h1 : k ≤ 1048577) :
    Calls Try.prog 20 #[.agg #[m, q], .int .i64 k] w fun e w' => e = .returned (.int .i64 (k + (sizePx M Q : Int))) ∧ MkP k lo hi w' m q M Q ∧ Bet lo hi w w' := by
  obtain ⟨us, h⟩ := h
  have hn := hf.n
  refine (markProblem_any lo hi m q M Q us k w h hhi h0 (by omega)).mono ?_
  rintro e w' ⟨rfl, h2, ht⟩
  exact ⟨ret_i64 (by unfold sizePx; omega), ⟨us, h2⟩, ht⟩
theorem heldP_k {lo hi : Nat} {w : World} {m q : Value} {M : List (List Int)} {Q : List Int} (k : Int) (h : MkP k lo hi w m q M Q) (hf : FinePx M Q) (_ : hi ≤ w.heap.size) (h0 : 0 ≤ k) (h1 : k ≤ 1048577) :
    Calls Try.prog 21 #[.agg #[m, q], .int .i64 k] w fun e w' => e = .returned (.int .i64 (k + (sizePx M Q : Int))) ∧ Below w.heap.size w w' := by
  have hn := hf.n
  have hp1 := pre_le M M.length
  have hq1 : (pre M M.length : Int) ≤ tot M := by unfold tot; omega
  obtain ⟨r1, r2⟩ := RngPx.reads h (marksR_i64 h0 (by omega)) (marks_i64 (by omega) (by omega))
  refine (heldProblem_any m q M Q.length k w r1 r2 h0 (by omega)).mono ?_
  rintro e w' ⟨rfl, hb⟩
  exact ⟨ret_i64 (by unfold sizePx; omega), hb⟩
/-- What a function leaves that returns a problem and a code. -/
def OutPx (w : World) (o : List (List Int) × List Int × Int) (e : Ending) (w' : World) : Prop :=
  ∃ a c b d, e = .returned (.tuple #[.agg #[.slice a o.1.length c, .slice b o.2.1.length d], .int .i64 o.2.2]) ∧ RngPx w.heap.size w'.heap.size w' (.slice a o.1.length c) (.slice b o.2.1.length d) o.1 o.2.1 ∧ Below w.heap.size w w'
theorem OutPx.out {w w' : World} {o : List (List Int) × List Int × Int} {e : Ending} (h : OutPx w o e w') :
    ∃ a c b d, e = .returned (.tuple #[.agg #[.slice a o.1.length c, .slice b o.2.1.length d], .int .i64 o.2.2]) ∧ RngPx w.heap.size w'.heap.size w' (.slice a o.1.length c) (.slice b o.2.1.length d) o.1 o.2.1 ∧ Below w.heap.size w w' := h
theorem OutP.px {w w' : World} {o : List (List Int) × List Int × Int} {e : Ending} (h : OutP w o e w') : OutPx w o e w' := by
  obtain ⟨a, c, b, d, us, rfl, hr, hb⟩ := h.out
  exact ⟨a, c, b, d, rfl, ⟨us, hr⟩, hb⟩
end Go.Proofs.Ytgncaploccbfnaa.PW
