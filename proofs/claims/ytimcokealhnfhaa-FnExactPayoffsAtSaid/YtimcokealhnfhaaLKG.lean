/-
  Games, as the walks of the laws want them (lawx.py).
-/
import Derived.Test.YtimcokealhnfhaaGTab
import Derived.Test.YtimcokealhnfhaaLKX
namespace Go.Proofs.Ytimcokealhnfhaa.PW
open Go.RowKit Go.Proofs.Ytimcokealhnfhaa
open Go.Proofs.Ytimcokealhnfhaa.PM

theorem szG_x (m q : Value) (M Q : List (List Int)) (w : World) (h1 : PM.Rows w m M) (h2 : PM.Rows w q Q) :
    Calls Try.prog 27 #[.agg #[m, q], .int .i64 1048576] w fun e w' => e = .returned (.int .i64 (szI (tot M + tot Q) 1048576)) ∧ Below w.heap.size w w' := by
  have e : szG M Q 1048576 = szI (tot M + tot Q) 1048576 := by unfold szG szI; split <;> split <;> omega
  rw [← e]
  exact szGame_any m q M Q w h1 h2
def RngGx (lo hi : Nat) (w : World) (m q : Value) (M Q : List (List Int)) : Prop := ∃ us, RngG lo hi w m q M Q us
theorem RngGx.below {lo hi B : Nat} {w w' : World} {m q : Value} {M Q : List (List Int)} (h : RngGx lo hi w m q M Q) (ht : Below B w w') (hd : hi ≤ B) : RngGx lo hi w' m q M Q := by
  obtain ⟨us, h⟩ := h
  exact ⟨us, h.below ht hd⟩
theorem RngGx.bet {lo hi lo' hi' : Nat} {w w' : World} {m q : Value} {M Q : List (List Int)} (h : RngGx lo hi w m q M Q) (ht : Bet lo' hi' w w') (hd : hi ≤ lo' ∨ hi' ≤ lo) : RngGx lo hi w' m q M Q := by
  obtain ⟨us, h⟩ := h
  exact ⟨us, h.bet ht hd⟩
theorem RngGx.reads {lo hi : Nat} {w : World} {m q : Value} {M Q : List (List Int)} (h : RngGx lo hi w m q M Q) (hM : ∀ i, i < M.length → ∀ x ∈ M.getD i [], I64 x) (hQ : ∀ i, i < Q.length → ∀ x ∈ Q.getD i [], I64 x) : PM.Rows w m M ∧ PM.Rows w q Q := by
  obtain ⟨us, h⟩ := h
  exact h.reads hM hQ
theorem toG_x (m q : Value) (M Q : List (List Int)) (w : World) (h1 : PM.Rows w m M) (h2 : PM.Rows w q Q) (hn : tot M + tot Q ≤ 1048576) :
    Calls Try.prog 29 #[.agg #[m, q]] w fun e w' => ∃ a c b d, e = .returned (.agg #[.slice a M.length c, .slice b Q.length d]) ∧ RngGx w.heap.size w'.heap.size w' (.slice a M.length c) (.slice b Q.length d) M Q ∧ Below w.heap.size w w' := by
  refine (toGame_out m q M Q w h1 h2 (by omega) (by omega)).mono ?_
  rintro e w' ⟨g, h, us, rfl, hr, hb⟩
  exact ⟨_, _, _, _, rfl, ⟨us, hr⟩, hb⟩
theorem eqG_x (m q m2 q2 : Value) (M Q : List (List Int)) (w : World) (h1 : PM.Rows w m M) (h2 : PM.Rows w q Q) (h3 : PM.Rows w m2 M) (h4 : PM.Rows w q2 Q) :
    Calls Try.prog 31 #[.agg #[m, q], .agg #[m2, q2]] w fun e w' => e = .returned (.bool true) ∧ Below w.heap.size w w' := eqGame_same m q m2 q2 M Q w h1 h2 h3 h4
theorem markG_x {lo hi : Nat} {w : World} {m q : Value} {M Q : List (List Int)} (h : RngGx lo hi w m q M Q) (hn : tot M + tot Q ≤ 1048576) (hhi : hi ≤ w.heap.size) (k : Int) (h0 : 0 ≤ k) (h1 : k ≤ 4194304) :
    Calls Try.prog 34 #[.agg #[m, q], .int .i64 k] w fun e w' => ∃ k', e = .returned (.int .i64 k') ∧ 0 ≤ k' ∧ k' ≤ k + 2097152 ∧ Bet lo hi w w' := by
  obtain ⟨us, h⟩ := h
  refine (markGame_any lo hi m q M Q us k w h hhi h0 (by omega)).mono ?_
  rintro e w' ⟨rfl, _, ht⟩
  have := pre_le M M.length
  have := pre_le Q Q.length
  unfold tot at hn
  exact ⟨_, rfl, by omega, by omega, ht⟩
end Go.Proofs.Ytimcokealhnfhaa.PW
