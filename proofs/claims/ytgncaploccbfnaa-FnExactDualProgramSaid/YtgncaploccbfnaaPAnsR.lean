/-
  Answers that are rows of numbers, or a list of numbers, in memory of the call's own: compared, marked, looked at again.
-/
import Derived.Test.YtgncaploccbfnaaPProb
import Derived.Test.YtgncaploccbfnaaPCol
namespace Go.Proofs.Ytgncaploccbfnaa.PW
open Go.RowKit Go.Proofs.Ytgncaploccbfnaa
open Go.Proofs.Ytgncaploccbfnaa.PM

/-- The law's variables: the argument, and the problem that the program is given. -/
structure Vq (W : World) (P V : Nat) (p0 p1 x0 x1 : Value) : Prop where
  cp0 : W.cell? ⟨P, 0, none⟩ = some p0
  cp1 : W.cell? ⟨P, 1, none⟩ = some p1
  cx0 : W.cell? ⟨V, 0, none⟩ = some x0
  cx1 : W.cell? ⟨V, 1, none⟩ = some x1
  lP : P < W.heap.size
  lV : V < W.heap.size
theorem Vq.bet {W w' : World} {P V lo hi : Nat} {p0 p1 x0 x1 : Value} (h : Vq W P V p0 p1 x0 x1) (ht : Bet lo hi W w') (hP : P < lo ∨ hi ≤ P) (hV : V < lo ∨ hi ≤ V) : Vq w' P V p0 p1 x0 x1 := by
  obtain ⟨h1, h2, h3, h4, l1, l2⟩ := h
  have hz := ht.size
  exact ⟨(ht.cell (p := ⟨P, 0, none⟩) l1 hP).trans h1, (ht.cell (p := ⟨P, 1, none⟩) l1 hP).trans h2, (ht.cell (p := ⟨V, 0, none⟩) l2 hV).trans h3, (ht.cell (p := ⟨V, 1, none⟩) l2 hV).trans h4, by omega, by omega⟩
theorem Vq.next {W w' : World} {P V : Nat} {p0 p1 x0 x1 : Value} (h : Vq W P V p0 p1 x0 x1) (ht : Below W.heap.size W w') : Vq w' P V p0 p1 x0 x1 :=
  h.bet (lo := W.heap.size) (hi := W.heap.size) (.of_below ht) (.inl h.lP) (.inl h.lV)

/-! ### Rows -/
structure RngR (lo hi : Nat) (w : World) (v : Value) (xss : List (List Int)) : Prop where
  own : ∃ us, OwnR w v xss us ∧ (∀ b, v.ownBlock = some b → lo ≤ b ∧ b < hi) ∧ (∀ i b, i < xss.length → (us.getD i undef).ownBlock = some b → lo ≤ b ∧ b < hi)
theorem RngR.bet {lo hi lo' hi' : Nat} {w w' : World} {v : Value} {xss : List (List Int)} (h : RngR lo hi w v xss) (ht : Bet lo' hi' w w') (hd : hi ≤ lo' ∨ hi' ≤ lo) : RngR lo hi w' v xss := by
  obtain ⟨us, ⟨h1, h2, h3, h4, h5⟩, hm, hu⟩ := h.own
  exact ⟨us, ⟨h1, row_bet h2 ht (fun b hb => by have := hm b hb; omega), fun i hi => row_bet (h3 i hi) ht (fun b hb => by have := hu i b hi hb; omega), h4, h5⟩, hm, hu⟩
theorem RngR.below {lo hi B : Nat} {w w' : World} {v : Value} {xss : List (List Int)} (h : RngR lo hi w v xss) (ht : Below B w w') (hd : hi ≤ B) : RngR lo hi w' v xss :=
  h.bet (lo' := B) (hi' := w.heap.size + B) ⟨ht.os, ht.tape, ht.output, ht.size, fun k _ hr => by
    rcases hr with hr | hr
    · exact ht.block k hr
    · omega⟩ (.inl hd)
structure FineR (o : List (List Int)) : Prop where
  m64 : ∀ j, j < o.length → ∀ x ∈ o.getD j [], I64 x
  tot : tot o ≤ 1048576
theorem fineR_nil : FineR [] := ⟨fun j hj => absurd hj (Nat.not_lt_zero _), (show PM.tot [] ≤ 1048576 by unfold PM.tot; simp)⟩
theorem eqR_ans {lo hi lo' hi' : Nat} {w : World} {v v' : Value} {o : List (List Int)} (h : RngR lo hi w v o) (h' : RngR lo' hi' w v' o) (hf : FineR o) :
    Calls Try.prog 24 #[v, v'] w fun e w' => e = .returned (.bool true) ∧ Below w.heap.size w w' := by
  obtain ⟨us, ho, _⟩ := h.own
  obtain ⟨us', ho', _⟩ := h'.own
  exact eqInt64SS_same v v' o w (ho.rows' hf.m64) (ho'.rows' hf.m64)
def markedR (o : List (List Int)) : List (List Int) := marksR 1 o
def sizeR (o : List (List Int)) : Nat := pre o o.length
theorem markR_ans {lo hi : Nat} {w : World} {v : Value} {o : List (List Int)} (h : RngR lo hi w v o) (hf : FineR o) :
    Calls Try.prog 25 #[v, .int .i64 1] w fun e w' => e = .returned (.int .i64 (1 + (sizeR o : Int))) ∧ RngR lo hi w' v (markedR o) ∧ Bet lo hi w w' := by
  obtain ⟨us, ho, hm, hu⟩ := h.own
  have := hf.tot
  refine (markInt64SS_any v o us 1 w ho (by decide) (by omega)).mono ?_
  rintro e w' ⟨rfl, ho', ht⟩
  exact ⟨rfl, ⟨us, ho', hm, fun i b hi => hu i b (by unfold markedR at hi; rwa [marksR_length] at hi)⟩, Bet.of_tch ht (fun b hb => by
    obtain ⟨i, hi', hb'⟩ := of_mem_rblks hb
    exact hu i b (by rw [← ho.len]; exact hi') hb')⟩
theorem heldR_ans {lo hi : Nat} {w : World} {v : Value} {o : List (List Int)} (h : RngR lo hi w v (markedR o)) (hf : FineR o) :
    Calls Try.prog 26 #[v, .int .i64 1] w fun e w' => e = .returned (.int .i64 (1 + (sizeR o : Int))) ∧ Below w.heap.size w w' := by
  obtain ⟨us, ho, hm, hu⟩ := h.own
  have := hf.tot
  refine (heldInt64SS_any v o 1 w (ho.rows' (marksR_i64 (by decide) (by omega))) (by decide) (by omega)).mono ?_
  rintro e w' ⟨rfl, rfl⟩
  exact ⟨rfl, Below.refl _ _⟩
theorem sizeR_le {o : List (List Int)} (hf : FineR o) : (sizeR o : Int) ≤ 1048576 := by
  have h := hf.tot
  have := pre_le o o.length
  unfold PM.tot at h
  unfold sizeR
  omega
theorem OutR.out {w w' : World} {o : List (List Int) × Int} {e : Ending} (h : OutR w o e w') :
    ∃ a c, e = .returned (.tuple #[.slice a o.1.length c, .int .i64 o.2]) ∧ RngR w.heap.size w'.heap.size w' (.slice a o.1.length c) o.1 ∧ Below w.heap.size w w' := by
  obtain ⟨v, us, rfl, ho, hb⟩ := h
  obtain ⟨a1, c1, rfl⟩ : ∃ a cap, v = .slice a o.1.length cap := by
    rcases ho.rows.top.2 with ⟨rfl, hn⟩ | ⟨g, cap, cur, rfl, _⟩
    · exact ⟨none, 0, by rw [hn]⟩
    · exact ⟨_, cap, rfl⟩
  exact ⟨a1, c1, rfl, ⟨us, ho.rows, ho.mb, ho.ub⟩, hb⟩

/-! ### Lists of numbers -/
structure RngI (lo hi : Nat) (w : World) (v : Value) (xs : List Int) : Prop where
  own : OwnI w v xs
  at_ : ∀ b, v.ownBlock = some b → lo ≤ b ∧ b < hi
theorem RngI.bet {lo hi lo' hi' : Nat} {w w' : World} {v : Value} {xs : List Int} (h : RngI lo hi w v xs) (ht : Bet lo' hi' w w') (hd : hi ≤ lo' ∨ hi' ≤ lo) : RngI lo hi w' v xs :=
  ⟨row_bet h.own ht (fun b hb => by have := h.at_ b hb; omega), h.at_⟩
theorem RngI.below {lo hi B : Nat} {w w' : World} {v : Value} {xs : List Int} (h : RngI lo hi w v xs) (ht : Below B w w') (hd : hi ≤ B) : RngI lo hi w' v xs :=
  h.bet (lo' := B) (hi' := w.heap.size + B) ⟨ht.os, ht.tape, ht.output, ht.size, fun k _ hr => by
    rcases hr with hr | hr
    · exact ht.block k hr
    · omega⟩ (.inl hd)
structure FineI (o : List Int) : Prop where
  m64 : ∀ x ∈ o, I64 x
  len : o.length ≤ 1048576
theorem fineI_nil : FineI [] := ⟨fun x hx => (List.not_mem_nil hx).elim, by simp⟩
theorem eqI_ans {lo hi lo' hi' : Nat} {w : World} {v v' : Value} {o : List Int} (h : RngI lo hi w v o) (h' : RngI lo' hi' w v' o) (hf : FineI o) :
    Calls Try.prog 71 #[v, v'] w fun e w' => e = .returned (.bool true) ∧ Below w.heap.size w w' :=
  eqInt64S_same v v' o w (h.own.ints hf.m64) (h'.own.ints hf.m64)
def markedI (o : List Int) : List Int := marks 1 o.length
def sizeI (o : List Int) : Nat := o.length
theorem markI_ans {lo hi : Nat} {w : World} {v : Value} {o : List Int} (h : RngI lo hi w v o) (hf : FineI o) :
    Calls Try.prog 72 #[v, .int .i64 1] w fun e w' => e = .returned (.int .i64 (1 + (sizeI o : Int))) ∧ RngI lo hi w' v (markedI o) ∧ Bet lo hi w w' := by
  have := hf.len
  refine (markInt64S_any v o 1 w h.own (by decide) (by omega)).mono ?_
  rintro e w' ⟨rfl, ho', ht⟩
  exact ⟨rfl, ⟨ho', h.at_⟩, Bet.of_tch ht (fun b hb => h.at_ b (by simpa [blks] using hb))⟩
theorem heldI_ans {lo hi : Nat} {w : World} {v : Value} {o : List Int} (h : RngI lo hi w v (markedI o)) (hf : FineI o) :
    Calls Try.prog 73 #[v, .int .i64 1] w fun e w' => e = .returned (.int .i64 (1 + (sizeI o : Int))) ∧ Below w.heap.size w w' := by
  have := hf.len
  refine (heldInt64S_any v o.length 1 w (h.own.ints (marks_i64 (by decide) (by omega))) (by decide) (by omega)).mono ?_
  rintro e w' ⟨rfl, rfl⟩
  exact ⟨rfl, Below.refl _ _⟩
theorem sizeI_le {o : List Int} (hf : FineI o) : (sizeI o : Int) ≤ 1048576 := by
  have h := hf.len
  unfold sizeI
  omega
/-- What a function leaves that returns a list of numbers and a code. -/
def OutI (w : World) (o : List Int × Int) (e : Ending) (w' : World) : Prop :=
  ∃ v, e = .returned (.tuple #[v, .int .i64 o.2]) ∧ RngI w.heap.size w'.heap.size w' v o.1 ∧ Below w.heap.size w w'
theorem OutI.out {w w' : World} {o : List Int × Int} {e : Ending} (h : OutI w o e w') :
    ∃ a c, e = .returned (.tuple #[.slice a o.1.length c, .int .i64 o.2]) ∧ RngI w.heap.size w'.heap.size w' (.slice a o.1.length c) o.1 ∧ Below w.heap.size w w' := by
  obtain ⟨v, rfl, ho, hb⟩ := h
  obtain ⟨a1, c1, rfl⟩ := OwnI.shape ho.own
  exact ⟨a1, c1, rfl, ho, hb⟩
end Go.Proofs.Ytgncaploccbfnaa.PW
