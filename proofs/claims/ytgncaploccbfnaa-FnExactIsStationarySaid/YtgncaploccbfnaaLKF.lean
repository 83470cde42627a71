/-
  Lists of fractions, as the walks of the laws want them (lawx.py).
-/
import Derived.Test.YtgncaploccbfnaaVArg
import Derived.Test.YtgncaploccbfnaaPFrF
namespace Go.Proofs.Ytgncaploccbfnaa.PW
open Go.RowKit Go.Proofs.Ytgncaploccbfnaa
open Go.Proofs.Ytgncaploccbfnaa.PM

theorem szF_x (v : Value) (L : List (Int × Int)) (left : Int) (w : World) (h : Frs w v L) (h0 : 0 ≤ left) (h1 : left ≤ 1048576) :
    Calls Try.prog 27 #[v, .int .i64 left] w fun e w' => e = .returned (.int .i64 (szI L.length left)) ∧ Below w.heap.size w w' := by
  obtain ⟨a, c, rfl, hlc, hlm, _⟩ := h
  refine (szFracS_any a L.length c left w (maxLen_le (Nat.le_trans hlc hlm)) h0 h1).mono ?_
  rintro e _ ⟨rfl, rfl⟩
  exact ⟨rfl, Below.refl _ _⟩
theorem toF_x (v : Value) (L : List (Int × Int)) (w : World) (h : Frs w v L) (hn : L.length ≤ 1048576) :
    Calls Try.prog 29 #[v] w fun e w' => ∃ a c, e = .returned (.slice a L.length c) ∧ RngF w.heap.size w'.heap.size w' (.slice a L.length c) L ∧ Below w.heap.size w w' := by
  refine (toFracS_out v L w h hn).mono ?_
  rintro e w' ⟨rfl, ho, hb, hz⟩
  exact ⟨_, _, rfl, ⟨ho, fun b hb' => by simp [Value.ownBlock] at hb'; omega⟩, hb⟩
theorem RngFx.reads {lo hi : Nat} {w : World} {a : Option Addr} {n c : Nat} {L : List (Int × Int)} (h : RngF lo hi w (.slice a n c) L) (hI : ∀ x ∈ L, I64 x.1 ∧ I64 x.2) : Frs w (.slice a n c) L := by
  rcases h.own.cases with ⟨he, rfl⟩ | ⟨g, cap, he, _⟩
  · rw [he]
    exact ⟨none, 0, rfl, Nat.le_refl _, Nat.zero_le _, by simp, .inl rfl⟩
  · have ho := h.own
    rw [he] at ho ⊢
    exact OwnF.frs ho hI
theorem eqF_x (v u : Value) (L : List (Int × Int)) (w : World) {lo hi lo' hi' : Nat} (h : RngF lo hi w v L) (h' : RngF lo' hi' w u L) (_ : ∀ x ∈ L, I64 x.1 ∧ I64 x.2) (hn : L.length ≤ 1048576) :
    Calls Try.prog 31 #[v, u] w fun e w' => e = .returned (.bool true) ∧ Below w.heap.size w w' := eqFracS_same v u L w h.own h'.own hn
theorem markF_x {lo hi : Nat} {w : World} {v : Value} {L : List (Int × Int)} (h : RngF lo hi w v L) (hn : L.length ≤ 1048576) (_ : hi ≤ w.heap.size) (k : Int) (h0 : 0 ≤ k) (h1 : k ≤ 4194304) :
    Calls Try.prog 32 #[v, .int .i64 k] w fun e w' => ∃ k', e = .returned (.int .i64 k') ∧ 0 ≤ k' ∧ k' ≤ k + 2097152 ∧ Bet lo hi w w' := by
  refine (markFracS_any v L k w h.own h0 h1 hn).mono ?_
  rintro e w' ⟨rfl, ho', ht⟩
  exact ⟨_, rfl, by omega, by omega, Bet.of_tch ht (fun b hb => h.at_ b (by simpa [blks] using hb))⟩
def FineFx (o : List (Int × Int)) : Prop := FineF o
def sizeFx (o : List (Int × Int)) : Nat := o.length * 2
theorem sizeFx_le {o : List (Int × Int)} (hf : FineFx o) : (sizeFx o : Int) ≤ 1048576 := by
  have h := FineF.len hf
  unfold sizeFx
  omega
theorem markF_k {lo hi : Nat} {w : World} {v : Value} {o : List (Int × Int)} (h : RngF lo hi w v o) (hf : FineFx o) (_ : hi ≤ w.heap.size) (k : Int) (h0 : 0 ≤ k) (h1 : k ≤ 1048577) :
    Calls Try.prog 32 #[v, .int .i64 k] w fun e w' => e = .returned (.int .i64 (k + (sizeFx o : Int))) ∧ RngF lo hi w' v (marksF k o.length) ∧ Bet lo hi w w' := by
  refine (markFracS_any v o k w h.own h0 (by omega) (by have := FineF.len hf; omega)).mono ?_
  rintro e w' ⟨rfl, ho', ht⟩
  exact ⟨ret_i64 (by unfold sizeFx; omega), ⟨ho', h.at_⟩, Bet.of_tch ht (fun b hb => h.at_ b (by simpa [blks] using hb))⟩
theorem heldF_k {lo hi : Nat} {w : World} {v : Value} {o : List (Int × Int)} (k : Int) (h : RngF lo hi w v (marksF k o.length)) (hf : FineFx o) (_ : hi ≤ w.heap.size) (h0 : 0 ≤ k) (h1 : k ≤ 1048576) :
    Calls Try.prog 33 #[v, .int .i64 k] w fun e w' => e = .returned (.int .i64 (k + (sizeFx o : Int))) ∧ Below w.heap.size w w' := by
  refine (heldFracS_any v o.length k w h.own h0 h1 (FineF.len hf)).mono ?_
  rintro e w' ⟨rfl, hb⟩
  exact ⟨ret_i64 (by unfold sizeFx; omega), hb⟩
end Go.Proofs.Ytgncaploccbfnaa.PW
