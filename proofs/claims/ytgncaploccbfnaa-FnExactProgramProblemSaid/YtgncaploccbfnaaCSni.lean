/-
  Walks: the sinks of an orientation, in the program; lists that start as nil and are appended to.
-/
import Derived.Test.YtgncaploccbfnaaCIm
namespace Go.Proofs.Ytgncaploccbfnaa.PW
open Go.RowKit Go.Proofs.Ytgncaploccbfnaa
open Go.Proofs.Ytgncaploccbfnaa.PM

theorem rngI_nil (lo hi : Nat) (w : World) : RngI lo hi w (.slice none 0 0) [] := ⟨World.ownsRow_nil _ _ _ _, fun b hb => by simp [Value.ownBlock] at hb⟩
theorem RngI.owns {B hi : Nat} {wr : World} {v : Value} {xs : List Int} (h : RngI B hi wr v xs) : wr.ownsRow 0 2 1 v xs.length (xs.map (Value.int .i64)) := h.own
theorem RngI.push {B C g cap n : Nat} {wr w4 : World} {v : Value} {xs : List Int} {x : Int} {t : TypeId} (h : RngI B wr.heap.size wr v xs) (hB : B ≤ wr.heap.size) (hn : n = xs.length)
    (hown : w4.ownsRow C 2 1 (.slice (some ⟨g, 0, none⟩) (n + 1) cap) (n + 1) (xs.map (Value.int .i64) ++ [.int .i64 x])) (hat : v.ownBlock = some g ∨ g = (wr.alloc (.cells #[.int .i64 x] t)).heap.size) (hlt : g < w4.heap.size) :
    RngI B w4.heap.size w4 (.slice (some ⟨g, 0, none⟩) (n + 1) cap) (xs ++ [x]) := by
  subst hn
  refine ⟨?_, fun b hb => ?_⟩
  · have := own_base' hown
    unfold OwnI
    simpa using this
  · simp [Value.ownBlock] at hb
    subst hb
    rcases hat with h1 | h1
    · have := h.at_ _ h1; omega
    · rw [h1] at hlt ⊢; simp at hlt ⊢; omega
theorem RngI.grow {B : Nat} {W wr w4 : World} {v : Value} {xs : List Int} {o : Obj} (h : RngI B wr.heap.size wr v xs) (hb : Below B W wr) (hB : B ≤ wr.heap.size) (hgrow : (wr.alloc o).grownBy w4 v.ownBlock) : Below B W w4 :=
  (hb.alloc hB o).grown hgrow (by simp; omega) (fun b hb' => (h.at_ b hb').1)

end Go.Proofs.Ytgncaploccbfnaa.PW
