/-
  Walks: numbers out of a map in the order of a list; sums of numbers.
-/
import Derived.Test.YtckblohfndnnbaaVCmn
import Derived.Test.YtckblohfndnnbaaPUnit
import Derived.Maps.OwnSet
namespace Go.Proofs.Ytckblohfndnnbaa.PW
open Go.RowKit Go.Proofs.Ytckblohfndnnbaa
open Go.Proofs.Ytckblohfndnnbaa.PM

/-- The first k of n numbers are written, the others 0. -/
def filN (n k : Nat) (F : Nat → Int) : List Int := (List.range n).map fun j => if j < k then F j else 0
theorem filN_zero (n : Nat) (F : Nat → Int) : filN n 0 F = List.replicate n 0 := by
  unfold filN
  apply List.ext_getElem
  · simp
  · intro i h1 h2; simp [List.getElem_replicate]
theorem filN_all (n : Nat) (F : Nat → Int) : filN n n F = (List.range n).map F := by
  unfold filN
  apply List.map_congr_left
  intro j hj
  rw [if_pos (by simpa using hj)]
theorem filN_set (n k : Nat) (F : Nat → Int) : (filN n k F).set k (F k) = filN n (k + 1) F := by
  unfold filN
  apply List.ext_getElem
  · simp
  · intro i h1 h2
    rw [List.getElem_set]
    simp only [List.getElem_map, List.getElem_range]
    by_cases e : k = i
    · subst e; rw [if_pos rfl, if_pos (by omega)]
    · rw [if_neg e]
      by_cases hl : i < k
      · rw [if_pos hl, if_pos (by omega)]
      · rw [if_neg hl, if_neg (by omega)]
theorem filN_length (n k : Nat) (F : Nat → Int) : (filN n k F).length = n := by simp [filN]
theorem FreshI.setN {B n g cap : Nat} {w : World} {xs : List Int} (h : FreshI B w (.slice (some ⟨g, 0, none⟩) n cap) xs) (k : Nat) (x : Int) : FreshI B (w.setCell ⟨g, k, none⟩ (.int .i64 x)) (.slice (some ⟨g, 0, none⟩) n cap) (xs.set k x) := by
  obtain ⟨g', cap', hv, hB, hlt, ho⟩ := h
  simp only [Value.slice.injEq, Option.some.injEq, Addr.mk.injEq, and_true] at hv
  obtain ⟨rfl, rfl, rfl⟩ := hv
  refine ⟨g, cap, by simp, hB, by simpa using hlt, ?_⟩
  exact own_set ho k x
/-- What a look-up gives at each fraction of a list, in whatever later world. -/
def Looks (w : World) (mv : Value) (xs : List (Int × Int)) (N : Int × Int → Int) : Prop :=
  ∀ w', Below w.heap.size w w' → ∀ x ∈ xs, (Instr.lookup 88 mv (.agg #[.int .i64 x.1, .int .i64 x.2]) false).run Try.prog w' = .ok (.int .i64 (N x)) w'
theorem Looks.below {w w1 : World} {mv : Value} {xs : List (Int × Int)} {N : Int × Int → Int} (h : Looks w mv xs N) (hb : Below w.heap.size w w1) : Looks w1 mv xs N := fun w' h' x hx => h w' (hb.trans (h'.mono hb.size)) x hx
theorem looks_map {w : World} {B n : Nat} {xs : List (Int × Int)} {N : Int × Int → Int} (h : MapN w B n xs N) (hx : ∀ x ∈ xs, I64 x.1 ∧ I64 x.2) : Looks w (.map (some B)) xs N :=
  fun _ hw x hxx => (h.below hw h.lt).look hxx (hx x hxx).1 (hx x hxx).2
theorem looks_nil (w : World) {xs : List (Int × Int)} (hx : ∀ x ∈ xs, I64 x.1 ∧ I64 x.2) : Looks w (.map none) xs (fun _ => 0) :=
  fun w' _ x hxx => by
    have := Maps.look_nil (w := w') false fr_keyed Try.underlying88 (fr_zero w') (fr_key (hx x hxx).1 (hx x hxx).2)
    simpa using this

/-- The sum of the first k numbers. -/
def sumNk (L : List Int) (k : Nat) : Int := (L.take k).foldl (· + ·) 0
theorem sumNk_zero (L : List Int) : sumNk L 0 = 0 := rfl
theorem sumNk_succ (L : List Int) (k : Nat) (h : k < L.length) : sumNk L (k + 1) = sumNk L k + L.getD k 0 := by
  unfold sumNk
  rw [List.take_succ_eq_append_getElem h, List.foldl_append]
  simp [h]
theorem sumNk_bd {L : List Int} {C : Int} (_h0 : 0 ≤ C) (h : ∀ i, i < L.length → -C ≤ L.getD i 0 ∧ L.getD i 0 ≤ C) : ∀ k, k ≤ L.length → -(C * k) ≤ sumNk L k ∧ sumNk L k ≤ C * k := by
  intro k
  induction k with
  | zero => intro _; simp [sumNk_zero]
  | succ k ih =>
    intro hk
    have := ih (by omega)
    have := h k (by omega)
    rw [sumNk_succ L k (by omega)]
    have e : C * ((k + 1 : Nat) : Int) = C * k + C := by rw [show ((k + 1 : Nat) : Int) = (k : Int) + 1 by omega, Int.mul_add, Int.mul_one]
    rw [e]
    omega
end Go.Proofs.Ytckblohfndnnbaa.PW
