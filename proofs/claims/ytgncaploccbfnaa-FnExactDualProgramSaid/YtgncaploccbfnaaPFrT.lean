/-
  Fractions whose numbers stay in the limits.
-/
import Derived.Test.YtgncaploccbfnaaPDet
import Derived.Test.YtgncaploccbfnaaPCol
import Derived.Test.YtgncaploccbfnaaFracWalkD
namespace Go.Proofs.Ytgncaploccbfnaa.PW
open Go.RowKit Go.Proofs.Ytgncaploccbfnaa
open Go.Proofs.Ytgncaploccbfnaa.PM Go.Proofs.Ytgncaploccbfnaa.PX

theorem ints_at {w : World} {q : Value} {Q : List Int} {n : Nat} (hq : Ints w q Q) (hQ : Q.length = n) (hn1 : 1 ≤ n) : ∃ b off c, q = .slice (some ⟨b, off, none⟩) n c ∧ b < w.heap.size ∧ CellsAt w b off Q := by
  obtain ⟨a2, c2, rfl, _, _, _, hx⟩ := hq
  rcases hx with hx | ⟨b, off, rfl, h1, h2⟩
  · rw [hx] at hQ; simp at hQ; omega
  · exact ⟨b, off, c2, by rw [hQ], h1, h2⟩
theorem FreshI.set {B n g cap : Nat} {w : World} {xs : List Int} (h : FreshI B w (.slice (some ⟨g, 0, none⟩) n cap) xs) (k : Nat) (x : Int) : FreshI B (w.setCell ⟨g, k, none⟩ (.int .i64 x)) (.slice (some ⟨g, 0, none⟩) n cap) (xs.set k x) := by
  obtain ⟨g', cap', hv, hB, hlt, ho⟩ := h
  simp only [Value.slice.injEq, Option.some.injEq, Addr.mk.injEq, and_true] at hv
  obtain ⟨rfl, rfl, rfl⟩ := hv
  refine ⟨g, cap, by simp, hB, by simpa using hlt, ?_⟩
  exact own_set ho k x
theorem FreshI.shape {B : Nat} {w : World} {v : Value} {xs : List Int} {n : Nat} (h : FreshI B w v xs) (hn : xs.length = n) : ∃ g cap, v = .slice (some ⟨g, 0, none⟩) n cap ∧ B ≤ g ∧ g < w.heap.size := by
  obtain ⟨g, cap, hv, hB, hlt, _⟩ := h
  exact ⟨g, cap, by rw [hv, hn], hB, hlt⟩
theorem cell_one_at {W : World} {v : Value} {t : TypeId} {m : Nat} (h : W.heap.size = m) : ∀ (j : Nat) (u : Value), [v][j]? = some u → (W.alloc (.cells #[v] t)).cell? ((⟨m, 0, none⟩ : Addr).add j) = some u := by
  subst h
  exact cell_one_new _ _ _
theorem red_isF {n d : Int} (hd : d ≠ 0) (h1 : Bd 1000000000 n) (h2 : Bd 1000000000 d) : FM.isF (FM.redN n d) (FM.redD n d) = true := by
  have b1 := FM.redN_bd n d
  have b2 := FM.redD_bd n d
  have b3 := FM.redD_pos n d hd
  have b4 := FM.gcd_red n d hd
  unfold Bd at h1 h2
  refine decide_eq_true ?_
  refine ⟨?_, ?_, ?_, ?_, b4⟩ <;> omega
theorem told_ok {n d : Int} (hd : d ≠ 0) (h1 : Bd 1000000000 n) (h2 : Bd 1000000000 d) : FM.toldN n d = FM.redN n d ∧ FM.toldD n d = FM.redD n d ∧ FM.toldC n d = 0 := by
  have h := red_isF hd h1 h2
  unfold FM.toldN FM.toldD FM.toldC
  rw [if_pos h, if_pos h, if_pos h]
  exact ⟨rfl, rfl, rfl⟩
end Go.Proofs.Ytgncaploccbfnaa.PW
