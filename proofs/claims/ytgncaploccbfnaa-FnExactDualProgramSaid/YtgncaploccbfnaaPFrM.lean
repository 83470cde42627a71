/-
  Lists of fractions in memory of the call's own: two cells a fraction.
-/
import Derived.Test.YtgncaploccbfnaaPCol
import Derived.Test.YtgncaploccbfnaaFracWalkD
namespace Go.Proofs.Ytgncaploccbfnaa.PW
open Go.RowKit Go.Proofs.Ytgncaploccbfnaa
open Go.Proofs.Ytgncaploccbfnaa.PM

/-! ### Cells -/
def fcs : List (Int × Int) → List Value
  | [] => []
  | p :: l => .int .i64 p.1 :: .int .i64 p.2 :: fcs l
theorem fcs_length (xs : List (Int × Int)) : (fcs xs).length = xs.length * 2 := by
  induction xs with
  | nil => rfl
  | cons p l ih => simp [fcs, ih]; omega
theorem fcs_append (xs ys : List (Int × Int)) : fcs (xs ++ ys) = fcs xs ++ fcs ys := by
  induction xs with
  | nil => rfl
  | cons p l ih => simp [fcs, ih]
theorem fcs_get0 (xs : List (Int × Int)) (i : Nat) (h : i < xs.length) : (fcs xs)[i * 2]? = some (.int .i64 (xs.getD i (0, 0)).1) := by
  induction xs generalizing i with
  | nil => simp at h
  | cons p l ih =>
    cases i with
    | zero => rfl
    | succ i =>
      rw [Nat.succ_mul]
      have := ih i (by simp at h; omega)
      simpa [fcs] using this
theorem fcs_get1 (xs : List (Int × Int)) (i : Nat) (h : i < xs.length) : (fcs xs)[i * 2 + 1]? = some (.int .i64 (xs.getD i (0, 0)).2) := by
  induction xs generalizing i with
  | nil => simp at h
  | cons p l ih =>
    cases i with
    | zero => rfl
    | succ i =>
      rw [Nat.succ_mul]
      have := ih i (by simp at h; omega)
      simpa [fcs] using this
theorem fcs_set (xs : List (Int × Int)) (i : Nat) (h : i < xs.length) (a b : Int) : ((fcs xs).set (i * 2) (.int .i64 a)).set (i * 2 + 1) (.int .i64 b) = fcs (xs.set i (a, b)) := by
  induction xs generalizing i with
  | nil => simp at h
  | cons p l ih =>
    cases i with
    | zero => rfl
    | succ i =>
      rw [Nat.succ_mul]
      have := ih i (by simp at h; omega)
      simp only [fcs, List.set_cons_succ]
      rw [this]

/-- v is nil, or a slice at the head of a block of its own, of the fractions xs. -/
def OwnF (w : World) (v : Value) (xs : List (Int × Int)) : Prop := w.ownsRow 0 98 2 v xs.length (fcs xs)
def FreshF (B : Nat) (w : World) (v : Value) (xs : List (Int × Int)) : Prop := ∃ g cap, v = .slice (some ⟨g, 0, none⟩) xs.length cap ∧ B ≤ g ∧ g < w.heap.size ∧ OwnF w v xs
theorem ownF_any {w w' : World} {B T n : Nat} {v : Value} {xs : List Value} (h : w.ownsRow B T 2 v n xs) (ht : ∀ b, v.ownBlock = some b → w'.heap[b]? = w.heap[b]?) : w'.ownsRow B T 2 v n xs := by
  refine ⟨h.1, ?_⟩
  rcases h.2 with h2 | ⟨g, cap, cur, hv, hb, hg, r⟩
  · exact .inl h2
  · exact .inr ⟨g, cap, cur, hv, hb, by rw [ht g (by rw [hv]; rfl)]; exact hg, r⟩
theorem FreshF.below {B : Nat} {w w' : World} {v : Value} {xs : List (Int × Int)} (h : FreshF B w v xs) (hb : Below w.heap.size w w') : FreshF B w' v xs := by
  obtain ⟨g, cap, hv, hB, hlt, ho⟩ := h
  exact ⟨g, cap, hv, hB, Nat.lt_of_lt_of_le hlt hb.size, ownF_any ho (fun b hb' => hb.block b (by rw [hv] at hb'; simp [Value.ownBlock] at hb'; omega))⟩
theorem FreshF.mono {B C : Nat} {w : World} {v : Value} {xs : List (Int × Int)} (h : FreshF B w v xs) (hC : C ≤ B) : FreshF C w v xs := by
  obtain ⟨g, cap, hv, hB, r⟩ := h
  exact ⟨g, cap, hv, by omega, r⟩
theorem FreshF.shape {B : Nat} {w : World} {v : Value} {xs : List (Int × Int)} {n : Nat} (h : FreshF B w v xs) (hn : xs.length = n) : ∃ g cap, v = .slice (some ⟨g, 0, none⟩) n cap ∧ B ≤ g ∧ g < w.heap.size := by
  obtain ⟨g, cap, hv, hB, hlt, _⟩ := h
  exact ⟨g, cap, by rw [hv, hn], hB, hlt⟩
theorem FreshF.own {B : Nat} {w : World} {v : Value} {xs : List (Int × Int)} (h : FreshF B w v xs) : OwnF w v xs := by
  obtain ⟨_, _, _, _, _, ho⟩ := h
  exact ho
theorem OwnF.cell0 {w : World} {g cap n : Nat} {xs : List (Int × Int)} (h : OwnF w (.slice (some ⟨g, 0, none⟩) n cap) xs) (hn : n = xs.length) {i : Nat} (hi : i < n) : w.cell? ⟨g, i * 2, none⟩ = some (.int .i64 (xs.getD i (0, 0)).1) := by
  subst hn
  rw [World.ownsRow.cellAt h (i * 2) (by omega), fcs_get0 _ _ hi]
theorem OwnF.cell1 {w : World} {g cap n : Nat} {xs : List (Int × Int)} (h : OwnF w (.slice (some ⟨g, 0, none⟩) n cap) xs) (hn : n = xs.length) {i : Nat} (hi : i < n) : w.cell? ⟨g, i * 2 + 1, none⟩ = some (.int .i64 (xs.getD i (0, 0)).2) := by
  subst hn
  rw [World.ownsRow.cellAt h (i * 2 + 1) (by omega), fcs_get1 _ _ hi]
theorem OwnF.frozen {w : World} {g cap n : Nat} {xs : List (Int × Int)} (h : OwnF w (.slice (some ⟨g, 0, none⟩) n cap) xs) (hn : n = xs.length) (j : Nat) : w.frozen? ⟨g, j, none⟩ = false := by
  subst hn
  exact World.ownsRow.frozenAt h j
theorem OwnF.set {w : World} {g cap n : Nat} {xs : List (Int × Int)} (h : OwnF w (.slice (some ⟨g, 0, none⟩) n cap) xs) (hn : n = xs.length) {i : Nat} (hi : i < n) (a b : Int) :
    OwnF ((w.setCell ⟨g, i * 2, none⟩ (.int .i64 a)).setCell ⟨g, i * 2 + 1, none⟩ (.int .i64 b)) (.slice (some ⟨g, 0, none⟩) n cap) (xs.set i (a, b)) := by
  subst hn
  have h1 := (World.ownsRow.stored (World.ownsRow.stored h (i * 2) (.int .i64 a)).1 (i * 2 + 1) (.int .i64 b)).1
  rw [fcs_set _ _ hi] at h1
  unfold OwnF
  rw [List.length_set]
  exact h1
theorem FreshF.set {B n g cap : Nat} {w : World} {xs : List (Int × Int)} (h : FreshF B w (.slice (some ⟨g, 0, none⟩) n cap) xs) {i : Nat} (hi : i < n) (a b : Int) :
    FreshF B ((w.setCell ⟨g, i * 2, none⟩ (.int .i64 a)).setCell ⟨g, i * 2 + 1, none⟩ (.int .i64 b)) (.slice (some ⟨g, 0, none⟩) n cap) (xs.set i (a, b)) := by
  obtain ⟨g', cap', hv, hB, hlt, ho⟩ := h
  simp only [Value.slice.injEq, Option.some.injEq, Addr.mk.injEq, and_true] at hv
  obtain ⟨rfl, rfl, rfl⟩ := hv
  exact ⟨g, cap, by simp, hB, by simpa using hlt, ho.set rfl hi a b⟩
theorem freshF_nil (w : World) : FreshF w.heap.size (w.alloc (.cells #[] 98)) (.slice (some ⟨w.heap.size, 0, none⟩) 0 0) [] :=
  ⟨w.heap.size, 0, rfl, Nat.le_refl _, by simp, World.ownsRow_made w #[] 0 (Nat.zero_le _) (Nat.zero_le _) rfl⟩
theorem own_baseF {w : World} {B T n : Nat} {v : Value} {xs : List Value} (h : w.ownsRow B T 2 v n xs) : w.ownsRow 0 T 2 v n xs := by
  refine ⟨h.1, ?_⟩
  rcases h.2 with h2 | ⟨g, cap, cur, hv, hb, r⟩
  · exact .inl h2
  · exact .inr ⟨g, cap, cur, hv, Nat.zero_le _, r⟩
/-- A fraction is appended. -/
theorem FreshF.push {B C g cap n : Nat} {wr w4 : World} {v : Value} {xs : List (Int × Int)} {a b : Int} {o : Obj} (h : FreshF B wr v xs) (hB : B ≤ wr.heap.size) (hn : n = xs.length)
    (hown : w4.ownsRow C 98 2 (.slice (some ⟨g, 0, none⟩) (n + 1) cap) (n + 1) (fcs xs ++ [.int .i64 a, .int .i64 b])) (hat : v.ownBlock = some g ∨ g = (wr.alloc o).heap.size) (hlt : g < w4.heap.size) :
    FreshF B w4 (.slice (some ⟨g, 0, none⟩) (n + 1) cap) (xs ++ [(a, b)]) := by
  obtain ⟨gv, cv, hv, hv1, hv2, _⟩ := h
  subst hn
  refine ⟨g, cap, by simp, ?_, hlt, ?_⟩
  · rcases hat with h1 | h1
    · rw [hv] at h1; simp [Value.ownBlock] at h1; omega
    · rw [h1]; simp; omega
  · have := own_baseF hown
    unfold OwnF
    rw [fcs_append]
    simpa [fcs] using this
theorem FreshF.grow {B : Nat} {W wr w4 : World} {v : Value} {xs : List (Int × Int)} {o : Obj} (h : FreshF B wr v xs) (hb : Below B W wr) (hB : B ≤ wr.heap.size) (hgrow : (wr.alloc o).grownBy w4 v.ownBlock) : Below B W w4 := by
  obtain ⟨gv, cv, hv, hv1, hv2, _⟩ := h
  exact (hb.alloc hB o).grown hgrow (by simp; omega) (fun b hb' => by rw [hv] at hb'; simp [Value.ownBlock] at hb'; omega)
theorem info_frac : (Try.prog.info? 98).map (fun i => (i.zero, i.size, i.bytes)) = some (some (.agg #[.int .i64 0, .int .i64 0]), 2, 16) := by kernel_rfl
/-- A new list of fractions. -/
theorem make_frac (n : Nat) (hn : n ≤ 5) (h1 : 1 ≤ n) : ∀ w, (Instr.makeSlice 41 (.int .i64 n) (.int .i64 n)).run Try.prog w = .ok (.slice (some ⟨w.heap.size, 0, none⟩) n n) (w.alloc (.cells (fcs (List.replicate n (0, 0))).toArray 98)) := by
  obtain rfl | rfl | rfl | rfl | rfl : n = 1 ∨ n = 2 ∨ n = 3 ∨ n = 4 ∨ n = 5 := by omega
  all_goals (intro w; kernel_rfl)
theorem freshF_made (w : World) (n : Nat) (hn : n ≤ 5) : FreshF w.heap.size (w.alloc (.cells (fcs (List.replicate n (0, 0))).toArray 98)) (.slice (some ⟨w.heap.size, 0, none⟩) n n) (List.replicate n (0, 0)) := by
  refine ⟨w.heap.size, n, by simp, Nat.le_refl _, by simp, ?_⟩
  refine ⟨by rw [fcs_length], .inr ⟨w.heap.size, n, (fcs (List.replicate n (0, 0))).toArray, by simp, Nat.zero_le _, heap_alloc_new w _, by simp, by unfold maxLen; omega, by simp [fcs_length], ?_⟩⟩
  simp
  rw [List.take_of_length_le (by simp [fcs_length])]
end Go.Proofs.Ytgncaploccbfnaa.PW
