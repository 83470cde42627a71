/-
  Words for memory that a call owns: lists and rows of numbers in blocks of their own, what a write to them leaves as it was.
-/
import Derived.Test.YtkdgnegnndedaaaPMem
namespace Go.Proofs.Ytkdgnegnndedaaa.PM
open Go.RowKit Go.Proofs.Ytkdgnegnndedaaa

/-- Only the blocks bs are written. -/
structure Tch (bs : List Nat) (w w' : World) : Prop where
  os : w'.os = w.os
  tape : w'.tape = w.tape
  output : w'.output = w.output
  size : w'.heap.size = w.heap.size
  block : ∀ k, k ∉ bs → w'.heap[k]? = w.heap[k]?

theorem Tch.refl (bs : List Nat) (w : World) : Tch bs w w := ⟨rfl, rfl, rfl, rfl, fun _ _ => rfl⟩
theorem Tch.trans {bs : List Nat} {a b c : World} (h : Tch bs a b) (k : Tch bs b c) : Tch bs a c :=
  ⟨k.os.trans h.os, k.tape.trans h.tape, k.output.trans h.output, k.size.trans h.size, fun i hi => (k.block i hi).trans (h.block i hi)⟩
theorem Tch.mono {bs cs : List Nat} {a b : World} (h : Tch bs a b) (hs : ∀ k, k ∈ bs → k ∈ cs) : Tch cs a b :=
  ⟨h.os, h.tape, h.output, h.size, fun i hi => h.block i (fun c => hi (hs i c))⟩
theorem Tch.setCell {bs : List Nat} {a w : World} (h : Tch bs a w) {p : Addr} (hp : p.block ∈ bs) (u : Value) : Tch bs a (w.setCell p u) :=
  h.trans ⟨rfl, rfl, rfl, by simp, fun k hk => Below.heap_setCell _ _ _ _ (fun e => hk (by rw [e]; exact hp))⟩
theorem Tch.below {bs : List Nat} {w w' : World} (h : Tch bs w w') {B : Nat} (hB : ∀ b, b ∈ bs → B ≤ b) : Below B w w' :=
  ⟨h.os, h.tape, h.output, Nat.le_of_eq h.size.symm, fun k hk => h.block k (fun c => by have := hB k c; omega)⟩

/-- The block of a slice. -/
def blks (v : Value) : List Nat := v.ownBlock.toList

/-- v is nil, or a slice at the head of a block of its own, of the numbers xs. -/
def OwnI (w : World) (v : Value) (xs : List Int) : Prop := w.ownsRow 0 2 1 v xs.length (xs.map (Value.int .i64))

theorem IntBlk.own {w : World} {b : Nat} {xs : List Int} (h : IntBlk w b xs) (hm : xs.length ≤ maxLen) : OwnI w (.slice (some ⟨b, 0, none⟩) xs.length xs.length) xs := by
  obtain ⟨c, hb, hn, hc⟩ := h
  refine ⟨by simp, .inr ⟨b, xs.length, c, rfl, Nat.zero_le _, hb, Nat.le_refl _, hm, by simpa using hn, ?_⟩⟩
  rw [Nat.mul_one, List.take_of_length_le (by simp [hn])]
  apply List.ext_getElem?
  intro i
  by_cases hi : i < xs.length
  · have := hc i hi
    rw [Array.getElem?_toList, this]
    simp [hi]
  · rw [List.getElem?_eq_none (by simp [hn]; omega), List.getElem?_eq_none (by simp; omega)]

theorem OwnI.ints {w : World} {v : Value} {xs : List Int} (h : OwnI w v xs) (hx : ∀ x ∈ xs, I64 x) : Ints w v xs := by
  rcases h.2 with ⟨hv, hn⟩ | ⟨g, cap, cur, hv, _, hg, hnc, hcm, hcs, htake⟩
  · refine ⟨none, 0, by rw [hv, hn], by omega, Nat.zero_le _, hx, .inl (List.length_eq_zero_iff.1 hn)⟩
  · refine ⟨_, cap, hv, hnc, hcm, hx, .inr ⟨g, 0, rfl, ?_, fun i hi => ?_⟩⟩
    · rcases Nat.lt_or_ge g w.heap.size with h' | h'
      · exact h'
      · rw [Array.getElem?_eq_none h'] at hg; cases hg
    · subst hv
      rw [Nat.zero_add, World.ownsRow.cellAt h i (by omega)]
      simp [hi]

theorem OwnI.tch {w w' : World} {v : Value} {xs : List Int} {bs : List Nat} (h : OwnI w v xs) (ht : Tch bs w w') (hd : ∀ b, v.ownBlock = some b → b ∉ bs) : OwnI w' v xs := by
  refine ⟨h.1, ?_⟩
  rcases h.2 with h2 | ⟨g, cap, cur, hv, hb, hg, r⟩
  · exact .inl h2
  · exact .inr ⟨g, cap, cur, hv, hb, by rw [ht.block g (hd g (by rw [hv]; rfl))]; exact hg, r⟩
theorem OwnI.below {w w' : World} {v : Value} {xs : List Int} {B : Nat} (h : OwnI w v xs) (ht : Below B w w') (hd : ∀ b, v.ownBlock = some b → b < B) : OwnI w' v xs := by
  refine ⟨h.1, ?_⟩
  rcases h.2 with h2 | ⟨g, cap, cur, hv, hb, hg, r⟩
  · exact .inl h2
  · exact .inr ⟨g, cap, cur, hv, hb, by rw [ht.block g (hd g (by rw [hv]; rfl))]; exact hg, r⟩

/-- The numbers k, k + 1, .. -/
def marks (k : Int) (n : Nat) : List Int := (List.range n).map fun (i : Nat) => k + (i : Int)
theorem marks_length (k : Int) (n : Nat) : (marks k n).length = n := by simp [marks]
theorem marks_getD (k : Int) (n i : Nat) (h : i < n) : (marks k n).getD i 0 = k + i := by simp [marks, h]

/-- The first i of xs are marked. -/
def marked (k : Int) (xs : List Int) (i : Nat) : List Int := marks k i ++ xs.drop i
theorem marked_zero (k : Int) (xs : List Int) : marked k xs 0 = xs := by simp [marked, marks]
theorem marked_all (k : Int) (xs : List Int) : marked k xs xs.length = marks k xs.length := by simp [marked]
theorem marked_length (k : Int) (xs : List Int) (i : Nat) (h : i ≤ xs.length) : (marked k xs i).length = xs.length := by
  simp [marked, marks_length]; omega
theorem marked_set (k : Int) (xs : List Int) (i : Nat) (h : i < xs.length) : (marked k xs i).set i (k + i) = marked k xs (i + 1) := by
  have hd : xs.drop i = xs[i] :: xs.drop (i + 1) := List.drop_eq_getElem_cons h
  unfold marked
  rw [hd, List.set_append_right _ _ (by rw [marks_length]; exact Nat.le_refl _), marks_length, Nat.sub_self, List.set_cons_zero]
  have hm : marks k (i + 1) = marks k i ++ [k + (i : Int)] := by simp [marks, List.range_succ]
  rw [hm, List.append_assoc]
  rfl

/-- Rows of numbers, each in a block of its own. -/
structure OwnR (w : World) (v : Value) (xss : List (List Int)) (us : List Value) : Prop where
  len : us.length = xss.length
  top : w.ownsRow 0 23 1 v xss.length us
  rows : ∀ i, i < xss.length → OwnI w (us.getD i undef) (xss.getD i [])
  apart : ∀ i j b, i < xss.length → j < xss.length → (us.getD i undef).ownBlock = some b → (us.getD j undef).ownBlock = some b → i = j
  over : ∀ i b, i < xss.length → v.ownBlock = some b → (us.getD i undef).ownBlock ≠ some b

def rblks (us : List Value) : List Nat := us.flatMap blks
theorem mem_rblks {us : List Value} {i b : Nat} (hi : i < us.length) (h : (us.getD i undef).ownBlock = some b) : b ∈ rblks us := by
  unfold rblks
  rw [List.mem_flatMap]
  refine ⟨us[i], List.getElem_mem hi, ?_⟩
  have e : us.getD i undef = us[i] := by simp [hi]
  rw [e] at h
  simp [blks, h]
theorem of_mem_rblks {us : List Value} {b : Nat} (h : b ∈ rblks us) : ∃ i, i < us.length ∧ (us.getD i undef).ownBlock = some b := by
  unfold rblks at h
  rw [List.mem_flatMap] at h
  obtain ⟨u, hu, hb⟩ := h
  obtain ⟨i, hi, rfl⟩ := List.mem_iff_getElem.1 hu
  refine ⟨i, hi, ?_⟩
  have e : us.getD i undef = us[i] := by simp [hi]
  rw [e]
  simpa [blks] using hb

/-- The rows marked, from k on. -/
def marksR (k : Int) (xss : List (List Int)) : List (List Int) := (List.range xss.length).map fun i => marks (k + (pre xss i : Int)) (xss.getD i []).length
theorem marksR_length (k : Int) (xss : List (List Int)) : (marksR k xss).length = xss.length := by simp [marksR]
theorem marksR_getD (k : Int) (xss : List (List Int)) (i : Nat) (h : i < xss.length) : (marksR k xss).getD i [] = marks (k + (pre xss i : Int)) (xss.getD i []).length := by simp [marksR, h]

theorem OwnR.rows' {w : World} {v : Value} {xss : List (List Int)} {us : List Value} (h : OwnR w v xss us) (hx : ∀ i, i < xss.length → ∀ x ∈ xss.getD i [], I64 x) : PM.Rows w v xss := by
  have ht := h.top
  rcases ht.2 with ⟨hv, hn⟩ | ⟨g, cap, cur, hv, _, hg, hnc, hcm, hcs, htake⟩
  · exact ⟨none, 0, by rw [hv, hn], by omega, Nat.zero_le _, .inl (List.length_eq_zero_iff.1 hn)⟩
  · refine ⟨_, cap, hv, hnc, hcm, .inr ⟨g, 0, rfl, ?_, fun i hi => ⟨us.getD i undef, ?_, (h.rows i hi).ints (hx i hi)⟩⟩⟩
    · rcases Nat.lt_or_ge g w.heap.size with h' | h'
      · exact h'
      · rw [Array.getElem?_eq_none h'] at hg; cases hg
    · subst hv
      rw [Nat.zero_add, World.ownsRow.cellAt ht i (by omega)]
      have : i < us.length := by rw [h.len]; exact hi
      simp [this]
end Go.Proofs.Ytkdgnegnndedaaa.PM
