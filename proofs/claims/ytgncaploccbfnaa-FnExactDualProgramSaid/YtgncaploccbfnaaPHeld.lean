/-
  Words for memory that a call owns: lists and rows of numbers in blocks of their own, what a write to them leaves as it was.
  Walks of the laws' own helpers: marks written into what a call owns, and read again.
  Walks: copies by append, in the model and in the program.
  Walks: a row of a problem scaled, in the program.
-/
import Derived.Test.YtgncaploccbfnaaPCore
import Derived.OwnWalk
namespace Go.Proofs.Ytgncaploccbfnaa.PM
open Go.RowKit Go.Proofs.Ytgncaploccbfnaa

/-- Only the blocks bs are written. -/
structure Tch (bs : List Nat) (w w' : World) : Prop where
  os : w'.os = w.os
  tape : w'.tape = w.tape
  output : w'.output = w.output
  size : w'.heap.size = w.heap.size
  block : ∀ k, k ∉ bs → w'.heap[k]? = w.heap[k]?

theorem Tch.refl (bs : List Nat) (w : World) : Tch bs w w := ⟨rfl, rfl, rfl, rfl, fun _ _ => rfl⟩
theorem Tch.trans {bs : List Nat} {a b c : World} (h : Tch bs a b) (k : Tch bs b c) : Tch bs a c :=
  ⟨k.os.trans h.os, k.tape.trans h.tape, k.output.trans h.output, k.size.trans h.size, fun i hi => (k.block i hi).trans (h.block i hi)⟩
theorem Tch.mono {bs cs : List Nat} {a b : World} (h : Tch bs a b) (hs : ∀ k, k ∈ bs → k ∈ cs) : Tch cs a b :=
  ⟨h.os, h.tape, h.output, h.size, fun i hi => h.block i (fun c => hi (hs i c))⟩
theorem Tch.setCell {bs : List Nat} {a w : World} (h : Tch bs a w) {p : Addr} (hp : p.block ∈ bs) (u : Value) : Tch bs a (w.setCell p u) :=
  h.trans ⟨rfl, rfl, rfl, by simp, fun k hk => Below.heap_setCell _ _ _ _ (fun e => hk (by rw [e]; exact hp))⟩
theorem Tch.below {bs : List Nat} {w w' : World} (h : Tch bs w w') {B : Nat} (hB : ∀ b, b ∈ bs → B ≤ b) : Below B w w' :=
  ⟨h.os, h.tape, h.output, Nat.le_of_eq h.size.symm, fun k hk => h.block k (fun c => by have := hB k c; omega)⟩

/-- The block of a slice. -/
def blks (v : Value) : List Nat := v.ownBlock.toList

/-- v is nil, or a slice at the head of a block of its own, of the numbers xs. -/
def OwnI (w : World) (v : Value) (xs : List Int) : Prop := w.ownsRow 0 2 1 v xs.length (xs.map (Value.int .i64))

theorem IntBlk.own {w : World} {b : Nat} {xs : List Int} (h : IntBlk w b xs) (hm : xs.length ≤ maxLen) : OwnI w (.slice (some ⟨b, 0, none⟩) xs.length xs.length) xs := by
  obtain ⟨c, hb, hn, hc⟩ := h
  refine ⟨by simp, .inr ⟨b, xs.length, c, rfl, Nat.zero_le _, hb, Nat.le_refl _, hm, by simpa using hn, ?_⟩⟩
  rw [Nat.mul_one, List.take_of_length_le (by simp [hn])]
  apply List.ext_getElem?
  intro i
  by_cases hi : i < xs.length
  · have := hc i hi
    rw [Array.getElem?_toList, this]
    simp [hi]
  · rw [List.getElem?_eq_none (by simp [hn]; omega), List.getElem?_eq_none (by simp; omega)]

theorem OwnI.ints {w : World} {v : Value} {xs : List Int} (h : OwnI w v xs) (hx : ∀ x ∈ xs, I64 x) : Ints w v xs := by
  rcases h.2 with ⟨hv, hn⟩ | ⟨g, cap, cur, hv, _, hg, hnc, hcm, hcs, htake⟩
  · refine ⟨none, 0, by rw [hv, hn], by omega, Nat.zero_le _, hx, .inl (List.length_eq_zero_iff.1 hn)⟩
  · refine ⟨_, cap, hv, hnc, hcm, hx, .inr ⟨g, 0, rfl, ?_, fun i hi => ?_⟩⟩
    · rcases Nat.lt_or_ge g w.heap.size with h' | h'
      · exact h'
      · rw [Array.getElem?_eq_none h'] at hg; cases hg
    · subst hv
      rw [Nat.zero_add, World.ownsRow.cellAt h i (by omega)]
      simp [hi]

theorem OwnI.tch {w w' : World} {v : Value} {xs : List Int} {bs : List Nat} (h : OwnI w v xs) (ht : Tch bs w w') (hd : ∀ b, v.ownBlock = some b → b ∉ bs) : OwnI w' v xs := by
  refine ⟨h.1, ?_⟩
  rcases h.2 with h2 | ⟨g, cap, cur, hv, hb, hg, r⟩
  · exact .inl h2
  · exact .inr ⟨g, cap, cur, hv, hb, by rw [ht.block g (hd g (by rw [hv]; rfl))]; exact hg, r⟩
theorem OwnI.below {w w' : World} {v : Value} {xs : List Int} {B : Nat} (h : OwnI w v xs) (ht : Below B w w') (hd : ∀ b, v.ownBlock = some b → b < B) : OwnI w' v xs := by
  refine ⟨h.1, ?_⟩
  rcases h.2 with h2 | ⟨g, cap, cur, hv, hb, hg, r⟩
  · exact .inl h2
  · exact .inr ⟨g, cap, cur, hv, hb, by rw [ht.block g (hd g (by rw [hv]; rfl))]; exact hg, r⟩

/-- The numbers k, k + 1, .. -/
def marks (k : Int) (n : Nat) : List Int := (List.range n).map fun (i : Nat) => k + (i : Int)
theorem marks_length (k : Int) (n : Nat) : (marks k n).length = n := by simp [marks]
theorem marks_getD (k : Int) (n i : Nat) (h : i < n) : (marks k n).getD i 0 = k + i := by simp [marks, h]

/-- The first i of xs are marked. -/
def marked (k : Int) (xs : List Int) (i : Nat) : List Int := marks k i ++ xs.drop i
theorem marked_zero (k : Int) (xs : List Int) : marked k xs 0 = xs := by simp [marked, marks]
theorem marked_all (k : Int) (xs : List Int) : marked k xs xs.length = marks k xs.length := by simp [marked]
theorem marked_length (k : Int) (xs : List Int) (i : Nat) (h : i ≤ xs.length) : (marked k xs i).length = xs.length := by
  simp [marked, marks_length]; omega
theorem marked_set (k : Int) (xs : List Int) (i : Nat) (h : i < xs.length) : (marked k xs i).set i (k + i) = marked k xs (i + 1) := by
  have hd : xs.drop i = xs[i] :: xs.drop (i + 1) := List.drop_eq_getElem_cons h
  unfold marked
  rw [hd, List.set_append_right _ _ (by rw [marks_length]; exact Nat.le_refl _), marks_length, Nat.sub_self, List.set_cons_zero]
  have hm : marks k (i + 1) = marks k i ++ [k + (i : Int)] := by simp [marks, List.range_succ]
  rw [hm, List.append_assoc]
  rfl

/-- Rows of numbers, each in a block of its own. -/
structure OwnR (w : World) (v : Value) (xss : List (List Int)) (us : List Value) : Prop where
  len : us.length = xss.length
  top : w.ownsRow 0 23 1 v xss.length us
  rows : ∀ i, i < xss.length → OwnI w (us.getD i undef) (xss.getD i [])
  apart : ∀ i j b, i < xss.length → j < xss.length → (us.getD i undef).ownBlock = some b → (us.getD j undef).ownBlock = some b → i = j
  over : ∀ i b, i < xss.length → v.ownBlock = some b → (us.getD i undef).ownBlock ≠ some b

def rblks (us : List Value) : List Nat := us.flatMap blks
theorem mem_rblks {us : List Value} {i b : Nat} (hi : i < us.length) (h : (us.getD i undef).ownBlock = some b) : b ∈ rblks us := by
  unfold rblks
  rw [List.mem_flatMap]
  refine ⟨us[i], List.getElem_mem hi, ?_⟩
  have e : us.getD i undef = us[i] := by simp [hi]
  rw [e] at h
  simp [blks, h]
theorem of_mem_rblks {us : List Value} {b : Nat} (h : b ∈ rblks us) : ∃ i, i < us.length ∧ (us.getD i undef).ownBlock = some b := by
  unfold rblks at h
  rw [List.mem_flatMap] at h
  obtain ⟨u, hu, hb⟩ := h
  obtain ⟨i, hi, rfl⟩ := List.mem_iff_getElem.1 hu
  refine ⟨i, hi, ?_⟩
  have e : us.getD i undef = us[i] := by simp [hi]
  rw [e]
  simpa [blks] using hb

/-- The rows marked, from k on. -/
def marksR (k : Int) (xss : List (List Int)) : List (List Int) := (List.range xss.length).map fun i => marks (k + (pre xss i : Int)) (xss.getD i []).length
theorem marksR_length (k : Int) (xss : List (List Int)) : (marksR k xss).length = xss.length := by simp [marksR]
theorem marksR_getD (k : Int) (xss : List (List Int)) (i : Nat) (h : i < xss.length) : (marksR k xss).getD i [] = marks (k + (pre xss i : Int)) (xss.getD i []).length := by simp [marksR, h]

theorem OwnR.rows' {w : World} {v : Value} {xss : List (List Int)} {us : List Value} (h : OwnR w v xss us) (hx : ∀ i, i < xss.length → ∀ x ∈ xss.getD i [], I64 x) : PM.Rows w v xss := by
  have ht := h.top
  rcases ht.2 with ⟨hv, hn⟩ | ⟨g, cap, cur, hv, _, hg, hnc, hcm, hcs, htake⟩
  · exact ⟨none, 0, by rw [hv, hn], by omega, Nat.zero_le _, .inl (List.length_eq_zero_iff.1 hn)⟩
  · refine ⟨_, cap, hv, hnc, hcm, .inr ⟨g, 0, rfl, ?_, fun i hi => ⟨us.getD i undef, ?_, (h.rows i hi).ints (hx i hi)⟩⟩⟩
    · rcases Nat.lt_or_ge g w.heap.size with h' | h'
      · exact h'
      · rw [Array.getElem?_eq_none h'] at hg; cases hg
    · subst hv
      rw [Nat.zero_add, World.ownsRow.cellAt ht i (by omega)]
      have : i < us.length := by rw [h.len]; exact hi
      simp [this]
end Go.Proofs.Ytgncaploccbfnaa.PM
namespace Go.Proofs.Ytgncaploccbfnaa.PW
open Go.RowKit Go.Proofs.Ytgncaploccbfnaa
open Go.Proofs.Ytgncaploccbfnaa.PM

theorem markInt64S_any (v : Value) (xs : List Int) (k : Int) (w : World) (hv : OwnI w v xs) (h0 : 0 ≤ k) (h1 : k + xs.length ≤ 4611686018427387904) :
    Calls Try.prog 72 #[v, .int .i64 k] w fun e w' => e = .returned (.int .i64 (k + xs.length)) ∧ OwnI w' v (marks k xs.length) ∧ Tch (blks v) w w' := by
  rcases hv.2 with ⟨rfl, hn⟩ | ⟨g, cap, cur, rfl, hg0, hg, hnc, hcm, hcs, htake⟩
  · have hx : xs = [] := List.length_eq_zero_iff.1 hn
    subst hx
    clear hn
    go_enter Try.func72, Try.ntmps72
    go_wp2
    go_rounds 1
    all_goals go_ret
    all_goals exact ⟨ret_int (by simp), hv, Tch.refl _ _⟩
  · clear hg0 hg hnc hcm hcs htake
    have HV := Lib.hid hv
    clear hv
    go_enter Try.func72, Try.ntmps72
    go_wp2
    go_loopw [1, 5] (fun s i wr => ∃ j : Nat, j ≤ xs.length ∧ i = .int .i64 j ∧ s = .int .i64 (k + j) ∧ OwnI wr (.slice (some ⟨g, 0, none⟩) xs.length cap) (marked k xs j) ∧ Tch [g] w wr) (fun _ i _ => xs.length - (intOf i).toNat)
    case atStart => exact ⟨0, Nat.zero_le _, rfl, by simp, by rw [marked_zero]; exact HV.out, Tch.refl _ _⟩
    case round =>
      obtain ⟨j, hj, rfl, rfl, hown, ht⟩ := hrel
      by_cases hlt : j < xs.length
      · have hl := marked_length k xs j hj
        have hown' : wr.ownsRow 0 2 1 (.slice (some ⟨g, 0, none⟩) xs.length cap) xs.length ((marked k xs j).map (Value.int .i64)) := by
          have h := hown
          unfold OwnI at h
          rw [hl] at h
          exact h
        have hc := World.ownsRow.cellAt hown' j (by omega)
        have hf := World.ownsRow.frozenAt hown' j
        have hs := World.ownsRow.stored hown' j (.int .i64 (k + j))
        obtain ⟨x, hx⟩ : ∃ x, ((marked k xs j).map (Value.int .i64))[j]? = some x := ⟨_, List.getElem?_eq_getElem (by simp [hl, hlt])⟩
        rw [hx] at hc
        have hnext : Hid (OwnI (wr.setCell ⟨g, j, none⟩ (.int .i64 (k + j))) (.slice (some ⟨g, 0, none⟩) xs.length cap) (marked k xs (j + 1))) := by
          have h := hs.1
          rw [← List.map_set, marked_set k xs j hlt] at h
          show World.ownsRow _ _ _ _ _ _ _
          rw [marked_length k xs (j + 1) hlt]
          exact h
        have hnt : Hid (Tch [g] w (wr.setCell ⟨g, j, none⟩ (.int .i64 (k + j)))) := ht.setCell (by simp) _
        clear hx hs hown hown' hl ht
        go_wp2
        go_roundw
        case rel => exact ⟨j + 1, by omega, by go_num, by go_num, hnext, hnt⟩
        case measure => simp [intOf]; omega
      · obtain rfl : j = xs.length := by omega
        have hend : Hid (OwnI wr (.slice (some ⟨g, 0, none⟩) xs.length cap) (marks k xs.length)) := by rw [← marked_all]; exact hown
        clear hown
        go_wp2
        go_ret
        exact ⟨rfl, hend, ht⟩

theorem heldInt64S_any (v : Value) (n : Nat) (k : Int) (w : World) (hv : Ints w v (marks k n)) (h0 : 0 ≤ k) (h1 : k + n ≤ 4611686018427387904) :
    Calls Try.prog 73 #[v, .int .i64 k] w fun e w' => e = .returned (.int .i64 (k + n)) ∧ w = w' := by
  obtain ⟨a, cap, rfl, hc, hm0, _, hx⟩ := hv
  rw [marks_length] at hc ⊢
  clear hc hm0
  by_cases hn : n = 0
  · subst hn
    go_enter Try.func73, Try.ntmps73
    go_wp2
    go_rounds 1
    all_goals go_ret
    all_goals exact ⟨ret_int (by simp), rfl⟩
  rcases hx with hx | ⟨b, off, rfl, hlt, hcell⟩
  · have := marks_length k n
    rw [hx] at this
    simp at this
    omega
  have HC := Lib.hid hcell
  clear hcell hn
  go_enter Try.func73, Try.ntmps73
  go_wp2
  go_loop [1, 5] (fun s i => ∃ j : Nat, j ≤ n ∧ i = .int .i64 j ∧ s = .int .i64 (k + j)) (fun _ i => n - (intOf i).toNat)
  case atStart => exact ⟨0, Nat.zero_le _, rfl, by simp⟩
  case round =>
    obtain ⟨j, hj, rfl, rfl⟩ := hrel
    by_cases hlt3 : j < n
    · have h1c := HC.out j (by rw [marks_length]; exact hlt3)
      rw [marks_getD k n j hlt3] at h1c
      go_wp2
      go_round
      case rel => exact ⟨j + 1, by omega, by go_num, by go_num⟩
      case measure => simp [intOf]; omega
    · obtain rfl : j = n := by omega
      go_wp2
      go_ret
      exact ⟨rfl, rfl⟩

/-- Rows j < i are marked, the others as they were. -/
def midR (k : Int) (xss : List (List Int)) (i : Nat) (j : Nat) : List Int := if j < i then marks (k + (pre xss j : Int)) (xss.getD j []).length else xss.getD j []

structure Mid (w wr : World) (v : Value) (xss : List (List Int)) (us : List Value) (k : Int) (i : Nat) : Prop where
  tch : Tch (rblks us) w wr
  rows : ∀ j, j < xss.length → OwnI wr (us.getD j undef) (midR k xss i j)

theorem mid_start {w : World} {v : Value} {xss : List (List Int)} {us : List Value} (h : OwnR w v xss us) (k : Int) : Mid w w v xss us k 0 :=
  ⟨Tch.refl _ _, fun j hj => by have := h.rows j hj; simpa [midR] using this⟩
theorem mid_step {w wr w2 : World} {v : Value} {xss : List (List Int)} {us : List Value} {k : Int} {i : Nat} (h0 : OwnR w v xss us) (h : Mid w wr v xss us k i) (hi : i < xss.length)
    (ho : OwnI w2 (us.getD i undef) (marks (k + (pre xss i : Int)) (xss.getD i []).length)) (ht : Tch (blks (us.getD i undef)) wr w2) : Mid w w2 v xss us k (i + 1) := by
  refine ⟨h.tch.trans (ht.mono fun b hb => ?_), fun j hj => ?_⟩
  · refine mem_rblks (i := i) (by rw [h0.len]; exact hi) ?_
    unfold blks at hb
    simpa using hb
  · unfold midR
    by_cases e : j = i
    · subst e; rw [if_pos (by omega)]; exact ho
    · have h2 := (h.rows j hj).tch ht (fun b hb c => by
        unfold blks at c
        have c' : (us.getD i undef).ownBlock = some b := by simpa using c
        exact e (h0.apart j i b hj hi hb c'))
      unfold midR at h2
      by_cases hlt : j < i
      · rw [if_pos hlt] at h2; rw [if_pos (by omega)]; exact h2
      · rw [if_neg hlt] at h2; rw [if_neg (by omega)]; exact h2
theorem mid_end {w wr : World} {v : Value} {xss : List (List Int)} {us : List Value} {k : Int} (h0 : OwnR w v xss us) (h : Mid w wr v xss us k xss.length) : OwnR wr v (marksR k xss) us := by
  refine ⟨by rw [marksR_length]; exact h0.len, ?_, fun i hi => ?_, fun i j b hi hj => ?_, fun i b hi => ?_⟩
  · rw [marksR_length]
    refine ⟨h0.top.1, ?_⟩
    rcases h0.top.2 with h2 | ⟨g, cap, cur, hv, hb, hg, r⟩
    · exact .inl h2
    · refine .inr ⟨g, cap, cur, hv, hb, ?_, r⟩
      rw [h.tch.block g (fun c => ?_)]; exact hg
      obtain ⟨i, hi, hib⟩ := of_mem_rblks c
      exact h0.over i g (by rw [← h0.len]; exact hi) (by rw [hv]; rfl) hib
  · rw [marksR_length] at hi
    rw [marksR_getD _ _ _ hi]
    have := h.rows i hi
    unfold midR at this
    rw [if_pos hi] at this
    exact this
  · rw [marksR_length] at hi hj
    exact h0.apart i j b hi hj
  · rw [marksR_length] at hi
    exact h0.over i b hi

theorem OwnI.shape {w : World} {v : Value} {xs : List Int} (h : OwnI w v xs) : ∃ a cap, v = .slice a xs.length cap := by
  rcases h.2 with ⟨hv, hn⟩ | ⟨g, cap, cur, hv, _⟩
  · exact ⟨none, 0, by rw [hv, hn]⟩
  · exact ⟨_, cap, hv⟩

theorem markInt64SS_any (v : Value) (xss : List (List Int)) (us : List Value) (k : Int) (w : World) (hv : OwnR w v xss us) (h0 : 0 ≤ k) (h1 : k + tot xss ≤ 4611686018427387904) :
    Calls Try.prog 25 #[v, .int .i64 k] w fun e w' => e = .returned (.int .i64 (k + pre xss xss.length)) ∧ OwnR w' v (marksR k xss) us ∧ Tch (rblks us) w w' := by
  have hpl := fun i => pre_le xss i
  have hbnd : ∀ i, i < xss.length → (pre xss i : Int) + (xss.getD i []).length ≤ tot xss := fun i hi => by
    have a1 := pre_succ xss i hi
    have a2 := pre_le xss (i + 1)
    unfold tot
    omega
  have hnl : (xss.length : Int) ≤ tot xss := by unfold tot; omega
  have HB := Lib.hid hbnd
  clear hbnd hpl
  rcases hv.top.2 with ⟨rfl, hn⟩ | ⟨g, cap, cur, rfl, hg0, hg, hnc, hcm, hcs, htake⟩
  · have hx : xss = [] := List.length_eq_zero_iff.1 hn
    subst hx
    clear hn
    have hus : us = [] := by have := hv.len; simpa using this
    subst hus
    go_enter Try.func25, Try.ntmps25
    go_wp2
    go_rounds 1
    all_goals go_ret
    all_goals exact ⟨ret_int (by simp [pre]), mid_end hv (mid_start hv k), Tch.refl _ _⟩
  · clear hg0 hg hnc hcm hcs htake
    have HV := Lib.hid hv
    have HT := Lib.hid h1
    clear hv h1
    have hnl2 : (xss.length : Int) ≤ 4611686018427387904 := by have := HT.out; omega
    clear hnl
    go_enter Try.func25, Try.ntmps25
    go_wp2
    go_loopw [1, 5] (fun s i wr => ∃ j : Nat, j ≤ xss.length ∧ i = .int .i64 j ∧ s = .int .i64 (k + pre xss j) ∧ Mid w wr (.slice (some ⟨g, 0, none⟩) xss.length cap) xss us k j) (fun _ i _ => xss.length - (intOf i).toNat)
    case atStart => exact ⟨0, Nat.zero_le _, rfl, by rw [pre_zero]; simp, mid_start HV.out k⟩
    case round =>
      obtain ⟨j, hj, rfl, rfl, hmid⟩ := hrel
      by_cases hlt : j < xss.length
      · have hju : j < us.length := by rw [HV.out.len]; exact hlt
        have hcell : wr.cell? ⟨g, j, none⟩ = some (us.getD j undef) := by
          have htop := HV.out.top
          have hb : wr.heap[g]? = w.heap[g]? := hmid.tch.block g (fun c => by
            obtain ⟨i, hi, hib⟩ := of_mem_rblks c
            exact HV.out.over i g (by rw [← HV.out.len]; exact hi) rfl hib)
          rw [World.cell?_of_block (w := w) (a := ⟨g, j, none⟩) hb, World.ownsRow.cellAt htop j (by omega)]
          simp [hju]
        have hrow := hmid.rows j hlt
        unfold midR at hrow
        rw [if_neg (Nat.lt_irrefl j)] at hrow
        have hb1 := HB.out j hlt
        have hb2 := HT.out
        have hk1 : 0 ≤ k + (pre xss j : Int) := by omega
        have hk2 : k + (pre xss j : Int) + (xss.getD j []).length ≤ 4611686018427387904 := by omega
        have hps := pre_succ xss j hlt
        have hnew : k + (pre xss j : Int) + ((xss.getD j []).length : Int) = k + (pre xss (j + 1) : Int) := by rw [hps]; omega
        have HNW := Lib.hid hnew
        have hstep := fun (w2 : World) ho ht => mid_step (w2 := w2) HV.out hmid hlt ho ht
        have HST := Lib.hid hstep
        clear hb1 hb2 hps hnew hstep hmid
        obtain ⟨ra, rc, hsh⟩ := OwnI.shape hrow
        obtain ⟨L, hL⟩ : ∃ L, L = (xss.getD j []).length := ⟨_, rfl⟩
        rw [← hL] at hsh
        rw [hsh] at hcell
        clear hL
        have HSH := Lib.hid hsh
        have HRW := Lib.hid hrow
        clear hsh hrow hju
        go_wp2_with fail
        rw [← HSH.out]
        refine (markInt64S_any _ _ _ _ HRW.out hk1 hk2).mono ?_
        rintro e w2 ⟨rfl, ho, ht⟩
        rw [HNW.out]
        have hnext := HST.out w2 ho ht
        clear ho ht
        go_wp2_with fail
        go_roundw
        case rel => exact ⟨j + 1, by omega, by go_num, rfl, hnext⟩
        case measure => simp [intOf]; omega
      · obtain rfl : j = xss.length := by omega
        go_wp2
        go_ret
        exact ⟨rfl, mid_end HV.out hmid, hmid.tch⟩

theorem heldInt64SS_any (v : Value) (xss : List (List Int)) (k : Int) (w : World) (hv : PM.Rows w v (marksR k xss)) (h0 : 0 ≤ k) (h1 : k + tot xss ≤ 4611686018427387904) :
    Calls Try.prog 26 #[v, .int .i64 k] w fun e w' => e = .returned (.int .i64 (k + pre xss xss.length)) ∧ w = w' := by
  have hbnd : ∀ i, i < xss.length → (pre xss i : Int) + (xss.getD i []).length ≤ tot xss := fun i hi => by
    have a1 := pre_succ xss i hi
    have a2 := pre_le xss (i + 1)
    unfold tot
    omega
  have hnl : (xss.length : Int) ≤ tot xss := by unfold tot; omega
  have HB := Lib.hid hbnd
  clear hbnd
  obtain ⟨a, cap, rfl, hc, hm0, hx⟩ := hv
  rw [marksR_length] at hc ⊢
  clear hc hm0
  by_cases hn : xss = []
  · subst hn
    show Calls _ _ #[.slice a 0 cap, .int .i64 k] _ _
    go_enter Try.func26, Try.ntmps26
    go_wp2
    go_rounds 1
    all_goals go_ret
    all_goals exact ⟨ret_int (by simp [pre]), rfl⟩
  rcases hx with hx | ⟨b, off, rfl, hlt, hcell⟩
  · have := marksR_length k xss
    rw [hx] at this
    exact absurd (List.length_eq_zero_iff.1 (by simpa using this.symm)) hn
  have HC := Lib.hid hcell
  have HT := Lib.hid h1
  have hnl2 : (xss.length : Int) ≤ 4611686018427387904 := by omega
  clear hcell hn h1 hnl
  go_enter Try.func26, Try.ntmps26
  go_wp2
  go_loop [1, 5] (fun s i => ∃ j : Nat, j ≤ xss.length ∧ i = .int .i64 j ∧ s = .int .i64 (k + pre xss j)) (fun _ i => xss.length - (intOf i).toNat)
  case atStart => exact ⟨0, Nat.zero_le _, rfl, by rw [pre_zero]; simp⟩
  case round =>
    obtain ⟨j, hj, rfl, rfl⟩ := hrel
    by_cases hlt3 : j < xss.length
    · obtain ⟨u, hu, hI⟩ := HC.out j (by rw [marksR_length]; exact hlt3)
      rw [marksR_getD k xss j hlt3] at hI
      have hb1 := HB.out j hlt3
      have hb2 := HT.out
      have hk1 : 0 ≤ k + (pre xss j : Int) := by omega
      have hk2 : k + (pre xss j : Int) + (xss.getD j []).length ≤ 4611686018427387904 := by omega
      have hps := pre_succ xss j hlt3
      have hnew : k + (pre xss j : Int) + ((xss.getD j []).length : Int) = k + (pre xss (j + 1) : Int) := by rw [hps]; omega
      have HNW := Lib.hid hnew
      have hsg : Hid (¬ k + (pre xss (j + 1) : Int) < 0) := by show ¬ _; omega
      have hdec : decide (k + (pre xss (j + 1) : Int) < 0) = false := decide_eq_false hsg.out
      clear hb1 hb2 hps hnew
      have HI := Lib.hid hI
      obtain ⟨ra, rc, hsh, _⟩ := hI
      obtain ⟨L, hL⟩ : ∃ L, L = (marks (k + (pre xss j : Int)) (xss.getD j []).length).length := ⟨_, rfl⟩
      rw [← hL] at hsh
      rw [hsh] at hu
      clear hL
      have HSH := Lib.hid hsh
      clear hsh
      go_wp2_with fail
      rw [← HSH.out]
      refine (heldInt64S_any _ _ _ _ HI.out hk1 hk2).mono ?_
      rintro e w2 ⟨rfl, rfl⟩
      rw [HNW.out]
      go_wp2_with fail
      go_round
      case rel => exact ⟨j + 1, by omega, by go_num, rfl⟩
      case measure => simp [intOf]; omega
    · obtain rfl : j = xss.length := by omega
      go_wp2
      go_ret
      exact ⟨rfl, rfl⟩
end Go.Proofs.Ytgncaploccbfnaa.PW
namespace Go.Proofs.Ytgncaploccbfnaa.PW
open Go.RowKit Go.Proofs.Ytgncaploccbfnaa
open Go.Proofs.Ytgncaploccbfnaa.PM

/-- v is a slice of the numbers xs in a block of its own from B on. -/
def FreshI (B : Nat) (w : World) (v : Value) (xs : List Int) : Prop :=
  ∃ g cap, v = .slice (some ⟨g, 0, none⟩) xs.length cap ∧ B ≤ g ∧ g < w.heap.size ∧ OwnI w v xs

theorem fresh_of_row {B : Nat} {w : World} {v : Value} {xs : List Int} (h : w.ownsRow B 2 1 v xs.length (xs.map (Value.int .i64))) (hne : v ≠ .slice none 0 0) : FreshI B w v xs := by
  have h1 : OwnI w v xs := by
    refine ⟨h.1, ?_⟩
    rcases h.2 with h2 | ⟨g, cap, cur, hv, hb, r⟩
    · exact .inl h2
    · exact .inr ⟨g, cap, cur, hv, Nat.zero_le _, r⟩
  rcases h.2 with ⟨hv, _⟩ | ⟨g, cap, cur, hv, hb, hg, r⟩
  · exact absurd hv hne
  · refine ⟨g, cap, hv, hb, ?_, h1⟩
    rcases Nat.lt_or_ge g w.heap.size with h' | h'
    · exact h'
    · rw [Array.getElem?_eq_none h'] at hg; cases hg

theorem news_at {w : World} {b off : Nat} {xs : List Int} (h : CellsAt w b off xs) : ∀ j u, (xs.map (Value.int .i64))[j]? = some u → w.cell? ((⟨b, off, none⟩ : Addr).add j) = some u := by
  intro j u hu
  have hj : j < xs.length := by
    rcases Nat.lt_or_ge j xs.length with h' | h'
    · exact h'
    · rw [List.getElem?_eq_none (by simpa using h')] at hu; cases hu
  have e : (⟨b, off, none⟩ : Addr).add j = ⟨b, off + j, none⟩ := by
    unfold Addr.add
    by_cases h0 : j = 0
    · subst h0; simp
    · simp [h0]
  rw [e, h j hj]
  simp [hj] at hu
  simp [hj, hu]

theorem l01Own_any (v : Value) (xs : List Int) (w : World) (hv : Ints w v xs) (h0 : xs ≠ []) (hn : xs.length ≤ 1048576) :
    Calls Try.prog 105 #[v] w fun e w' => ∃ u, e = .returned u ∧ FreshI w.heap.size w' u xs ∧ Below w.heap.size w w' := by
  obtain ⟨a, cap, rfl, _, _, _, hx⟩ := hv
  rcases hx with hx | ⟨b, off, rfl, hlt, hcell⟩
  · exact absurd hx h0
  obtain ⟨i0, hi, hz0, hz1, hz2⟩ := info_parts info_int
  have HC := Lib.hid hcell
  clear hcell
  go_enter Try.func105, Try.ntmps105
  go_wp2_with (at_builtin; refine wpList_append_own _ rfl _ _ 23 rfl w.heap.size 2 i0 (.int .i64 0) 1 8 Try.underlying23 hi hz0 hz1 hz2 rfl (by decide) _ _ _ rfl (World.ownsRow_made w #[] 0 (Nat.le_refl _) (Nat.zero_le _) rfl) ⟨b, off, none⟩ xs.length cap (xs.map (Value.int .i64)) rfl ?c0 ?c1 ?c2 ?c3 ?c4 ?c5 ?_)
  case c0 => simp
  case c1 =>
    intro j u hj
    have h2 : ∀ i, i < xs.length → (w.alloc (.cells #[] 2)).cell? ⟨b, off + i, none⟩ = some (.int .i64 (xs.getD i 0)) := fun i hi => (World.cell?_alloc_lt w _ ⟨b, off + i, none⟩ hlt).trans (HC.out i hi)
    exact news_at (w := w.alloc (.cells #[] 2)) h2 j u hj
  case c2 => intro u hu; simp at hu; obtain ⟨x, _, rfl⟩ := hu; rfl
  case c3 => unfold maxLen; omega
  case c4 => omega
  case c5 => simp
  intro v' w1 hown hgrow hnil
  go_wp2_with fail
  go_ret
  have hne : v' ≠ .slice none 0 0 := fun c => by simp [c] at hnil
  (try simp only [List.nil_append, Nat.zero_add] at hown)
  refine ⟨v', rfl, fresh_of_row hown hne, ?_⟩
  exact ((Below.refl _ _).alloc (Nat.le_refl _) _).grown hgrow (by simp) (fun k hk => by simp [Value.ownBlock] at hk; omega)
theorem clone_any (v : Value) (xs : List Int) (w : World) (hv : Ints w v xs) (h0 : xs ≠ []) (hn : xs.length ≤ 1048576) :
    Calls Try.prog 108 #[v] w fun e w' => ∃ u, e = .returned u ∧ FreshI w.heap.size w' u xs ∧ Below w.heap.size w w' := by
  obtain ⟨a, cap, rfl, _, _, _, hx⟩ := hv
  rcases hx with hx | ⟨b, off, rfl, hlt, hcell⟩
  · exact absurd hx h0
  obtain ⟨i0, hi, hz0, hz1, hz2⟩ := info_parts info_int
  have HC := Lib.hid hcell
  clear hcell
  have hnl := fun (W : World) => Lib.run_eql_slice_nil (P := Try.prog) (w := W) 23
  go_enter Try.func108, Try.ntmps108
  go_wp2_with (at_builtin; refine wpList_append_own _ rfl _ _ 23 rfl w.heap.size 2 i0 (.int .i64 0) 1 8 Try.underlying23 hi hz0 hz1 hz2 rfl (by decide) _ _ _ rfl (World.ownsRow_made w #[] 0 (Nat.le_refl _) (Nat.zero_le _) rfl) ⟨b, off, none⟩ xs.length cap (xs.map (Value.int .i64)) rfl ?c0 ?c1 ?c2 ?c3 ?c4 ?c5 ?_)
  case c0 => simp
  case c1 =>
    intro j u hj
    have h2 : ∀ i, i < xs.length → (w.alloc (.cells #[] 2)).cell? ⟨b, off + i, none⟩ = some (.int .i64 (xs.getD i 0)) := fun i hi => (World.cell?_alloc_lt w _ ⟨b, off + i, none⟩ hlt).trans (HC.out i hi)
    exact news_at (w := w.alloc (.cells #[] 2)) h2 j u hj
  case c2 => intro u hu; simp at hu; obtain ⟨x, _, rfl⟩ := hu; rfl
  case c3 => unfold maxLen; omega
  case c4 => omega
  case c5 => simp
  intro v' w1 hown hgrow hnil
  go_wp2_with fail
  go_ret
  have hne : v' ≠ .slice none 0 0 := fun c => by simp [c] at hnil
  (try simp only [List.nil_append, Nat.zero_add] at hown)
  refine ⟨v', rfl, fresh_of_row hown hne, ?_⟩
  exact ((Below.refl _ _).alloc (Nat.le_refl _) _).grown hgrow (by simp) (fun k hk => by simp [Value.ownBlock] at hk; omega)

/-- A call's own rows, all in blocks from B on. -/
structure FreshR (B : Nat) (w : World) (v : Value) (xss : List (List Int)) (us : List Value) : Prop where
  own : OwnR w v xss us
  top : ∃ g cap, v = .slice (some ⟨g, 0, none⟩) xss.length cap ∧ B ≤ g ∧ g < w.heap.size
  rows : ∀ i b, i < xss.length → (us.getD i undef).ownBlock = some b → B ≤ b ∧ b < w.heap.size

theorem FreshI.below {B : Nat} {w w' : World} {v : Value} {xs : List Int} (h : FreshI B w v xs) (hb : Below w.heap.size w w') : FreshI B w' v xs := by
  obtain ⟨g, cap, hv, hB, hlt, ho⟩ := h
  exact ⟨g, cap, hv, hB, Nat.lt_of_lt_of_le hlt hb.size, ho.below hb (fun b hb' => by rw [hv] at hb'; simp [Value.ownBlock] at hb'; omega)⟩

/-- The first k rows are copied. -/
structure CpR (w wr : World) (xss : List (List Int)) (k : Nat) (us : List Value) : Prop where
  len : us.length = k
  below : Below w.heap.size w wr
  lt : w.heap.size < wr.heap.size
  top : wr.rowIs w.heap.size 23 xss.length (fun j => if j < k then us.getD j undef else .slice none 0 0)
  rows : ∀ j, j < k → FreshI (w.heap.size + 1) wr (us.getD j undef) (xss.getD j [])
  apart : ∀ i j b, i < k → j < k → (us.getD i undef).ownBlock = some b → (us.getD j undef).ownBlock = some b → i = j

theorem cpR_start (w : World) (xss : List (List Int)) : CpR w (w.alloc (.cells (madeCells #[.slice none 0 0] xss.length) 23)) xss 0 [] :=
  ⟨rfl, (Below.refl _ _).alloc (Nat.le_refl _) _, by simp, (World.rowIs_made w _ _ _).congr (fun i _ => by simp), fun j hj => absurd hj (Nat.not_lt_zero _), fun i j b hi => absurd hi (Nat.not_lt_zero _)⟩
theorem getD_snoc_lt (us : List Value) (u : Value) (j : Nat) (h : j < us.length) : (us ++ [u]).getD j undef = us.getD j undef := by simp [h, List.getElem?_append_left h]
theorem getD_snoc_eq (us : List Value) (u : Value) : (us ++ [u]).getD us.length undef = u := by simp
theorem cpR_step {w wr w2 : World} {xss : List (List Int)} {k : Nat} {us : List Value} {u : Value} (h : CpR w wr xss k us) (hu : FreshI wr.heap.size w2 u (xss.getD k [])) (hb : Below wr.heap.size wr w2) :
    CpR w (w2.setCell ⟨w.heap.size, k, none⟩ u) xss (k + 1) (us ++ [u]) := by
  have hl := h.len
  have hlt := h.lt
  have hB : Below w.heap.size w w2 := h.below.trans (hb.mono h.below.size)
  have htop := h.top.of_block (hb.block _ hlt)
  have hnew : ∀ v xs (B : Nat), FreshI B w2 v xs → w.heap.size + 1 ≤ B → FreshI (w.heap.size + 1) (w2.setCell ⟨w.heap.size, k, none⟩ u) v xs := by
    intro v xs B hf hBB
    obtain ⟨g, cap, hv, hg, hlt2, ho⟩ := hf
    refine ⟨g, cap, hv, by omega, by simpa using hlt2, ho.tch ((Tch.refl [w.heap.size] w2).setCell (by simp) u) (fun b hb' => ?_)⟩
    rw [hv] at hb'
    simp [Value.ownBlock] at hb'
    simp
    omega
  refine ⟨by simp [hl], hB.setCell (Nat.le_refl _) _, by simp; have := hb.size; omega, (htop.set k _).congr (fun j _ => ?_), fun j hj => ?_, fun i j b hi hj h1 h2 => ?_⟩
  · by_cases e : j = k
    · subst e
      rw [if_pos rfl, if_pos (by omega), ← hl, getD_snoc_eq]
    · rw [if_neg e]
      by_cases hjk : j < k
      · rw [if_pos hjk, if_pos (by omega), getD_snoc_lt _ _ _ (by omega)]
      · rw [if_neg hjk, if_neg (by omega)]
  · by_cases e : j = k
    · subst e
      rw [show (us ++ [u]).getD j undef = u from by rw [← hl, getD_snoc_eq]]
      exact hnew _ _ _ hu (by omega)
    · rw [getD_snoc_lt _ _ _ (by omega)]
      exact hnew _ _ (w.heap.size + 1) ((h.rows j (by omega)).below hb) (Nat.le_refl _)
  · obtain ⟨g, cap, hv, hg, _, _⟩ := hu
    have hub : ∀ i, i < k → ∀ b, (us.getD i undef).ownBlock = some b → b < wr.heap.size := fun i hi b hb' => by
      obtain ⟨g', cap', hv', _, hlt', _⟩ := h.rows i hi
      rw [hv'] at hb'
      simp [Value.ownBlock] at hb'
      omega
    have huk : u.ownBlock = some g := by rw [hv]; rfl
    by_cases ei : i = k
    · by_cases ej : j = k
      · omega
      · rw [getD_snoc_lt _ _ _ (by omega)] at h2
        rw [show (us ++ [u]).getD i undef = u from by rw [ei, ← hl, getD_snoc_eq], huk] at h1
        have := hub j (by omega) b h2
        simp at h1
        omega
    · rw [getD_snoc_lt _ _ _ (by omega)] at h1
      by_cases ej : j = k
      · rw [show (us ++ [u]).getD j undef = u from by rw [ej, ← hl, getD_snoc_eq], huk] at h2
        have := hub i (by omega) b h1
        simp at h2
        omega
      · rw [getD_snoc_lt _ _ _ (by omega)] at h2
        exact h.apart i j b (by omega) (by omega) h1 h2
theorem cpR_end {w wr : World} {xss : List (List Int)} {us : List Value} (h : CpR w wr xss xss.length us) (hm : xss.length ≤ maxLen) : FreshR w.heap.size wr (.slice (some ⟨w.heap.size, 0, none⟩) xss.length xss.length) xss us := by
  have hl := h.len
  have hbk : ∀ i b, i < xss.length → (us.getD i undef).ownBlock = some b → w.heap.size + 1 ≤ b ∧ b < wr.heap.size := fun i b hi hb' => by
    obtain ⟨g', cap', hv', h1, hlt', _⟩ := h.rows i hi
    rw [hv'] at hb'
    simp [Value.ownBlock] at hb'
    omega
  refine ⟨⟨hl, ?_, fun i hi => ?_, h.apart, fun i b hi hv hb' => ?_⟩, ⟨_, _, rfl, Nat.le_refl _, h.lt⟩, fun i b hi hb' => ?_⟩
  · obtain ⟨c, hb, hn, hc⟩ := h.top
    refine ⟨by simp [hl], .inr ⟨w.heap.size, xss.length, c, rfl, Nat.zero_le _, hb, Nat.le_refl _, hm, by simpa using hn, ?_⟩⟩
    rw [Nat.mul_one, List.take_of_length_le (by simp [hn])]
    apply List.ext_getElem?
    intro i
    by_cases hi : i < xss.length
    · have := hc i hi
      rw [Array.getElem?_toList, this]
      simp [hl, hi]
    · rw [List.getElem?_eq_none (by simp [hn]; omega), List.getElem?_eq_none (by omega)]
  · obtain ⟨_, _, _, _, _, ho⟩ := h.rows i hi
    exact ho
  · have := hbk i b hi hb'
    simp [Value.ownBlock] at hv
    omega
  · have := hbk i b hi hb'
    omega

theorem copyRows_any (v : Value) (xss : List (List Int)) (w : World) (hv : PM.Rows w v xss) (h0 : xss ≠ []) (hne : ∀ i, i < xss.length → xss.getD i [] ≠ []) (hn : tot xss ≤ 1048576) :
    Calls Try.prog 116 #[v] w fun e w' => ∃ us, e = .returned (.slice (some ⟨w.heap.size, 0, none⟩) xss.length xss.length) ∧ FreshR w.heap.size w' (.slice (some ⟨w.heap.size, 0, none⟩) xss.length xss.length) xss us ∧ Below w.heap.size w w' := by
  have hnl : xss.length ≤ 1048576 := by unfold tot at hn; omega
  have HN := Lib.hid hn
  have HE := Lib.hid hne
  clear hn hne
  obtain ⟨a, cap, rfl, _, _, hx⟩ := hv
  rcases hx with hx | ⟨b, off, rfl, hlt, hcell⟩
  · exact absurd hx h0
  have HC := Lib.hid hcell
  clear hcell h0
  have hmk := run_make_row' (P := Try.prog) 22 23 (.slice none 0 0) 24 Try.underlying22 info_ints rfl .i64 .i64 xss.length (by omega) (by omega)
  go_enter Try.func116, Try.ntmps116
  go_wp2
  go_loopw [4, 5, 11] (fun _ _ i wr => ∃ (k : Nat) (us : List Value), k ≤ xss.length ∧ i = .int .i64 k ∧ CpR w wr xss k us) (fun _ _ i _ => xss.length - (intOf i).toNat)
  case atStart => exact ⟨0, [], Nat.zero_le _, rfl, cpR_start w xss⟩
  case round =>
    obtain ⟨k, us, hk, rfl, hcp⟩ := hrel
    by_cases hlt2 : k < xss.length
    · obtain ⟨u, hu0, hI0⟩ := HC.out k hlt2
      have hu := (hcp.below.cell (p := ⟨b, off + k, none⟩) hlt).trans hu0
      have hI := hI0.below (w' := wr) hcp.below
      have hv := hcp.top.cell hlt2
      have hf := hcp.top.frozen k
      have hlt0 := hcp.lt
      have hnek := HE.out k hlt2
      have hrl : (xss.getD k []).length ≤ 1048576 := by
        have h1 := pre_succ xss k hlt2
        have h2 := pre_le xss (k + 1)
        have h3 := HN.out
        unfold tot at h3
        omega
      have hst := fun (w2 : World) (u2 : Value) h1 h2 => cpR_step (w2 := w2) (u := u2) hcp h1 h2
      have HST := Lib.hid hst
      clear hst hcp hI0 hu0
      generalize xss.getD k [] = r at *
      generalize (if k < k then us.getD k undef else Value.slice none 0 0) = pv at *
      obtain ⟨ra, rc, hsh, _⟩ := id hI
      rw [hsh] at hu
      have HI := Lib.hid hI
      have HSH := Lib.hid hsh
      clear hI hsh
      go_wp2_with fail
      rw [← HSH.out]
      refine (clone_any _ _ _ HI.out hnek hrl).mono ?_
      rintro e w2 ⟨u2, rfl, hfu, hb2⟩
      have hv2 := (hb2.cell (p := ⟨w.heap.size, k, none⟩) hlt0).trans hv
      have hf2 := (hb2.frozen (p := ⟨w.heap.size, k, none⟩) hlt0).trans hf
      have hst := HST.out w2 u2 hfu hb2
      obtain ⟨g2, cap2, hsh2, _⟩ := hfu
      rw [hsh2] at hst ⊢
      clear hsh2 hv hf hu hb2 hrl
      go_wp2_with fail
      go_roundw
      case rel => exact ⟨k + 1, _, by omega, by go_num, hst⟩
      case measure => simp [intOf]; omega
    · obtain rfl : k = xss.length := by omega
      have hend := cpR_end hcp (by unfold maxLen; omega)
      have HEND := Lib.hid hend
      clear hend
      go_wp2
      go_ret
      exact ⟨us, rfl, HEND.out, hcp.below⟩

/-- A problem in memory of the call's own, all in blocks from B on. -/
structure FreshP (B : Nat) (w : World) (m q : Value) (M : List (List Int)) (Q : List Int) (us : List Value) : Prop where
  rows : FreshR B w m M us
  right : FreshI B w q Q
  apart : ∀ b, q.ownBlock = some b → m.ownBlock ≠ some b ∧ ∀ i, i < M.length → (us.getD i undef).ownBlock ≠ some b

theorem FreshR.below {B : Nat} {w w' : World} {v : Value} {xss : List (List Int)} {us : List Value} (h : FreshR B w v xss us) (hb : Below w.heap.size w w') : FreshR B w' v xss us := by
  obtain ⟨⟨h1, h2, h3, h4, h5⟩, ⟨g, cap, hv, hB, hlt⟩, h6⟩ := h
  refine ⟨⟨h1, ?_, fun i hi => (h3 i hi).below hb (fun b hb' => (h6 i b hi hb').2), h4, h5⟩, ⟨g, cap, hv, hB, Nat.lt_of_lt_of_le hlt hb.size⟩, fun i b hi hb' => ⟨(h6 i b hi hb').1, Nat.lt_of_lt_of_le (h6 i b hi hb').2 hb.size⟩⟩
  refine ⟨h2.1, ?_⟩
  rcases h2.2 with h | ⟨g', cap', cur, hv', hb0, hg, r⟩
  · exact .inl h
  · rw [hv] at hv'
    simp only [Value.slice.injEq, Option.some.injEq, Addr.mk.injEq, and_true, true_and] at hv'
    obtain ⟨rfl, rfl⟩ := hv'
    exact .inr ⟨g, cap, cur, hv, hb0, by rw [hb.block g hlt]; exact hg, r⟩
theorem FreshI.mono {B C : Nat} {w : World} {v : Value} {xs : List Int} (h : FreshI B w v xs) (hC : C ≤ B) : FreshI C w v xs := by
  obtain ⟨g, cap, hv, hB, r⟩ := h
  exact ⟨g, cap, hv, by omega, r⟩
theorem FreshR.mono {B C : Nat} {w : World} {v : Value} {xss : List (List Int)} {us : List Value} (h : FreshR B w v xss us) (hC : C ≤ B) : FreshR C w v xss us := by
  obtain ⟨h1, ⟨g, cap, hv, hB, r⟩, h6⟩ := h
  exact ⟨h1, ⟨g, cap, hv, by omega, r⟩, fun i b hi hb' => ⟨by have := (h6 i b hi hb').1; omega, (h6 i b hi hb').2⟩⟩
theorem FreshP.below {B : Nat} {w w' : World} {m q : Value} {M : List (List Int)} {Q : List Int} {us : List Value} (h : FreshP B w m q M Q us) (hb : Below w.heap.size w w') : FreshP B w' m q M Q us :=
  ⟨h.rows.below hb, h.right.below hb, h.apart⟩
/-- Rows first, then the right side. -/
theorem freshP_of {B : Nat} {w1 w2 : World} {m q : Value} {M : List (List Int)} {Q : List Int} {us : List Value} (h1 : FreshR B w1 m M us) (h2 : FreshI w1.heap.size w2 q Q) (hB : B ≤ w1.heap.size) (hb : Below w1.heap.size w1 w2) : FreshP B w2 m q M Q us := by
  refine ⟨h1.below hb, h2.mono hB, fun b hq => ?_⟩
  obtain ⟨g, cap, hv, hg, _, _⟩ := h2
  rw [hv] at hq
  simp [Value.ownBlock] at hq
  obtain ⟨g2, cap2, hv2, _, hlt2⟩ := h1.top
  refine ⟨fun c => ?_, fun i hi c => ?_⟩
  · rw [hv2] at c; simp [Value.ownBlock] at c; omega
  · have := (h1.rows i b hi c).2; omega

theorem FreshI.tch {B : Nat} {bs : List Nat} {w w' : World} {v : Value} {xs : List Int} (h : FreshI B w v xs) (ht : Tch bs w w') (hd : ∀ b, b ∈ bs → b < B) : FreshI B w' v xs := by
  obtain ⟨g, cap, hv, hB, hlt, ho⟩ := h
  refine ⟨g, cap, hv, hB, by rw [ht.size]; exact hlt, ho.tch ht (fun b hb c => ?_)⟩
  rw [hv] at hb
  simp [Value.ownBlock] at hb
  have := hd b c
  omega
theorem FreshR.tch {B : Nat} {bs : List Nat} {w w' : World} {v : Value} {xss : List (List Int)} {us : List Value} (h : FreshR B w v xss us) (ht : Tch bs w w') (hd : ∀ b, b ∈ bs → b < B) : FreshR B w' v xss us := by
  obtain ⟨⟨h1, h2, h3, h4, h5⟩, ⟨g, cap, hv, hB, hlt⟩, h6⟩ := h
  refine ⟨⟨h1, ?_, fun i hi => (h3 i hi).tch ht (fun b hb' c => by have := (h6 i b hi hb').1; have := hd b c; omega), h4, h5⟩, ⟨g, cap, hv, hB, by rw [ht.size]; exact hlt⟩, fun i b hi hb' => ⟨(h6 i b hi hb').1, by rw [ht.size]; exact (h6 i b hi hb').2⟩⟩
  refine ⟨h2.1, ?_⟩
  rcases h2.2 with h | ⟨g', cap', cur, hv', hb0, hg, r⟩
  · exact .inl h
  · rw [hv] at hv'
    simp only [Value.slice.injEq, Option.some.injEq, Addr.mk.injEq, and_true, true_and] at hv'
    obtain ⟨rfl, rfl⟩ := hv'
    exact .inr ⟨g, cap, cur, hv, hb0, by rw [ht.block g (fun c => by have := hd g c; omega)]; exact hg, r⟩
theorem FreshP.tch {B : Nat} {bs : List Nat} {w w' : World} {m q : Value} {M : List (List Int)} {Q : List Int} {us : List Value} (h : FreshP B w m q M Q us) (ht : Tch bs w w') (hd : ∀ b, b ∈ bs → b < B) : FreshP B w' m q M Q us :=
  ⟨h.rows.tch ht hd, h.right.tch ht hd, h.apart⟩
theorem FreshP.mono {B C : Nat} {w : World} {m q : Value} {M : List (List Int)} {Q : List Int} {us : List Value} (h : FreshP B w m q M Q us) (hC : C ≤ B) : FreshP C w m q M Q us :=
  ⟨h.rows.mono hC, h.right.mono hC, h.apart⟩

/-- What a function leaves that returns a problem of its own. -/
def GivesP (w : World) (M : List (List Int)) (Q : List Int) (e : Ending) (w' : World) : Prop :=
  ∃ m q us, e = .returned (.agg #[m, q]) ∧ FreshP w.heap.size w' m q M Q us ∧ Below w.heap.size w w'

theorem copyProblem_any (m q : Value) (M : List (List Int)) (Q : List Int) (w : World) (h1 : PM.Rows w m M) (h2 : Ints w q Q) (h0 : M ≠ []) (hne : ∀ i, i < M.length → M.getD i [] ≠ []) (hq0 : Q ≠ []) (hn : tot M ≤ 1048576) (hn2 : Q.length ≤ 1048576) :
    Calls Try.prog 70 #[.agg #[m, q]] w (GivesP w M Q) := by
  have g1 := fun (w' : World) (h : Below w.heap.size w w') => h1.below h
  have g2 := fun (w' : World) (h : Below w.heap.size w w') => h2.below h
  obtain ⟨a1, c1, rfl, _⟩ := h1
  obtain ⟨a2, c2, rfl, _⟩ := h2
  have HN := Lib.hid hn
  have HE := Lib.hid hne
  have H0 := Lib.hid h0
  have HQ := Lib.hid hq0
  obtain ⟨W0, hW0⟩ : ∃ W0, W0 = ((w.alloc (.cells #[.slice a1 M.length c1, .slice a2 Q.length c2] 27)).alloc (.cells #[.slice none 0 0, .slice none 0 0] 27)) := ⟨_, rfl⟩
  have hz0 : w.heap.size + 2 = W0.heap.size := by rw [hW0]; simp
  have hb0 : Below w.heap.size w W0 := by rw [hW0]; (repeat' (first | (with_reducible exact Below.refl _ _) | (with_reducible assumption) | (with_reducible refine Below.alloc ?_ ?_ _) | (with_reducible refine Below.drew ?_) | (with_reducible refine below_drewN ?_ _) | (with_reducible refine Below.setCell ?_ ?_ _) | (with_reducible refine Below.trans ?_ (Below.mono (by with_reducible assumption) ?_)) | (with_reducible exact Below.size (by with_reducible assumption)) | go_size))
  have r1 : ∀ w', Below (w.heap.size + 1) W0 w' → w'.cell? ⟨w.heap.size, 0, none⟩ = some (.slice a1 M.length c1) := fun w' h => (h.cell (p := ⟨w.heap.size, 0, none⟩) (by show w.heap.size < _; omega)).trans (by rw [hW0]; simp)
  have r2 : ∀ w', Below (w.heap.size + 1) W0 w' → w'.cell? ⟨w.heap.size, 1, none⟩ = some (.slice a2 Q.length c2) := fun w' h => (h.cell (p := ⟨w.heap.size, 1, none⟩) (by show w.heap.size < _; omega)).trans (by rw [hW0]; simp)
  have r3 : ∀ w', Below W0.heap.size W0 w' → w'.cell? ⟨w.heap.size + 1, 0, none⟩ = some (.slice none 0 0) := fun w' h => (h.cell (p := ⟨w.heap.size + 1, 0, none⟩) (by show w.heap.size + 1 < _; omega)).trans (by rw [hW0]; simp)
  have r4 : ∀ w', Below W0.heap.size W0 w' → w'.cell? ⟨w.heap.size + 1, 1, none⟩ = some (.slice none 0 0) := fun w' h => (h.cell (p := ⟨w.heap.size + 1, 1, none⟩) (by show w.heap.size + 1 < _; omega)).trans (by rw [hW0]; simp)
  have r5 : ∀ w' o, Below W0.heap.size W0 w' → w'.frozen? ⟨w.heap.size + 1, o, none⟩ = false := fun w' o h => (h.frozen (p := ⟨w.heap.size + 1, o, none⟩) (by show w.heap.size + 1 < _; omega)).trans (by rw [hW0]; simp)
  have hz1 : w.heap.size + 1 ≤ W0.heap.size := by omega
  have HW := Lib.hid hW0
  have HZ := Lib.hid hz0
  clear hW0 hz0 hn hne h0 hq0
  go_enter Try.func70, Try.ntmps70
  go_wp2_with fail
  rw [← HW.out]
  go_region_held3 (fun w' => Below (w.heap.size + 1) W0 w') ((repeat' (first | (with_reducible exact Below.refl _ _) | (with_reducible assumption) | (with_reducible refine Below.alloc ?_ ?_ _) | (with_reducible refine Below.drew ?_) | (with_reducible refine below_drewN ?_ _) | (with_reducible refine Below.setCell ?_ ?_ _) | (with_reducible refine Below.trans ?_ (Below.mono (by with_reducible assumption) ?_)) | (with_reducible exact Below.size (by with_reducible assumption)) | go_size)))
    (first | (go_at_call 116; refine (copyRows_any _ M _ (g1 _ (by (repeat' (first | (with_reducible exact Below.refl _ _) | (with_reducible assumption) | (with_reducible refine Below.alloc ?_ ?_ _) | (with_reducible refine Below.drew ?_) | (with_reducible refine below_drewN ?_ _) | (with_reducible refine Below.setCell ?_ ?_ _) | (with_reducible refine Below.trans ?_ (Below.mono (by with_reducible assumption) ?_)) | (with_reducible exact Below.size (by with_reducible assumption)) | go_size)))) H0.out HE.out HN.out).mono ?_; rintro e w1 ⟨us, rfl, hf1, hb1⟩; have hk1 : Below W0.heap.size W0 w1 := (by (repeat' (first | (with_reducible exact Below.refl _ _) | (with_reducible assumption) | (with_reducible refine Below.alloc ?_ ?_ _) | (with_reducible refine Below.drew ?_) | (with_reducible refine below_drewN ?_ _) | (with_reducible refine Below.setCell ?_ ?_ _) | (with_reducible refine Below.trans ?_ (Below.mono (by with_reducible assumption) ?_)) | (with_reducible exact Below.size (by with_reducible assumption)) | go_size)))) | (go_at_call 108; refine (clone_any _ Q _ (g2 _ (by (repeat' (first | (with_reducible exact Below.refl _ _) | (with_reducible assumption) | (with_reducible refine Below.alloc ?_ ?_ _) | (with_reducible refine Below.drew ?_) | (with_reducible refine below_drewN ?_ _) | (with_reducible refine Below.setCell ?_ ?_ _) | (with_reducible refine Below.trans ?_ (Below.mono (by with_reducible assumption) ?_)) | (with_reducible exact Below.size (by with_reducible assumption)) | go_size)))) HQ.out hn2).mono ?_; rintro e w2 ⟨u2, rfl, ⟨gq, cq, rfl, hq1, hq2, hq3⟩, hb2⟩; have hf2 : FreshI w1.heap.size w2 (.slice (some ⟨gq, 0, none⟩) Q.length cq) Q := ⟨gq, cq, rfl, hq1, hq2, hq3⟩; have hk2 : Below W0.heap.size W0 w2 := (by (repeat' (first | (with_reducible exact Below.refl _ _) | (with_reducible assumption) | (with_reducible refine Below.alloc ?_ ?_ _) | (with_reducible refine Below.drew ?_) | (with_reducible refine below_drewN ?_ _) | (with_reducible refine Below.setCell ?_ ?_ _) | (with_reducible refine Below.trans ?_ (Below.mono (by with_reducible assumption) ?_)) | (with_reducible exact Below.size (by with_reducible assumption)) | go_size)))))
  go_wp2_with fail
  refine bodyPost_ret (v := .agg #[.slice (some ⟨W0.heap.size, 0, none⟩) M.length M.length, .slice (some ⟨gq, 0, none⟩) Q.length cq]) (by simp [*, results, Try.results70, go_sem]) rfl ?_
  have hfp := freshP_of hf1 hf2 (hb1.size) hb2
  have hW0 : w.heap.size + 1 < W0.heap.size := by have := HZ.out; omega
  refine ⟨_, _, us, rfl, (hfp.tch (bs := [w.heap.size + 1]) (((Tch.refl _ w2).setCell (by simp) _).setCell (by simp) _) (fun b hb => ?_)).mono (by simp; omega), ?_⟩
  · simp at hb
    simp
    omega
  · exact (((hb0.trans (hk2.mono hb0.size)).setCell (by simp) _).setCell (by simp) _)
end Go.Proofs.Ytgncaploccbfnaa.PW
namespace Go.Proofs.Ytgncaploccbfnaa.PW
open Go.RowKit Go.Proofs.Ytgncaploccbfnaa
open Go.Proofs.Ytgncaploccbfnaa.PM

theorem own_nonempty {w : World} {v : Value} {xs : List Int} (h : OwnI w v xs) (h0 : xs ≠ []) : ∃ g cap, v = .slice (some ⟨g, 0, none⟩) xs.length cap := by
  rcases h.2 with ⟨_, hn⟩ | ⟨g, cap, cur, hv, _⟩
  · exact absurd (List.length_eq_zero_iff.1 hn) h0
  · exact ⟨g, cap, hv⟩
theorem own_cell {w : World} {g cap : Nat} {xs : List Int} (h : OwnI w (.slice (some ⟨g, 0, none⟩) xs.length cap) xs) {j : Nat} (hj : j < xs.length) : w.cell? ⟨g, j, none⟩ = some (.int .i64 (xs.getD j 0)) := by
  rw [World.ownsRow.cellAt h j (by omega)]
  simp [hj]
theorem own_frozen {w : World} {g cap : Nat} {xs : List Int} (h : OwnI w (.slice (some ⟨g, 0, none⟩) xs.length cap) xs) (j : Nat) : w.frozen? ⟨g, j, none⟩ = false := World.ownsRow.frozenAt h j
theorem own_set {w : World} {g cap : Nat} {xs : List Int} (h : OwnI w (.slice (some ⟨g, 0, none⟩) xs.length cap) xs) (j : Nat) (x : Int) :
    OwnI (w.setCell ⟨g, j, none⟩ (.int .i64 x)) (.slice (some ⟨g, 0, none⟩) xs.length cap) (xs.set j x) := by
  have hs := (World.ownsRow.stored h j (.int .i64 x)).1
  rw [← List.map_set] at hs
  show World.ownsRow _ _ _ _ _ _ _
  rw [List.length_set]
  exact hs
theorem top_cell {w : World} {g cap : Nat} {xss : List (List Int)} {us : List Value} (h : OwnR w (.slice (some ⟨g, 0, none⟩) xss.length cap) xss us) {j : Nat} (hj : j < xss.length) : w.cell? ⟨g, j, none⟩ = some (us.getD j undef) := by
  have hl := h.len
  rw [World.ownsRow.cellAt h.top j (by omega)]
  simp [hl, hj]

/-- A store into the right side. -/
theorem FreshP.setRight {B : Nat} {w : World} {m : Value} {g cap : Nat} {M : List (List Int)} {Q : List Int} {us : List Value} (h : FreshP B w m (.slice (some ⟨g, 0, none⟩) Q.length cap) M Q us) (j : Nat) (x : Int) :
    FreshP B (w.setCell ⟨g, j, none⟩ (.int .i64 x)) m (.slice (some ⟨g, 0, none⟩) Q.length cap) M (Q.set j x) us := by
  have ht : Tch [g] w (w.setCell ⟨g, j, none⟩ (.int .i64 x)) := (Tch.refl _ _).setCell (by simp) _
  obtain ⟨⟨⟨h1, h2, h3, h4, h5⟩, ⟨gm, cm, hv, hB, hlt⟩, h6⟩, ⟨g', cap', hq, hBq, hltq, ho⟩, ha⟩ := h
  have hap := ha g rfl
  refine ⟨⟨⟨h1, ?_, fun i hi => (h3 i hi).tch ht (fun b hb c => ?_), h4, h5⟩, ⟨gm, cm, hv, hB, by simpa using hlt⟩, fun i b hi hb => ⟨(h6 i b hi hb).1, by simpa using (h6 i b hi hb).2⟩⟩, ⟨g, cap, by simp, ?_, ?_, own_set ho j x⟩, ha⟩
  · refine ⟨h2.1, ?_⟩
    rcases h2.2 with h | ⟨g2, cap2, cur, hv', hb0, hg, r⟩
    · exact .inl h
    · refine .inr ⟨g2, cap2, cur, hv', hb0, ?_, r⟩
      rw [ht.block g2 (fun c => hap.1 (by rw [hv']; simp at c; simp [Value.ownBlock, c]))]
      exact hg
  · simp at c; subst c; exact hap.2 i hi hb
  · simp only [Value.slice.injEq, Option.some.injEq, Addr.mk.injEq, and_true, true_and] at hq; omega
  · simp only [Value.slice.injEq, Option.some.injEq, Addr.mk.injEq, and_true, true_and] at hq; simp; omega

/-- A store into a row. -/
theorem FreshP.setRow {B : Nat} {w : World} {m q : Value} {g cap i : Nat} {M : List (List Int)} {Q : List Int} {us : List Value} (h : FreshP B w m q M Q us) (hi : i < M.length)
    (hu : us.getD i undef = .slice (some ⟨g, 0, none⟩) (M.getD i []).length cap) (j : Nat) (x : Int) :
    FreshP B (w.setCell ⟨g, j, none⟩ (.int .i64 x)) m q (M.set i ((M.getD i []).set j x)) Q us := by
  have ht : Tch [g] w (w.setCell ⟨g, j, none⟩ (.int .i64 x)) := (Tch.refl _ _).setCell (by simp) _
  have hub : (us.getD i undef).ownBlock = some g := by rw [hu]; rfl
  obtain ⟨⟨⟨h1, h2, h3, h4, h5⟩, ⟨gm, cm, hv, hB, hlt⟩, h6⟩, ⟨g', cap', hq, hBq, hltq, ho⟩, ha⟩ := h
  have hlen : (M.set i ((M.getD i []).set j x)).length = M.length := by simp
  refine ⟨⟨⟨by rw [hlen]; exact h1, ?_, fun k hk => ?_, fun a b c ha hb => h4 a b c (by rw [hlen] at ha; exact ha) (by rw [hlen] at hb; exact hb), fun k b hk => h5 k b (by rw [hlen] at hk; exact hk)⟩,
    ⟨gm, cm, by rw [hlen]; exact hv, hB, by simpa using hlt⟩, fun k b hk hb => ⟨(h6 k b (by rw [hlen] at hk; exact hk) hb).1, by simpa using (h6 k b (by rw [hlen] at hk; exact hk) hb).2⟩⟩,
    ⟨g', cap', hq, hBq, by simpa using hltq, ho.tch ht (fun b hb c => ?_)⟩, fun b hb => ⟨(ha b hb).1, fun k hk => (ha b hb).2 k (by rw [hlen] at hk; exact hk)⟩⟩
  · rw [hlen]
    refine ⟨h2.1, ?_⟩
    rcases h2.2 with h | ⟨g2, cap2, cur, hv', hb0, hg, r⟩
    · exact .inl h
    · refine .inr ⟨g2, cap2, cur, hv', hb0, ?_, r⟩
      rw [ht.block g2 (fun c => by simp at c; exact h5 i g hi (by rw [hv']; simp [Value.ownBlock, c]) hub)]
      exact hg
  · rw [hlen] at hk
    by_cases e : k = i
    · subst e
      have := h3 k hi
      rw [hu] at this ⊢
      have e2 : (M.set k ((M.getD k []).set j x)).getD k [] = (M.getD k []).set j x := by simp [hi]
      rw [e2]
      exact own_set this j x
    · have e2 : (M.set i ((M.getD i []).set j x)).getD k [] = M.getD k [] := by
        simp only [List.getD_eq_getElem?_getD]
        rw [List.getElem?_set_ne (fun c => e c.symm)]
      rw [e2]
      exact (h3 k hk).tch ht (fun b hb c => by simp at c; subst c; exact e (h4 k i _ hk hi hb hub))
  · simp at c; subst c; exact (ha _ hb).2 i hi hub

/-- A row scaled, and the right side's number. -/
def scM (M : List (List Int)) (i : Nat) (k : Int) : List (List Int) := M.set i ((M.getD i []).map (· * k))
def scQ (Q : List Int) (i : Nat) (k : Int) : List Int := Q.set i (Q.getD i 0 * k)
/-- The first c numbers of a list are scaled. -/
def scPart (xs : List Int) (k : Int) (c : Nat) : List Int := (xs.take c).map (· * k) ++ xs.drop c
theorem scPart_zero (xs : List Int) (k : Int) : scPart xs k 0 = xs := by simp [scPart]
theorem scPart_all (xs : List Int) (k : Int) : scPart xs k xs.length = xs.map (· * k) := by simp [scPart]
theorem scPart_length (xs : List Int) (k : Int) (c : Nat) (h : c ≤ xs.length) : (scPart xs k c).length = xs.length := by simp [scPart]; omega
theorem scPart_getD (xs : List Int) (k : Int) (c : Nat) (h : c < xs.length) : (scPart xs k c).getD c 0 = xs.getD c 0 := by
  have : (List.map (· * k) (List.take c xs)).length = c := by simp; omega
  unfold scPart
  rw [List.getD_eq_getElem?_getD, List.getElem?_append_right (by rw [this]; exact Nat.le_refl _), this, Nat.sub_self]
  simp [h]
theorem scPart_set (xs : List Int) (k : Int) (c : Nat) (h : c < xs.length) : (scPart xs k c).set c (xs.getD c 0 * k) = scPart xs k (c + 1) := by
  have hd : xs.drop c = xs[c] :: xs.drop (c + 1) := List.drop_eq_getElem_cons h
  have hl : (List.map (· * k) (List.take c xs)).length = c := by simp; omega
  unfold scPart
  rw [hd, List.set_append_right _ _ (by omega), hl, Nat.sub_self, List.set_cons_zero, List.take_succ_eq_append_getElem h, List.map_append, List.append_assoc]
  simp [h]
theorem set_set {α : Type} (l : List α) (i : Nat) (a b : α) : (l.set i a).set i b = l.set i b := by simp

/-- A problem in memory of the call's own, or an empty one. -/
structure OwnP (B : Nat) (w : World) (m q : Value) (M : List (List Int)) (Q : List Int) (us : List Value) : Prop where
  rows : OwnR w m M us
  right : OwnI w q Q
  mb : ∀ b, m.ownBlock = some b → B ≤ b ∧ b < w.heap.size
  qb : ∀ b, q.ownBlock = some b → B ≤ b ∧ b < w.heap.size
  ub : ∀ i b, i < M.length → (us.getD i undef).ownBlock = some b → B ≤ b ∧ b < w.heap.size
  apart : ∀ b, q.ownBlock = some b → m.ownBlock ≠ some b ∧ ∀ i, i < M.length → (us.getD i undef).ownBlock ≠ some b
theorem FreshP.ownP {B : Nat} {w : World} {m q : Value} {M : List (List Int)} {Q : List Int} {us : List Value} (h : FreshP B w m q M Q us) : OwnP B w m q M Q us := by
  obtain ⟨g, cap, hv, h1, h2⟩ := h.rows.top
  obtain ⟨g', cap', hq, h3, h4, ho⟩ := h.right
  exact ⟨h.rows.own, ho, fun b hb => by rw [hv] at hb; simp [Value.ownBlock] at hb; omega, fun b hb => by rw [hq] at hb; simp [Value.ownBlock] at hb; omega, h.rows.rows, h.apart⟩
theorem ownP_nil (B : Nat) (w : World) : OwnP B w (.slice none 0 0) (.slice none 0 0) [] [] [] :=
  ⟨⟨rfl, World.ownsRow_nil _ _ _ _, fun i hi => absurd hi (Nat.not_lt_zero _), fun i j b hi => absurd hi (Nat.not_lt_zero _), fun i b hi => absurd hi (Nat.not_lt_zero _)⟩, World.ownsRow_nil _ _ _ _,
    fun b hb => by simp [Value.ownBlock] at hb, fun b hb => by simp [Value.ownBlock] at hb, fun i b hi => absurd hi (Nat.not_lt_zero _), fun b hb => by simp [Value.ownBlock] at hb⟩

/-- What a function leaves that returns a problem and a code. -/
def OutP (w : World) (o : List (List Int) × List Int × Int) (e : Ending) (w' : World) : Prop :=
  ∃ m q us, e = .returned (.tuple #[.agg #[m, q], .int .i64 o.2.2]) ∧ OwnP w.heap.size w' m q o.1 o.2.1 us ∧ Below w.heap.size w w'

def scaleOut (M : List (List Int)) (Q : List Int) (i k : Int) : List (List Int) × List Int × Int :=
  if isPB M Q = false then ([], [], 1)
  else if i < 0 ∨ (M.length : Int) ≤ i ∨ k < 1 ∨ 100 < k then ([], [], 2)
  else if isPB (scM M i.toNat k) (scQ Q i.toNat k) = false then ([], [], 3)
  else (scM M i.toNat k, scQ Q i.toNat k, 0)

theorem isPB_facts {M : List (List Int)} {Q : List Int} (h : isPB M Q = true) : 1 ≤ M.length ∧ M.length ≤ 5 ∧ Q.length = M.length ∧ (∀ j, j < M.length → (M.getD j []).length = M.length ∧ ∀ c, c < M.length → -20 ≤ (M.getD j []).getD c 0 ∧ (M.getD j []).getD c 0 ≤ 20) ∧ ∀ j, j < Q.length → -100 ≤ Q.getD j 0 ∧ Q.getD j 0 ≤ 100 := by
  obtain ⟨hm, hl, hq⟩ := (isPB_iff M Q).1 h
  obtain ⟨⟨h1, h5⟩, hr⟩ := (matB_iff M).1 hm
  refine ⟨h1, h5, hl, fun j hj => ⟨(hr j hj).1, fun c hc => (wit_iff 20 _).1 (hr j hj).2 c (by rw [(hr j hj).1]; exact hc)⟩, (wit_iff 100 Q).1 hq⟩
theorem tot_small {M : List (List Int)} {Q : List Int} (h : isPB M Q = true) : tot M ≤ 1048576 := by
  obtain ⟨h1, h5, _, hr, _⟩ := isPB_facts h
  have : ∀ k, k ≤ M.length → pre M k ≤ 5 * k := by
    intro k
    induction k with
    | zero => intro _; rw [pre_zero]; exact Nat.zero_le _
    | succ k ih =>
      intro hk
      rw [pre_succ M k (by omega), (hr k (by omega)).1]
      have := ih (by omega)
      omega
  have h2 := this M.length (Nat.le_refl _)
  rw [pre_all] at h2
  unfold tot
  omega

/-- While a row is scaled in place: the copy, the variable that holds it, the result's variable. -/
structure Sc (w wr : World) (B N : Nat) (m q : Value) (M : List (List Int)) (Q : List Int) (us : List Value) : Prop where
  fresh : FreshP B wr m q M Q us
  c0 : wr.cell? ⟨N, 0, none⟩ = some m
  c1 : wr.cell? ⟨N, 1, none⟩ = some q
  r0 : wr.cell? ⟨w.heap.size + 1, 0, none⟩ = some (.slice none 0 0)
  r1 : wr.cell? ⟨w.heap.size + 1, 1, none⟩ = some (.slice none 0 0)
  rf : ∀ o, wr.frozen? ⟨w.heap.size + 1, o, none⟩ = false
  lt : w.heap.size + 1 < wr.heap.size
  below : Below w.heap.size w wr

theorem Sc.setRow {w wr : World} {B N : Nat} {m q : Value} {M : List (List Int)} {Q : List Int} {us : List Value} {g cap i : Nat} (h : Sc w wr B N m q M Q us) (hi : i < M.length)
    (hu : us.getD i undef = .slice (some ⟨g, 0, none⟩) (M.getD i []).length cap) (hN : g ≠ N) (hB : w.heap.size + 1 < g) (j : Nat) (x : Int) :
    Sc w (wr.setCell ⟨g, j, none⟩ (.int .i64 x)) B N m q (M.set i ((M.getD i []).set j x)) Q us := by
  have hne : ∀ (b o : Nat), b ≠ g → (wr.setCell ⟨g, j, none⟩ (.int .i64 x)).cell? ⟨b, o, none⟩ = wr.cell? ⟨b, o, none⟩ := fun b o hb => World.cell?_of_block (w := wr) (a := ⟨b, o, none⟩) (Below.heap_setCell _ _ _ _ hb)
  have hnf : ∀ (b o : Nat), b ≠ g → (wr.setCell ⟨g, j, none⟩ (.int .i64 x)).frozen? ⟨b, o, none⟩ = wr.frozen? ⟨b, o, none⟩ := fun b o hb => World.frozen?_of_block (w := wr) (a := ⟨b, o, none⟩) (Below.heap_setCell _ _ _ _ hb)
  exact ⟨h.fresh.setRow hi hu j x, by rw [hne _ _ (fun c => hN c.symm)]; exact h.c0, by rw [hne _ _ (fun c => hN c.symm)]; exact h.c1, by rw [hne _ _ (by omega)]; exact h.r0, by rw [hne _ _ (by omega)]; exact h.r1, fun o => by rw [hnf _ _ (by omega)]; exact h.rf o, by simpa using h.lt, h.below.setCell (by simp; omega) _⟩

theorem Sc.setRight {w wr : World} {B N : Nat} {m : Value} {M : List (List Int)} {Q : List Int} {us : List Value} {g cap : Nat} (h : Sc w wr B N m (.slice (some ⟨g, 0, none⟩) Q.length cap) M Q us)
    (hN : g ≠ N) (hB : w.heap.size + 1 < g) (j : Nat) (x : Int) :
    Sc w (wr.setCell ⟨g, j, none⟩ (.int .i64 x)) B N m (.slice (some ⟨g, 0, none⟩) Q.length cap) M (Q.set j x) us := by
  have hne : ∀ (b o : Nat), b ≠ g → (wr.setCell ⟨g, j, none⟩ (.int .i64 x)).cell? ⟨b, o, none⟩ = wr.cell? ⟨b, o, none⟩ := fun b o hb => World.cell?_of_block (w := wr) (a := ⟨b, o, none⟩) (Below.heap_setCell _ _ _ _ hb)
  have hnf : ∀ (b o : Nat), b ≠ g → (wr.setCell ⟨g, j, none⟩ (.int .i64 x)).frozen? ⟨b, o, none⟩ = wr.frozen? ⟨b, o, none⟩ := fun b o hb => World.frozen?_of_block (w := wr) (a := ⟨b, o, none⟩) (Below.heap_setCell _ _ _ _ hb)
  exact ⟨h.fresh.setRight j x, by rw [hne _ _ (fun c => hN c.symm)]; exact h.c0, by rw [hne _ _ (fun c => hN c.symm)]; exact h.c1, by rw [hne _ _ (by omega)]; exact h.r0, by rw [hne _ _ (by omega)]; exact h.r1, fun o => by rw [hnf _ _ (by omega)]; exact h.rf o, by simpa using h.lt, h.below.setCell (by simp; omega) _⟩

theorem FreshP.reads {B : Nat} {w : World} {m q : Value} {M : List (List Int)} {Q : List Int} {us : List Value} (h : FreshP B w m q M Q us) (hM : ∀ i, i < M.length → ∀ x ∈ M.getD i [], I64 x) (hQ : ∀ x ∈ Q, I64 x) : PM.Rows w m M ∧ Ints w q Q := by
  obtain ⟨_, _, _, _, _, ho⟩ := h.right
  exact ⟨h.rows.own.rows' hM, ho.ints hQ⟩

theorem scale_err1 (m q : Value) (M : List (List Int)) (Q : List Int) (i k : Int) (w : World) (h1 : PM.Rows w m M) (h2 : Ints w q Q) (hp' : isPB M Q = false) :
    Calls Try.prog 18 #[.agg #[m, q], .int .i64 i, .int .i64 k] w (OutP w ([], [], 1)) := by
  have g1 := fun (w' : World) (h : Below w.heap.size w w') => h1.below h
  have g2 := fun (w' : World) (h : Below w.heap.size w w') => h2.below h
  obtain ⟨a1, c1, rfl, _⟩ := h1
  obtain ⟨a2, c2, rfl, _⟩ := h2
  have HP := Lib.hid hp'
  clear hp'
  go_enter Try.func18, Try.ntmps18
  go_wp2_with fail
  refine (implIsProblem_any _ _ M Q _ (g1 _ (by (repeat' (first | (with_reducible exact Below.refl _ _) | (with_reducible assumption) | (with_reducible refine Below.alloc ?_ ?_ _) | (with_reducible refine Below.drew ?_) | (with_reducible refine below_drewN ?_ _) | (with_reducible refine Below.setCell ?_ ?_ _) | (with_reducible refine Below.trans ?_ (Below.mono (by with_reducible assumption) ?_)) | (with_reducible exact Below.size (by with_reducible assumption)) | go_size)))) (g2 _ (by (repeat' (first | (with_reducible exact Below.refl _ _) | (with_reducible assumption) | (with_reducible refine Below.alloc ?_ ?_ _) | (with_reducible refine Below.drew ?_) | (with_reducible refine below_drewN ?_ _) | (with_reducible refine Below.setCell ?_ ?_ _) | (with_reducible refine Below.trans ?_ (Below.mono (by with_reducible assumption) ?_)) | (with_reducible exact Below.size (by with_reducible assumption)) | go_size))))).mono ?_; rw [HP.out]; rintro e w1 ⟨rfl, hb1⟩; obtain ⟨hc_hb1, hf_hb1⟩ := bcell hb1; obtain ⟨hcA_hb1, hfA_hb1⟩ := bcellG (W0 := w) hb1 (by (repeat' (first | (with_reducible exact Below.refl _ _) | (with_reducible assumption) | (with_reducible refine Below.alloc ?_ ?_ _) | (with_reducible refine Below.drew ?_) | (with_reducible refine below_drewN ?_ _) | (with_reducible refine Below.setCell ?_ ?_ _) | (with_reducible refine Below.trans ?_ (Below.mono (by with_reducible assumption) ?_)) | (with_reducible exact Below.size (by with_reducible assumption)) | go_size))); have hz_hb1 := hb1.size; (try simp at hz_hb1); (try simp only [Nat.add_one_le_iff] at hz_hb1); have hz0_hb1 : w.heap.size < w1.heap.size := (by omega); have hz1_hb1 : w.heap.size + 1 < w1.heap.size := (by omega)
  go_wp2_with fail
  refine bodyPost_ret (v := .tuple #[.agg #[.slice none 0 0, .slice none 0 0], .int .i64 1]) (by simp [*, results, Try.results18, go_sem]) rfl ?_
  refine ⟨_, _, [], rfl, ownP_nil _ _, ?_⟩
  (repeat' (first | (with_reducible exact Below.refl _ _) | (with_reducible assumption) | (with_reducible refine Below.alloc ?_ ?_ _) | (with_reducible refine Below.drew ?_) | (with_reducible refine below_drewN ?_ _) | (with_reducible refine Below.setCell ?_ ?_ _) | (with_reducible refine Below.trans ?_ (Below.mono (by with_reducible assumption) ?_)) | (with_reducible exact Below.size (by with_reducible assumption)) | go_size))
theorem scale_err2 (m q : Value) (M : List (List Int)) (Q : List Int) (i k : Int) (w : World) (h1 : PM.Rows w m M) (h2 : Ints w q Q) (hp : isPB M Q = true)
    (hrng : i < 0 ∨ (M.length : Int) ≤ i ∨ k < 1 ∨ 100 < k) :
    Calls Try.prog 18 #[.agg #[m, q], .int .i64 i, .int .i64 k] w (OutP w ([], [], 2)) := by
  have g1 := fun (w' : World) (h : Below w.heap.size w w') => h1.below h
  have g2 := fun (w' : World) (h : Below w.heap.size w w') => h2.below h
  obtain ⟨a1, c1, rfl, _⟩ := h1
  obtain ⟨a2, c2, rfl, _⟩ := h2
  have HP := Lib.hid hp
  clear hp
  have hcase : i < 0 ∨ (0 ≤ i ∧ (M.length : Int) ≤ i) ∨ (0 ≤ i ∧ i < M.length ∧ k < 1) ∨ (0 ≤ i ∧ i < M.length ∧ 1 ≤ k ∧ 100 < k) := by omega
  clear hrng
  obtain ⟨n, hn⟩ : ∃ n, n = M.length := ⟨_, rfl⟩
  rw [← hn] at hcase g1 ⊢
  clear hn
  rcases hcase with hc | ⟨hc1, hc2⟩ | ⟨hc1, hc2, hc3⟩ | ⟨hc1, hc2, hc3, hc4⟩
  all_goals
    go_enter Try.func18, Try.ntmps18
    go_wp2_with fail
    refine (implIsProblem_any _ _ M Q _ (g1 _ (by (repeat' (first | (with_reducible exact Below.refl _ _) | (with_reducible assumption) | (with_reducible refine Below.alloc ?_ ?_ _) | (with_reducible refine Below.drew ?_) | (with_reducible refine below_drewN ?_ _) | (with_reducible refine Below.setCell ?_ ?_ _) | (with_reducible refine Below.trans ?_ (Below.mono (by with_reducible assumption) ?_)) | (with_reducible exact Below.size (by with_reducible assumption)) | go_size)))) (g2 _ (by (repeat' (first | (with_reducible exact Below.refl _ _) | (with_reducible assumption) | (with_reducible refine Below.alloc ?_ ?_ _) | (with_reducible refine Below.drew ?_) | (with_reducible refine below_drewN ?_ _) | (with_reducible refine Below.setCell ?_ ?_ _) | (with_reducible refine Below.trans ?_ (Below.mono (by with_reducible assumption) ?_)) | (with_reducible exact Below.size (by with_reducible assumption)) | go_size))))).mono ?_; rw [HP.out]; rintro e w1 ⟨rfl, hb1⟩; obtain ⟨hc_hb1, hf_hb1⟩ := bcell hb1; obtain ⟨hcA_hb1, hfA_hb1⟩ := bcellG (W0 := w) hb1 (by (repeat' (first | (with_reducible exact Below.refl _ _) | (with_reducible assumption) | (with_reducible refine Below.alloc ?_ ?_ _) | (with_reducible refine Below.drew ?_) | (with_reducible refine below_drewN ?_ _) | (with_reducible refine Below.setCell ?_ ?_ _) | (with_reducible refine Below.trans ?_ (Below.mono (by with_reducible assumption) ?_)) | (with_reducible exact Below.size (by with_reducible assumption)) | go_size))); have hz_hb1 := hb1.size; (try simp at hz_hb1); (try simp only [Nat.add_one_le_iff] at hz_hb1); have hz0_hb1 : w.heap.size < w1.heap.size := (by omega); have hz1_hb1 : w.heap.size + 1 < w1.heap.size := (by omega)
    go_wp2_with fail
    refine bodyPost_ret (v := .tuple #[.agg #[.slice none 0 0, .slice none 0 0], .int .i64 2]) (by simp [*, results, Try.results18, go_sem]) rfl ?_
    refine ⟨_, _, [], rfl, ownP_nil _ _, ?_⟩
    (repeat' (first | (with_reducible exact Below.refl _ _) | (with_reducible assumption) | (with_reducible refine Below.alloc ?_ ?_ _) | (with_reducible refine Below.drew ?_) | (with_reducible refine below_drewN ?_ _) | (with_reducible refine Below.setCell ?_ ?_ _) | (with_reducible refine Below.trans ?_ (Below.mono (by with_reducible assumption) ?_)) | (with_reducible exact Below.size (by with_reducible assumption)) | go_size))
/-- copyProblem's answer with its slices written out. -/
theorem copyProblem_out (m q : Value) (M : List (List Int)) (Q : List Int) (w : World) (h1 : PM.Rows w m M) (h2 : Ints w q Q) (h0 : M ≠ []) (hne : ∀ i, i < M.length → M.getD i [] ≠ []) (hq0 : Q ≠ []) (hn : tot M ≤ 1048576) (hn2 : Q.length ≤ 1048576) :
    Calls Try.prog 70 #[.agg #[m, q]] w fun e w' => ∃ gm cm gq cq us, e = .returned (.agg #[.slice (some ⟨gm, 0, none⟩) M.length cm, .slice (some ⟨gq, 0, none⟩) Q.length cq]) ∧ w.heap.size ≤ gm ∧ gm < w'.heap.size ∧ w.heap.size ≤ gq ∧ gq < w'.heap.size ∧ gm ≠ gq ∧
      FreshP w.heap.size w' (.slice (some ⟨gm, 0, none⟩) M.length cm) (.slice (some ⟨gq, 0, none⟩) Q.length cq) M Q us ∧ Below w.heap.size w w' := by
  refine (copyProblem_any m q M Q w h1 h2 h0 hne hq0 hn hn2).mono ?_
  rintro e w' ⟨m', q', us, rfl, hfp, hb⟩
  obtain ⟨gm, cm, rfl, hm1, hm2⟩ := hfp.rows.top
  obtain ⟨gq, cq, rfl, hq1, hq2, _⟩ := hfp.right
  exact ⟨gm, cm, gq, cq, us, rfl, hm1, hm2, hq1, hq2, fun c => (hfp.apart gq rfl).1 (by rw [c]; rfl), hfp, hb⟩
theorem Sc.start {w w3 : World} {B : Nat} {m q : Value} {M : List (List Int)} {Q : List Int} {us : List Value} (h : FreshP B w3 m q M Q us) (r0 : w3.cell? ⟨w.heap.size + 1, 0, none⟩ = some (.slice none 0 0))
    (r1 : w3.cell? ⟨w.heap.size + 1, 1, none⟩ = some (.slice none 0 0)) (rf : ∀ o, w3.frozen? ⟨w.heap.size + 1, o, none⟩ = false) (lt : w.heap.size + 1 < w3.heap.size) (hb : Below w.heap.size w w3) :
    Sc w (w3.alloc (.cells #[m, q] 27)) B w3.heap.size m q M Q us :=
  ⟨h.below ((Below.refl _ _).alloc (Nat.le_refl _) _), by simp, by simp, (World.cell?_alloc_lt w3 _ ⟨_, 0, none⟩ lt).trans r0, (World.cell?_alloc_lt w3 _ ⟨_, 1, none⟩ lt).trans r1,
    fun o => (((Below.refl w3.heap.size w3).alloc (Nat.le_refl _) (.cells #[m, q] 27)).frozen (p := ⟨_, o, none⟩) lt).trans (rf o), by simp; omega, hb.alloc (by omega) _⟩
theorem getD_set_eq (M : List (List Int)) (i : Nat) (r : List Int) (h : i < M.length) : (M.set i r).getD i [] = r := by simp [h]
/-- What the loop has done when it has scaled c numbers. -/
theorem Sc.step {w wr : World} {B N : Nat} {m q : Value} {M : List (List Int)} {Q : List Int} {us : List Value} {g cap i c : Nat} {k : Int} (h : Sc w wr B N m q (M.set i (scPart (M.getD i []) k c)) Q us) (hi : i < M.length) (hc : c < (M.getD i []).length)
    (hu : us.getD i undef = .slice (some ⟨g, 0, none⟩) (M.getD i []).length cap) (hN : g ≠ N) (hB : w.heap.size + 1 < g) :
    Sc w (wr.setCell ⟨g, c, none⟩ (.int .i64 ((M.getD i []).getD c 0 * k))) B N m q (M.set i (scPart (M.getD i []) k (c + 1))) Q us := by
  have hl : (scPart (M.getD i []) k c).length = (M.getD i []).length := scPart_length _ _ _ (by omega)
  have hg := getD_set_eq M i (scPart (M.getD i []) k c) hi
  have h2 := h.setRow (i := i) (g := g) (cap := cap) (by simpa using hi) (by rw [hg, hl]; exact hu) hN hB c ((M.getD i []).getD c 0 * k)
  rw [hg, set_set, scPart_set _ _ _ hc] at h2
  exact h2
theorem Sc.cellRow {w wr : World} {B N : Nat} {m q : Value} {M : List (List Int)} {Q : List Int} {us : List Value} {g cap i c : Nat} {k : Int} (h : Sc w wr B N m q (M.set i (scPart (M.getD i []) k c)) Q us) (hi : i < M.length) (hc : c < (M.getD i []).length)
    (hu : us.getD i undef = .slice (some ⟨g, 0, none⟩) (M.getD i []).length cap) : wr.cell? ⟨g, c, none⟩ = some (.int .i64 ((M.getD i []).getD c 0)) ∧ wr.frozen? ⟨g, c, none⟩ = false := by
  have hl : (scPart (M.getD i []) k c).length = (M.getD i []).length := scPart_length _ _ _ (by omega)
  have hg := getD_set_eq M i (scPart (M.getD i []) k c) hi
  have ho := h.fresh.rows.own.rows i (by simpa using hi)
  rw [hg, hu, ← hl] at ho
  refine ⟨?_, own_frozen ho c⟩
  rw [own_cell ho (by omega), scPart_getD _ _ _ hc]
theorem Sc.cellTop {w wr : World} {B N gm cm : Nat} {q : Value} {M : List (List Int)} {Q : List Int} {us : List Value} {i : Nat} (h : Sc w wr B N (.slice (some ⟨gm, 0, none⟩) M.length cm) q M Q us) (hi : i < M.length) : wr.cell? ⟨gm, i, none⟩ = some (us.getD i undef) :=
  top_cell h.fresh.rows.own hi
end Go.Proofs.Ytgncaploccbfnaa.PW
