/-
  Answers that are a list of fractions in memory of the call's own: compared, marked, looked at again.
-/
import Derived.Test.YtgncaploccbfnaaPFrM
import Derived.Test.YtgncaploccbfnaaPProb
namespace Go.Proofs.Ytgncaploccbfnaa.PW
open Go.RowKit Go.Proofs.Ytgncaploccbfnaa
open Go.Proofs.Ytgncaploccbfnaa.PM

theorem OwnF.cases {w : World} {v : Value} {xs : List (Int × Int)} (h : OwnF w v xs) : (v = .slice none 0 0 ∧ xs = []) ∨ (∃ g cap, v = .slice (some ⟨g, 0, none⟩) xs.length cap ∧ g < w.heap.size) := by
  rcases h.2 with ⟨hv, hn⟩ | ⟨g, cap, cur, hv, _, hg, _⟩
  · exact .inl ⟨hv, List.length_eq_zero_iff.1 hn⟩
  · refine .inr ⟨g, cap, hv, ?_⟩
    rcases Nat.lt_or_ge g w.heap.size with h' | h'
    · exact h'
    · rw [Array.getElem?_eq_none h'] at hg; cases hg
theorem OwnF.len {w : World} {g cap n : Nat} {xs : List (Int × Int)} (h : OwnF w (.slice (some ⟨g, 0, none⟩) n cap) xs) : n = xs.length := by
  rcases h.cases with ⟨hv, _⟩ | ⟨g', cap', hv, _⟩
  · simp at hv
  · simp at hv; exact hv.2.1
theorem OwnF.below {w w' : World} {g cap n : Nat} {xs : List (Int × Int)} (h : OwnF w (.slice (some ⟨g, 0, none⟩) n cap) xs) {B : Nat} (hb : Below B w w') (hg : g < B) : OwnF w' (.slice (some ⟨g, 0, none⟩) n cap) xs :=
  ownF_any h (fun b hb' => hb.block b (by simp [Value.ownBlock] at hb'; omega))
theorem ownF_nil (w : World) : OwnF w (.slice none 0 0) [] := World.ownsRow_nil _ _ _ _

theorem eqFrac_self (n d : Int) (w : World) :
    Calls Try.prog 89 #[.agg #[.int .i64 n, .int .i64 d], .agg #[.int .i64 n, .int .i64 d]] w fun e w' => e = .returned (.bool true) ∧ Below w.heap.size w w' := by
  go_enter Try.func89, Try.ntmps89
  go_wp2
  go_ret
  refine ⟨rfl, ?_⟩
  (repeat' (first | (with_reducible exact Below.refl _ _) | (with_reducible assumption) | (with_reducible refine Below.alloc ?_ ?_ _) | (with_reducible refine Below.drew ?_) | (with_reducible refine below_drewN ?_ _) | (with_reducible refine Below.setCell ?_ ?_ _) | (with_reducible refine Below.trans ?_ (Below.mono (by with_reducible assumption) ?_)) | (with_reducible exact Below.size (by with_reducible assumption)) | go_size))

theorem eqFracS_same (v u : Value) (xs : List (Int × Int)) (w : World) (hv : OwnF w v xs) (hu : OwnF w u xs) (hm : xs.length ≤ 1048576) :
    Calls Try.prog 31 #[v, u] w fun e w' => e = .returned (.bool true) ∧ Below w.heap.size w w' := by
  rcases hv.cases with ⟨rfl, rfl⟩ | ⟨b, cap, rfl, hlt⟩
  · rcases hu.cases with ⟨rfl, _⟩ | ⟨b2, cap2, rfl, hlt2⟩
    all_goals
      clear hv hu
      go_enter Try.func31, Try.ntmps31
      go_wp2
      go_rounds 1
      all_goals go_ret
      all_goals exact ⟨rfl, Below.refl _ _⟩
  rcases hu.cases with ⟨rfl, rfl⟩ | ⟨b2, cap2, rfl, hlt2⟩
  · clear hv hu
    show Calls _ _ #[.slice _ 0 cap, .slice none 0 0] _ _
    go_enter Try.func31, Try.ntmps31
    go_wp2
    go_rounds 1
    all_goals go_ret
    all_goals exact ⟨rfl, Below.refl _ _⟩
  have HV := Lib.hid hv
  have HU := Lib.hid hu
  clear hv hu
  go_enter Try.func31, Try.ntmps31
  go_wp2
  go_loopw [5] (fun i wr => ∃ k : Nat, k ≤ xs.length ∧ i = .int .i64 k ∧ Below w.heap.size w wr) (fun i _ => xs.length - (intOf i).toNat)
  case atStart => exact ⟨0, Nat.zero_le _, rfl, Below.refl _ _⟩
  case round =>
    obtain ⟨k, hk, rfl, hb⟩ := hrel
    by_cases hlt3 : k < xs.length
    · have g1 : ∀ w', Below w.heap.size w w' → w'.cell? ⟨b, k * 2, none⟩ = some (.int .i64 (xs.getD k (0, 0)).1) := fun w' h => (h.cell (p := ⟨b, k * 2, none⟩) hlt).trans (HV.out.cell0 rfl hlt3)
      have g2 : ∀ w', Below w.heap.size w w' → w'.cell? ⟨b, k * 2 + 1, none⟩ = some (.int .i64 (xs.getD k (0, 0)).2) := fun w' h => (h.cell (p := ⟨b, k * 2 + 1, none⟩) hlt).trans (HV.out.cell1 rfl hlt3)
      have g3 : ∀ w', Below w.heap.size w w' → w'.cell? ⟨b2, k * 2, none⟩ = some (.int .i64 (xs.getD k (0, 0)).1) := fun w' h => (h.cell (p := ⟨b2, k * 2, none⟩) hlt2).trans (HU.out.cell0 rfl hlt3)
      have g4 : ∀ w', Below w.heap.size w w' → w'.cell? ⟨b2, k * 2 + 1, none⟩ = some (.int .i64 (xs.getD k (0, 0)).2) := fun w' h => (h.cell (p := ⟨b2, k * 2 + 1, none⟩) hlt2).trans (HU.out.cell1 rfl hlt3)
      have i0 : (0 : Int) ≤ (k : Int) := by omega
      have i1 : (k : Int) < (xs.length : Int) := by omega
      generalize (xs.getD k (0, 0)).1 = x at *
      generalize (xs.getD k (0, 0)).2 = y at *
      go_wp2
      go_region_held3 (fun w' => Below w.heap.size w w') ((repeat' (first | (with_reducible exact Below.refl _ _) | (with_reducible assumption) | (with_reducible refine Below.alloc ?_ ?_ _) | (with_reducible refine Below.drew ?_) | (with_reducible refine below_drewN ?_ _) | (with_reducible refine Below.setCell ?_ ?_ _) | (with_reducible refine Below.trans ?_ (Below.mono (by with_reducible assumption) ?_)) | (with_reducible exact Below.size (by with_reducible assumption)) | go_size)))
        (first | (go_at_call 89; refine (eqFrac_self _ _ _).mono ?_; rintro e w' ⟨rfl, hE⟩; have hE0 : Below w.heap.size w w' := (by (repeat' (first | (with_reducible exact Below.refl _ _) | (with_reducible assumption) | (with_reducible refine Below.alloc ?_ ?_ _) | (with_reducible refine Below.drew ?_) | (with_reducible refine below_drewN ?_ _) | (with_reducible refine Below.setCell ?_ ?_ _) | (with_reducible refine Below.trans ?_ (Below.mono (by with_reducible assumption) ?_)) | (with_reducible exact Below.size (by with_reducible assumption)) | go_size)))))
      go_wp2
      go_roundw
      case rel => exact ⟨k + 1, by omega, by go_num, hE0⟩
      case measure => simp [intOf]; omega
    · obtain rfl : k = xs.length := by omega
      go_wp2
      go_ret
      exact ⟨rfl, hb⟩

/-- Marks from k on, two a fraction. -/
def marksF (k : Int) (n : Nat) : List (Int × Int) := (List.range n).map fun (i : Nat) => (k + (i : Int) * 2, k + (i : Int) * 2 + 1)
def markedFr (k : Int) (xs : List (Int × Int)) (i : Nat) : List (Int × Int) := (List.range xs.length).map fun j => if j < i then (k + (j : Int) * 2, k + (j : Int) * 2 + 1) else xs.getD j (0, 0)
theorem marksF_length (k : Int) (n : Nat) : (marksF k n).length = n := by simp [marksF]
theorem markedFr_length (k : Int) (xs : List (Int × Int)) (i : Nat) : (markedFr k xs i).length = xs.length := by simp [markedFr]
theorem markedFr_zero (k : Int) (xs : List (Int × Int)) : markedFr k xs 0 = xs := by
  apply List.ext_getElem (by simp [markedFr])
  intro i h1 h2
  simp [markedFr, h2]
theorem markedFr_all (k : Int) (xs : List (Int × Int)) : markedFr k xs xs.length = marksF k xs.length := by
  unfold markedFr marksF
  refine List.map_congr_left (fun j hj => ?_)
  rw [if_pos (by simpa using hj)]
theorem markedFr_set (k : Int) (xs : List (Int × Int)) (i : Nat) : (markedFr k xs i).set i (k + (i : Int) * 2, k + (i : Int) * 2 + 1) = markedFr k xs (i + 1) := by
  apply List.ext_getElem (by simp [markedFr])
  intro j h1 h2
  simp only [List.getElem_set, markedFr, List.getElem_map, List.getElem_range]
  by_cases e : i = j
  · subst e; rw [if_pos rfl, if_pos (by omega)]
  · rw [if_neg e]
    by_cases e2 : j < i
    · rw [if_pos e2, if_pos (by omega)]
    · rw [if_neg e2, if_neg (by omega)]

theorem markFracS_any (v : Value) (xs : List (Int × Int)) (k : Int) (w : World) (hv : OwnF w v xs) (h0 : 0 ≤ k) (h1 : k ≤ 4194304) (hm : xs.length ≤ 1048576) :
    Calls Try.prog 32 #[v, .int .i64 k] w fun e w' => e = .returned (.int .i64 (k + (xs.length : Int) * 2)) ∧ OwnF w' v (marksF k xs.length) ∧ Tch (blks v) w w' := by
  rcases hv.cases with ⟨rfl, rfl⟩ | ⟨g, cap, rfl, hlt⟩
  · go_enter Try.func32, Try.ntmps32
    go_wp2
    go_rounds 1
    all_goals go_ret
    all_goals exact ⟨ret_i64 (by simp), hv, Tch.refl _ _⟩
  · have HV := Lib.hid hv
    clear hv
    go_enter Try.func32, Try.ntmps32
    go_wp2
    go_loopw [1, 5] (fun s i wr => ∃ j : Nat, j ≤ xs.length ∧ i = .int .i64 j ∧ s = .int .i64 (k + (j : Int) * 2) ∧ OwnF wr (.slice (some ⟨g, 0, none⟩) xs.length cap) (markedFr k xs j) ∧ Tch [g] w wr) (fun _ i _ => xs.length - (intOf i).toNat)
    case atStart => exact ⟨0, Nat.zero_le _, rfl, by simp, by rw [markedFr_zero]; exact HV.out, Tch.refl _ _⟩
    case round =>
      obtain ⟨j, hj, rfl, rfl, hown, ht⟩ := hrel
      by_cases hlt3 : j < xs.length
      · have hl := markedFr_length k xs j
        have c0 := hown.cell0 hl.symm hlt3
        have c1 := hown.cell1 hl.symm hlt3
        have f0 := fun i => hown.frozen hl.symm i
        have hs := hown.set hl.symm hlt3 (k + (j : Int) * 2) (k + (j : Int) * 2 + 1)
        rw [markedFr_set] at hs
        have hnt : Tch [g] w ((wr.setCell ⟨g, j * 2, none⟩ (.int .i64 (k + (j : Int) * 2))).setCell ⟨g, j * 2 + 1, none⟩ (.int .i64 (k + (j : Int) * 2 + 1))) := (ht.setCell (by simp) _).setCell (by simp) _
        have HS := Lib.hid hs
        have HT := Lib.hid hnt
        clear hs hnt hl hown ht
        generalize ((markedFr k xs j).getD j (0, 0)).1 = x at *
        generalize ((markedFr k xs j).getD j (0, 0)).2 = y at *
        go_wp2
        go_roundw
        case rel => exact ⟨j + 1, by omega, by go_num, by go_num, HS.out, HT.out⟩
        case measure => simp [intOf]; omega
      · obtain rfl : j = xs.length := by omega
        have hend : Hid (OwnF wr (.slice (some ⟨g, 0, none⟩) xs.length cap) (marksF k xs.length)) := by rw [← markedFr_all]; exact hown
        clear hown
        go_wp2
        go_ret
        exact ⟨rfl, hend, ht⟩

theorem heldFracS_any (v : Value) (n : Nat) (k : Int) (w : World) (hv : OwnF w v (marksF k n)) (h0 : 0 ≤ k) (h1 : k ≤ 1048576) (hm : n ≤ 524288) :
    Calls Try.prog 33 #[v, .int .i64 k] w fun e w' => e = .returned (.int .i64 (k + (n : Int) * 2)) ∧ Below w.heap.size w w' := by
  rcases hv.cases with ⟨rfl, hn⟩ | ⟨g, cap, rfl, hlt⟩
  · obtain rfl : n = 0 := by have := congrArg List.length hn; rw [marksF_length] at this; simpa using this
    clear hn
    go_enter Try.func33, Try.ntmps33
    go_wp2
    go_rounds 1
    all_goals go_ret
    all_goals exact ⟨ret_i64 (by simp), Below.refl _ _⟩
  · have HV := Lib.hid hv
    rw [marksF_length]
    clear hv
    go_enter Try.func33, Try.ntmps33
    go_wp2
    go_loop [1, 5] (fun s i => ∃ j : Nat, j ≤ n ∧ i = .int .i64 j ∧ s = .int .i64 (k + (j : Int) * 2)) (fun _ i => n - (intOf i).toNat)
    case atStart => exact ⟨0, Nat.zero_le _, rfl, by simp⟩
    case round =>
      obtain ⟨j, hj, rfl, rfl⟩ := hrel
      by_cases hlt3 : j < n
      · have c0 := HV.out.cell0 rfl (i := j) (by rw [marksF_length]; exact hlt3)
        have c1 := HV.out.cell1 rfl (i := j) (by rw [marksF_length]; exact hlt3)
        rw [show (marksF k n).getD j (0, 0) = (k + (j : Int) * 2, k + (j : Int) * 2 + 1) by simp [marksF, hlt3]] at c0 c1
        dsimp only at c0 c1
        go_wp2
        go_round
        case rel => exact ⟨j + 1, by omega, by go_num, by go_num⟩
        case measure => simp [intOf]; omega
      · obtain rfl : j = n := by omega
        go_wp2
        go_ret
        exact ⟨rfl, Below.refl _ _⟩

structure RngF (lo hi : Nat) (w : World) (v : Value) (xs : List (Int × Int)) : Prop where
  own : OwnF w v xs
  at_ : ∀ b, v.ownBlock = some b → lo ≤ b ∧ b < hi
theorem RngF.bet {lo hi lo' hi' : Nat} {w w' : World} {v : Value} {xs : List (Int × Int)} (h : RngF lo hi w v xs) (ht : Bet lo' hi' w w') (hd : hi ≤ lo' ∨ hi' ≤ lo) : RngF lo hi w' v xs := by
  refine ⟨?_, h.at_⟩
  rcases h.own.cases with ⟨rfl, rfl⟩ | ⟨g, cap, rfl, hlt⟩
  · exact ownF_nil _
  · have := h.at_ g rfl
    exact ownF_any h.own (fun b hb => by simp [Value.ownBlock] at hb; subst hb; exact ht.block _ hlt (by omega))
theorem RngF.below {lo hi B : Nat} {w w' : World} {v : Value} {xs : List (Int × Int)} (h : RngF lo hi w v xs) (ht : Below B w w') (hd : hi ≤ B) : RngF lo hi w' v xs :=
  h.bet (lo' := B) (hi' := w.heap.size + B) ⟨ht.os, ht.tape, ht.output, ht.size, fun k _ hr => by
    rcases hr with hr | hr
    · exact ht.block k hr
    · omega⟩ (.inl hd)
structure FineF (o : List (Int × Int)) : Prop where
  len : o.length ≤ 524288
theorem fineF_nil : FineF [] := ⟨by simp⟩
theorem eqF_ans {lo hi lo' hi' : Nat} {w : World} {v v' : Value} {o : List (Int × Int)} (h : RngF lo hi w v o) (h' : RngF lo' hi' w v' o) (hf : FineF o) :
    Calls Try.prog 31 #[v, v'] w fun e w' => e = .returned (.bool true) ∧ Below w.heap.size w w' :=
  eqFracS_same v v' o w h.own h'.own (by have := hf.len; omega)
def markedF (o : List (Int × Int)) : List (Int × Int) := marksF 1 o.length
def sizeF (o : List (Int × Int)) : Nat := o.length * 2
theorem sizeF_le {o : List (Int × Int)} (hf : FineF o) : (sizeF o : Int) ≤ 1048576 := by
  have h := hf.len
  unfold sizeF
  omega
theorem markF_ans {lo hi : Nat} {w : World} {v : Value} {o : List (Int × Int)} (h : RngF lo hi w v o) (hf : FineF o) :
    Calls Try.prog 32 #[v, .int .i64 1] w fun e w' => e = .returned (.int .i64 (1 + (sizeF o : Int))) ∧ RngF lo hi w' v (markedF o) ∧ Bet lo hi w w' := by
  refine (markFracS_any v o 1 w h.own (by decide) (by decide) (by have := hf.len; omega)).mono ?_
  rintro e w' ⟨rfl, ho', ht⟩
  exact ⟨ret_i64 (by unfold sizeF; omega), ⟨ho', h.at_⟩, Bet.of_tch ht (fun b hb => h.at_ b (by simpa [blks] using hb))⟩
theorem heldF_ans {lo hi : Nat} {w : World} {v : Value} {o : List (Int × Int)} (h : RngF lo hi w v (markedF o)) (hf : FineF o) :
    Calls Try.prog 33 #[v, .int .i64 1] w fun e w' => e = .returned (.int .i64 (1 + (sizeF o : Int))) ∧ Below w.heap.size w w' := by
  refine (heldFracS_any v o.length 1 w h.own (by decide) (by decide) hf.len).mono ?_
  rintro e w' ⟨rfl, hb⟩
  exact ⟨ret_i64 (by unfold sizeF; omega), hb⟩
/-- What a function leaves that returns a list of fractions and a code. -/
def OutF (w : World) (o : List (Int × Int) × Int) (e : Ending) (w' : World) : Prop :=
  ∃ v, e = .returned (.tuple #[v, .int .i64 o.2]) ∧ RngF w.heap.size w'.heap.size w' v o.1 ∧ Below w.heap.size w w'
theorem OutF.out {w w' : World} {o : List (Int × Int) × Int} {e : Ending} (h : OutF w o e w') :
    ∃ a c, e = .returned (.tuple #[.slice a o.1.length c, .int .i64 o.2]) ∧ RngF w.heap.size w'.heap.size w' (.slice a o.1.length c) o.1 ∧ Below w.heap.size w w' := by
  obtain ⟨v, rfl, ho, hb⟩ := h
  obtain ⟨a1, c1, rfl⟩ : ∃ a cap, v = .slice a o.1.length cap := by
    rcases ho.own.cases with ⟨rfl, hn⟩ | ⟨g, cap, rfl, _⟩
    · exact ⟨none, 0, by rw [hn]; rfl⟩
    · exact ⟨_, cap, rfl⟩
  exact ⟨a1, c1, rfl, ho, hb⟩
theorem outF_nil {w w' : World} {c : Int} (h : Below w.heap.size w w') : OutF w ([], c) (.returned (.tuple #[.slice none 0 0, .int .i64 c])) w' :=
  ⟨_, rfl, ⟨ownF_nil _, fun b hb => by simp [Value.ownBlock] at hb⟩, h⟩
theorem FreshF.rng {B : Nat} {w : World} {v : Value} {xs : List (Int × Int)} (h : FreshF B w v xs) : RngF B w.heap.size w v xs := by
  obtain ⟨g, cap, rfl, hB, hlt, ho⟩ := h
  exact ⟨ho, fun b hb => by simp [Value.ownBlock] at hb; omega⟩
theorem cell_two_new (w : World) (x y : Value) (t : TypeId) : ∀ j u, [x, y][j]? = some u → (w.alloc (.cells #[x, y] t)).cell? ((⟨w.heap.size, 0, none⟩ : Addr).add j) = some u := by
  intro j u hj
  match j, hj with
  | 0, hj =>
    simp at hj
    subst hj
    simp [Addr.add]
  | 1, hj =>
    simp at hj
    subst hj
    simp [Addr.add]
theorem rowF_length (n : Nat) (F : Nat → Int × Int) : ((List.range n).map F).length = n := by simp
theorem snocF (k : Nat) (F : Nat → Int × Int) : (List.range (k + 1)).map F = (List.range k).map F ++ [((F k).1, (F k).2)] := by
  rw [List.range_succ, List.map_append]
  rfl
end Go.Proofs.Ytgncaploccbfnaa.PW
