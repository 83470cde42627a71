/-
  Walks: the numbers of a list divided, in the program.
-/
import Derived.Test.YthnefjllijoobaaDoorPPtB
namespace Go.Proofs.YthnefjllijoobaaDoor.PW
open Go.RowKit Go.Proofs.YthnefjllijoobaaDoor
open Go.Proofs.YthnefjllijoobaaDoor.PM Go.Proofs.YthnefjllijoobaaDoor.PX

/-- v is a slice of the numbers xs in w, whatever its capacity. -/
def Lst (w : World) (v : Value) (xs : List Int) : Prop := ∃ (a : Option Addr) (c : Nat), v = .slice a xs.length c ∧ (xs = [] ∨ ∃ b off, a = some ⟨b, off, none⟩ ∧ b < w.heap.size ∧ CellsAt w b off xs)
theorem _root_.Go.Proofs.YthnefjllijoobaaDoor.PM.Ints.lst {w : World} {v : Value} {xs : List Int} (h : Ints w v xs) : Lst w v xs := by
  obtain ⟨a, c, h1, _, _, _, h2⟩ := h
  exact ⟨a, c, h1, h2⟩
theorem Lst.below {w w' : World} {v : Value} {xs : List Int} (h : Lst w v xs) (hb : Below w.heap.size w w') : Lst w' v xs := by
  obtain ⟨a, c, h1, h2⟩ := h
  refine ⟨a, c, h1, ?_⟩
  rcases h2 with h2 | ⟨b, off, e, hlt, hc⟩
  · exact .inl h2
  · exact .inr ⟨b, off, e, Nat.lt_of_lt_of_le hlt hb.size, fun i hi => (hb.cell (p := ⟨b, off + i, none⟩) hlt).trans (hc i hi)⟩
/-- The first k quotients. -/
def quoTo (xs : List Int) (d : Int) (k : Nat) : List Int := (List.range xs.length).map fun i => if i < k then (xs.getD i 0).tdiv d else 0
theorem quoTo_zero (xs : List Int) (d : Int) : quoTo xs d 0 = List.replicate xs.length 0 := by
  apply List.ext_getElem
  · simp [quoTo]
  · intro i h1 h2; simp [quoTo, List.getElem_replicate]
theorem quoTo_step (xs : List Int) (d : Int) (k : Nat) : (quoTo xs d k).set k ((xs.getD k 0).tdiv d) = quoTo xs d (k + 1) := by
  unfold quoTo
  rw [row_set]
  apply List.map_congr_left
  intro i _
  by_cases e : i = k
  · subst e; rw [if_pos rfl, if_pos (by omega)]
  · rw [if_neg e]
    by_cases e2 : i < k
    · rw [if_pos e2, if_pos (by omega)]
    · rw [if_neg e2, if_neg (by omega)]
theorem quoTo_all (xs : List Int) (d : Int) : quoTo xs d xs.length = xs.map fun x => x.tdiv d := by
  apply List.ext_getElem
  · simp [quoTo]
  · intro i h1 h2
    have hi : i < xs.length := by simpa [quoTo] using h1
    simp [quoTo, hi]
theorem quoTo_length (xs : List Int) (d : Int) (k : Nat) : (quoTo xs d k).length = xs.length := by simp [quoTo]
theorem tdiv_bd {x d : Int} (hx : Bd 1920000000 x) : Bd 1920000000 (x.tdiv d) := by
  unfold Bd at *
  have h := Int.natAbs_tdiv_le_natAbs x d
  omega
theorem cells_made (w : World) (z : Value) (n k : Nat) (h : k < n) (t : TypeId) : (madeCells #[z] n)[k]? = some z := made_at z n k h w t

set_option maxRecDepth 100000 in
set_option maxHeartbeats 4000000 in
theorem quotients_any (v : Value) (xs : List Int) (d : Int) (w : World) (hv : Lst w v xs) (hn : xs.length ≤ 11) (hb : ∀ k, k < xs.length → Bd 1920000000 (xs.getD k 0)) (hd : d ≠ 0) (hd1 : -9223372036854775808 ≤ d ∧ d ≤ 9223372036854775807) :
    Calls Tryd.prog 54 #[v, .int .i64 d] w fun e w' => ∃ g c, e = .returned (.slice (some ⟨g, 0, none⟩) xs.length c) ∧ FreshI w.heap.size w' (.slice (some ⟨g, 0, none⟩) xs.length c) (xs.map fun x => x.tdiv d) ∧ Below w.heap.size w w' := by
  have hmk := run_make_row' (P := Tryd.prog) 23 2 (.int .i64 0) 8 Tryd.underlying23 info_int rfl .i64 .i64 xs.length (by omega) (by omega)
  have hz := zeros_fresh w xs.length (by unfold maxLen; omega)
  rw [← quoTo_zero xs d] at hz
  have HZ := Lib.hid hz
  have HB := Lib.hid hb
  have HC := Lib.hid (fun (w' : World) (h : Below w.heap.size w w') k (hk : k < xs.length) => show ∃ b off c, v = .slice (some ⟨b, off, none⟩) xs.length c ∧ w'.cell? ⟨b, off + k, none⟩ = some (.int .i64 (xs.getD k 0)) by
    obtain ⟨a, c, rfl, hx⟩ := hv.below h
    rcases hx with hx | ⟨b, off, rfl, _, hc⟩
    · rw [hx] at hk; simp at hk
    · exact ⟨b, off, c, rfl, hc k hk⟩)
  have HQL := Lib.hid (quoTo_length xs d)
  obtain ⟨a1, c1, rfl, _⟩ := hv
  obtain ⟨n, hnn⟩ : ∃ n, n = xs.length := ⟨_, rfl⟩
  rw [← hnn] at hn hmk HZ HC HB HQL ⊢
  have HNN := Lib.hid hnn
  obtain ⟨hd1, hd2⟩ := hd1
  clear hz hb hnn
  go_enter Tryd.func54, Tryd.ntmps54
  go_wp2_with fail
  go_loopw [6, 7, 13] (fun _ _ i wr => ∃ k : Nat, k ≤ n ∧ i = .int .i64 k ∧ FreshI w.heap.size wr (.slice (some ⟨w.heap.size, 0, none⟩) n n) (quoTo xs d k) ∧ Below w.heap.size w wr) (fun _ _ i _ => n - (intOf i).toNat)
  case atStart => exact ⟨0, Nat.zero_le _, by go_num, HZ.out, (Below.refl _ _).alloc (Nat.le_refl _) _⟩
  case round =>
    obtain ⟨k, hk, rfl, hF, hBl⟩ := hrel
    by_cases hlt : k < n
    · obtain ⟨b, off, c, hve, hc⟩ := HC.out wr hBl k hlt
      simp only [Value.slice.injEq] at hve
      obtain ⟨rfl, _, rfl⟩ := hve
      have hq := tdiv_bd (d := d) (HB.out k hlt)
      have hx := HB.out k hlt
      unfold Bd at hq hx
      obtain ⟨hq1, hq2⟩ := hq
      obtain ⟨hx1, hx2⟩ := hx
      have hst := hF.set k ((xs.getD k 0).tdiv d)
      rw [quoTo_step] at hst
      have HST := Lib.hid hst
      have HBS := Lib.hid (hBl.setCell (Nat.le_refl _) (p := ⟨w.heap.size, k, none⟩) (.int .i64 ((xs.getD k 0).tdiv d)))
      obtain ⟨g', c', hve, _, hlt', ho⟩ := hF
      have hcl : ∃ u, wr.cell? ⟨w.heap.size, k, none⟩ = some u ∧ wr.frozen? ⟨w.heap.size, k, none⟩ = false := by
        have hql := HQL.out k
        exact ⟨_, own_cellN ho hql.symm hlt, own_frozenN ho hql.symm k⟩
      obtain ⟨u, t0, z0⟩ := hcl
      clear hst ho hve
      obtain ⟨X, hX⟩ : ∃ X, X = xs.getD k 0 := ⟨_, rfl⟩
      obtain ⟨Y, hY⟩ : ∃ Y, Y = X.tdiv d := ⟨_, rfl⟩
      rw [← hX] at hc hq1 hq2 hx1 hx2 HST HBS
      rw [← hY] at hq1 hq2 HST HBS
      have hY' := hY.symm
      clear hX hY
      go_wp2_with fail
      go_roundw
      case rel => exact ⟨k + 1, by omega, by go_num, HST.out, HBS.out⟩
      case measure => simp [intOf]; omega
    · obtain rfl : k = n := by omega
      have HF := Lib.hid hF
      have HN2 := HNN.out
      clear hF
      go_wp2_with fail
      go_ret
      refine ⟨_, _, rfl, ?_, hBl⟩
      have := HF.out
      have e : quoTo xs d k = xs.map fun x => x.tdiv d := by rw [HNN.out]; exact quoTo_all xs d
      rw [e] at this
      exact this
end Go.Proofs.YthnefjllijoobaaDoor.PW
