/-
  The numbers on the right that signs tell, in the program.
-/
import Derived.Test.YtopokicejgjcoaaDoorUCe
import Derived.Test.YtopokicejgjcoaaDoorPRep
namespace Go.Proofs.YtopokicejgjcoaaDoor.PW
open Go.RowKit Go.Shelf Go.Proofs.YtopokicejgjcoaaDoor
open Go.Proofs.YtopokicejgjcoaaDoor.PM Go.Proofs.YtopokicejgjcoaaDoor.PX
attribute [local go_sem] Oper.semAt_some

/-- -1 at the places that have come, 1 else. -/
def selS (n : Nat) (pre : List Nat) : List Int := (List.range n).map fun j => if j ∈ pre then -1 else 1
theorem selS_nil (n : Nat) : List.replicate n 1 = selS n [] := by
  apply List.ext_getElem (by simp [selS])
  intro j h1 h2
  simp [selS]
theorem selS_length (n : Nat) (pre : List Nat) : (selS n pre).length = n := by simp [selS]
theorem selS_set (n : Nat) (pre : List Nat) (i : Nat) : (selS n pre).set i (-1) = selS n (pre ++ [i]) := by
  apply List.ext_getElem (by simp [selS])
  intro j h1 h2
  simp only [List.getElem_set, selS, List.getElem_map, List.getElem_range]
  by_cases e : i = j
  · subst e
    rw [if_pos rfl, if_pos (by simp)]
  · rw [if_neg e]
    have e3 : ¬ j = i := fun c => e c.symm
    by_cases e2 : j ∈ pre
    · rw [if_pos e2, if_pos (by simp [e2])]
    · rw [if_neg e2, if_neg (by simp [e2, e3])]
theorem KC.freshI {W W' : World} (h : KC W W') {B : Nat} {v : Value} {xs : List Int} (hf : FreshI B W v xs) : FreshI B W' v xs := by
  obtain ⟨g, cap, hv, hB, hlt, ho⟩ := hf
  refine ⟨g, cap, hv, hB, Nat.lt_of_lt_of_le hlt h.size, ho.1, ?_⟩
  rcases ho.2 with h2 | ⟨g, cap, cur, hv, hb, hg, r⟩
  · exact .inl h2
  · exact .inr ⟨g, cap, cur, hv, hb, h.same _ _ _ _ hg, r⟩
/-- While the signs are written. -/
structure Rs (w W : World) (Bz g n : Nat) (ys : List Int) : Prop where
  rows : FreshI w.heap.size W (.slice (some ⟨g, 0, none⟩) n n) ys
  box : Boxed W Bz 23 (.slice (some ⟨g, 0, none⟩) n n)
  below : Below w.heap.size w W
theorem Rs.kc {w W W' : World} {Bz g n : Nat} {ys : List Int} (h : Rs w W Bz g n ys) (k : KC W W') (hb : Below w.heap.size w W') : Rs w W' Bz g n ys :=
  ⟨k.freshI h.rows, k.same _ _ _ _ h.box, hb⟩
theorem Rs.own {w : World} {Bz g n B : Nat} {β : Type} (F : β → List Int) (hB : w.heap.size ≤ B) : OwnFrom B (fun (s : β) W => Rs w W Bz g n (F s)) := by
  intro s W W' row h hg hr
  refine h.kc (KC.of hg (fun r e => (hr r e).2)) (ownFrom_below (β := Unit) (Nat.le_refl _) hB () W W' row h.below hg hr)
theorem boxI_ne {W : World} {B g n cap Bz : Nat} {v : Value} {xs : List Int} (hf : FreshI B W (.slice (some ⟨g, 0, none⟩) n cap) xs) (hb : Boxed W Bz 23 v) : Bz ≠ g := by
  rintro rfl
  obtain ⟨g', cap', hv, hB, hlt, ho⟩ := hf
  simp only [Value.slice.injEq, Option.some.injEq, Addr.mk.injEq, and_true] at hv
  obtain ⟨rfl, hl, rfl⟩ := hv
  rcases ho.2 with h2 | ⟨g2, cap2, cur, hv2, _, hg, r⟩
  · exact absurd h2.1 (by simp)
  · simp only [Value.slice.injEq, Option.some.injEq, Addr.mk.injEq, and_true] at hv2
    obtain ⟨rfl, _, rfl⟩ := hv2
    have hb' : W.heap[Bz]? = some (.cells #[v] 23 (0, 0)) := hb
    rw [hg] at hb'
    simp only [Option.some.injEq, Obj.cells.injEq] at hb'
    exact absurd hb'.2.1 (by decide)

set_option maxRecDepth 100000 in
set_option maxHeartbeats 2000000 in
theorem rightOf_in (n : Nat) (s : Int) (w : World) (hn1 : 1 ≤ n) (hn5 : n ≤ 5) (hs0 : 0 ≤ s) (hs1 : s < 2 ^ n) :
    CallsIn Fence.wide 8 Tryd.prog 89 #[.int .i64 s, .int .i64 n] w fun e w' => ∃ g, e = .returned (.slice (some ⟨g, 0, none⟩) n n) ∧ FreshI w.heap.size w' (.slice (some ⟨g, 0, none⟩) n n) (selS n ((memTo n s n).map Fin.val)) ∧ Below w.heap.size w w' := by
  have hmx : Tryd.prog.follows .mixedOrders = true := by kernel_rfl
  refine callsIn_of_wp_marks Tryd.func89 rfl trivial ?_ rfl
  simp only [Tryd.ntmps89, List.size_toArray, List.length_cons, List.length_nil, Nat.reduceAdd, Nat.reduceSub, Array.replicate_succ, Array.replicate_zero, List.push_toArray, List.append_toArray, List.nil_append, List.cons_append]
  gi_wp2_with fail
  refine ⟨trivial, ?_⟩
  gi_at_call 121
  refine (callsIn_wide.2 (repeatI_any n w.heap.size 1 1 _ hn1 hn5 (by simp) (by simp))).mono ?_
  rintro e w1 ⟨rfl, hf1, hb1⟩
  have hw1 : Below w.heap.size w w1 := ((Below.refl _ _).alloc (Nat.le_refl _) _).trans (hb1.mono (by simp))
  have hz1 := hb1.size
  simp at hz1
  rw [show (w.alloc (.cells #[.int .i64 1] 2)).heap.size = w.heap.size + 1 by simp] at hf1 ⊢
  rw [selS_nil] at hf1
  obtain ⟨g, hg⟩ : ∃ g, g = w.heap.size + 1 := ⟨_, rfl⟩
  rw [← hg] at hf1 ⊢
  have HF1 := Lib.hid (hf1.mono (C := w.heap.size) (by omega))
  have HG := Lib.hid hg
  have HW1 := Lib.hid hw1
  clear hf1 hb1 hg hw1
  gi_wp2_with fail
  obtain ⟨W, hW⟩ : ∃ W, W = w1.alloc (.cells #[.slice (some ⟨g, 0, none⟩) n n] 23) := ⟨_, rfl⟩
  have hbW : Below w1.heap.size w1 W := by rw [hW]; exact (Below.refl _ _).alloc (Nat.le_refl _) _
  have hbx : Boxed W w1.heap.size 23 (.slice (some ⟨g, 0, none⟩) n n) := by rw [hW]; exact Boxed.new w1 _ _
  have hsz : W.heap.size = w1.heap.size + 1 := by rw [hW]; simp
  have hRs : Rs w W w1.heap.size g n (selS n []) := ⟨HF1.out.below hbW, hbx, HW1.out.trans (hbW.mono HW1.out.size)⟩
  rw [← hW]
  clear hW hbx hbW
  refine ⟨trivial, ?_⟩
  gi_at_call 99
  refine (membersOf_in s _).mono ?_
  rintro e w3 ⟨rfl, rfl⟩
  gi_wp2_with fail
  obtain ⟨W0, hW0⟩ : ∃ W0, W0 = W.alloc (.cells #[.int .i64 s] 2) := ⟨_, rfl⟩
  have hB0 : Below W.heap.size W W0 := by rw [hW0]; exact (Below.refl _ _).alloc (Nat.le_refl _) _
  have hS0 : Rs w W0 w1.heap.size g n (selS n []) := ⟨hRs.rows.below hB0, boxed_below hRs.box hB0, hRs.below.trans (hB0.mono hRs.below.size)⟩
  have hs : W0.cell? ⟨W.heap.size, 0, none⟩ = some (.int .i64 s) := by rw [hW0]; simp
  have hz0 : W.heap.size + 1 = W0.heap.size := by rw [hW0]; simp
  rw [← hW0]
  clear hW0
  have hwz := HW1.out.size
  have hgl : g < W.heap.size := by obtain ⟨_, _, hv, _, h3, _⟩ := hRs.rows; simp at hv; omega
  refine wpIn_rangeFunc_ownF (α := Fin n) rfl (by omega) (gf := 131) (lb := #[.pointer (some ⟨w1.heap.size + 1, 0, none⟩)]) rfl trivial (enters_of Tryd.func131 (by kernel_rfl) rfl)
    (members_stops n hn5 s hs0 hs1 (w1.heap.size + 1) W0 (by omega) (by rw [← hsz]; exact hs)) (fun h k => KB.trans h k) (KB.put (by omega)) (Below.refl _ _) (fun _ => rfl)
    (fun (pre : List (Fin n)) W' => Rs w W' w1.heap.size g n (selS n (pre.map Fin.val)))
    (fun _ _ _ => False)
    (Rs.own (fun (pre : List (Fin n)) => selS n (pre.map Fin.val)) (by omega))
    (fun _ _ _ _ _ h _ _ => h)
    hS0 ?a1 ?assign ?body ?done ?stop
  case assign =>
    intro l x W K hK
    gi_wp2
    exact hK
  case body =>
    rintro l pre x W1 hS hlt
    have cz := hS.box.cell
    have hoo := freshI_own hS.rows
    have e0 := own_cellN hoo (selS_length _ _).symm x.isLt
    have f0 := own_frozenN hoo (selS_length _ _).symm x.val
    have hne := boxI_ne hS.rows hS.box
    have hst : Rs w (W1.setCell ⟨g, x.val, none⟩ (.int .i64 (-1))) w1.heap.size g n (selS n ((pre ++ [x]).map Fin.val)) := by
      refine ⟨?_, ?_, ?_⟩
      · have := hS.rows.set x.val (-1)
        rw [selS_set] at this
        simpa using this
      · exact (Below.heap_setCell _ _ _ _ hne).trans hS.box
      · exact hS.below.setCell (p := ⟨g, x.val, none⟩) (by show w.heap.size ≤ g; have := HG.out; omega) _
    have hko := KeepsOthers.setCell W1 ⟨g, x.val, none⟩ (.int .i64 (-1))
    have hkb : KB (w1.heap.size + 1) W1 (W1.setCell ⟨g, x.val, none⟩ (.int .i64 (-1))) := Below.heap_setCell _ ⟨g, x.val, none⟩ _ _ (by show w1.heap.size + 1 ≠ g; omega)
    have HST := Lib.hid hst
    have HKO := Lib.hid hko
    have HKB := Lib.hid hkb
    clear hst hko hkb hS hoo hne hS0 hB0 hs hRs
    generalize (selS n (pre.map Fin.val)).getD x.val 0 = o1 at *
    have hx0 : (0 : Int) ≤ ((x.val : Nat) : Int) := by omega
    have hx1 : ((x.val : Nat) : Int) < (n : Int) := by have := x.isLt; omega
    gi_wp2
    exact ⟨HKO.out, HKB.out, HST.out⟩
  case done =>
    rintro D ys W1 hD rfl hS hK
    have c1 := hS.box.cell
    have HS := Lib.hid hS
    clear hS
    gi_wp2
    refine ⟨by simp, .inl ⟨_, _, rfl, run_takeDeferred hK, ?_⟩⟩
    refine ⟨.slice (some ⟨g, 0, none⟩) n n, by simp [results, Tryd.results89, go_sem], ?_⟩
    have hkc : KC W1 (W1.putObj D (.deferred none)) := KC.of (grownBy_putObj' W1 D (.deferred none)) (fun r e => by cases e; exact ⟨_, hK, rfl⟩)
    have hbw : Below w.heap.size W1 (W1.putObj D (.deferred none)) := belowK_b (w := w) (Nat.le_refl _) W1 D _ _ (by omega) hK rfl rfl
    exact ⟨_, rfl, hkc.freshI HS.out.rows, HS.out.below.trans hbw⟩
  case stop =>
    rintro D c pre W _ _ h _
    exact h.elim
end Go.Proofs.YtopokicejgjcoaaDoor.PW
