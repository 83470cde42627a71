/-
  Walks: the array of an orientation, in the program.
-/
import Derived.Test.YtoglmkjmnknbbaaCTurn
import Derived.Test.YtoglmkjmnknbbaaPRoundB
namespace Go.Proofs.Ytoglmkjmnknbbaa.PW
open Go.RowKit Go.Proofs.Ytoglmkjmnknbbaa
open Go.Proofs.Ytoglmkjmnknbbaa.PM

theorem getD_zeros (O : List Int) (k m : Nat) : (O ++ List.replicate m 0).getD k 0 = O.getD k 0 := by
  simp only [List.getD_eq_getElem?_getD, List.getElem?_append]
  split
  · rfl
  · rename_i h
    rw [List.getElem?_eq_none (l := O) (by omega), List.getElem?_replicate]
    split <;> rfl
theorem OwnI.cellAt {w : World} {g n c : Nat} {xs : List Int} (h : OwnI w (.slice (some ⟨g, 0, none⟩) n c) xs) (k : Nat) (hk : k < xs.length) : w.cell? ⟨g, k, none⟩ = some (.int .i64 (xs.getD k 0)) := by
  obtain ⟨_, h2⟩ := h
  rcases h2 with ⟨h3, _⟩ | ⟨g', cap', cur, hv, _, hg, _, _, _, h6⟩
  · cases h3
  · simp only [Value.slice.injEq, Option.some.injEq, Addr.mk.injEq, and_true] at hv
    obtain ⟨rfl, _, _⟩ := hv
    rw [cell_of_row w g k cur _ _ hg]
    have h7 := congrArg (fun l => l[k]?) h6
    simp only [Nat.mul_one, List.getElem?_take, if_pos hk, List.getElem?_map, Array.getElem?_toList] at h7
    rw [h7, List.getD_eq_getElem?_getD]
    rw [List.getElem?_eq_getElem hk]
    rfl
/-- While the array is made: what has been laid. -/
structure OmR (w w' : World) (b off n c : Nat) (O : List Int) (d2 d3 d4 d7 : Bool) (gz gs g : Nat) : Prop where
  low : Below w.heap.size w w'
  size : w.heap.size + 1 < w'.heap.size
  box : w'.cell? ⟨w.heap.size, 1, none⟩ = some (.slice (some ⟨b, off, none⟩) n c)
  res : Arr w' (w.heap.size + 1) (fun j => cond d7 (O.getD j 0) 0)
  zs : d2 = true → w.heap.size + 1 < gz ∧ gz < w'.heap.size ∧ ∀ k, k < 32 → w'.cell? ⟨gz, 0 + k, none⟩ = some (.int .i64 0)
  two : d3 = true → w.heap.size + 1 < gs ∧ gs < w'.heap.size ∧ w'.cell? ⟨gs, 0, none⟩ = some (.slice (some ⟨b, off, none⟩) n c) ∧ w'.cell? ⟨gs, 1, none⟩ = some (.slice (some ⟨gz, 0, none⟩) 32 32)
  cat : d4 = true → w.heap.size + 1 < g ∧ g < w'.heap.size ∧ ∀ k, k < 32 → w'.cell? ⟨g, k, none⟩ = some (.int .i64 (O.getD k 0))
theorem OmR.keep {w w' w'' : World} {b off n c : Nat} {O : List Int} {d2 d3 d4 d7 : Bool} {gz gs g : Nat} (h : OmR w w' b off n c O d2 d3 d4 d7 gz gs g) (hb : Below w'.heap.size w' w'') : OmR w w'' b off n c O d2 d3 d4 d7 gz gs g := by
  have hs := h.size
  have hz := hb.size
  refine ⟨h.low.trans (hb.mono h.low.size), by omega, (hb.cell (p := ⟨w.heap.size, 1, none⟩) (by show w.heap.size < _; omega)).trans h.box, h.res.below hb (by omega), fun e => ?_, fun e => ?_, fun e => ?_⟩
  · obtain ⟨a1, a2, a3⟩ := h.zs e
    exact ⟨a1, by omega, fun k hk => (hb.cell (p := ⟨gz, 0 + k, none⟩) a2).trans (a3 k hk)⟩
  · obtain ⟨a1, a2, a3, a4⟩ := h.two e
    exact ⟨a1, by omega, (hb.cell (p := ⟨gs, 0, none⟩) a2).trans a3, (hb.cell (p := ⟨gs, 1, none⟩) a2).trans a4⟩
  · obtain ⟨a1, a2, a3⟩ := h.cat e
    exact ⟨a1, by omega, fun k hk => (hb.cell (p := ⟨g, k, none⟩) a2).trans (a3 k hk)⟩
theorem OmR.start_ (w : World) (b off n c : Nat) (D : Int) (O : List Int) :
    OmR w (((w.alloc (.cells #[.int .i64 D, .slice (some ⟨b, off, none⟩) n c] 59)).alloc (.cells (arrC fun _ => 0) 119)).drew) b off n c O false false false false 0 0 0 := by
  refine ⟨((((Below.refl _ _).alloc (Nat.le_refl _) _).alloc (by simp) _).drew), by simp, ?_, ?_, fun e => (by cases e), fun e => (by cases e), fun e => (by cases e)⟩
  · show ((w.alloc _).alloc _).cell? _ = _
    rw [World.cell?_alloc_lt _ _ ⟨w.heap.size, 1, none⟩ (by simp), World.cell?_alloc_new]
    rfl
  · have := heap_alloc_new (w.alloc (.cells #[.int .i64 D, .slice (some ⟨b, off, none⟩) n c] 59)) (.cells (arrC fun _ => 0) 119)
    rw [World.size_alloc] at this
    exact this
theorem arr_cells (w' : World) (f : Nat → Int) (t : TypeId) (k : Nat) (hk : k < 32) : (w'.alloc (.cells (arrC f) t)).cell? ⟨w'.heap.size, k, none⟩ = some (.int .i64 (f k)) := by
  rw [World.cell?_alloc_new]
  exact arrC_at f k hk
theorem OmR.make_ {w w' : World} {b off n c : Nat} {O : List Int} {d4 d7 : Bool} {gz gs g : Nat} (h : OmR w w' b off n c O false false d4 d7 gz gs g) :
    OmR w (w'.alloc (.cells (arrC fun _ => 0) 2)) b off n c O true false d4 d7 w'.heap.size gs g := by
  have hk := h.keep (w'' := w'.alloc (.cells (arrC fun _ => 0) 2)) ((Below.refl _ _).alloc (Nat.le_refl _) _)
  exact ⟨hk.low, hk.size, hk.box, hk.res, fun _ => ⟨h.size, by simp, fun k hk => by rw [Nat.zero_add]; exact arr_cells _ _ _ k hk⟩, fun e => (by cases e), hk.cat⟩
theorem OmR.build_ {w w' : World} {b off n c : Nat} {O : List Int} {d4 d7 : Bool} {gz gs g : Nat} (h : OmR w w' b off n c O true false d4 d7 gz gs g) :
    OmR w (w'.alloc (.cells #[.slice (some ⟨b, off, none⟩) n c, .slice (some ⟨gz, 0, none⟩) 32 32] 23)) b off n c O true true d4 d7 gz w'.heap.size g := by
  have hk := h.keep (w'' := w'.alloc (.cells #[.slice (some ⟨b, off, none⟩) n c, .slice (some ⟨gz, 0, none⟩) 32 32] 23)) ((Below.refl _ _).alloc (Nat.le_refl _) _)
  exact ⟨hk.low, hk.size, hk.box, hk.res, hk.zs, fun _ => ⟨h.size, by simp, by rw [World.cell?_alloc_new]; rfl, by rw [World.cell?_alloc_new]; rfl⟩, hk.cat⟩
theorem OmR.concat {w w' : World} {b off n c : Nat} {O : List Int} {d4 d7 : Bool} {gz gs g : Nat} (h : OmR w w' b off n c O true true d4 d7 gz gs g)
    (ho : n = O.length ∧ 1 ≤ n ∧ n ≤ 32 ∧ b < w.heap.size ∧ ∀ k, k < n → w.cell? ⟨b, off + k, none⟩ = some (.int .i64 (O.getD k 0))) :
    Calls Try.prog 108 #[.slice (some ⟨gs, 0, none⟩) 2 2] w' fun e w'' => ∃ g cap, e = .returned (.slice (some ⟨g, 0, none⟩) (n + 32) cap) ∧ FreshI w'.heap.size w'' (.slice (some ⟨g, 0, none⟩) (n + 32) cap) (O ++ List.replicate 32 0) ∧ Below w'.heap.size w' w'' := by
  obtain ⟨h1, h2, h3, h4, h5⟩ := ho
  obtain ⟨a1, a2, a3⟩ := h.zs rfl
  obtain ⟨b1, b2, b3, b4⟩ := h.two rfl
  have hz := h.low.size
  exact concat_two gs b off c gz 0 32 n 32 O (List.replicate 32 0) w' h1 (by simp) h2 (by omega) (by decide) (by decide) (by omega) (fun k hk => (h.low.cell (p := ⟨b, off + k, none⟩) h4).trans (h5 k hk)) a2
    (fun k hk => by rw [a3 k hk, List.getD_eq_getElem?_getD, List.getElem?_replicate, if_pos hk]; rfl) b2 b3 b4
theorem OmR.call_ {w w' w'' : World} {b off n c : Nat} {O : List Int} {d2 d3 d7 : Bool} {gz gs g y yc : Nat} (h : OmR w w' b off n c O d2 d3 false d7 gz gs g) (hf : FreshI w'.heap.size w'' (.slice (some ⟨y, 0, none⟩) (n + 32) yc) (O ++ List.replicate 32 0)) (hb : Below w'.heap.size w' w'') (hl : n = O.length) :
    OmR w w'' b off n c O d2 d3 true d7 gz gs y := by
  have hk := h.keep hb
  obtain ⟨g', cap', hv, f1, f2, f3⟩ := hf
  simp only [Value.slice.injEq, Option.some.injEq, Addr.mk.injEq, and_true] at hv
  obtain ⟨rfl, _, _⟩ := hv
  have hs := h.size
  refine ⟨hk.low, hk.size, hk.box, hk.res, hk.zs, hk.two, fun _ => ⟨by omega, f2, fun k hk' => ?_⟩⟩
  rw [OwnI.cellAt f3 k (by simp; omega), getD_zeros]
theorem OmR.load {w w' : World} {b off n c : Nat} {O : List Int} {d2 d3 d4 d7 : Bool} {gz gs g : Nat} (h : OmR w w' b off n c O d2 d3 d4 d7 gz gs g) (e : d4 = true) :
    (Instr.loadAt 119 (.pointer (some ⟨g, 0, none⟩))).run Try.prog w' = .ok (.agg (arrC fun j => O.getD j 0)) w' := by
  obtain ⟨a1, a2, a3⟩ := h.cat e
  have hl : (loadCells ⟨g, 0, none⟩ 32).run Try.prog w' = .ok (arrC fun j => O.getD j 0) w' := by
    have := run_loadCells_list (P := Try.prog) w' ⟨g, 0, none⟩ (arrC fun j => O.getD j 0).toList (fun j v hv => by
      have hadd : (⟨g, 0, none⟩ : Addr).add j = ⟨g, j, none⟩ := by unfold Addr.add; split <;> simp_all
      have hj : j < 32 := by
        rcases Nat.lt_or_ge j 32 with h' | h'
        · exact h'
        · rw [List.getElem?_eq_none (by simp [arrC_size]; exact h')] at hv; cases hv
      rw [hadd, a3 j hj, ← arrC_at (fun j => O.getD j 0) j hj]
      simpa using hv)
    simpa [arrC_size] using this
  have hi := info_arr
  cases hq : Try.prog.info? 119 with
  | none => simp [hq] at hi
  | some i =>
    have hs : i.size = 32 := by simpa [hq] using hi
    have hagg : (isAgg 119).run Try.prog w' = .ok true w' := by
      unfold isAgg
      rw [Sem.run_bind, run_underlying Try.underlying119 w']
      rfl
    simp [Instr.loadAt, Instr.sureAddr, loadVar, Sem.run_bind, hagg, sizeOf, typeInfo, hq, hs, hl]
theorem OmR.store {w w' : World} {b off n c : Nat} {O : List Int} {d2 d3 d4 d7 : Bool} {gz gs g : Nat} (h : OmR w w' b off n c O d2 d3 d4 d7 gz gs g) (f : Nat → Int) :
    (Instr.storeAt 119 (.pointer (some ⟨w.heap.size + 1, 0, none⟩)) (.agg (arrC f))).run Try.prog w' = .ok () (w'.setRow (w.heap.size + 1) (arrC f)) := by
  have := run_storeVar_row (P := Try.prog) w' (w.heap.size + 1) 119 119 _ (arrC f) h.res (by rw [arrC_size]; exact info_arr) (by rw [arrC_size, arrC_size]) (by simp [arrC, Value.oneCell'])
  simp only [Instr.storeAt, Instr.sureAddr, Sem.run_bind, Sem.run_pure, Result.andThen_ok, this]
theorem OmR.store_ {w w' : World} {b off n c : Nat} {O : List Int} {d2 d3 d4 : Bool} {gz gs g : Nat} (h : OmR w w' b off n c O d2 d3 d4 false gz gs g) :
    OmR w (w'.setRow (w.heap.size + 1) (arrC fun j => O.getD j 0)) b off n c O d2 d3 d4 true gz gs g := by
  have hs := h.size
  refine ⟨h.low.trans ⟨rfl, rfl, rfl, by simp [World.setRow], fun k hk => setRow_other _ _ _ _ (by omega)⟩, by simpa using hs, ?_, setRow_heap _ _ _ _ _ _ h.res, fun e => ?_, fun e => ?_, fun e => ?_⟩
  · rw [cell_setRow_other _ _ _ _ (by show w.heap.size ≠ _; omega)]; exact h.box
  · obtain ⟨a1, a2, a3⟩ := h.zs e
    exact ⟨a1, by simpa using a2, fun k hk => by rw [cell_setRow_other _ _ _ _ (by show gz ≠ _; omega)]; exact a3 k hk⟩
  · obtain ⟨a1, a2, a3, a4⟩ := h.two e
    exact ⟨a1, by simpa using a2, by rw [cell_setRow_other _ _ _ _ (by show gs ≠ _; omega)]; exact a3, by rw [cell_setRow_other _ _ _ _ (by show gs ≠ _; omega)]; exact a4⟩
  · obtain ⟨a1, a2, a3⟩ := h.cat e
    exact ⟨a1, by simpa using a2, fun k hk => by rw [cell_setRow_other _ _ _ _ (by show g ≠ _; omega)]; exact a3 k hk⟩
end Go.Proofs.Ytoglmkjmnknbbaa.PW
namespace Go.Proofs.Ytoglmkjmnknbbaa.PR
open Go.RowKit Go.Proofs.Ytoglmkjmnknbbaa
attribute [local go_sem] Oper.semAt_some
variable {F : Fence} {n : Nat} {P : Program} {ops : Array Oper} {Q : Exit → Act → World → Prop}
/-- A load of a whole array inside a region that draws its order. -/
theorem stepIn_load_row (w : World) {o : Oper} {a : Act} {K : Act → World → Prop} {E : Prop} (hg : o.guard = none) (ty : TypeId) (x : Operand) (hop : o.op = .load ty x) (p v : Value) (hx : a.eval x = p)
    (hrun : (Instr.loadAt ty p).run P w = .ok v w) (hK : K (a.put o.dst v) w) :
    if Region.wanted o (yielded ops a.tmps) = true then Oper.wpIn F n P o a w K Q else E := by
  have hw : Region.wanted o (yielded ops a.tmps) = true := by simp [Region.wanted, hg]
  rw [if_pos hw]
  unfold Oper.wpIn
  refine ⟨?_, ?_⟩
  · simp [Oper.about, hop]
  · rw [Oper.semAt_plain F _ _ (by rw [hop]; intro c hc'; cases hc')]
    simp [execOp, hop, hx, hrun, Result.andThen]
    exact hK
/-- A store of a whole array inside a region that draws its order. -/
theorem stepIn_store_row (w w' : World) {o : Oper} {a : Act} {K : Act → World → Prop} {E : Prop} (hg : o.guard = none) (ty : TypeId) (x y : Operand) (hop : o.op = .store ty x y) (p v : Value) (hx : a.eval x = p) (hy : a.eval y = v)
    (hrun : (Instr.storeAt ty p v).run P w = .ok () w') (hK : K (a.put o.dst undef) w') :
    if Region.wanted o (yielded ops a.tmps) = true then Oper.wpIn F n P o a w K Q else E := by
  have hw : Region.wanted o (yielded ops a.tmps) = true := by simp [Region.wanted, hg]
  rw [if_pos hw]
  unfold Oper.wpIn
  refine ⟨?_, ?_⟩
  · simp [Oper.about, hop]
  · rw [Oper.semAt_plain F _ _ (by rw [hop]; intro c hc'; cases hc')]
    simp [execOp, hop, hx, hy, hrun, Result.andThen]
    exact hK
end Go.Proofs.Ytoglmkjmnknbbaa.PR
