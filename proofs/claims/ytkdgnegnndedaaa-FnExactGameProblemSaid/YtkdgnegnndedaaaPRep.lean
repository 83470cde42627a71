/-
  Walks: a list that repeats one number (slices.Repeat).
-/
import Derived.Test.YtkdgnegnndedaaaPPt
namespace Go.Proofs.Ytkdgnegnndedaaa.PW
open Go.RowKit Go.Proofs.Ytkdgnegnndedaaa
open Go.Proofs.Ytkdgnegnndedaaa.PM Go.Proofs.Ytkdgnegnndedaaa.PX

theorem rmul64_any (n : Nat) (h1 : 1 ≤ n) (h5 : n ≤ 5) (w : World) : Calls Try.prog 138 #[.int .u64 1, .int .u64 n] w fun e w' => e = .returned (.tuple #[.int .u64 0, .int .u64 n]) ∧ w = w' := by
  obtain rfl | rfl | rfl | rfl | rfl : n = 1 ∨ n = 2 ∨ n = 3 ∨ n = 4 ∨ n = 5 := by omega
  all_goals
    go_enter Try.func138, Try.ntmps138
    go_wp2
    go_ret2
    exact ⟨rfl, rfl⟩
theorem rmul_any (n : Nat) (h1 : 1 ≤ n) (h5 : n ≤ 5) (w : World) : Calls Try.prog 119 #[.int .u64 1, .int .u64 n] w fun e w' => e = .returned (.tuple #[.int .u64 0, .int .u64 n]) ∧ w = w' := by
  go_enter Try.func119, Try.ntmps119
  go_wp2_with fail
  refine (rmul64_any n h1 h5 _).mono ?_
  rintro e w' ⟨rfl, rfl⟩
  go_wp2_with fail
  go_ret2
  exact ⟨rfl, rfl⟩

/-- Elements of one cell are copied: all is read before anything is written. -/
theorem run_copy_ones {P : Program} (w : World) (dT sT ty elem : TypeId) (b o dLen dCap : Nat) (a : Addr) (sLen sCap : Nat) (cs : List Value)
    (hu : P.underlying dT = some (.slice elem)) (hs : (P.info? elem).map (·.size) = some 1) (hn : cs.length = Nat.min sLen dLen)
    (hsrc : ∀ j v, cs[j]? = some v → w.cell? (a.add j) = some v) (hc : ∀ j, j < cs.length → (w.cell? ⟨b, o + j, none⟩).isSome = true) (hf : ∀ j, j < cs.length → w.frozen? ⟨b, o + j, none⟩ = false) (h1 : ∀ v ∈ cs, v.oneCell' = true) :
    (Builtin.copy_ #[dT, sT] ty #[.slice (some ⟨b, o, none⟩) dLen dCap, .slice (some a) sLen sCap]).run P w = .ok (goInt (Nat.min sLen dLen)) (w.setCells b o cs) := by
  have hl := run_loadCells_list (P := P) w a cs hsrc
  have hst := run_storeCells_cells (P := P) b o cs 0 w (by simpa using hc) (by simpa using hf) h1
  cases hq : P.info? elem with
  | none => simp [hq] at hs
  | some i =>
    have hi : i.size = 1 := by simpa [hq] using hs
    simp [Builtin.copy_, run_underlying hu, Builtin.lenOf, Builtin.firstCells, sizeOf, typeInfo, hq, hi, ← hn, hl, hst]
theorem wpList_copy_ones {P : Program} {w : World} {ops : Array Oper} {rest : List Oper} {o : Oper} {a : Act} {Q : Exit → Act → World → Prop} (hgd : o.guard = none) (d s : Operand) (dT sT : TypeId)
    (ho : o.op = .call { callee := .builtin .copy, args := #[d, s], argTypes := #[dT, sT] }) (elem : TypeId) (hu : P.underlying dT = some (.slice elem)) (hsz : (P.info? elem).map (·.size) = some 1)
    (g off dLen dCap : Nat) (ad : Addr) (sLen sCap : Nat) (hd : a.eval d = .slice (some ⟨g, off, none⟩) dLen dCap) (hs : a.eval s = .slice (some ad) sLen sCap)
    (c : Nat) (hmc : Nat.min sLen dLen = c) (cs : List Value) (hn : cs.length = c)
    (hsrc : ∀ j v, cs[j]? = some v → w.cell? (ad.add j) = some v) (hc : ∀ j, j < cs.length → (w.cell? ⟨g, off + j, none⟩).isSome = true) (hf : ∀ j, j < cs.length → w.frozen? ⟨g, off + j, none⟩ = false) (h1 : ∀ v ∈ cs, v.oneCell' = true)
    (h : wpList P ops Q rest (a.put o.dst (.int .i64 c)) (w.setCells g off cs)) : wpList P ops Q (o :: rest) a w := by
  subst hmc
  refine wpList_plain hgd fun K hK => ?_
  have hrun := run_copy_ones (P := P) w dT sT o.type elem g off dLen dCap ad sLen sCap cs hu hsz hn hsrc hc hf h1
  unfold Oper.wp
  simp [execOp, ho, resolve, invoke, builtin, hd, hs, hrun, Result.andThen]
  exact hK _ _ h
/-- The same as one step of a region that draws its order. -/
theorem step_copy_ones {P : Program} {ops : Array Oper} {o : Oper} {a : Act} {w : World} {K : Act → World → Prop} {Q : Exit → Act → World → Prop} {E : Prop} (hgd : o.guard = none) (d s : Operand) (dT sT : TypeId)
    (ho : o.op = .call { callee := .builtin .copy, args := #[d, s], argTypes := #[dT, sT] }) (elem : TypeId) (hu : P.underlying dT = some (.slice elem)) (hsz : (P.info? elem).map (·.size) = some 1)
    (dp : Option Addr) (g off dLen dCap : Nat) (ad : Addr) (sLen sCap : Nat) (hd : a.eval d = .slice dp dLen dCap) (hs : a.eval s = .slice (some ad) sLen sCap) (hdp : dp = some ⟨g, off, none⟩)
    (c : Nat) (hmc : Nat.min sLen dLen = c) (cs : List Value) (hn : cs.length = c)
    (hsrc : ∀ j v, cs[j]? = some v → w.cell? (ad.add j) = some v) (hc : ∀ j, j < cs.length → (w.cell? ⟨g, off + j, none⟩).isSome = true) (hf : ∀ j, j < cs.length → w.frozen? ⟨g, off + j, none⟩ = false) (h1 : ∀ v ∈ cs, v.oneCell' = true)
    (h : K (a.put o.dst (.int .i64 c)) (w.setCells g off cs)) : if Region.wanted o (yielded ops a.tmps) = true then Oper.wp P o a w K Q else E := by
  have hw : Region.wanted o (yielded ops a.tmps) = true := by simp [Region.wanted, hgd]
  rw [if_pos hw]
  subst hmc
  subst hdp
  have hrun := run_copy_ones (P := P) w dT sT o.type elem g off dLen dCap ad sLen sCap cs hu hsz hn hsrc hc hf h1
  unfold Oper.wp
  simp [execOp, ho, resolve, invoke, builtin, hd, hs, hrun, Result.andThen]
  exact h
def cst (x : Int) : Nat → Int := fun _ => x
theorem fill_length (n m : Nat) (F : Nat → Int) : (fillI n m F).length = n := by simp [fillI]
theorem FreshI.ones1 {B g n m cap : Nat} {w : World} {x : Int} (h : FreshI B w (.slice (some ⟨g, 0, none⟩) n cap) (fillI n m (cst x))) :
    FreshI B (w.setCells g m [.int .i64 x]) (.slice (some ⟨g, 0, none⟩) n cap) (fillI n (m + 1) (cst x)) := by
  have := h.set m x
  have e := fillI_set n m (cst x)
  rw [show (cst x m) = x from rfl] at e
  rw [e] at this
  exact this
theorem FreshI.ones2 {B g n m cap : Nat} {w : World} {x : Int} (h : FreshI B w (.slice (some ⟨g, 0, none⟩) n cap) (fillI n m (cst x))) :
    FreshI B (w.setCells g m [.int .i64 x, .int .i64 x]) (.slice (some ⟨g, 0, none⟩) n cap) (fillI n (m + 2) (cst x)) := h.ones1.ones1
theorem rbelow_setCells {B g : Nat} {w0 : World} (hg : B ≤ g) : ∀ (cs : List Value) (o : Nat) (w : World), Below B w0 w → Below B w0 (w.setCells g o cs)
  | [], _, _, h => h
  | v :: r, o, _, h => rbelow_setCells hg r (o + 1) _ (h.setCell (p := ⟨g, o, none⟩) hg v)
theorem own_fill {B g n m cap : Nat} {w : World} {F : Nat → Int} (h : FreshI B w (.slice (some ⟨g, 0, none⟩) n cap) (fillI n m F)) : OwnI w (.slice (some ⟨g, 0, none⟩) n cap) (fillI n m F) := by
  obtain ⟨_, _, _, _, _, ho⟩ := h
  exact ho
theorem ones_have {B g n m cap : Nat} {w : World} {x : Int} (h : FreshI B w (.slice (some ⟨g, 0, none⟩) n cap) (fillI n m (cst x))) {i : Nat} (hi : i < n) (him : i < m) : w.cell? ⟨g, i, none⟩ = some (.int .i64 x) := by
  have e : (fillI n m (cst x)).getD i 0 = x := by simp [fillI, hi, him, cst]
  rw [own_cellN (own_fill h) (fill_length _ _ _).symm hi, e]
theorem ones_some {B g n m cap : Nat} {w : World} {x : Int} (h : FreshI B w (.slice (some ⟨g, 0, none⟩) n cap) (fillI n m (cst x))) {i : Nat} (hi : i < n) : (w.cell? ⟨g, i, none⟩).isSome = true := by
  rw [own_cellN (own_fill h) (fill_length _ _ _).symm hi]; rfl
theorem ones_frozen {B g n m cap : Nat} {w : World} {x : Int} (h : FreshI B w (.slice (some ⟨g, 0, none⟩) n cap) (fillI n m (cst x))) (i : Nat) : w.frozen? ⟨g, i, none⟩ = false := own_frozenN (own_fill h) (fill_length _ _ _).symm i
theorem info_int1 : (Try.prog.info? 2).map (·.size) = some 1 := by kernel_rfl

set_option maxRecDepth 100000 in
set_option maxHeartbeats 2000000 in
theorem repeatI_any (n g c : Nat) (x : Int) (w : World) (h1 : 1 ≤ n) (h5 : n ≤ 5) (hg : g < w.heap.size) (c0 : w.cell? ⟨g, 0, none⟩ = some (.int .i64 x)) :
    Calls Try.prog 82 #[.slice (some ⟨g, 0, none⟩) 1 c, .int .i64 n] w fun e w' => e = .returned (.slice (some ⟨w.heap.size, 0, none⟩) n n) ∧ FreshI w.heap.size w' (.slice (some ⟨w.heap.size, 0, none⟩) n n) (List.replicate n x) ∧ Below w.heap.size w w' := by
  have hmk := run_make_row' (P := Try.prog) 23 2 (.int .i64 0) 8 Try.underlying23 info_int rfl .i64 .i64 n (by omega) (by omega)
  have hmd := zeros_fresh w n (by unfold maxLen; omega)
  rw [← fillI_zero n (cst x)] at hmd
  have HEND := Lib.hid (show fillI n n (cst x) = List.replicate n x by rw [fillI_all]; apply List.ext_getElem (by simp); intro i h1 h2; simp [cst])
  have HMD := Lib.hid hmd
  have HC0 := Lib.hid c0
  clear hmd c0
  go_enter Try.func82, Try.ntmps82
  go_wp2_with fail
  refine (rmul_any n h1 h5 _).mono ?_
  rintro e w' ⟨rfl, rfl⟩
  obtain ⟨W0, hW0⟩ : ∃ W0, W0 = w.alloc (.cells (madeCells #[.int .i64 0] n) 2) := ⟨_, rfl⟩
  have hb0 : Below w.heap.size w W0 := by rw [hW0]; exact (Below.refl _ _).alloc (Nat.le_refl _) _
  have hF0 : FreshI w.heap.size W0 (.slice (some ⟨w.heap.size, 0, none⟩) n n) (fillI n 0 (cst x)) := by rw [hW0]; exact HMD.out
  have HB0 := Lib.hid hb0
  have HF0 := Lib.hid hF0
  have HW0 := Lib.hid hW0
  clear hb0 hF0 hW0 HMD
  go_wp2_with (with_reducible refine wpList_copy_ones rfl (.tmp 31) (.tmp 32) 23 23 rfl 2 Try.underlying23 info_int1 w.heap.size 0 n n ⟨g, 0, none⟩ 1 c rfl rfl 1 ?_ [.int .i64 x] rfl ?_ ?_ ?_ ?_ ?_)
  · show min 1 n = 1
    omega
  · rw [← HW0.out]
    intro j v hj
    match j, hj with
    | 0, hj =>
      simp at hj; subst hj
      exact (HB0.out.cell (p := ⟨g, 0, none⟩) hg).trans HC0.out
  · rw [← HW0.out]
    intro j hj
    match j, hj with
    | 0, _ => exact ones_some HF0.out (by omega)
  · rw [← HW0.out]
    intro j _
    exact ones_frozen HF0.out _
  · simp [Value.oneCell']
  rw [← HW0.out]
  have HF1 := Lib.hid (HF0.out.ones1)
  have HB1 := Lib.hid (rbelow_setCells (g := w.heap.size) (Nat.le_refl _) [.int .i64 x] 0 _ HB0.out)
  rw [Nat.zero_add] at HF1
  generalize W0.setCells w.heap.size 0 [.int .i64 x] = W1 at *
  clear HW0 HF0 HB0
  go_wp2_with fail
  go_loopw [8] (fun i wr => ∃ m : Nat, i = .int .i64 m ∧ (m = 1 ∨ m = 2 ∨ m = 4 ∨ m = n) ∧ m ≤ n ∧ FreshI w.heap.size wr (.slice (some ⟨w.heap.size, 0, none⟩) n n) (fillI n m (cst x)) ∧ Below w.heap.size w wr) (fun i _ => n - (intOf i).toNat)
  case atStart => exact ⟨1, rfl, .inl rfl, h1, HF1.out, HB1.out⟩
  case round =>
    obtain ⟨m, rfl, hmc, hmn, hO, hB⟩ := hrel
    by_cases hlt : m < n
    · have hO' := hO.below (Below.refl _ _).drew
      have HO := Lib.hid hO'
      have HB := Lib.hid hB.drew
      clear hO hB hO'
      have hm1 : 1 ≤ m := by omega
      have hnm : ¬ n = m := by omega
      by_cases hc : n - m = 1 ∨ m = 1
      · have HST := Lib.hid (HO.out.ones1)
        have HBL := Lib.hid (rbelow_setCells (g := w.heap.size) (Nat.le_refl _) [.int .i64 x] m _ HB.out)
        have HWR := Lib.hid (show IntKind.i64.wrap ((m : Int) + 1) = (m : Int) + 1 from IntWalk.i64_in _ (by omega))
        have k1 := Lib.hid (show Nat.min m (n - m) = 1 by show min m (n - m) = 1; omega)
        have hq0 := ones_have HO.out (i := 0) (by omega) (by omega)
        have hq1 := ones_some HO.out (i := m) (by omega)
        have k2 : Hid (∀ j v, [Value.int .i64 x][j]? = some v → wr.drew.cell? ((⟨w.heap.size, 0, none⟩ : Addr).add j) = some v) := by
          show ∀ j v, _ → _
          intro j v hj
          match j, hj with
          | 0, hj => simp at hj; subst hj; exact hq0
        have k3 : Hid (∀ j, j < [Value.int .i64 x].length → (wr.drew.cell? ⟨w.heap.size, m + j, none⟩).isSome = true) := by
          show ∀ j, _ → _
          intro j hj
          match j, hj with
          | 0, _ => exact hq1
        have k4 : Hid (∀ j, j < [Value.int .i64 x].length → wr.drew.frozen? ⟨w.heap.size, m + j, none⟩ = false) := by
          show ∀ j, _ → _
          intro j _
          exact ones_frozen HO.out _
        have k5 : Hid (∀ v ∈ [Value.int .i64 x], v.oneCell' = true) := by
          show ∀ v ∈ _, _
          simp [Value.oneCell']
        clear hq0 hq1
        go_wp2_with fail
        go_region_law (with_reducible refine step_copy_ones rfl (.tmp 41) (.tmp 44) 23 23 rfl 2 Try.underlying23 info_int1 (some ⟨w.heap.size, m, none⟩) w.heap.size m (n - m) (n - m) ⟨w.heap.size, 0, none⟩ m n ?_ ?_ rfl 1 k1.out [.int .i64 x] rfl k2.out k3.out k4.out k5.out ?_; (focus (simp [go_sem]; done)); (focus (simp [go_sem]; done)))
        all_goals
          go_simp
          rw [HWR.out]
          go_wp2_with fail
          go_roundw
          case rel => exact ⟨m + 1, by go_num, by omega, by omega, HST.out, HBL.out⟩
          case measure => simp [intOf]; omega
      · have hc2 : m + 1 < n := by omega
        have HST := Lib.hid (HO.out.ones2)
        have HBL := Lib.hid (rbelow_setCells (g := w.heap.size) (Nat.le_refl _) [.int .i64 x, .int .i64 x] m _ HB.out)
        have HWR := Lib.hid (show IntKind.i64.wrap ((m : Int) + 2) = (m : Int) + 2 from IntWalk.i64_in _ (by omega))
        have k1 := Lib.hid (show Nat.min m (n - m) = 2 by show min m (n - m) = 2; omega)
        have hq0 := ones_have HO.out (i := 0) (by omega) (by omega)
        have hq2 := ones_have HO.out (i := 1) (by omega) (by omega)
        have hq1 := ones_some HO.out (i := m) (by omega)
        have hq3 := ones_some HO.out (i := m + 1) (by omega)
        have k2 : Hid (∀ j v, [Value.int .i64 x, Value.int .i64 x][j]? = some v → wr.drew.cell? ((⟨w.heap.size, 0, none⟩ : Addr).add j) = some v) := by
          show ∀ j v, _ → _
          intro j v hj
          match j, hj with
          | 0, hj => simp at hj; subst hj; exact hq0
          | 1, hj => simp at hj; subst hj; exact hq2
        have k3 : Hid (∀ j, j < [Value.int .i64 x, Value.int .i64 x].length → (wr.drew.cell? ⟨w.heap.size, m + j, none⟩).isSome = true) := by
          show ∀ j, _ → _
          intro j hj
          match j, hj with
          | 0, _ => exact hq1
          | 1, _ => exact hq3
        have k4 : Hid (∀ j, j < [Value.int .i64 x, Value.int .i64 x].length → wr.drew.frozen? ⟨w.heap.size, m + j, none⟩ = false) := by
          show ∀ j, _ → _
          intro j _
          exact ones_frozen HO.out _
        have k5 : Hid (∀ v ∈ [Value.int .i64 x, Value.int .i64 x], v.oneCell' = true) := by
          show ∀ v ∈ _, _
          simp [Value.oneCell']
        clear hq0 hq1 hq2 hq3
        go_wp2_with fail
        go_region_law (with_reducible refine step_copy_ones rfl (.tmp 41) (.tmp 44) 23 23 rfl 2 Try.underlying23 info_int1 (some ⟨w.heap.size, m, none⟩) w.heap.size m (n - m) (n - m) ⟨w.heap.size, 0, none⟩ m n ?_ ?_ rfl 2 k1.out [.int .i64 x, .int .i64 x] rfl k2.out k3.out k4.out k5.out ?_; (focus (simp [go_sem]; done)); (focus (simp [go_sem]; done)))
        all_goals
          go_simp
          rw [HWR.out]
          go_wp2_with fail
          go_roundw
          case rel => exact ⟨m + 2, by go_num, by omega, by omega, HST.out, HBL.out⟩
          case measure => simp [intOf]; omega
    · obtain rfl : m = n := by omega
      rw [HEND.out] at hO
      have HO := Lib.hid hO
      have HB := Lib.hid hB
      clear hO hB
      go_wp2_with fail
      go_ret
      exact ⟨rfl, HO.out, HB.out⟩
end Go.Proofs.Ytkdgnegnndedaaa.PW
