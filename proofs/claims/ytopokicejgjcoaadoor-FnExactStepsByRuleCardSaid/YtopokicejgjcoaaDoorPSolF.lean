/-
  Walks: a list that repeats one fraction; the solution from the point of a set, in the program; the exact law of SolutionOfSet.
-/
import Derived.Test.YtopokicejgjcoaaDoorPNonA
import Derived.Test.YtopokicejgjcoaaDoorPRoundB
namespace Go.Proofs.YtopokicejgjcoaaDoor.PW
open Go.RowKit Go.Proofs.YtopokicejgjcoaaDoor
open Go.Proofs.YtopokicejgjcoaaDoor.PM Go.Proofs.YtopokicejgjcoaaDoor.PX

theorem mul64_any (n : Nat) (h1 : 1 ≤ n) (h5 : n ≤ 5) (w : World) : Calls Tryd.prog 150 #[.int .u64 1, .int .u64 n] w fun e w' => e = .returned (.tuple #[.int .u64 0, .int .u64 n]) ∧ w = w' := by
  obtain rfl | rfl | rfl | rfl | rfl : n = 1 ∨ n = 2 ∨ n = 3 ∨ n = 4 ∨ n = 5 := by omega
  all_goals
    go_enter Tryd.func150, Tryd.ntmps150
    go_wp2
    go_ret2
    exact ⟨rfl, rfl⟩
theorem mul_any (n : Nat) (h1 : 1 ≤ n) (h5 : n ≤ 5) (w : World) : Calls Tryd.prog 143 #[.int .u64 1, .int .u64 n] w fun e w' => e = .returned (.tuple #[.int .u64 0, .int .u64 n]) ∧ w = w' := by
  go_enter Tryd.func143, Tryd.ntmps143
  go_wp2_with fail
  refine (mul64_any n h1 h5 _).mono ?_
  rintro e w' ⟨rfl, rfl⟩
  go_wp2_with fail
  go_ret2
  exact ⟨rfl, rfl⟩

/-- Elements of two cells are copied: all is read before anything is written. -/
theorem run_copy_pairs {P : Program} (w : World) (dT sT ty elem : TypeId) (b o dLen dCap : Nat) (a : Addr) (sLen sCap : Nat) (cs : List Value)
    (hu : P.underlying dT = some (.slice elem)) (hs : (P.info? elem).map (·.size) = some 2) (hn : cs.length = Nat.min sLen dLen * 2)
    (hsrc : ∀ j v, cs[j]? = some v → w.cell? (a.add j) = some v) (hc : ∀ j, j < cs.length → (w.cell? ⟨b, o + j, none⟩).isSome = true) (hf : ∀ j, j < cs.length → w.frozen? ⟨b, o + j, none⟩ = false) (h1 : ∀ v ∈ cs, v.oneCell' = true) :
    (Builtin.copy_ #[dT, sT] ty #[.slice (some ⟨b, o, none⟩) dLen dCap, .slice (some a) sLen sCap]).run P w = .ok (goInt (Nat.min sLen dLen)) (w.setCells b o cs) := by
  have hl := run_loadCells_list (P := P) w a cs hsrc
  have hst := run_storeCells_cells (P := P) b o cs 0 w (by simpa using hc) (by simpa using hf) h1
  cases hq : P.info? elem with
  | none => simp [hq] at hs
  | some i =>
    have hi : i.size = 2 := by simpa [hq] using hs
    simp [Builtin.copy_, run_underlying hu, Builtin.lenOf, Builtin.firstCells, sizeOf, typeInfo, hq, hi, ← hn, hl, hst]
theorem wpList_copy_pairs {P : Program} {w : World} {ops : Array Oper} {rest : List Oper} {o : Oper} {a : Act} {Q : Exit → Act → World → Prop} (hgd : o.guard = none) (d s : Operand) (dT sT : TypeId)
    (ho : o.op = .call { callee := .builtin .copy, args := #[d, s], argTypes := #[dT, sT] }) (elem : TypeId) (hu : P.underlying dT = some (.slice elem)) (hsz : (P.info? elem).map (·.size) = some 2)
    (g off dLen dCap : Nat) (ad : Addr) (sLen sCap : Nat) (hd : a.eval d = .slice (some ⟨g, off, none⟩) dLen dCap) (hs : a.eval s = .slice (some ad) sLen sCap)
    (c : Nat) (hmc : Nat.min sLen dLen = c) (cs : List Value) (hn : cs.length = c * 2)
    (hsrc : ∀ j v, cs[j]? = some v → w.cell? (ad.add j) = some v) (hc : ∀ j, j < cs.length → (w.cell? ⟨g, off + j, none⟩).isSome = true) (hf : ∀ j, j < cs.length → w.frozen? ⟨g, off + j, none⟩ = false) (h1 : ∀ v ∈ cs, v.oneCell' = true)
    (h : wpList P ops Q rest (a.put o.dst (.int .i64 c)) (w.setCells g off cs)) : wpList P ops Q (o :: rest) a w := by
  subst hmc
  refine wpList_plain hgd fun K hK => ?_
  have hrun := run_copy_pairs (P := P) w dT sT o.type elem g off dLen dCap ad sLen sCap cs hu hsz hn hsrc hc hf h1
  unfold Oper.wp
  simp [execOp, ho, resolve, invoke, builtin, hd, hs, hrun, Result.andThen]
  exact hK _ _ h

/-- The same as one step of a region that draws its order. -/
theorem step_copy_pairs {P : Program} {ops : Array Oper} {o : Oper} {a : Act} {w : World} {K : Act → World → Prop} {Q : Exit → Act → World → Prop} {E : Prop} (hgd : o.guard = none) (d s : Operand) (dT sT : TypeId)
    (ho : o.op = .call { callee := .builtin .copy, args := #[d, s], argTypes := #[dT, sT] }) (elem : TypeId) (hu : P.underlying dT = some (.slice elem)) (hsz : (P.info? elem).map (·.size) = some 2)
    (dp : Option Addr) (g off dLen dCap : Nat) (ad : Addr) (sLen sCap : Nat) (hd : a.eval d = .slice dp dLen dCap) (hs : a.eval s = .slice (some ad) sLen sCap) (hdp : dp = some ⟨g, off, none⟩)
    (c : Nat) (hmc : Nat.min sLen dLen = c) (cs : List Value) (hn : cs.length = c * 2)
    (hsrc : ∀ j v, cs[j]? = some v → w.cell? (ad.add j) = some v) (hc : ∀ j, j < cs.length → (w.cell? ⟨g, off + j, none⟩).isSome = true) (hf : ∀ j, j < cs.length → w.frozen? ⟨g, off + j, none⟩ = false) (h1 : ∀ v ∈ cs, v.oneCell' = true)
    (h : K (a.put o.dst (.int .i64 c)) (w.setCells g off cs)) : if Region.wanted o (yielded ops a.tmps) = true then Oper.wp P o a w K Q else E := by
  have hw : Region.wanted o (yielded ops a.tmps) = true := by simp [Region.wanted, hgd]
  rw [if_pos hw]
  subst hmc
  subst hdp
  have hrun := run_copy_pairs (P := P) w dT sT o.type elem g off dLen dCap ad sLen sCap cs hu hsz hn hsrc hc hf h1
  unfold Oper.wp
  simp [execOp, ho, resolve, invoke, builtin, hd, hs, hrun, Result.andThen]
  exact h
def oneF : Nat → Int × Int := fun _ => (0, 1)
theorem FreshF.cells1 {B g n m cap : Nat} {w : World} (h : FreshF B w (.slice (some ⟨g, 0, none⟩) n cap) (fillF n m oneF)) (hm : m < n) :
    FreshF B (w.setCells g (m * 2) [.int .i64 0, .int .i64 1]) (.slice (some ⟨g, 0, none⟩) n cap) (fillF n (m + 1) oneF) := by
  have := h.set hm 0 1
  have e := fillF_set n m oneF
  rw [show ((oneF m).1, (oneF m).2) = ((0 : Int), (1 : Int)) from rfl] at e
  rw [e] at this
  exact this
theorem FreshF.cells2 {B g n m cap : Nat} {w : World} (h : FreshF B w (.slice (some ⟨g, 0, none⟩) n cap) (fillF n m oneF)) (hm : m + 1 < n) :
    FreshF B (w.setCells g (m * 2) [.int .i64 0, .int .i64 1, .int .i64 0, .int .i64 1]) (.slice (some ⟨g, 0, none⟩) n cap) (fillF n (m + 2) oneF) := by
  have h1 := (h.cells1 (by omega)).cells1 (m := m + 1) hm
  have e : (m + 1) * 2 = m * 2 + 1 + 1 := by omega
  rw [e] at h1
  exact h1
theorem below_setCells {B g : Nat} {w0 : World} (hg : B ≤ g) : ∀ (cs : List Value) (o : Nat) (w : World), Below B w0 w → Below B w0 (w.setCells g o cs)
  | [], _, _, h => h
  | v :: r, o, _, h => below_setCells hg r (o + 1) _ (h.setCell (p := ⟨g, o, none⟩) hg v)
theorem fill_cells {B g n m cap : Nat} {w : World} (h : FreshF B w (.slice (some ⟨g, 0, none⟩) n cap) (fillF n m oneF)) {i : Nat} (hi : i < n) : (w.cell? ⟨g, i * 2, none⟩).isSome = true ∧ (w.cell? ⟨g, i * 2 + 1, none⟩).isSome = true := by
  have ho := h.own
  exact ⟨by rw [ho.cell0 (fillF_length _ _ _).symm hi]; rfl, by rw [ho.cell1 (fillF_length _ _ _).symm hi]; rfl⟩
theorem fill_have {B g n m cap : Nat} {w : World} (h : FreshF B w (.slice (some ⟨g, 0, none⟩) n cap) (fillF n m oneF)) {i : Nat} (hi : i < n) (him : i < m) : w.cell? ⟨g, i * 2, none⟩ = some (.int .i64 0) ∧ w.cell? ⟨g, i * 2 + 1, none⟩ = some (.int .i64 1) := by
  have ho := h.own
  have e : (fillF n m oneF).getD i (0, 0) = (0, 1) := by simp [fillF, hi, him, oneF]
  exact ⟨by rw [ho.cell0 (fillF_length _ _ _).symm hi, e], by rw [ho.cell1 (fillF_length _ _ _).symm hi, e]⟩
theorem info_frac2 : (Tryd.prog.info? 101).map (·.size) = some 2 := by kernel_rfl

set_option maxRecDepth 100000 in
set_option maxHeartbeats 2000000 in
theorem repeat_any (n g c : Nat) (w : World) (h1 : 1 ≤ n) (h5 : n ≤ 5) (hg : g < w.heap.size) (c0 : w.cell? ⟨g, 0, none⟩ = some (.int .i64 0)) (c1 : w.cell? ⟨g, 1, none⟩ = some (.int .i64 1)) :
    Calls Tryd.prog 140 #[.slice (some ⟨g, 0, none⟩) 1 c, .int .i64 n] w fun e w' => e = .returned (.slice (some ⟨w.heap.size, 0, none⟩) n n) ∧ FreshF w.heap.size w' (.slice (some ⟨w.heap.size, 0, none⟩) n n) (fillF n n oneF) ∧ Below w.heap.size w w' := by
  have hmk := make_frac n h5 h1
  have hmd := freshF_made w n h5
  rw [← fillF_zero n oneF] at hmd hmk
  generalize (fcs (fillF n 0 oneF)).toArray = arr at *
  have HMD := Lib.hid hmd
  have HC0 := Lib.hid c0
  have HC1 := Lib.hid c1
  clear hmd c0 c1
  go_enter Tryd.func140, Tryd.ntmps140
  go_wp2_with fail
  refine (mul_any n h1 h5 _).mono ?_
  rintro e w' ⟨rfl, rfl⟩
  obtain ⟨W0, hW0⟩ : ∃ W0, W0 = w.alloc (.cells arr 101) := ⟨_, rfl⟩
  have hb0 : Below w.heap.size w W0 := by rw [hW0]; exact (Below.refl _ _).alloc (Nat.le_refl _) _
  have hF0 : FreshF w.heap.size W0 (.slice (some ⟨w.heap.size, 0, none⟩) n n) (fillF n 0 oneF) := by rw [hW0]; exact HMD.out
  have HB0 := Lib.hid hb0
  have HF0 := Lib.hid hF0
  have HW0 := Lib.hid hW0
  clear hb0 hF0 hW0 HMD
  go_wp2_with (with_reducible refine wpList_copy_pairs rfl (.tmp 31) (.tmp 32) 47 47 rfl 101 Tryd.underlying47 info_frac2 w.heap.size 0 n n ⟨g, 0, none⟩ 1 c rfl rfl 1 ?_ [.int .i64 0, .int .i64 1] rfl ?_ ?_ ?_ ?_ ?_)
  · show min 1 n = 1
    omega
  · rw [← HW0.out]
    intro j v hj
    match j, hj with
    | 0, hj =>
      simp at hj; subst hj
      exact (HB0.out.cell (p := ⟨g, 0, none⟩) hg).trans HC0.out
    | 1, hj =>
      simp at hj; subst hj
      exact (HB0.out.cell (p := ⟨g, 1, none⟩) hg).trans HC1.out
  · rw [← HW0.out]
    have h01 := fill_cells HF0.out (i := 0) (by omega)
    intro j hj
    match j, hj with
    | 0, _ => exact h01.1
    | 1, _ => exact h01.2
  · rw [← HW0.out]
    intro j _
    exact HF0.out.own.frozen (fillF_length _ _ _).symm _
  · simp [Value.oneCell']
  rw [← HW0.out]
  have HF1 := Lib.hid (HF0.out.cells1 (m := 0) (by omega))
  have HB1 := Lib.hid (below_setCells (g := w.heap.size) (Nat.le_refl _) [.int .i64 0, .int .i64 1] (0 * 2) _ HB0.out)
  rw [Nat.zero_mul, Nat.zero_add] at HF1
  rw [Nat.zero_mul] at HB1
  generalize W0.setCells w.heap.size 0 [.int .i64 0, .int .i64 1] = W1 at *
  clear HW0 HF0 HB0
  go_wp2_with fail
  go_loopw [8] (fun i wr => ∃ m : Nat, i = .int .i64 m ∧ (m = 1 ∨ m = 2 ∨ m = 4 ∨ m = n) ∧ m ≤ n ∧ FreshF w.heap.size wr (.slice (some ⟨w.heap.size, 0, none⟩) n n) (fillF n m oneF) ∧ Below w.heap.size w wr) (fun i _ => n - (intOf i).toNat)
  case atStart => exact ⟨1, rfl, .inl rfl, h1, HF1.out, HB1.out⟩
  case round =>
    obtain ⟨m, rfl, hmc, hmn, hO, hB⟩ := hrel
    by_cases hlt : m < n
    · have hO' := hO.below (Below.refl _ _).drew
      have HO := Lib.hid hO'
      have HB := Lib.hid hB.drew
      clear hO hB hO'
      have hm1 : 1 ≤ m := by omega
      have hnm : ¬ n = m := by omega
      by_cases hc : n - m = 1 ∨ m = 1
      · have HST := Lib.hid (HO.out.cells1 hlt)
        have HBL := Lib.hid (below_setCells (g := w.heap.size) (Nat.le_refl _) [.int .i64 0, .int .i64 1] (m * 2) _ HB.out)
        have HWR := Lib.hid (show IntKind.i64.wrap ((m : Int) + 1) = (m : Int) + 1 from IntWalk.i64_in _ (by omega))
        have k1 := Lib.hid (show Nat.min m (n - m) = 1 by show min m (n - m) = 1; omega)
        have hq0 := fill_have HO.out (i := 0) (by omega) (by omega)
        have hq1 := fill_cells HO.out (i := m) (by omega)
        have k2 : Hid (∀ j v, [Value.int .i64 0, Value.int .i64 1][j]? = some v → wr.drew.cell? ((⟨w.heap.size, 0, none⟩ : Addr).add j) = some v) := by
          show ∀ j v, _ → _
          intro j v hj
          match j, hj with
          | 0, hj => simp at hj; subst hj; exact hq0.1
          | 1, hj => simp at hj; subst hj; exact hq0.2
        have k3 : Hid (∀ j, j < [Value.int .i64 0, Value.int .i64 1].length → (wr.drew.cell? ⟨w.heap.size, m * 2 + j, none⟩).isSome = true) := by
          show ∀ j, _ → _
          intro j hj
          match j, hj with
          | 0, _ => exact hq1.1
          | 1, _ => exact hq1.2
        have k4 : Hid (∀ j, j < [Value.int .i64 0, Value.int .i64 1].length → wr.drew.frozen? ⟨w.heap.size, m * 2 + j, none⟩ = false) := by
          show ∀ j, _ → _
          intro j _
          exact HO.out.own.frozen (fillF_length _ _ _).symm _
        have k5 : Hid (∀ v ∈ [Value.int .i64 0, Value.int .i64 1], v.oneCell' = true) := by
          show ∀ v ∈ _, _
          simp [Value.oneCell']
        clear hq0 hq1
        go_wp2_with fail
        go_region_law (with_reducible refine step_copy_pairs rfl (.tmp 41) (.tmp 44) 47 47 rfl 101 Tryd.underlying47 info_frac2 (some ⟨w.heap.size, m * 2, none⟩) w.heap.size (m * 2) (n - m) (n - m) ⟨w.heap.size, 0, none⟩ m n ?_ ?_ rfl 1 k1.out [.int .i64 0, .int .i64 1] rfl k2.out k3.out k4.out k5.out ?_; (focus (simp [go_sem]; done)); (focus (simp [go_sem]; done)))
        all_goals
          go_simp
          rw [HWR.out]
          go_wp2_with fail
          go_roundw
          case rel => exact ⟨m + 1, by go_num, by omega, by omega, HST.out, HBL.out⟩
          case measure => simp [intOf]; omega
      · have hc2 : m + 1 < n := by omega
        have HST := Lib.hid (HO.out.cells2 hc2)
        have HBL := Lib.hid (below_setCells (g := w.heap.size) (Nat.le_refl _) [.int .i64 0, .int .i64 1, .int .i64 0, .int .i64 1] (m * 2) _ HB.out)
        have HWR := Lib.hid (show IntKind.i64.wrap ((m : Int) + 2) = (m : Int) + 2 from IntWalk.i64_in _ (by omega))
        have k1 := Lib.hid (show Nat.min m (n - m) = 2 by show min m (n - m) = 2; omega)
        have hq0 := fill_have HO.out (i := 0) (by omega) (by omega)
        have hq2 := fill_have HO.out (i := 1) (by omega) (by omega)
        have hq1 := fill_cells HO.out (i := m) (by omega)
        have hq3 := fill_cells HO.out (i := m + 1) (by omega)
        rw [show (m + 1) * 2 = m * 2 + 2 by omega] at hq3
        have k2 : Hid (∀ j v, [Value.int .i64 0, Value.int .i64 1, Value.int .i64 0, Value.int .i64 1][j]? = some v → wr.drew.cell? ((⟨w.heap.size, 0, none⟩ : Addr).add j) = some v) := by
          show ∀ j v, _ → _
          intro j v hj
          match j, hj with
          | 0, hj => simp at hj; subst hj; exact hq0.1
          | 1, hj => simp at hj; subst hj; exact hq0.2
          | 2, hj => simp at hj; subst hj; exact hq2.1
          | 3, hj => simp at hj; subst hj; exact hq2.2
        have k3 : Hid (∀ j, j < [Value.int .i64 0, Value.int .i64 1, Value.int .i64 0, Value.int .i64 1].length → (wr.drew.cell? ⟨w.heap.size, m * 2 + j, none⟩).isSome = true) := by
          show ∀ j, _ → _
          intro j hj
          match j, hj with
          | 0, _ => exact hq1.1
          | 1, _ => exact hq1.2
          | 2, _ => exact hq3.1
          | 3, _ => exact hq3.2
        have k4 : Hid (∀ j, j < [Value.int .i64 0, Value.int .i64 1, Value.int .i64 0, Value.int .i64 1].length → wr.drew.frozen? ⟨w.heap.size, m * 2 + j, none⟩ = false) := by
          show ∀ j, _ → _
          intro j _
          exact HO.out.own.frozen (fillF_length _ _ _).symm _
        have k5 : Hid (∀ v ∈ [Value.int .i64 0, Value.int .i64 1, Value.int .i64 0, Value.int .i64 1], v.oneCell' = true) := by
          show ∀ v ∈ _, _
          simp [Value.oneCell']
        clear hq0 hq1 hq2 hq3
        go_wp2_with fail
        go_region_law (with_reducible refine step_copy_pairs rfl (.tmp 41) (.tmp 44) 47 47 rfl 101 Tryd.underlying47 info_frac2 (some ⟨w.heap.size, m * 2, none⟩) w.heap.size (m * 2) (n - m) (n - m) ⟨w.heap.size, 0, none⟩ m n ?_ ?_ rfl 2 k1.out [.int .i64 0, .int .i64 1, .int .i64 0, .int .i64 1] rfl k2.out k3.out k4.out k5.out ?_; (focus (simp [go_sem]; done)); (focus (simp [go_sem]; done)))
        all_goals
          go_simp
          rw [HWR.out]
          go_wp2_with fail
          go_roundw
          case rel => exact ⟨m + 2, by go_num, by omega, by omega, HST.out, HBL.out⟩
          case measure => simp [intOf]; omega
    · obtain rfl : m = n := by omega
      have HO := Lib.hid hO
      have HB := Lib.hid hB
      clear hO hB
      go_wp2_with fail
      go_ret
      exact ⟨rfl, HO.out, HB.out⟩
end Go.Proofs.YtopokicejgjcoaaDoor.PW

namespace Go.Proofs.YtopokicejgjcoaaDoor.PW
open Go.RowKit Go.Proofs.YtopokicejgjcoaaDoor
open Go.Proofs.YtopokicejgjcoaaDoor.PM Go.Proofs.YtopokicejgjcoaaDoor.PX

theorem zeroFrac_any (w : World) : Calls Tryd.prog 141 #[] w fun e w' => e = .returned (.agg #[.int .i64 0, .int .i64 1]) ∧ Below w.heap.size w w' := by
  go_enter Tryd.func141, Tryd.ntmps141
  go_wp2
  refine bodyPost_ret (v := .agg #[.int .i64 0, .int .i64 1]) (by simp [*, results, Tryd.results141, go_sem]) rfl ?_
  refine ⟨rfl, ?_⟩
  (repeat' (first | (with_reducible exact Below.refl _ _) | (with_reducible assumption) | (with_reducible refine Below.alloc ?_ ?_ _) | (with_reducible refine Below.drew ?_) | (with_reducible refine below_drewN ?_ _) | (with_reducible refine Below.setCell ?_ ?_ _) | (with_reducible refine Below.trans ?_ (Below.mono (by with_reducible assumption) ?_)) | (with_reducible exact Below.size (by with_reducible assumption)) | go_size))
end Go.Proofs.YtopokicejgjcoaaDoor.PW

namespace Go.Proofs.YtopokicejgjcoaaDoor.PW
open Go.RowKit Go.Shelf Go.Proofs.YtopokicejgjcoaaDoor
open Go.Proofs.YtopokicejgjcoaaDoor.PM Go.Proofs.YtopokicejgjcoaaDoor.PX
attribute [local go_sem] Oper.semAt_some

theorem KC.freshF {W W' : World} (h : KC W W') {B : Nat} {v : Value} {xs : List (Int × Int)} (hf : FreshF B W v xs) : FreshF B W' v xs := by
  obtain ⟨g, cap, hv, hB, hlt, ho⟩ := hf
  refine ⟨g, cap, hv, hB, Nat.lt_of_lt_of_le hlt h.size, ho.1, ?_⟩
  rcases ho.2 with h2 | ⟨g, cap, cur, hv, hb, hg, r⟩
  · exact .inl h2
  · exact .inr ⟨g, cap, cur, hv, hb, h.same _ _ _ _ hg, r⟩
/-- A list of fractions is no box of a list. -/
theorem boxF_ne {W : World} {B g n cap Bz : Nat} {v : Value} {xs : List (Int × Int)} (hf : FreshF B W (.slice (some ⟨g, 0, none⟩) n cap) xs) (hb : Boxed W Bz 47 v) : Bz ≠ g := by
  rintro rfl
  obtain ⟨g', cap', hv, hB, hlt, ho⟩ := hf
  simp only [Value.slice.injEq, Option.some.injEq, Addr.mk.injEq, and_true] at hv
  obtain ⟨rfl, rfl, rfl⟩ := hv
  rcases ho.2 with h2 | ⟨g2, cap2, cur, hv2, _, hg, r⟩
  · exact absurd h2.1 (by simp)
  · simp only [Value.slice.injEq, Option.some.injEq, Addr.mk.injEq, and_true] at hv2
    obtain ⟨rfl, _, rfl⟩ := hv2
    have hb' : W.heap[Bz]? = some (.cells #[v] 47 (0, 0)) := hb
    rw [hg] at hb'
    simp only [Option.some.injEq, Obj.cells.injEq] at hb'
    exact absurd hb'.2.1 (by decide)
theorem FreshF.keptSet {W : World} {B g n cap Bz : Nat} {v u : Value} {xs : List (Int × Int)} (hf : FreshF B W (.slice (some ⟨g, 0, none⟩) n cap) xs) (hb : Boxed W Bz 47 v) : FreshF B (W.setCell ⟨Bz, 0, none⟩ u) (.slice (some ⟨g, 0, none⟩) n cap) xs := by
  have hne := boxF_ne hf hb
  obtain ⟨g', cap', hv, hB, hlt, ho⟩ := hf
  have hv0 := hv
  simp only [Value.slice.injEq, Option.some.injEq, Addr.mk.injEq, and_true] at hv0
  obtain ⟨rfl, _, _⟩ := hv0
  exact ⟨g, cap', hv, hB, by simpa using hlt, ownF_any ho (fun b hb' => Below.heap_setCell _ _ _ _ (by simp [Value.ownBlock] at hb'; show b ≠ Bz; omega))⟩

/-- While the list is made: what has been laid, in whatever order. -/
structure RM (W w' : World) (n : Nat) (b1 b4 b5 b6 : Bool) (g1 g4 g5 : Nat) : Prop where
  below : Below W.heap.size W w'
  one : b1 = true → b4 = false → g1 < w'.heap.size ∧ w'.cell? ⟨g1, 0, none⟩ = some (.int .i64 0) ∧ w'.cell? ⟨g1, 1, none⟩ = some (.int .i64 1)
  rep : b4 = true → FreshF W.heap.size w' (.slice (some ⟨g4, 0, none⟩) n n) (fillF n n oneF)
  box : b5 = true → W.heap.size ≤ g5 ∧ Boxed w' g5 47 (cond b6 (.slice (some ⟨g4, 0, none⟩) n n) (.slice none 0 0))
theorem boxed_below {W W' : World} {B : Nat} {t : TypeId} {v : Value} (h : Boxed W B t v) (hb : Below W.heap.size W W') : Boxed W' B t v := (hb.block B (Array.getElem?_eq_some_iff.1 h).1).trans h
theorem RM.keep {W w' w'' : World} {n : Nat} {b1 b4 b5 b6 : Bool} {g1 g4 g5 : Nat} (h : RM W w' n b1 b4 b5 b6 g1 g4 g5) (hb : Below w'.heap.size w' w'') : RM W w'' n b1 b4 b5 b6 g1 g4 g5 :=
  ⟨h.below.trans (hb.mono h.below.size), fun e e4 => ⟨Nat.lt_of_lt_of_le (h.one e e4).1 hb.size, (hb.cell (p := ⟨g1, 0, none⟩) (h.one e e4).1).trans (h.one e e4).2.1, (hb.cell (p := ⟨g1, 1, none⟩) (h.one e e4).1).trans (h.one e e4).2.2⟩,
    fun e => (h.rep e).below hb, fun e => ⟨(h.box e).1, boxed_below (h.box e).2 hb⟩⟩
theorem RM.one_ {W w' : World} {n : Nat} {b1 b4 b5 b6 : Bool} {g1 g4 g5 : Nat} (h : RM W w' n b1 b4 b5 b6 g1 g4 g5) (t : TypeId) : RM W (w'.alloc (.cells #[.int .i64 0, .int .i64 1] t)) n true b4 b5 b6 w'.heap.size g4 g5 := by
  have k := h.keep (w'' := w'.alloc (.cells #[.int .i64 0, .int .i64 1] t)) ((Below.refl _ _).alloc (Nat.le_refl _) _)
  exact ⟨k.below, fun _ _ => ⟨by simp, by rw [World.cell?_alloc_new]; rfl, by rw [World.cell?_alloc_new]; rfl⟩, k.rep, k.box⟩
theorem RM.rep_ {W w' w'' : World} {n g : Nat} {b1 b4 b5 : Bool} {g1 g4 g5 : Nat} (h : RM W w' n b1 b4 b5 false g1 g4 g5) (hf : FreshF w'.heap.size w'' (.slice (some ⟨g, 0, none⟩) n n) (fillF n n oneF)) (hb : Below w'.heap.size w' w'') : RM W w'' n b1 true b5 false g1 g g5 := by
  have k := h.keep hb
  exact ⟨k.below, fun _ e => (by cases e), fun _ => hf.mono h.below.size, k.box⟩
theorem RM.box_ {W w' : World} {n : Nat} {b1 b4 b5 : Bool} {g1 g4 g5 : Nat} (h : RM W w' n b1 b4 b5 false g1 g4 g5) : RM W (w'.alloc (.cells #[.slice none 0 0] 47)) n b1 b4 true false g1 g4 w'.heap.size := by
  have k := h.keep (w'' := w'.alloc (.cells #[.slice none 0 0] 47)) ((Below.refl _ _).alloc (Nat.le_refl _) _)
  exact ⟨k.below, k.one, k.rep, fun _ => ⟨h.below.size, Boxed.new _ _ _⟩⟩
theorem RM.store_ {W w' : World} {n : Nat} {b1 : Bool} {g1 g4 g5 : Nat} (h : RM W w' n b1 true true false g1 g4 g5) : RM W (w'.setCell ⟨g5, 0, none⟩ (.slice (some ⟨g4, 0, none⟩) n n)) n b1 true true true g1 g4 g5 := by
  obtain ⟨q1, q2⟩ := h.box rfl
  exact ⟨h.below.setCell (p := ⟨g5, 0, none⟩) q1 _, fun _ e => (by cases e), fun _ => (h.rep rfl).keptSet q2, fun _ => ⟨q1, q2.set _⟩⟩

/-- The numbers of those that have come, 0 else. -/
def selF (xs : List (Int × Int)) (pre : List Nat) (j : Nat) : Int × Int := if j ∈ pre then xs.getD j (0, 0) else (0, 1)
def selL (xs : List (Int × Int)) (n : Nat) (pre : List Nat) : List (Int × Int) := (List.range n).map (selF xs pre)
theorem selL_nil (xs : List (Int × Int)) (n : Nat) : fillF n n oneF = selL xs n [] := by
  unfold fillF selL
  apply List.map_congr_left
  intro j hj
  have : j < n := by simpa using hj
  simp [this, oneF, selF]
theorem selL_set (xs : List (Int × Int)) (n : Nat) (pre : List Nat) (i : Nat) : (selL xs n pre).set i (xs.getD i (0, 0)) = selL xs n (pre ++ [i]) := by
  apply List.ext_getElem (by simp [selL])
  intro j h1 h2
  simp only [List.getElem_set, selL, List.getElem_map, List.getElem_range]
  by_cases e : i = j
  · subst e
    rw [if_pos rfl]
    unfold selF
    rw [if_pos (by simp)]
  · rw [if_neg e]
    unfold selF
    by_cases e2 : j ∈ pre
    · rw [if_pos e2, if_pos (by simp [e2])]
    · have e3 : ¬ j = i := fun c => e c.symm
      rw [if_neg e2, if_neg (by simp [e2, e3])]
theorem selL_length (xs : List (Int × Int)) (n : Nat) (pre : List Nat) : (selL xs n pre).length = n := by simp [selL]
/-- While the solution is written. -/
structure Sf (w W : World) (Bz g n : Nat) (v : Value) (ys : List (Int × Int)) : Prop where
  rows : FreshF (w.heap.size + 1) W (.slice (some ⟨g, 0, none⟩) n n) ys
  box : Boxed W Bz 47 (.slice (some ⟨g, 0, none⟩) n n)
  pt : Boxed W w.heap.size 47 v
  below : Below w.heap.size w W
theorem Sf.kc {w W W' : World} {Bz g n : Nat} {v : Value} {ys : List (Int × Int)} (h : Sf w W Bz g n v ys) (k : KC W W') (hb : Below w.heap.size w W') : Sf w W' Bz g n v ys :=
  ⟨k.freshF h.rows, k.same _ _ _ _ h.box, k.same _ _ _ _ h.pt, hb⟩
theorem Sf.own {w : World} {Bz g n B : Nat} {v : Value} {β : Type} (F : β → List (Int × Int)) (hB : w.heap.size ≤ B) : OwnFrom B (fun (s : β) W => Sf w W Bz g n v (F s)) := by
  intro s W W' row h hg hr
  refine h.kc (KC.of hg (fun r e => (hr r e).2)) (ownFrom_below (β := Unit) (Nat.le_refl _) hB () W W' row h.below hg hr)

set_option maxRecDepth 100000 in
set_option maxHeartbeats 2000000 in
theorem solutionFrom_ok (gp cp n : Nat) (xs : List (Int × Int)) (s : Int) (w : World) (hv : OwnF w (.slice (some ⟨gp, 0, none⟩) n cp) xs) (hgp : gp < w.heap.size) (hn : n = xs.length) (hn1 : 1 ≤ n) (hn5 : n ≤ 5) (hs0 : 0 ≤ s) (hs1 : s < 2 ^ n) :
    CallsIn Fence.wide 8 Tryd.prog 118 #[.int .i64 s, .slice (some ⟨gp, 0, none⟩) n cp] w fun e w' => ∃ g, e = .returned (.slice (some ⟨g, 0, none⟩) n n) ∧ FreshF w.heap.size w' (.slice (some ⟨g, 0, none⟩) n n) (selL xs n ((memTo n s n).map Fin.val)) ∧ Below w.heap.size w w' := by
  have hmx : Tryd.prog.follows .mixedOrders = true := by kernel_rfl
  have HV := Lib.hid hv
  have HN := Lib.hid hn
  clear hv hn
  refine callsIn_of_wp_marks Tryd.func118 rfl trivial ?_ rfl
  simp only [Tryd.ntmps118, List.size_toArray, List.length_cons, List.length_nil, Nat.reduceAdd, Nat.reduceSub, Array.replicate_succ, Array.replicate_zero, List.push_toArray, List.append_toArray, List.nil_append, List.cons_append]
  gi_wp2_with fail
  obtain ⟨W, hW⟩ : ∃ W, (w.alloc (.cells #[.slice (some ⟨gp, 0, none⟩) n cp] 47)) = W := ⟨_, rfl⟩
  have bP : Boxed W w.heap.size 47 (.slice (some ⟨gp, 0, none⟩) n cp) := by rw [← hW]; exact Boxed.new w _ _
  have hB0 : Below w.heap.size w W := by rw [← hW]; (repeat' (first | (with_reducible exact Below.refl _ _) | (with_reducible assumption) | (with_reducible refine Below.alloc ?_ ?_ _) | (with_reducible refine Below.drew ?_) | (with_reducible refine below_drewN ?_ _) | (with_reducible refine Below.setCell ?_ ?_ _) | (with_reducible refine Below.trans ?_ (Below.mono (by with_reducible assumption) ?_)) | (with_reducible exact Below.size (by with_reducible assumption)) | go_size))
  have hsz : W.heap.size = w.heap.size + 1 := by rw [← hW]; simp
  rw [hW]
  clear hW
  rename_i K0 hK0
  refine PR.wpIn_region_inv hmx (by kernel_rfl) (fun listed a w' =>
    ∃ (b0 b1 b2 b3 b4 b5 b6 : Bool) (g1 g4 g5 : Nat), ((b1 = true → b0 = true) ∧ (b3 = true → b2 = true) ∧ (b4 = true → b1 = true ∧ b3 = true) ∧ (b6 = true → b4 = true ∧ b5 = true)) ∧ listed = #[b0, b1, b2, b3, b4, b5, b6] ∧
      a = { tmps := #[.int .i64 s, .slice (some ⟨gp, 0, none⟩) n cp, undef, .pointer (some ⟨w.heap.size, 0, none⟩), .slice none 0 0, cond b5 (.pointer (some ⟨g5, 0, none⟩)) undef, undef, cond b0 (.agg #[.int .i64 0, .int .i64 1]) undef, cond b1 (.slice (some ⟨g1, 0, none⟩) 1 1) undef, cond b2 (.slice (some ⟨gp, 0, none⟩) n cp) undef, cond b3 (.int .i64 n) undef, cond b4 (.slice (some ⟨g4, 0, none⟩) n n) undef, undef, undef, undef, undef, undef, undef, undef, undef, undef, undef, undef], defers := [] } ∧ RM W w' n b1 b4 b5 b6 g1 g4 g5) ?_ ?_ ?_ ?_
  · rintro listed a w' ⟨b0, b1, b2, b3, b4, b5, b6, g1, g4, g5, _, rfl, _⟩
    rfl
  · rintro listed a w' ⟨b0, b1, b2, b3, b4, b5, b6, g1, g4, g5, _, rfl, rfl, hR⟩ hall
    have h0 := hall 0 (by simp)
    have h1 := hall 1 (by simp)
    have h2 := hall 2 (by simp)
    have h3 := hall 3 (by simp)
    have h4 := hall 4 (by simp)
    have h5 := hall 5 (by simp)
    have h6 := hall 6 (by simp)
    simp at h0 h1 h2 h3 h4 h5 h6
    subst h0 h1 h2 h3 h4 h5 h6
    clear hall
    refine hK0 _ _ ?_
    simp only [cond_true]
    have hF := hR.rep rfl
    obtain ⟨q1, q2⟩ := hR.box rfl
    have hb := hR.below
    have hw' : Below w.heap.size w w' := hB0.trans (hb.mono hB0.size)
    have pP := boxed_below bP hb
    have hg4 : W.heap.size ≤ g4 ∧ g4 < w'.heap.size := by
      obtain ⟨_, _, hv, h1, h2, _⟩ := hF
      simp only [Value.slice.injEq, Option.some.injEq, Addr.mk.injEq, and_true] at hv
      omega
    have hg5 : g5 < w'.heap.size := (Array.getElem?_eq_some_iff.1 q2).1
    rw [selL_nil xs] at hF
    have HF := Lib.hid (hF.mono (C := w.heap.size + 1) (by omega))
    clear hF hR hb bP hB0
    gi_wp2_with fail
    refine ⟨trivial, ?_⟩
    gi_at_call 99
    refine (membersOf_in s _).mono ?_
    rintro e w3 ⟨rfl, rfl⟩
    gi_wp2_with fail
    obtain ⟨W0, hW0⟩ : ∃ W0, W0 = w'.alloc (.cells #[.int .i64 s] 2) := ⟨_, rfl⟩
    have hB0 : Below w'.heap.size w' W0 := by rw [hW0]; exact (Below.refl _ _).alloc (Nat.le_refl _) _
    have hS0 : Sf w W0 g5 g4 n (.slice (some ⟨gp, 0, none⟩) n cp) (selL xs n []) := ⟨HF.out.below hB0, boxed_below q2 hB0, boxed_below pP hB0, hw'.trans (hB0.mono hw'.size)⟩
    have hs : W0.cell? ⟨w'.heap.size, 0, none⟩ = some (.int .i64 s) := by rw [hW0]; simp
    have hz0 : w'.heap.size + 1 = W0.heap.size := by rw [hW0]; simp
    rw [← hW0]
    clear hW0
    have hwz := hw'.size
    refine wpIn_rangeFunc_ownF (α := Fin n) rfl (by omega) (gf := 131) (lb := #[.pointer (some ⟨w'.heap.size, 0, none⟩)]) rfl trivial (enters_of Tryd.func131 (by kernel_rfl) rfl)
      (members_stops n hn5 s hs0 hs1 w'.heap.size W0 (by omega) hs) (fun h k => KB.trans h k) (KB.put (by omega)) (Below.refl _ _) (fun _ => rfl)
      (fun (pre : List (Fin n)) W => Sf w W g5 g4 n (.slice (some ⟨gp, 0, none⟩) n cp) (selL xs n (pre.map Fin.val)))
      (fun _ _ _ => False)
      (Sf.own (fun (pre : List (Fin n)) => selL xs n (pre.map Fin.val)) (by omega))
      (fun _ _ _ _ _ h _ _ => h)
      hS0 ?a1 ?assign ?body ?done ?stop
    case assign =>
      intro l x W K hK
      gi_wp2
      exact hK
    case body =>
      rintro l pre x W1 hS hlt
      have cz := hS.box.cell
      have cp1 := hS.pt.cell
      have ho := HV.out.below hS.below hgp
      have d0 := ho.cell0 HN.out x.isLt
      have d1 := ho.cell1 HN.out x.isLt
      have hz := hS.rows.own
      have e0 := hz.cell0 (selL_length _ _ _).symm x.isLt
      have e1 := hz.cell1 (selL_length _ _ _).symm x.isLt
      have f0 := fun j => hz.frozen (selL_length _ _ _).symm j
      have hne := boxF_ne hS.rows hS.box
      have hne2 := boxF_ne hS.rows hS.pt
      have hrD : FreshF (w.heap.size + 1) W1.drew (.slice (some ⟨g4, 0, none⟩) n n) (selL xs n (pre.map Fin.val)) := hS.rows.below (Below.refl _ _).drew
      have hst : Sf w ((W1.drew.setCell ⟨g4, x.val * 2, none⟩ (.int .i64 (xs.getD x.val (0, 0)).1)).setCell ⟨g4, x.val * 2 + 1, none⟩ (.int .i64 (xs.getD x.val (0, 0)).2)) g5 g4 n (.slice (some ⟨gp, 0, none⟩) n cp) (selL xs n ((pre ++ [x]).map Fin.val)) := by
        refine ⟨?_, ?_, ?_, ?_⟩
        · have := hrD.set x.isLt (xs.getD x.val (0, 0)).1 (xs.getD x.val (0, 0)).2
          rw [selL_set] at this
          simpa using this
        · exact ((Below.heap_setCell _ _ _ _ hne).trans (Below.heap_setCell _ _ _ _ hne)).trans hS.box
        · exact ((Below.heap_setCell _ _ _ _ hne2).trans (Below.heap_setCell _ _ _ _ hne2)).trans hS.pt
        · exact (hS.below.drew.setCell (p := ⟨g4, x.val * 2, none⟩) (by show w.heap.size ≤ g4; omega) _).setCell (p := ⟨g4, x.val * 2 + 1, none⟩) (by show w.heap.size ≤ g4; omega) _
      have hko := ((KeepsOthers.drew W1).trans (KeepsOthers.setCell W1.drew ⟨g4, x.val * 2, none⟩ (.int .i64 (xs.getD x.val (0, 0)).1))).trans (KeepsOthers.setCell _ ⟨g4, x.val * 2 + 1, none⟩ (.int .i64 (xs.getD x.val (0, 0)).2))
      have hkb : KB w'.heap.size W1 ((W1.drew.setCell ⟨g4, x.val * 2, none⟩ (.int .i64 (xs.getD x.val (0, 0)).1)).setCell ⟨g4, x.val * 2 + 1, none⟩ (.int .i64 (xs.getD x.val (0, 0)).2)) := (Below.heap_setCell _ ⟨g4, x.val * 2 + 1, none⟩ _ _ (by show w'.heap.size ≠ g4; omega)).trans (Below.heap_setCell W1.drew ⟨g4, x.val * 2, none⟩ _ _ (by show w'.heap.size ≠ g4; omega))
      have HST := Lib.hid hst
      have HKO := Lib.hid hko
      have HKB := Lib.hid hkb
      clear hst hko hkb hS ho hz hrD hne hne2 hS0 hB0 hs
      generalize (xs.getD x.val (0, 0)).1 = p1 at *
      generalize (xs.getD x.val (0, 0)).2 = p2 at *
      generalize ((selL xs n (pre.map Fin.val)).getD x.val (0, 0)).1 = o1 at *
      generalize ((selL xs n (pre.map Fin.val)).getD x.val (0, 0)).2 = o2 at *
      have hx0 : (0 : Int) ≤ ((x.val : Nat) : Int) := by omega
      have hx1 : ((x.val : Nat) : Int) < (n : Int) := by have := x.isLt; omega
      gi_wp2
      refine PR.wpIn_region_still_tail 7 hmx (by kernel_rfl) (by kernel_rfl) ?_
      simp only [List.take_succ_cons, List.take_zero, List.drop_succ_cons, List.drop_zero]
      repeat still_step
      refine wpStill_nil ?_
      gi_wp2
      exact ⟨HKO.out, HKB.out, HST.out⟩
    case done =>
      rintro D ys W1 hD rfl hS hK
      have c1 := hS.box.cell
      have HS := Lib.hid hS
      clear hS
      gi_wp2
      refine ⟨by simp, .inl ⟨_, _, rfl, run_takeDeferred hK, ?_⟩⟩
      refine ⟨.slice (some ⟨g4, 0, none⟩) n n, by simp [results, Tryd.results118, go_sem], ?_⟩
      have hkc : KC W1 (W1.putObj D (.deferred none)) := KC.of (grownBy_putObj' W1 D (.deferred none)) (fun r e => by cases e; exact ⟨_, hK, rfl⟩)
      have hbw : Below w.heap.size W1 (W1.putObj D (.deferred none)) := belowK_b (w := w) (Nat.le_refl _) W1 D _ _ (by omega) hK rfl rfl
      exact ⟨_, rfl, (hkc.freshF HS.out.rows).mono (by omega), HS.out.below.trans hbw⟩
    case stop =>
      rintro D c pre W _ _ h _
      exact h.elim
  · exact ⟨false, false, false, false, false, false, false, 0, 0, 0, ⟨by simp, by simp, by simp, by simp⟩, rfl, rfl, ⟨(Below.refl _ _).drew, by simp, by simp, by simp⟩⟩
  · rintro listed a w' i oi ⟨b0, b1, b2, b3, b4, b5, b6, g1, g4, g5, ⟨e1, e3, e4, e6⟩, rfl, rfl, hR⟩ ho hun hdep
    have hi : i < 7 := by simpa using (Array.getElem?_eq_some_iff.1 ho).1
    obtain rfl | rfl | rfl | rfl | rfl | rfl | rfl : i = 0 ∨ i = 1 ∨ i = 2 ∨ i = 3 ∨ i = 4 ∨ i = 5 ∨ i = 6 := by omega
    · -- 0
      simp only [List.getElem?_toArray, List.getElem?_cons_zero, Option.some.injEq] at ho
      subst ho
      have hb0 : b0 = false := by simpa using hun
      subst hb0
      obtain rfl : b1 = false := by cases b1 with | false => rfl | true => simp_all
      obtain rfl : b4 = false := by cases b4 with | false => rfl | true => simp_all
      obtain rfl : b6 = false := by cases b6 with | false => rfl | true => simp_all
      refine wpOpIn_step rfl (fun K hK => ?_)
      clear hun hdep hi
      go_simp
      refine ⟨trivial, (callsIn_wide.2 (zeroFrac_any w')).mono ?_⟩
      rintro e w'' ⟨rfl, hb⟩
      refine hK _ _ ⟨true, false, b2, b3, false, b5, false, g1, g4, g5, ⟨?_, ?_, ?_, ?_⟩, rfl, rfl, hR.keep hb⟩ <;> simp_all
    · -- 1
      simp only [List.getElem?_toArray, List.getElem?_cons_succ, List.getElem?_cons_zero, Option.some.injEq] at ho
      subst ho
      have hb1 : b1 = false := by simpa using hun
      subst hb1
      have hb0 : b0 = true := by have := hdep ⟨0, .data⟩ (by simp) rfl; simpa using this
      subst hb0
      obtain rfl : b4 = false := by cases b4 with | false => rfl | true => simp_all
      obtain rfl : b6 = false := by cases b6 with | false => rfl | true => simp_all
      refine wpOpIn_step rfl (fun K hK => ?_)
      clear hun hdep hi
      go_simp
      refine hK _ _ ⟨true, true, b2, b3, false, b5, false, w'.heap.size, g4, g5, ⟨?_, ?_, ?_, ?_⟩, rfl, rfl, hR.one_ _⟩ <;> simp_all
    · -- 2
      simp only [List.getElem?_toArray, List.getElem?_cons_succ, List.getElem?_cons_zero, Option.some.injEq] at ho
      subst ho
      have hb2 : b2 = false := by simpa using hun
      subst hb2
      obtain rfl : b3 = false := by cases b3 with | false => rfl | true => simp_all
      obtain rfl : b4 = false := by cases b4 with | false => rfl | true => simp_all
      obtain rfl : b6 = false := by cases b6 with | false => rfl | true => simp_all
      have c := (hR.below.cell (p := ⟨w.heap.size, 0, none⟩) (by show w.heap.size < W.heap.size; omega)).trans bP.cell
      refine wpOpIn_step rfl (fun K hK => ?_)
      clear hun hdep hi
      go_simp
      refine hK _ _ ⟨b0, b1, true, false, false, b5, false, g1, g4, g5, ⟨?_, ?_, ?_, ?_⟩, rfl, rfl, hR⟩ <;> simp_all
    · -- 3
      simp only [List.getElem?_toArray, List.getElem?_cons_succ, List.getElem?_cons_zero, Option.some.injEq] at ho
      subst ho
      have hb3 : b3 = false := by simpa using hun
      subst hb3
      have hb2 : b2 = true := by have := hdep ⟨2, .data⟩ (by simp) rfl; simpa using this
      subst hb2
      obtain rfl : b4 = false := by cases b4 with | false => rfl | true => simp_all
      obtain rfl : b6 = false := by cases b6 with | false => rfl | true => simp_all
      refine wpOpIn_step rfl (fun K hK => ?_)
      clear hun hdep hi
      go_simp
      refine hK _ _ ⟨b0, b1, true, true, false, b5, false, g1, g4, g5, ⟨?_, ?_, ?_, ?_⟩, rfl, rfl, hR⟩ <;> simp_all
    · -- 4
      simp only [List.getElem?_toArray, List.getElem?_cons_succ, List.getElem?_cons_zero, Option.some.injEq] at ho
      subst ho
      have hb4 : b4 = false := by simpa using hun
      subst hb4
      have hb1 : b1 = true := by have := hdep ⟨1, .data⟩ (by simp) rfl; simpa using this
      subst hb1
      have hb3 : b3 = true := by have := hdep ⟨3, .data⟩ (by simp) rfl; simpa using this
      subst hb3
      obtain rfl := e1 rfl
      obtain rfl := e3 rfl
      obtain rfl : b6 = false := by cases b6 with | false => rfl | true => simp_all
      obtain ⟨q1, q2, q3⟩ := hR.one rfl rfl
      refine wpOpIn_step rfl (fun K hK => ?_)
      clear hun hdep hi
      go_simp
      refine ⟨trivial, (callsIn_wide.2 (repeat_any n g1 1 w' hn1 hn5 q1 q2 q3)).mono ?_⟩
      rintro e w'' ⟨rfl, hf, hb⟩
      refine hK _ _ ⟨true, true, true, true, true, b5, false, g1, w'.heap.size, g5, ⟨?_, ?_, ?_, ?_⟩, rfl, rfl, hR.rep_ hf hb⟩ <;> simp_all
    · -- 5
      simp only [List.getElem?_toArray, List.getElem?_cons_succ, List.getElem?_cons_zero, Option.some.injEq] at ho
      subst ho
      have hb5 : b5 = false := by simpa using hun
      subst hb5
      obtain rfl : b6 = false := by cases b6 with | false => rfl | true => simp_all
      refine wpOpIn_step rfl (fun K hK => ?_)
      clear hun hdep hi
      go_simp
      refine hK _ _ ⟨b0, b1, b2, b3, b4, true, false, g1, g4, w'.heap.size, ⟨?_, ?_, ?_, ?_⟩, rfl, rfl, hR.box_⟩ <;> simp_all
    · -- 6
      simp only [List.getElem?_toArray, List.getElem?_cons_succ, List.getElem?_cons_zero, Option.some.injEq] at ho
      subst ho
      have hb6 : b6 = false := by simpa using hun
      subst hb6
      have hb4 : b4 = true := by have := hdep ⟨4, .data⟩ (by simp) rfl; simpa using this
      subst hb4
      have hb5 : b5 = true := by have := hdep ⟨5, .data⟩ (by simp) rfl; simpa using this
      subst hb5
      obtain ⟨rfl, rfl⟩ := e4 rfl
      obtain rfl := e1 rfl
      obtain rfl := e3 rfl
      have c := (hR.box rfl).2.cell
      have c2 := (hR.box rfl).2.frozen
      refine wpOpIn_step rfl (fun K hK => ?_)
      clear hun hdep hi
      go_simp
      refine hK _ _ ⟨true, true, true, true, true, true, true, g1, g4, g5, ⟨?_, ?_, ?_, ?_⟩, rfl, rfl, hR.store_⟩ <;> simp_all
end Go.Proofs.YtopokicejgjcoaaDoor.PW

namespace Go.Proofs.YtopokicejgjcoaaDoor.PW
open Go.RowKit Go.Proofs.YtopokicejgjcoaaDoor
open Go.Proofs.YtopokicejgjcoaaDoor.PM Go.Proofs.YtopokicejgjcoaaDoor.PX

theorem selL_sol (M : List (List Int)) (Q : List Int) (s : Int) : selL (ptL M Q s) M.length ((memTo M.length s M.length).map Fin.val) = solL M Q s := by
  unfold selL solL
  apply List.map_congr_left
  intro j hj
  have hj' : j < M.length := by simpa using hj
  have hm := mem_memTo M.length s j M.length (Nat.le_refl _)
  unfold selF solF
  by_cases e : bit s j = true
  · rw [if_pos (hm.2 ⟨hj', e⟩), if_pos e]
    unfold ptL
    simp [hj']
  · rw [if_neg (fun c => e (hm.1 c).2), if_neg e]

end Go.Proofs.YtopokicejgjcoaaDoor.PW
