/-
  Walks: is a fraction in a list (slices.Contains)? Is a problem degenerate? In the program and in the model; the exact law of IsDegenerate.
-/
import Derived.Test.YtoifpjmhikgjgaaPBasA
import Derived.Test.YtoifpjmhikgjgaaPRoundC
import Derived.BigQuiet
namespace Go.Proofs.Ytoifpjmhikgjgaa.PW
open Go.RowKit Go.Proofs.Ytoifpjmhikgjgaa
open Go.Proofs.Ytoifpjmhikgjgaa.PM Go.Proofs.Ytoifpjmhikgjgaa.PX

/-- Is 0 in the list? -/
def hasZ (xs : List (Int × Int)) : Bool := xs.any fun x => decide (x.1 = 0)
theorem hasZ_yes {xs : List (Int × Int)} {k : Nat} (hk : k < xs.length) (h : (xs.getD k (0, 0)).1 = 0) : hasZ xs = true := by
  unfold hasZ
  rw [List.any_eq_true]
  refine ⟨xs[k], List.getElem_mem hk, ?_⟩
  simp [hk] at h
  simp [h]
theorem hasZ_no {xs : List (Int × Int)} (h : ∀ k, k < xs.length → (xs.getD k (0, 0)).1 ≠ 0) : hasZ xs = false := by
  unfold hasZ
  rw [List.any_eq_false]
  intro x hx
  obtain ⟨k, hk, rfl⟩ := List.getElem_of_mem hx
  have := h k hk
  simp [hk] at this
  simpa using this

set_option maxHeartbeats 1000000 in
theorem indexF_any (g cap n : Nat) (xs : List (Int × Int)) (w : World) (hv : OwnF w (.slice (some ⟨g, 0, none⟩) n cap) xs) (hn : n = xs.length) (hg : g < w.heap.size) (hm : n ≤ 1048576) (hz : ∀ k, k < n → (xs.getD k (0, 0)).1 = 0 → (xs.getD k (0, 0)).2 = 1) :
    Calls Try.prog 111 #[.slice (some ⟨g, 0, none⟩) n cap, .agg #[.int .i64 0, .int .i64 1]] w fun e w' => ∃ r : Int, e = .returned (.int .i64 r) ∧ -1 ≤ r ∧ r ≤ 1048576 ∧ (0 ≤ r ↔ hasZ xs = true) ∧ Below w.heap.size w w' := by
  have HV := Lib.hid hv
  have HN := Lib.hid hn
  have HZ := Lib.hid hz
  have HY := Lib.hid (fun k (hk : k < n) h => hasZ_yes (xs := xs) (k := k) (by omega) h)
  have HNO := Lib.hid (hasZ_no (xs := xs))
  obtain ⟨W0, hW0⟩ : ∃ W0, W0 = w.alloc (.cells #[.int .i64 0, .int .i64 1] 72) := ⟨_, rfl⟩
  have d0 : W0.cell? ⟨w.heap.size, 0, none⟩ = some (.int .i64 0) := by rw [hW0]; simp
  have d1 : W0.cell? ⟨w.heap.size, 1, none⟩ = some (.int .i64 1) := by rw [hW0]; simp
  have hB0 : Below w.heap.size w W0 := by rw [hW0]; exact (Below.refl _ _).alloc (Nat.le_refl _) _
  have HB0 := Lib.hid hB0
  have hV0 := hv.below hB0 hg
  have HV0 := Lib.hid hV0
  have HD0 := Lib.hid d0
  have HD1 := Lib.hid d1
  have hz0 : w.heap.size < W0.heap.size := by rw [hW0]; simp
  have HW0 := Lib.hid hW0
  clear hv hn hz hV0 hB0 hW0 d0 d1
  go_enter Try.func111, Try.ntmps111
  go_wp2
  rw [← HW0.out]
  clear HW0
  go_loopw [5, 8] (fun _ i wr => ∃ k : Nat, k ≤ n ∧ i = .int .i64 k ∧ (∀ j, j < k → (xs.getD j (0, 0)).1 ≠ 0) ∧ Below W0.heap.size W0 wr) (fun _ i _ => n - (intOf i).toNat)
  case atStart => exact ⟨0, Nat.zero_le _, rfl, fun j hj => absurd hj (Nat.not_lt_zero _), Below.refl _ _⟩
  case round =>
    obtain ⟨k, hk, rfl, hall, hB⟩ := hrel
    have HA := Lib.hid hall
    by_cases hlt : k < n
    · have ho := HV0.out.below hB (by omega)
      have c0 := ho.cell0 HN.out hlt
      have c1 := ho.cell1 HN.out hlt
      have d0 := (hB.cell (p := ⟨w.heap.size, 0, none⟩) hz0).trans HD0.out
      have d1 := (hB.cell (p := ⟨w.heap.size, 1, none⟩) hz0).trans HD1.out
      have hzz := HZ.out k hlt
      have hyy := HY.out k hlt
      have HBD := Lib.hid hB
      have hnx : (xs.getD k (0, 0)).1 ≠ 0 → ∀ j, j < k + 1 → (xs.getD j (0, 0)).1 ≠ 0 := fun h j hj => by
        by_cases e : j = k
        · rw [e]; exact h
        · exact HA.out j (by omega)
      have HNX := Lib.hid hnx
      clear ho hB hall hnx
      obtain ⟨x, hx⟩ : ∃ x, x = (xs.getD k (0, 0)).1 := ⟨_, rfl⟩
      obtain ⟨y, hy⟩ : ∃ y, y = (xs.getD k (0, 0)).2 := ⟨_, rfl⟩
      rw [← hx] at c0 hzz hyy HNX
      rw [← hy] at c1 hzz
      clear hx hy
      have hx0 : (0 : Int) ≤ (k : Int) := by omega
      have hx1 : (k : Int) < (n : Int) := by omega
      by_cases e : x = 0
      · have e2 := hzz e
        have HYY := Lib.hid (hyy e)
        subst e e2
        clear hzz hyy
        go_wp2_with fail
        go_quiet (fail)
        go_wp2_with fail
        go_ret
        exact ⟨k, rfl, by omega, by omega, ⟨fun _ => HYY.out, fun _ => by omega⟩, HB0.out.trans ((below_drewN HBD.out _).mono HB0.out.size)⟩
      · have hne : ¬ (0 : Int) = x := fun c => e c.symm
        clear hzz hyy
        go_wp2_with fail
        go_quiet (fail)
        go_wp2_with fail
        go_roundw
        case rel => exact ⟨k + 1, by omega, by go_num, HNX.out e, below_drewN HBD.out _⟩
        case measure => simp [intOf]; omega
    · obtain rfl : k = n := by omega
      have HB := Lib.hid hB
      have HNN := Lib.hid (HNO.out (fun j hj => HA.out j (by have := HN.out; omega)))
      clear hall hB
      go_wp2_with fail
      go_ret
      exact ⟨-1, rfl, by omega, by omega, ⟨fun h => by omega, fun h => by rw [HNN.out] at h; cases h⟩, HB0.out.trans (HB.out.mono HB0.out.size)⟩

set_option maxHeartbeats 1000000 in
theorem containsF_any (g cap n : Nat) (xs : List (Int × Int)) (w : World) (hv : OwnF w (.slice (some ⟨g, 0, none⟩) n cap) xs) (hn : n = xs.length) (hg : g < w.heap.size) (hm : n ≤ 1048576) (hz : ∀ k, k < n → (xs.getD k (0, 0)).1 = 0 → (xs.getD k (0, 0)).2 = 1) :
    Calls Try.prog 84 #[.slice (some ⟨g, 0, none⟩) n cap, .agg #[.int .i64 0, .int .i64 1]] w fun e w' => e = .returned (.bool (hasZ xs)) ∧ Below w.heap.size w w' := by
  have HI := Lib.hid (fun (w' : World) (hb : Below w.heap.size w w') => indexF_any g cap n xs w' (hv.below hb hg) hn (Nat.lt_of_lt_of_le hg hb.size) hm hz)
  clear hv hn hz
  go_enter Try.func84, Try.ntmps84
  go_wp2_with fail
  have hw0 : Below w.heap.size w (w.alloc (.cells #[.int .i64 0, .int .i64 1] 72)) := by (repeat' (first | (with_reducible exact Below.refl _ _) | (with_reducible assumption) | (with_reducible refine Below.alloc ?_ ?_ _) | (with_reducible refine Below.drew ?_) | (with_reducible refine below_drewN ?_ _) | (with_reducible refine Below.setCell ?_ ?_ _) | (with_reducible refine Below.trans ?_ (Below.mono (by with_reducible assumption) ?_)) | (with_reducible exact Below.size (by with_reducible assumption)) | go_size))
  refine (HI.out _ hw0).mono ?_
  rintro e w1 ⟨r, rfl, h1, h2, h3, hb⟩
  have HE := Lib.hid h3
  have HB := Lib.hid (hw0.trans (hb.mono hw0.size))
  clear h3 hb hw0
  go_wp2
  go_ret
  refine ⟨?_, HB.out⟩
  have he : hasZ xs = decide (0 ≤ r) := by rw [Bool.eq_iff_iff, decide_eq_true_iff]; exact HE.out.symm
  rw [he]
  rfl
end Go.Proofs.Ytoifpjmhikgjgaa.PW

namespace Go.Proofs.Ytoifpjmhikgjgaa.PW
open Go.RowKit Go.Shelf Go.Proofs.Ytoifpjmhikgjgaa
open Go.Proofs.Ytoifpjmhikgjgaa.PM Go.Proofs.Ytoifpjmhikgjgaa.PX
attribute [local go_sem] Oper.semAt_some

theorem zeroF_any (w : World) : Calls Try.prog 85 #[] w fun e w' => e = .returned (.agg #[.int .i64 0, .int .i64 1]) ∧ Below w.heap.size w w' := by
  go_enter Try.func85, Try.ntmps85
  go_wp2
  refine bodyPost_ret (v := .agg #[.int .i64 0, .int .i64 1]) (by simp [*, results, Try.results85, go_sem]) rfl ?_
  refine ⟨rfl, ?_⟩
  (repeat' (first | (with_reducible exact Below.refl _ _) | (with_reducible assumption) | (with_reducible refine Below.alloc ?_ ?_ _) | (with_reducible refine Below.drew ?_) | (with_reducible refine below_drewN ?_ _) | (with_reducible refine Below.setCell ?_ ?_ _) | (with_reducible refine Below.trans ?_ (Below.mono (by with_reducible assumption) ?_)) | (with_reducible exact Below.size (by with_reducible assumption)) | go_size))
theorem three_new (w : World) (o : Array Value) (v v' : Value) (t t1 t2 : TypeId) : Boxed (((w.alloc (.cells o t)).alloc (.cells #[v] t1)).alloc (.cells #[v'] t2)) (w.heap.size + 1) t1 v ∧ Boxed (((w.alloc (.cells o t)).alloc (.cells #[v] t1)).alloc (.cells #[v'] t2)) (w.heap.size + 2) t2 v' ∧ (((w.alloc (.cells o t)).alloc (.cells #[v] t1)).alloc (.cells #[v'] t2)).heap[w.heap.size]? = some (.cells o t (0, 0)) := by
  refine ⟨?_, ?_, ?_⟩
  · have := (Boxed.new (w.alloc (.cells o t)) t1 v).alloc (.cells #[v'] t2)
    simpa using this
  · have := Boxed.new ((w.alloc (.cells o t)).alloc (.cells #[v] t1)) t2 v'
    simpa using this
  · exact (Below.heap_alloc _ _ _ (by simp; try omega)).trans ((Below.heap_alloc _ _ _ (by simp)).trans (heap_alloc_new w _))
theorem boxed_low {W W' : World} {B : Nat} {t : TypeId} {v : Value} (h : Boxed W B t v) (hb : Below W.heap.size W W') : Boxed W' B t v := (hb.block B (Array.getElem?_eq_some_iff.1 h).1).trans h
/-- Has one of the basic sets a point with a 0? -/
def degB (M : List (List Int)) (Q : List Int) (T : Nat) : Bool := (basTo M T).any fun s => hasZ (ptL M Q s)
theorem degB_yes {M : List (List Int)} {Q : List Int} {T k : Nat} (hk : k < T) (hb : basTo M (k + 1) = basTo M k ++ [(k : Int)]) (h : hasZ (ptL M Q k) = true) : degB M Q T = true := by
  have hm : ∀ d, (k : Int) ∈ basTo M (k + 1 + d) := by
    intro d
    induction d with
    | zero => rw [Nat.add_zero, hb]; simp
    | succ d ih => rw [Nat.add_succ, basTo]; exact List.mem_append_left _ ih
  have := hm (T - (k + 1))
  rw [show k + 1 + (T - (k + 1)) = T by omega] at this
  unfold degB
  rw [List.any_eq_true]
  exact ⟨_, this, h⟩
theorem degB_no {M : List (List Int)} {Q : List Int} {T : Nat} {ys : List (Int × Value)} (hy : ys.map Prod.fst = basTo M T) (h : ∀ x ∈ ys, hasZ (ptL M Q x.1) = false) : degB M Q T = false := by
  unfold degB
  rw [List.any_eq_false]
  intro s hs
  rw [← hy] at hs
  obtain ⟨x, hx, rfl⟩ := List.mem_map.1 hs
  rw [h x hx]
  exact Bool.noConfusion
theorem pt_zero {M : List (List Int)} {Q : List Int} {s : Int} (hp : isPB M Q = true) (hD : dt M.length (colS M s) ≠ 0) (j : Nat) (hj : j < M.length) (h : ((ptL M Q s).getD j (0, 0)).1 = 0) : ((ptL M Q s).getD j (0, 0)).2 = 1 := by
  have e : (ptL M Q s).getD j (0, 0) = ptF M Q s j := by unfold ptL; simp [hj]
  rw [e] at h ⊢
  obtain ⟨_, _, h3, _, h5⟩ := FM.isF_yes (pt_isF hp hD j)
  rw [h] at h5
  unfold FM.gcdI at h5
  simp at h5
  omega
theorem bas_ne {M : List (List Int)} {k : Nat} (hb : basTo M (k + 1) = basTo M k ++ [(k : Int)]) : dt M.length (colS M k) ≠ 0 := by
  intro c
  rw [basTo_no c] at hb
  have := congrArg List.length hb
  simp at this

set_option maxRecDepth 100000 in
set_option maxHeartbeats 2000000 in
theorem isDegenerate_in (a1 a2 : Option Addr) (c1 c2 T : Nat) (M : List (List Int)) (Q : List Int) (w : World) (hp : isPB M Q = true) (hT : T = 2 ^ M.length) (h1 : PM.Rows w (.slice a1 M.length c1) M) (h2 : Ints w (.slice a2 Q.length c2) Q) :
    CallsIn Fence.wide 8 Try.prog 44 #[.agg #[.slice a1 M.length c1, .slice a2 Q.length c2]] w fun e w' => e = .returned (.tuple #[.bool (degB M Q T), .int .i64 0]) ∧ Below w.heap.size w w' := by
  have g1 := fun (w' : World) (h : Below w.heap.size w w') => h1.below h
  have g2 := fun (w' : World) (h : Below w.heap.size w w') => h2.below h
  have hql := (isPB_facts hp).2.2.1
  rw [hql] at g2 ⊢
  have HP := Lib.hid hp
  have HQ2 := Lib.hid g2
  have HQ1 := Lib.hid g1
  clear hp h1 h2 hql g1 g2
  refine callsIn_of_wp_marks Try.func44 rfl trivial ?_ rfl
  simp only [Try.ntmps44, List.size_toArray, List.length_cons, List.length_nil, Nat.reduceAdd, Nat.reduceSub, Array.replicate_succ, Array.replicate_zero, List.push_toArray, List.append_toArray, List.nil_append, List.cons_append]
  gi_wp2_with fail
  refine ⟨trivial, ?_⟩
  gi_at_call 60
  refine (callsIn_wide.2 (implIsProblem_any _ _ M Q _ (HQ1.out _ (by (repeat' (first | (with_reducible exact Below.refl _ _) | (with_reducible assumption) | (with_reducible refine Below.alloc ?_ ?_ _) | (with_reducible refine Below.drew ?_) | (with_reducible refine below_drewN ?_ _) | (with_reducible refine Below.setCell ?_ ?_ _) | (with_reducible refine Below.trans ?_ (Below.mono (by with_reducible assumption) ?_)) | (with_reducible exact Below.size (by with_reducible assumption)) | go_size)))) (HQ2.out _ (by (repeat' (first | (with_reducible exact Below.refl _ _) | (with_reducible assumption) | (with_reducible refine Below.alloc ?_ ?_ _) | (with_reducible refine Below.drew ?_) | (with_reducible refine below_drewN ?_ _) | (with_reducible refine Below.setCell ?_ ?_ _) | (with_reducible refine Below.trans ?_ (Below.mono (by with_reducible assumption) ?_)) | (with_reducible exact Below.size (by with_reducible assumption)) | go_size)))))).mono ?_
  rw [HP.out]; rintro e w1 ⟨rfl, hb1⟩; obtain ⟨hc_hb1, hf_hb1⟩ := bcell hb1; obtain ⟨hcA_hb1, hfA_hb1⟩ := bcellG (W0 := w) hb1 (by (repeat' (first | (with_reducible exact Below.refl _ _) | (with_reducible assumption) | (with_reducible refine Below.alloc ?_ ?_ _) | (with_reducible refine Below.drew ?_) | (with_reducible refine below_drewN ?_ _) | (with_reducible refine Below.setCell ?_ ?_ _) | (with_reducible refine Below.trans ?_ (Below.mono (by with_reducible assumption) ?_)) | (with_reducible exact Below.size (by with_reducible assumption)) | go_size))); have hz_hb1 := hb1.size; (try simp at hz_hb1); (try simp only [Nat.add_one_le_iff] at hz_hb1); have hz0_hb1 : w.heap.size < w1.heap.size := (by omega); have hz1_hb1 : w.heap.size + 1 < w1.heap.size := (by omega); have hz2_hb1 : w.heap.size + 1 + 1 < w1.heap.size := (by omega)
  have hw1 : Below w.heap.size w w1 := by (repeat' (first | (with_reducible exact Below.refl _ _) | (with_reducible assumption) | (with_reducible refine Below.alloc ?_ ?_ _) | (with_reducible refine Below.drew ?_) | (with_reducible refine below_drewN ?_ _) | (with_reducible refine Below.setCell ?_ ?_ _) | (with_reducible refine Below.trans ?_ (Below.mono (by with_reducible assumption) ?_)) | (with_reducible exact Below.size (by with_reducible assumption)) | go_size))
  obtain ⟨t1, t2, t3⟩ := three_new w #[.slice a1 M.length c1, .slice a2 M.length c2] (.bool false) (.int .i64 0) 27 4 2
  have hz3 : w.heap.size + 3 ≤ w1.heap.size := by have := hb1.size; simp at this; omega
  have bR1 : Boxed w1 (w.heap.size + 1) 4 (.bool false) := (hb1.block _ (by simp)).trans t1
  have bR2 : Boxed w1 (w.heap.size + 2) 2 (.int .i64 0) := (hb1.block _ (by simp)).trans t2
  have p1 : w1.heap[w.heap.size]? = some (.cells #[.slice a1 M.length c1, .slice a2 M.length c2] 27 (0, 0)) := (hb1.block _ (by simp; omega)).trans t3
  clear t1 t2 t3 hb1
  gi_wp2_with fail
  refine ⟨trivial, ?_⟩
  gi_at_call 76
  refine (basicPoints_in _ _ _).mono ?_
  rintro e w2 ⟨rfl, rfl⟩
  gi_wp2_with fail
  obtain ⟨W0, hW0⟩ : ∃ W0, W0 = w1.alloc (.cells #[.slice a1 M.length c1, .slice a2 M.length c2] 27) := ⟨_, rfl⟩
  have hB0 : Below w1.heap.size w1 W0 := by rw [hW0]; exact (Below.refl _ _).alloc (Nat.le_refl _) _
  have hw0 : Below w.heap.size w W0 := hw1.trans (hB0.mono hw1.size)
  have d0 : W0.cell? ⟨w1.heap.size, 0, none⟩ = some (.slice a1 M.length c1) := by rw [hW0]; simp
  have d1 : W0.cell? ⟨w1.heap.size, 1, none⟩ = some (.slice a2 M.length c2) := by rw [hW0]; simp
  have hz0 : W0.heap.size = w1.heap.size + 1 := by rw [hW0]; simp
  have r1 := boxed_low bR1 hB0
  have r2 := boxed_low bR2 hB0
  rw [← hW0]
  clear hW0 bR1 bR2 p1
  have f1 := (isPB_facts HP.out).1
  have f2 := (isPB_facts HP.out).2.1
  have hst : PR.Tells Fence.wide 7 Try.prog 108 #[.pointer (some ⟨w1.heap.size, 0, none⟩)] (fun x : Int × Value => #[.int .i64 (Prod.fst x), Prod.snd x]) (Below W0.heap.size) (ptAt M Q T) (fun ys => ys.map Prod.fst = basTo M T) 32 W0 := by
    intro l J Jx W hW hJ _ hY h0
    refine (basic1_in a1 a2 c1 c2 M.length T M Q l w1.heap.size 32 J Jx W0 W f1 f2 hT (by rw [hT]; exact pt_bas HP.out) (HQ1.out _ hw0) (HQ2.out _ hw0) (by omega) d0 d1 hW hJ (Nat.le_refl _) hY h0).mono ?_
    rintro e W' ⟨h1, h2 | ⟨pre, _, h2⟩⟩
    · exact ⟨h1, .inl h2⟩
    · exact ⟨h1, .inr ⟨pre, h2⟩⟩
  have HST := Lib.hid hst
  clear hst hT d0 d1
  refine PR.wpIn_rangeFunc_tells (α := Int × Value) rfl (by omega) (gf := 108) (lb := #[.pointer (some ⟨w1.heap.size, 0, none⟩)]) rfl trivial (enters_of Try.func108 (by kernel_rfl) rfl)
    HST.out belowK_t (belowK_b (Nat.le_refl _)) (Below.refl _ _) (fun _ => rfl)
    (fun x W l o o' hl ho h => ⟨ownsRow_putObj h.1 o' hl ho, h.2⟩)
    (fun (pre : List (Int × Value)) W => ((∀ x ∈ pre, hasZ (ptL M Q x.1) = false) ∧ Boxed W (w.heap.size + 1) 4 (.bool false) ∧ Boxed W (w.heap.size + 2) 2 (.int .i64 0) ∧ W0.heap.size ≤ W.heap.size) ∧ Below w.heap.size w W)
    (fun _ W => (degB M Q T = true ∧ Boxed W (w.heap.size + 1) 4 (.bool true) ∧ Boxed W (w.heap.size + 2) 2 (.int .i64 0)) ∧ Below w.heap.size w W)
    (OwnFrom.and (fun s X Y row hs hg hr => by
      have hk := KC.of hg (fun r e => (hr r e).2)
      exact ⟨hs.1, hk.same _ _ _ _ hs.2.1, hk.same _ _ _ _ hs.2.2.1, Nat.le_trans hs.2.2.2 hk.size⟩) (ownFrom_below (Nat.le_refl _) (by omega)))
    (OwnFrom.and (fun s X Y row hs hg hr => by
      have hk := KC.of hg (fun r e => (hr r e).2)
      exact ⟨hs.1, hk.same _ _ _ _ hs.2.1, hk.same _ _ _ _ hs.2.2⟩) (ownFrom_below (Nat.le_refl _) (by omega)))
    ⟨⟨fun x hx => by simp at hx, r1, r2, Nat.le_refl _⟩, hw0⟩
    ?a1 ?assign ?body ?done ?stop
  case assign =>
    intro l x W K hK
    gi_wp2
    exact hK
  case body =>
    rintro l pre ⟨x, y⟩ W ⟨⟨hno, q1, q2, hsW⟩, hB⟩ ⟨hO, k, hk, hxk, hbas⟩ hlt
    dsimp only at hO hxk
    subst hxk
    have hll : (ptL M Q k).length = M.length := by unfold ptL; simp
    obtain ⟨g, cap, rfl, hgl⟩ : ∃ g cap, y = .slice (some ⟨g, 0, none⟩) M.length cap ∧ g < W.heap.size := by
      rcases hO.cases with ⟨_, hn⟩ | ⟨g, cap, hv, hlt⟩
      · rw [hn] at hll; simp at hll; omega
      · exact ⟨g, cap, by rw [hv, hll], hlt⟩
    have hct := fun (W' : World) (hb : Below W.heap.size W W') => containsF_any g cap M.length (ptL M Q k) W' (hO.below hb hgl) hll.symm (Nat.lt_of_lt_of_le hgl hb.size) (by omega) (fun j hj h => pt_zero HP.out (bas_ne hbas) j hj h)
    have hzw := q1.lt
    have hzw2 := q2.lt
    have k1 := fun (W' : World) (hb : Below W.heap.size W W') => boxed_low q1 hb
    have k2 := fun (W' : World) (hb : Below W.heap.size W W') => boxed_low q2 hb
    have K1 := Lib.hid k1
    have K2 := Lib.hid k2
    cases hz : hasZ (ptL M Q k)
    case' true =>
      have HDY := Lib.hid (degB_yes hk hbas hz)
    case' false =>
      have HNO : Hid (∀ x ∈ pre ++ [((k : Int), Value.slice (some ⟨g, 0, none⟩) M.length cap)], hasZ (ptL M Q x.1) = false) := Lib.hid (fun x hx => by
        rw [List.mem_append] at hx
        rcases hx with hx | hx
        · exact hno x hx
        · simp at hx; rw [hx]; exact hz)
    all_goals
      rw [hz] at hct
      have HCT := Lib.hid hct
      have HB := Lib.hid hB
      clear hct hz hno hbas hO hll q1 q2 k1 k2 hB
      gi_wp2_with fail
      refine ⟨trivial, ?_⟩
      gi_at_call 85
      refine (CallsIn.inRound l (callsIn_wide.2 (zeroF_any _))).mono ?_
      rintro e w3 ⟨rfl, hb3⟩
      gi_wp2_with fail
      refine ⟨trivial, ?_⟩
      gi_at_call 84
      refine (CallsIn.inRound l (callsIn_wide.2 (HCT.out _ hb3))).mono ?_
      rintro e w4 ⟨rfl, hb4⟩
      have hb34 := hb3.trans (hb4.mono hb3.size)
      have q1 := K1.out _ hb34
      have q2 := K2.out _ hb34
      have c1 := q1.cell
      have c2 := q2.cell
      have e1 := q1.frozen
      have e2 := q2.frozen
      have hko : KeepsOthers W w4 := ⟨hb34.size, fun i o hi _ => (hb34.block i (Array.getElem?_eq_some_iff.1 hi).1).trans hi⟩
      have Q1 := Lib.hid q1
      have Q2 := Lib.hid q2
      have HKO := Lib.hid hko
      have HB4 := Lib.hid hb34
      clear hko hb3 hb4 q1 q2 hb34
      gi_wp2
    · exact ⟨HKO.out, HB4.out.mono hsW, ⟨HNO.out, Q1.out, Q2.out, Nat.le_trans hsW HB4.out.size⟩, HB.out.trans (HB4.out.mono HB.out.size)⟩
    · refine ⟨(HKO.out.trans (KeepsOthers.setCell _ _ _)).trans (KeepsOthers.setCell _ _ _), ⟨HDY.out, ?_, ?_⟩, ?_⟩
      · exact (Q1.out.set _).other (by omega) _
      · exact (Q2.out.other (by omega) _).set _
      · exact ((HB.out.trans (HB4.out.mono HB.out.size)).setCell (p := ⟨w.heap.size + 1, 0, none⟩) (by show _ ≤ _ + 1; omega) _).setCell (p := ⟨w.heap.size + 1 + 1, 0, none⟩) (by show _ ≤ _ + 1 + 1; omega) _
  case done =>
    rintro D ys W hD hys ⟨⟨hno, q1, q2, hsW⟩, hB⟩ hK
    have hdg := degB_no hys hno
    have HDG := Lib.hid hdg
    have c1 := q1.cell
    have c2 := q2.cell
    have e1 := q1.frozen
    have e2 := q2.frozen
    have Q1 := Lib.hid q1
    have Q2 := Lib.hid q2
    have HB := Lib.hid hB
    clear hno hys q1 q2 hB hdg
    gi_wp2
    have hK2 : ((W.setCell ⟨w.heap.size + 1, 0, none⟩ (.bool false)).setCell ⟨w.heap.size + 1 + 1, 0, none⟩ (.int .i64 0)).heap[D]? = some (.deferred (some [])) := (Below.heap_setCell _ _ _ _ (by show D ≠ _ + 1 + 1; omega)).trans ((Below.heap_setCell _ _ _ _ (by show D ≠ _ + 1; omega)).trans hK)
    obtain ⟨X, hX⟩ : ∃ X, X = (W.setCell ⟨w.heap.size + 1, 0, none⟩ (.bool false)).setCell ⟨w.heap.size + 1 + 1, 0, none⟩ (.int .i64 0) := ⟨_, rfl⟩
    have s1 : Boxed X (w.heap.size + 1) 4 (.bool false) := by rw [hX]; exact (Q1.out.set _).other (by omega) _
    have s2 : Boxed X (w.heap.size + 1 + 1) 2 (.int .i64 0) := by rw [hX]; exact (Q2.out.other (by omega) _).set _
    have hBX : Below w.heap.size w X := by rw [hX]; exact (HB.out.setCell (p := ⟨w.heap.size + 1, 0, none⟩) (by show _ ≤ _ + 1; omega) _).setCell (p := ⟨w.heap.size + 1 + 1, 0, none⟩) (by show _ ≤ _ + 1 + 1; omega) _
    rw [← hX] at hK2 ⊢
    have u1 := (s1.kept (grownBy_putObj' X D (.deferred none)) (by simp; omega)).cell
    have u2 := (s2.kept (grownBy_putObj' X D (.deferred none)) (by simp; omega)).cell
    refine ⟨by simp, .inl ⟨_, _, rfl, run_takeDeferred hK2, ?_⟩⟩
    refine ⟨.tuple #[.bool false, .int .i64 0], by simp [results, Try.results44, go_sem, u1, u2], ?_⟩
    exact ⟨by rw [HDG.out], hBX.trans (belowK_b (w := w) (Nat.le_refl _) X D _ _ (by omega) hK2 rfl rfl)⟩
  case stop =>
    rintro D pre W hD ⟨⟨hdg, q1, q2⟩, hB⟩ hK
    have HDG := Lib.hid hdg
    have c1 := q1.cell
    have c2 := q2.cell
    have Q1 := Lib.hid q1
    have Q2 := Lib.hid q2
    have HB := Lib.hid hB
    clear q1 q2 hB hdg
    gi_wp2
    have u1 := (Q1.out.kept (grownBy_putObj' W D (.deferred none)) (by simp; omega)).cell
    have u2 : (W.putObj D (.deferred none)).cell? ⟨w.heap.size + 1 + 1, 0, none⟩ = some (.int .i64 0) := (Q2.out.kept (grownBy_putObj' W D (.deferred none)) (by simp; omega)).cell
    refine ⟨by simp, .inl ⟨_, _, rfl, run_takeDeferred hK, ?_⟩⟩
    refine ⟨.tuple #[.bool true, .int .i64 0], by simp [results, Try.results44, go_sem, u1, u2], ?_⟩
    exact ⟨by rw [HDG.out], HB.out.trans (belowK_b (w := w) (Nat.le_refl _) W D _ _ (by omega) hK rfl rfl)⟩
end Go.Proofs.Ytoifpjmhikgjgaa.PW

namespace Go.Proofs.Ytoifpjmhikgjgaa.PW
open Go.RowKit Go.Proofs.Ytoifpjmhikgjgaa
open Go.Proofs.Ytoifpjmhikgjgaa.PM Go.Proofs.Ytoifpjmhikgjgaa.PX

def degOut (M : List (List Int)) (Q : List Int) : Bool × Int := if isPB M Q = true then (degB M Q (2 ^ M.length), 0) else (false, 1)
theorem degOut_ok {M : List (List Int)} {Q : List Int} (h : isPB M Q = true) : degOut M Q = (degB M Q (2 ^ M.length), 0) := by unfold degOut; rw [if_pos h]
theorem degOut_no {M : List (List Int)} {Q : List Int} (h : isPB M Q = false) : degOut M Q = (false, 1) := by unfold degOut; rw [if_neg (by rw [h]; exact Bool.noConfusion)]
theorem degB_zero (M : List (List Int)) (Q : List Int) : degB M Q 0 = false := rfl
theorem degB_skip {M : List (List Int)} {Q : List Int} {k : Nat} (h : dt M.length (colS M k) = 0) : degB M Q (k + 1) = degB M Q k := by unfold degB; rw [basTo_no h]
theorem degB_next {M : List (List Int)} {Q : List Int} {k : Nat} (h : dt M.length (colS M k) ≠ 0) (h2 : hasZ (ptL M Q k) = false) : degB M Q (k + 1) = degB M Q k := by
  unfold degB
  rw [basTo_yes h, List.any_append]
  simp [h2]

set_option maxRecDepth 100000 in
set_option maxHeartbeats 2000000 in
theorem isDegenerate_no (a1 a2 : Option Addr) (c1 c2 : Nat) (M : List (List Int)) (Q : List Int) (w : World) (hp : isPB M Q = false) (h1 : PM.Rows w (.slice a1 M.length c1) M) (h2 : Ints w (.slice a2 Q.length c2) Q) :
    CallsIn Fence.wide 8 Try.prog 44 #[.agg #[.slice a1 M.length c1, .slice a2 Q.length c2]] w fun e w' => e = .returned (.tuple #[.bool false, .int .i64 1]) ∧ Below w.heap.size w w' := by
  have HQ1 := Lib.hid (fun (w' : World) (h : Below w.heap.size w w') => h1.below h)
  have HQ2 := Lib.hid (fun (w' : World) (h : Below w.heap.size w w') => h2.below h)
  have HP := Lib.hid hp
  clear hp h1 h2
  refine callsIn_of_wp_marks Try.func44 rfl trivial ?_ rfl
  simp only [Try.ntmps44, List.size_toArray, List.length_cons, List.length_nil, Nat.reduceAdd, Nat.reduceSub, Array.replicate_succ, Array.replicate_zero, List.push_toArray, List.append_toArray, List.nil_append, List.cons_append]
  gi_wp2_with fail
  refine ⟨trivial, ?_⟩
  gi_at_call 60
  refine (callsIn_wide.2 (implIsProblem_any _ _ M Q _ (HQ1.out _ (by (repeat' (first | (with_reducible exact Below.refl _ _) | (with_reducible assumption) | (with_reducible refine Below.alloc ?_ ?_ _) | (with_reducible refine Below.drew ?_) | (with_reducible refine below_drewN ?_ _) | (with_reducible refine Below.setCell ?_ ?_ _) | (with_reducible refine Below.trans ?_ (Below.mono (by with_reducible assumption) ?_)) | (with_reducible exact Below.size (by with_reducible assumption)) | go_size)))) (HQ2.out _ (by (repeat' (first | (with_reducible exact Below.refl _ _) | (with_reducible assumption) | (with_reducible refine Below.alloc ?_ ?_ _) | (with_reducible refine Below.drew ?_) | (with_reducible refine below_drewN ?_ _) | (with_reducible refine Below.setCell ?_ ?_ _) | (with_reducible refine Below.trans ?_ (Below.mono (by with_reducible assumption) ?_)) | (with_reducible exact Below.size (by with_reducible assumption)) | go_size)))))).mono ?_
  rw [HP.out]; rintro e w1 ⟨rfl, hb1⟩; obtain ⟨hc_hb1, hf_hb1⟩ := bcell hb1; obtain ⟨hcA_hb1, hfA_hb1⟩ := bcellG (W0 := w) hb1 (by (repeat' (first | (with_reducible exact Below.refl _ _) | (with_reducible assumption) | (with_reducible refine Below.alloc ?_ ?_ _) | (with_reducible refine Below.drew ?_) | (with_reducible refine below_drewN ?_ _) | (with_reducible refine Below.setCell ?_ ?_ _) | (with_reducible refine Below.trans ?_ (Below.mono (by with_reducible assumption) ?_)) | (with_reducible exact Below.size (by with_reducible assumption)) | go_size))); have hz_hb1 := hb1.size; (try simp at hz_hb1); (try simp only [Nat.add_one_le_iff] at hz_hb1); have hz0_hb1 : w.heap.size < w1.heap.size := (by omega); have hz1_hb1 : w.heap.size + 1 < w1.heap.size := (by omega); have hz2_hb1 : w.heap.size + 1 + 1 < w1.heap.size := (by omega)
  have hw1 : Below w.heap.size w w1 := by (repeat' (first | (with_reducible exact Below.refl _ _) | (with_reducible assumption) | (with_reducible refine Below.alloc ?_ ?_ _) | (with_reducible refine Below.drew ?_) | (with_reducible refine below_drewN ?_ _) | (with_reducible refine Below.setCell ?_ ?_ _) | (with_reducible refine Below.trans ?_ (Below.mono (by with_reducible assumption) ?_)) | (with_reducible exact Below.size (by with_reducible assumption)) | go_size))
  obtain ⟨t1, t2, _⟩ := three_new w #[.slice a1 M.length c1, .slice a2 Q.length c2] (.bool false) (.int .i64 0) 27 4 2
  have q1 : Boxed w1 (w.heap.size + 1) 4 (.bool false) := (hb1.block _ (by simp)).trans t1
  have q2 : Boxed w1 (w.heap.size + 1 + 1) 2 (.int .i64 0) := (hb1.block _ (by simp)).trans t2
  have k1 := q1.cell
  have k2 := q2.cell
  have e1 := q1.frozen
  have e2 := q2.frozen
  have Q1 := Lib.hid q1
  have Q2 := Lib.hid q2
  clear q1 q2 t1 t2 hb1
  gi_wp2
  obtain ⟨X, hX⟩ : ∃ X, X = (w1.setCell ⟨w.heap.size + 1, 0, none⟩ (.bool false)).setCell ⟨w.heap.size + 1 + 1, 0, none⟩ (.int .i64 1) := ⟨_, rfl⟩
  have s1 : Boxed X (w.heap.size + 1) 4 (.bool false) := by rw [hX]; exact (Q1.out.set _).other (by omega) _
  have s2 : Boxed X (w.heap.size + 1 + 1) 2 (.int .i64 1) := by rw [hX]; exact (Q2.out.other (by omega) _).set _
  have hBX : Below w.heap.size w X := by rw [hX]; exact (hw1.setCell (p := ⟨w.heap.size + 1, 0, none⟩) (by show _ ≤ _ + 1; omega) _).setCell (p := ⟨w.heap.size + 1 + 1, 0, none⟩) (by show _ ≤ _ + 1 + 1; omega) _
  rw [← hX]
  have u1 := s1.cell
  have u2 := s2.cell
  refine ⟨.tuple #[.bool false, .int .i64 1], by simp [results, Try.results44, go_sem, u1, u2], ?_⟩
  exact ⟨rfl, hBX⟩

theorem implIsDegenerate_any (m q : Value) (M : List (List Int)) (Q : List Int) (w : World) (h1 : PM.Rows w m M) (h2 : Ints w q Q) : Calls Try.prog 44 #[.agg #[m, q]] w (OutB w (degOut M Q)) := by
  have h1' := h1
  have h2' := h2
  obtain ⟨a1, c1, rfl, _⟩ := h1
  obtain ⟨a2, c2, rfl, _⟩ := h2
  cases hp : isPB M Q
  · rw [degOut_no hp]
    exact callsIn_wide.1 (isDegenerate_no a1 a2 c1 c2 M Q w hp h1' h2')
  · rw [degOut_ok hp]
    exact callsIn_wide.1 (isDegenerate_in a1 a2 c1 c2 _ M Q w hp rfl h1' h2')

set_option maxRecDepth 100000 in
set_option maxHeartbeats 4000000 in
theorem specIsDegenerate_ok (a1 a2 : Option Addr) (c1 c2 n T : Nat) (M : List (List Int)) (Q : List Int) (w : World) (hp : isPB M Q = true) (hn : n = M.length) (hT : T = 2 ^ n) (hrm : PM.Rows w (.slice a1 n c1) M) (hrq : Ints w (.slice a2 n c2) Q) :
    Calls Try.prog 43 #[.agg #[.slice a1 n c1, .slice a2 n c2]] w fun e w' => e = .returned (.tuple #[.bool (degB M Q T), .int .i64 0]) ∧ Below w.heap.size w w' := by
  obtain ⟨f1, f2, _, _, _⟩ := isPB_facts hp
  obtain ⟨bad, hbad⟩ : ∃ bad : Nat → Prop, ∀ k, bad k ↔ dt M.length (colS M k) = 0 := ⟨_, fun _ => Iff.rfl⟩
  obtain ⟨D, hDD⟩ : ∃ D, D = degB M Q T := ⟨_, rfl⟩
  rw [← hDD]
  have HDD := Lib.hid hDD
  obtain ⟨m, hm⟩ : ∃ m, m = n := ⟨_, rfl⟩
  have hp0 := fun (w' : World) (hb : Below w.heap.size w w') (k : Nat) (hD : bad k) => l01Point_zero _ _ M Q k w' (hrm.below hb) (hrq.below hb) hp ((hbad k).1 hD)
  have hp1 := fun (w' : World) (hb : Below w.heap.size w w') (k : Nat) (hD : ¬ bad k) => l01Point_ok _ _ M Q k w' (hrm.below hb) (hrq.below hb) hp (fun c => hD ((hbad k).2 c))
  have his := fun (w' : World) (hb : Below w.heap.size w w') => l01Is_any _ _ M Q w' (hrm.below hb) (hrq.below hb)
  rw [hp] at his
  have hll : ∀ k : Nat, n = (ptL M Q k).length := fun k => by rw [hn]; unfold ptL; simp
  simp only [← hn] at hp1
  have hn1 : 1 ≤ n := by omega
  have hn5 : n ≤ 5 := by omega
  have HP0 := Lib.hid hp0
  have HP1 := Lib.hid hp1
  have HIS := Lib.hid his
  have HLL := Lib.hid hll
  have HLM : Hid (∀ k : Nat, m = (ptL M Q k).length) := Lib.hid (fun k => by rw [hm]; exact hll k)
  have HSK := Lib.hid (fun (k : Nat) (h : bad k) => degB_skip (M := M) (Q := Q) (k := k) ((hbad k).1 h))
  have HNX := Lib.hid (fun (k : Nat) (h : ¬ bad k) h2 => degB_next (M := M) (Q := Q) (k := k) (fun c => h ((hbad k).2 c)) h2)
  have HYS := Lib.hid (fun (k : Nat) (hk : k < T) (h : ¬ bad k) h2 => degB_yes (M := M) (Q := Q) (T := T) (k := k) hk (basTo_yes (fun c => h ((hbad k).2 c))) h2)
  obtain ⟨W0, hW0⟩ : ∃ W0, W0 = w.alloc (.cells #[.slice a1 n c1, .slice a2 n c2] 27) := ⟨_, rfl⟩
  have b0 : Below w.heap.size w W0 := by rw [hW0]; exact (Below.refl _ _).alloc (Nat.le_refl _) _
  have x0 : W0.cell? ⟨w.heap.size, 0, none⟩ = some (.slice a1 n c1) := by rw [hW0]; simp
  have x1 : W0.cell? ⟨w.heap.size, 1, none⟩ = some (.slice a2 n c2) := by rw [hW0]; simp
  have hbx : w.heap.size < W0.heap.size := by rw [hW0]; simp
  have B0 := Lib.hid b0
  have HW0 := Lib.hid hW0
  have X0 := Lib.hid x0
  have X1 := Lib.hid x1
  clear hp0 hp1 his hll f1 f2 hp hrm hrq hn hW0 b0 hbad hDD
  obtain rfl | rfl | rfl | rfl | rfl : n = 1 ∨ n = 2 ∨ n = 3 ∨ n = 4 ∨ n = 5 := by omega
  all_goals
    simp only [Nat.reducePow] at hT
    clear hn1 hn5
    go_enter Try.func43, Try.ntmps43
    go_wp2_with fail
    rw [← HW0.out]
    clear HW0
    refine (HIS.out _ B0.out).mono ?_; rintro e w1 ⟨rfl, hb1⟩
    have HB1 := Lib.hid hb1
    clear hb1 x0 x1
    go_wp2_with fail
    go_loopw [4, 5, 6, 7] (fun i _ _ _ wr => ∃ k : Nat, k ≤ T ∧ i = .int .i64 k ∧ degB M Q k = false ∧ Below W0.heap.size W0 wr) (fun i _ _ _ _ => T - (intOf i).toNat)
    case atStart => exact ⟨0, Nat.zero_le _, rfl, rfl, HB1.out⟩
    case round =>
      obtain ⟨k, hk, rfl, hdg, hB⟩ := hrel
      have HDG := Lib.hid hdg
      have d0 := (hB.cell (p := ⟨w.heap.size, 0, none⟩) hbx).trans X0.out
      have d1 := (hB.cell (p := ⟨w.heap.size, 1, none⟩) hbx).trans X1.out
      have HB := Lib.hid hB
      clear hdg hB
      by_cases hlt : k < T
      · by_cases hD : bad k
        · have hpt := HP0.out wr (B0.out.trans (HB.out.mono B0.out.size)) k hD
          have HPT := Lib.hid hpt
          have HS := Lib.hid (HSK.out k hD)
          clear hpt hD
          go_wp2_with fail
          refine HPT.out.mono ?_; rintro e w2 ⟨rfl, hb2⟩
          have HB2 := Lib.hid (HB.out.trans (hb2.mono HB.out.size))
          clear hb2
          go_wp2_with fail
          go_rounds 1
          all_goals go_wp2_with fail
          all_goals go_roundw
          case rel => exact ⟨k + 1, by omega, by go_num, by rw [HS.out]; exact HDG.out, HB2.out⟩
          case measure => simp [intOf]; omega
        · have hpt := HP1.out wr (B0.out.trans (HB.out.mono B0.out.size)) k hD
          have HPT := Lib.hid hpt
          have HN := Lib.hid (HNX.out k hD)
          have HY := Lib.hid (HYS.out k hlt hD)
          have HL := Lib.hid (HLL.out k)
          have HM := Lib.hid (HLM.out k)
          have hzy := fun j (hj : j < (ptL M Q k).length) h => hasZ_yes (xs := ptL M Q k) hj h
          have hzn := hasZ_no (xs := ptL M Q k)
          obtain ⟨P, hP⟩ : ∃ P, P = ptL M Q k := ⟨_, rfl⟩
          rw [← hP] at HPT HN HY HL HM hzy hzn
          have HZY := Lib.hid hzy
          have HZN := Lib.hid hzn
          clear hpt hD hzy hzn hP
          go_wp2_with fail
          refine HPT.out.mono ?_; rintro e w2 ⟨g, c, rfl, hf, hb2⟩
          have HB2 := Lib.hid (HB.out.trans (hb2.mono HB.out.size))
          have HO := Lib.hid hf.own
          clear hb2 hf
          go_wp2_with fail
          go_loop [7] (fun i => ∃ j : Nat, j ≤ m ∧ i = .int .i64 j ∧ ∀ q, q < j → (P.getD q (0, 0)).1 ≠ 0) (fun i => m - (intOf i).toNat)
          case atStart => exact ⟨0, Nat.zero_le _, rfl, fun q hq => absurd hq (Nat.not_lt_zero _)⟩
          case round =>
            obtain ⟨j, hj, rfl, hall⟩ := hrel
            have HA := Lib.hid hall
            clear hall
            by_cases hltj : j < m
            · have k0 := HO.out.cell0 HL.out (i := j) (by omega)
              have hyy := fun h => HY.out (HZY.out j (by have := HM.out; omega) h)
              have hnx : (P.getD j (0, 0)).1 ≠ 0 → ∀ q, q < j + 1 → (P.getD q (0, 0)).1 ≠ 0 := fun h q hq => by
                by_cases e : q = j
                · rw [e]; exact h
                · exact HA.out q (by omega)
              have HNQ := Lib.hid hnx
              have HYY := Lib.hid hyy
              obtain ⟨x, hx⟩ : ∃ x, x = (P.getD j (0, 0)).1 := ⟨_, rfl⟩
              rw [← hx] at k0 HNQ HYY
              clear hnx hyy hx
              by_cases e : x = 0
              · have HE := Lib.hid (HYY.out e)
                subst e
                go_wp2_with fail
                go_ret2
                exact ⟨by rw [HDD.out, HE.out]; rfl, B0.out.trans (HB2.out.mono B0.out.size)⟩
              · go_wp2_with fail
                go_round
                case rel => exact ⟨j + 1, by omega, by go_num, HNQ.out e⟩
                case measure => simp [intOf]; omega
            · obtain rfl : j = m := by omega
              have HS := Lib.hid (HN.out (HZN.out (fun q hq => HA.out q (by have := HM.out; omega))))
              go_wp2_with fail
              go_roundw
              case rel => exact ⟨k + 1, by omega, by go_num, by rw [HS.out]; exact HDG.out, HB2.out⟩
              case measure => simp [intOf]; omega
      · obtain rfl : k = T := by omega
        go_wp2_with fail
        go_ret2
        exact ⟨by rw [HDD.out, HDG.out]; rfl, B0.out.trans (HB.out.mono B0.out.size)⟩

set_option maxHeartbeats 1000000 in
theorem specIsDegenerate_any (m q : Value) (M : List (List Int)) (Q : List Int) (w : World) (h1 : PM.Rows w m M) (h2 : Ints w q Q) : Calls Try.prog 43 #[.agg #[m, q]] w (OutB w (degOut M Q)) := by
  have g1 := fun (w' : World) (h : Below w.heap.size w w') => h1.below h
  have g2 := fun (w' : World) (h : Below w.heap.size w w') => h2.below h
  have h1' := h1
  have h2' := h2
  obtain ⟨a1, c1, rfl, _⟩ := h1
  obtain ⟨a2, c2, rfl, _⟩ := h2
  cases hp : isPB M Q
  · rw [degOut_no hp]
    have HP := Lib.hid hp
    clear hp h1' h2'
    go_enter Try.func43, Try.ntmps43
    go_wp2_with fail
    refine (l01Is_any _ _ M Q _ (g1 _ (by (repeat' (first | (with_reducible exact Below.refl _ _) | (with_reducible assumption) | (with_reducible refine Below.alloc ?_ ?_ _) | (with_reducible refine Below.drew ?_) | (with_reducible refine below_drewN ?_ _) | (with_reducible refine Below.setCell ?_ ?_ _) | (with_reducible refine Below.trans ?_ (Below.mono (by with_reducible assumption) ?_)) | (with_reducible exact Below.size (by with_reducible assumption)) | go_size)))) (g2 _ (by (repeat' (first | (with_reducible exact Below.refl _ _) | (with_reducible assumption) | (with_reducible refine Below.alloc ?_ ?_ _) | (with_reducible refine Below.drew ?_) | (with_reducible refine below_drewN ?_ _) | (with_reducible refine Below.setCell ?_ ?_ _) | (with_reducible refine Below.trans ?_ (Below.mono (by with_reducible assumption) ?_)) | (with_reducible exact Below.size (by with_reducible assumption)) | go_size))))).mono ?_; rw [HP.out]; rintro e w1 ⟨rfl, hb1⟩; obtain ⟨hc_hb1, hf_hb1⟩ := bcell hb1; obtain ⟨hcA_hb1, hfA_hb1⟩ := bcellG (W0 := w) hb1 (by (repeat' (first | (with_reducible exact Below.refl _ _) | (with_reducible assumption) | (with_reducible refine Below.alloc ?_ ?_ _) | (with_reducible refine Below.drew ?_) | (with_reducible refine below_drewN ?_ _) | (with_reducible refine Below.setCell ?_ ?_ _) | (with_reducible refine Below.trans ?_ (Below.mono (by with_reducible assumption) ?_)) | (with_reducible exact Below.size (by with_reducible assumption)) | go_size))); have hz_hb1 := hb1.size; (try simp at hz_hb1); (try simp only [Nat.add_one_le_iff] at hz_hb1); have hz0_hb1 : w.heap.size < w1.heap.size := (by omega)
    go_wp2_with fail
    go_ret2
    exact ⟨rfl, by (repeat' (first | (with_reducible exact Below.refl _ _) | (with_reducible assumption) | (with_reducible refine Below.alloc ?_ ?_ _) | (with_reducible refine Below.drew ?_) | (with_reducible refine below_drewN ?_ _) | (with_reducible refine Below.setCell ?_ ?_ _) | (with_reducible refine Below.trans ?_ (Below.mono (by with_reducible assumption) ?_)) | (with_reducible exact Below.size (by with_reducible assumption)) | go_size))⟩
  · rw [degOut_ok hp]
    have hql := (isPB_facts hp).2.2.1
    rw [hql] at h2' ⊢
    exact specIsDegenerate_ok a1 a2 c1 c2 _ _ M Q w hp rfl rfl h1' h2'
set_option maxHeartbeats 4000000 in
theorem law_FnExactIsDegenerate (m q : Value) (M : List (List Int)) (Q : List Int) (w : World) (h1 : PM.Rows w m M) (h2 : Ints w q Q) :
    Calls Try.prog 10 #[.agg #[m, q]] w fun e w' => e = .returned (.bool true) ∧ Below w.heap.size w w' := by
  have g1 := fun (w' : World) (h : Below w.heap.size w w') => h1.below h
  have g2 := fun (w' : World) (h : Below w.heap.size w w') => h2.below h
  have I1 := Lib.hid (rows_I64 h1)
  have I2 := Lib.hid (ints_I64 h2)
  obtain ⟨a1, c1, rfl, _⟩ := h1
  obtain ⟨a2, c2, rfl, _⟩ := h2
  by_cases hz : szP M Q 1048576 < 0
  · have e1 := szP_neg hz
    have E1 := Lib.hid e1
    clear hz e1
    go_enter Try.func10, Try.ntmps10
    go_wp2_with fail
    refine (szProblem_any _ _ M Q _ (g1 _ (by (repeat' (first | (with_reducible exact Below.refl _ _) | (with_reducible assumption) | (with_reducible refine Below.alloc ?_ ?_ _) | (with_reducible refine Below.drew ?_) | (with_reducible refine below_drewN ?_ _) | (with_reducible refine Below.setCell ?_ ?_ _) | (with_reducible refine Below.trans ?_ (Below.mono (by with_reducible assumption) ?_)) | (with_reducible exact Below.size (by with_reducible assumption)) | go_size)))) (g2 _ (by (repeat' (first | (with_reducible exact Below.refl _ _) | (with_reducible assumption) | (with_reducible refine Below.alloc ?_ ?_ _) | (with_reducible refine Below.drew ?_) | (with_reducible refine below_drewN ?_ _) | (with_reducible refine Below.setCell ?_ ?_ _) | (with_reducible refine Below.trans ?_ (Below.mono (by with_reducible assumption) ?_)) | (with_reducible exact Below.size (by with_reducible assumption)) | go_size))))).mono ?_; rw [E1.out]; rintro e w1 ⟨rfl, hb1⟩; obtain ⟨hc_hb1, hf_hb1⟩ := bcell hb1; obtain ⟨hcA_hb1, hfA_hb1⟩ := bcellG (W0 := w) hb1 (by (repeat' (first | (with_reducible exact Below.refl _ _) | (with_reducible assumption) | (with_reducible refine Below.alloc ?_ ?_ _) | (with_reducible refine Below.drew ?_) | (with_reducible refine below_drewN ?_ _) | (with_reducible refine Below.setCell ?_ ?_ _) | (with_reducible refine Below.trans ?_ (Below.mono (by with_reducible assumption) ?_)) | (with_reducible exact Below.size (by with_reducible assumption)) | go_size))); have hz_hb1 := hb1.size; (try simp at hz_hb1); (try simp only [Nat.add_one_le_iff] at hz_hb1); have hz0_hb1 : w.heap.size < w1.heap.size := (by omega)
    go_wp2_with fail
    go_ret
    refine ⟨rfl, ?_⟩
    (repeat' (first | (with_reducible exact Below.refl _ _) | (with_reducible assumption) | (with_reducible refine Below.alloc ?_ ?_ _) | (with_reducible refine Below.drew ?_) | (with_reducible refine below_drewN ?_ _) | (with_reducible refine Below.setCell ?_ ?_ _) | (with_reducible refine Below.trans ?_ (Below.mono (by with_reducible assumption) ?_)) | (with_reducible exact Below.size (by with_reducible assumption)) | go_size))
  obtain ⟨hn1, hn2⟩ := szP_fits hz
  have hle := szP_le M Q
  have HN1 := Lib.hid hn1
  have HN2 := Lib.hid hn2
  clear hn1 hn2
  have hspec := fun (m q : Value) (w : World) (h1 : PM.Rows w m M) (h2 : Ints w q Q) => specIsDegenerate_any m q M Q w h1 h2
  have himpl := fun (m q : Value) (w : World) (h1 : PM.Rows w m M) (h2 : Ints w q Q) => implIsDegenerate_any m q M Q w h1 h2
  generalize degOut M Q = o at *
  obtain ⟨O, code⟩ := o
  have HS := Lib.hid hspec
  have HI := Lib.hid himpl
  clear hspec himpl
  go_enter Try.func10, Try.ntmps10
  go_wp2_with fail
  refine (szProblem_any _ _ M Q _ (g1 _ (by (repeat' (first | (with_reducible exact Below.refl _ _) | (with_reducible assumption) | (with_reducible refine Below.alloc ?_ ?_ _) | (with_reducible refine Below.drew ?_) | (with_reducible refine below_drewN ?_ _) | (with_reducible refine Below.setCell ?_ ?_ _) | (with_reducible refine Below.trans ?_ (Below.mono (by with_reducible assumption) ?_)) | (with_reducible exact Below.size (by with_reducible assumption)) | go_size)))) (g2 _ (by (repeat' (first | (with_reducible exact Below.refl _ _) | (with_reducible assumption) | (with_reducible refine Below.alloc ?_ ?_ _) | (with_reducible refine Below.drew ?_) | (with_reducible refine below_drewN ?_ _) | (with_reducible refine Below.setCell ?_ ?_ _) | (with_reducible refine Below.trans ?_ (Below.mono (by with_reducible assumption) ?_)) | (with_reducible exact Below.size (by with_reducible assumption)) | go_size))))).mono ?_; rintro e w1 ⟨rfl, hb1⟩; obtain ⟨hc_hb1, hf_hb1⟩ := bcell hb1; obtain ⟨hcA_hb1, hfA_hb1⟩ := bcellG (W0 := w) hb1 (by (repeat' (first | (with_reducible exact Below.refl _ _) | (with_reducible assumption) | (with_reducible refine Below.alloc ?_ ?_ _) | (with_reducible refine Below.drew ?_) | (with_reducible refine below_drewN ?_ _) | (with_reducible refine Below.setCell ?_ ?_ _) | (with_reducible refine Below.trans ?_ (Below.mono (by with_reducible assumption) ?_)) | (with_reducible exact Below.size (by with_reducible assumption)) | go_size))); have hz_hb1 := hb1.size; (try simp at hz_hb1); (try simp only [Nat.add_one_le_iff] at hz_hb1); have hz0_hb1 : w.heap.size < w1.heap.size := (by omega)
  generalize szP M Q 1048576 = left at *
  have hw1 : Below w.heap.size w w1 := by (repeat' (first | (with_reducible exact Below.refl _ _) | (with_reducible assumption) | (with_reducible refine Below.alloc ?_ ?_ _) | (with_reducible refine Below.drew ?_) | (with_reducible refine below_drewN ?_ _) | (with_reducible refine Below.setCell ?_ ?_ _) | (with_reducible refine Below.trans ?_ (Below.mono (by with_reducible assumption) ?_)) | (with_reducible exact Below.size (by with_reducible assumption)) | go_size))
  go_wp2_with fail
  refine (toProblem_out _ _ M Q _ (g1 _ (by (repeat' (first | (with_reducible exact Below.refl _ _) | (with_reducible assumption) | (with_reducible refine Below.alloc ?_ ?_ _) | (with_reducible refine Below.drew ?_) | (with_reducible refine below_drewN ?_ _) | (with_reducible refine Below.setCell ?_ ?_ _) | (with_reducible refine Below.trans ?_ (Below.mono (by with_reducible assumption) ?_)) | (with_reducible exact Below.size (by with_reducible assumption)) | go_size)))) (g2 _ (by (repeat' (first | (with_reducible exact Below.refl _ _) | (with_reducible assumption) | (with_reducible refine Below.alloc ?_ ?_ _) | (with_reducible refine Below.drew ?_) | (with_reducible refine below_drewN ?_ _) | (with_reducible refine Below.setCell ?_ ?_ _) | (with_reducible refine Below.trans ?_ (Below.mono (by with_reducible assumption) ?_)) | (with_reducible exact Below.size (by with_reducible assumption)) | go_size)))) HN1.out HN2.out).mono ?_; rintro e w2 ⟨gA, gB, us2, rfl, hr2, hb2⟩; obtain ⟨hc_hb2, hf_hb2⟩ := bcell hb2; obtain ⟨hcA_hb2, hfA_hb2⟩ := bcellG (W0 := w1) hb2 (by (repeat' (first | (with_reducible exact Below.refl _ _) | (with_reducible assumption) | (with_reducible refine Below.alloc ?_ ?_ _) | (with_reducible refine Below.drew ?_) | (with_reducible refine below_drewN ?_ _) | (with_reducible refine Below.setCell ?_ ?_ _) | (with_reducible refine Below.trans ?_ (Below.mono (by with_reducible assumption) ?_)) | (with_reducible exact Below.size (by with_reducible assumption)) | go_size))); have hz_hb2 := hb2.size; (try simp at hz_hb2); (try simp only [Nat.add_one_le_iff] at hz_hb2); have hz0_hb2 : w.heap.size < w2.heap.size := (by omega)
  have R2 := Lib.hid (hr2.reads I1.out I2.out)
  clear hr2
  have hw2 : Below w.heap.size w w2 := hw1.trans (hb2.mono hw1.size)
  go_wp2_with fail
  refine (HS.out _ _ _ R2.out.1 R2.out.2).mono ?_; rintro e w3 ⟨rfl, hb3⟩; dsimp only; obtain ⟨hc_hb3, hf_hb3⟩ := bcell hb3; obtain ⟨hcA_hb3, hfA_hb3⟩ := bcellG (W0 := w2) hb3 (by (repeat' (first | (with_reducible exact Below.refl _ _) | (with_reducible assumption) | (with_reducible refine Below.alloc ?_ ?_ _) | (with_reducible refine Below.drew ?_) | (with_reducible refine below_drewN ?_ _) | (with_reducible refine Below.setCell ?_ ?_ _) | (with_reducible refine Below.trans ?_ (Below.mono (by with_reducible assumption) ?_)) | (with_reducible exact Below.size (by with_reducible assumption)) | go_size))); have hz_hb3 := hb3.size; (try simp at hz_hb3); (try simp only [Nat.add_one_le_iff] at hz_hb3); have hz0_hb3 : w.heap.size < w3.heap.size := (by omega)
  clear R2
  have hw3 : Below w.heap.size w w3 := hw2.trans (hb3.mono hw2.size)
  go_wp2_with fail
  refine (toProblem_out _ _ M Q _ (g1 _ (by (repeat' (first | (with_reducible exact Below.refl _ _) | (with_reducible assumption) | (with_reducible refine Below.alloc ?_ ?_ _) | (with_reducible refine Below.drew ?_) | (with_reducible refine below_drewN ?_ _) | (with_reducible refine Below.setCell ?_ ?_ _) | (with_reducible refine Below.trans ?_ (Below.mono (by with_reducible assumption) ?_)) | (with_reducible exact Below.size (by with_reducible assumption)) | go_size)))) (g2 _ (by (repeat' (first | (with_reducible exact Below.refl _ _) | (with_reducible assumption) | (with_reducible refine Below.alloc ?_ ?_ _) | (with_reducible refine Below.drew ?_) | (with_reducible refine below_drewN ?_ _) | (with_reducible refine Below.setCell ?_ ?_ _) | (with_reducible refine Below.trans ?_ (Below.mono (by with_reducible assumption) ?_)) | (with_reducible exact Below.size (by with_reducible assumption)) | go_size)))) HN1.out HN2.out).mono ?_; rintro e w4 ⟨gC, gD, us4, rfl, hr4, hb4⟩; obtain ⟨hc_hb4, hf_hb4⟩ := bcell hb4; obtain ⟨hcA_hb4, hfA_hb4⟩ := bcellG (W0 := w3) hb4 (by (repeat' (first | (with_reducible exact Below.refl _ _) | (with_reducible assumption) | (with_reducible refine Below.alloc ?_ ?_ _) | (with_reducible refine Below.drew ?_) | (with_reducible refine below_drewN ?_ _) | (with_reducible refine Below.setCell ?_ ?_ _) | (with_reducible refine Below.trans ?_ (Below.mono (by with_reducible assumption) ?_)) | (with_reducible exact Below.size (by with_reducible assumption)) | go_size))); have hz_hb4 := hb4.size; (try simp at hz_hb4); (try simp only [Nat.add_one_le_iff] at hz_hb4); have hz0_hb4 : w.heap.size < w4.heap.size := (by omega)
  have HR4 := Lib.hid hr4
  clear hr4
  have hw4 : Below w.heap.size w w4 := hw3.trans (hb4.mono hw3.size)
  go_wp2_with fail
  have hr4a := HR4.out.below (w' := w4.alloc (.cells #[.slice (some ⟨gC, 0, none⟩) M.length M.length, .slice (some ⟨gD, 0, none⟩) Q.length Q.length] 27)) (B := w4.heap.size) ((Below.refl _ _).alloc (Nat.le_refl _) _) (Nat.le_refl _)
  have R4 := Lib.hid (hr4a.reads I1.out I2.out)
  clear hr4a
  refine (HI.out _ _ _ R4.out.1 R4.out.2).mono ?_; rintro e w5 ⟨rfl, hb5⟩; dsimp only; obtain ⟨hc_hb5, hf_hb5⟩ := bcell hb5; obtain ⟨hcA_hb5, hfA_hb5⟩ := bcellG (W0 := w4) hb5 (by (repeat' (first | (with_reducible exact Below.refl _ _) | (with_reducible assumption) | (with_reducible refine Below.alloc ?_ ?_ _) | (with_reducible refine Below.drew ?_) | (with_reducible refine below_drewN ?_ _) | (with_reducible refine Below.setCell ?_ ?_ _) | (with_reducible refine Below.trans ?_ (Below.mono (by with_reducible assumption) ?_)) | (with_reducible exact Below.size (by with_reducible assumption)) | go_size))); have hz_hb5 := hb5.size; (try simp at hz_hb5); (try simp only [Nat.add_one_le_iff] at hz_hb5); have hz0_hb5 : w.heap.size < w5.heap.size := (by omega)
  have hz45 : w4.heap.size < w5.heap.size := by omega
  clear R4
  have hw45 : Below w4.heap.size w4 w5 := ((Below.refl w4.heap.size w4).alloc (Nat.le_refl _) _).trans (hb5.mono (by simp))
  have x50 : w5.cell? ⟨w4.heap.size, 0, none⟩ = some (.slice (some ⟨gC, 0, none⟩) M.length M.length) := by rw [hc_hb5 _ _ (by simp)]; simp
  have x51 : w5.cell? ⟨w4.heap.size, 1, none⟩ = some (.slice (some ⟨gD, 0, none⟩) Q.length Q.length) := by rw [hc_hb5 _ _ (by simp)]; simp
  have hw13 : Below w1.heap.size w1 w3 := hb2.trans (hb3.mono hb2.size)
  have hw35 : Below w3.heap.size w3 w5 := hb4.trans (hw45.mono hb4.size)
  have hw15 : Below w1.heap.size w1 w5 := hw13.trans (hw35.mono hw13.size)
  have hw5 : Below w.heap.size w w5 := hw3.trans (hw35.mono hw3.size)
  have p10 : w1.cell? ⟨w.heap.size, 0, none⟩ = some (.slice a1 M.length c1) := by rw [hc_hb1 _ _ (by simp)]; simp
  have p11 : w1.cell? ⟨w.heap.size, 1, none⟩ = some (.slice a2 Q.length c2) := by rw [hc_hb1 _ _ (by simp)]; simp
  have hvq : Vq w5 w.heap.size w4.heap.size (.slice a1 M.length c1) (.slice a2 Q.length c2) (.slice (some ⟨gC, 0, none⟩) M.length M.length) (.slice (some ⟨gD, 0, none⟩) Q.length Q.length) :=
    ⟨(hw15.cell (p := ⟨w.heap.size, 0, none⟩) hz0_hb1).trans p10, (hw15.cell (p := ⟨w.heap.size, 1, none⟩) hz0_hb1).trans p11, x50, x51, by omega, hz45⟩
  have hX5 := HR4.out.below hw45 (Nat.le_refl _)
  obtain ⟨P, hP⟩ : ∃ P, P = w.heap.size := ⟨_, rfl⟩
  obtain ⟨A1, hA1⟩ : ∃ A1, A1 = w3.heap.size := ⟨_, rfl⟩
  obtain ⟨V, hV⟩ : ∃ V, V = w4.heap.size := ⟨_, rfl⟩
  rw [← hP] at hvq
  rw [← hA1] at hX5
  rw [← hV] at hX5 hvq hz45
  rw [← hP, ← hV]
  clear hP hA1 hV hw13 hw15 hw35 hw45 p10 p11 x50 x51 HR4 hw1 hw2 hw3 hw4 HS
  clear hc_hb1 hf_hb1 hcA_hb1 hfA_hb1 hz_hb1 hz0_hb1 hb1 hc_hb2 hf_hb2 hcA_hb2 hfA_hb2 hz_hb2 hz0_hb2 hb2 hc_hb3 hf_hb3 hcA_hb3 hfA_hb3 hz_hb3 hz0_hb3 hb3 hc_hb4 hf_hb4 hcA_hb4 hfA_hb4 hz_hb4 hz0_hb4 hb4 hc_hb5 hf_hb5 hcA_hb5 hfA_hb5 hz_hb5 hz0_hb5 hb5
  have RX := Lib.hid (hX5.reads I1.out I2.out)
  obtain ⟨k1, k2, k3, k4, l1, l2⟩ := hvq
  have r1 : ∀ w', Below w5.heap.size w5 w' → w'.cell? ⟨P, 0, none⟩ = some (.slice a1 M.length c1) := fun w' h => (h.cell (p := ⟨P, 0, none⟩) (by show P < _; omega)).trans k1
  have r2 : ∀ w', Below w5.heap.size w5 w' → w'.cell? ⟨P, 1, none⟩ = some (.slice a2 Q.length c2) := fun w' h => (h.cell (p := ⟨P, 1, none⟩) (by show P < _; omega)).trans k2
  have r3 : ∀ w', Below w5.heap.size w5 w' → w'.cell? ⟨V, 0, none⟩ = some (.slice (some ⟨gC, 0, none⟩) M.length M.length) := fun w' h => (h.cell (p := ⟨V, 0, none⟩) (by show V < _; omega)).trans k3
  have r4 : ∀ w', Below w5.heap.size w5 w' → w'.cell? ⟨V, 1, none⟩ = some (.slice (some ⟨gD, 0, none⟩) Q.length Q.length) := fun w' h => (h.cell (p := ⟨V, 1, none⟩) (by show V < _; omega)).trans k4
  clear hX5 k1 k2 k3 k4 hz45
  go_wp2_with fail
  go_region_held3 (fun w' => Below w5.heap.size w5 w') ((repeat' (first | (with_reducible exact Below.refl _ _) | (with_reducible assumption) | (with_reducible refine Below.alloc ?_ ?_ _) | (with_reducible refine Below.drew ?_) | (with_reducible refine below_drewN ?_ _) | (with_reducible refine Below.setCell ?_ ?_ _) | (with_reducible refine Below.trans ?_ (Below.mono (by with_reducible assumption) ?_)) | (with_reducible exact Below.size (by with_reducible assumption)) | go_size)))
    (first | (go_at_call 17; refine (toProblem_out _ _ M Q _ (g1 _ (hw5.trans (Below.mono (by assumption) hw5.size))) (g2 _ (hw5.trans (Below.mono (by assumption) hw5.size))) HN1.out HN2.out).mono ?_; rintro e w8 ⟨gE, gF, us8, rfl, hr8, hb8⟩; have hS8 : Below w5.heap.size w5 w8 := (by (repeat' (first | (with_reducible exact Below.refl _ _) | (with_reducible assumption) | (with_reducible refine Below.alloc ?_ ?_ _) | (with_reducible refine Below.drew ?_) | (with_reducible refine below_drewN ?_ _) | (with_reducible refine Below.setCell ?_ ?_ _) | (with_reducible refine Below.trans ?_ (Below.mono (by with_reducible assumption) ?_)) | (with_reducible exact Below.size (by with_reducible assumption)) | go_size))); have R8 := Lib.hid (hr8.reads I1.out I2.out); clear hr8) | (go_at_call 19; refine (eqProblem_same _ _ _ _ M Q _ (RX.out.1.below hS8) (RX.out.2.below hS8) R8.out.1 R8.out.2).mono ?_; rintro e w9 ⟨rfl, hb9⟩; have hS9 : Below w5.heap.size w5 w9 := (by (repeat' (first | (with_reducible exact Below.refl _ _) | (with_reducible assumption) | (with_reducible refine Below.alloc ?_ ?_ _) | (with_reducible refine Below.drew ?_) | (with_reducible refine below_drewN ?_ _) | (with_reducible refine Below.setCell ?_ ?_ _) | (with_reducible refine Below.trans ?_ (Below.mono (by with_reducible assumption) ?_)) | (with_reducible exact Below.size (by with_reducible assumption)) | go_size)))))
  have hw9 : Below w.heap.size w w9 := hw5.trans (hS9.mono hw5.size)
  go_wp2_with fail
  go_ret
  exact ⟨rfl, hw9⟩
end Go.Proofs.Ytoifpjmhikgjgaa.PW
