/-
  The orientation of a problem: its answer; in the program.
-/
import Derived.Test.YtoglmkjmnknbbaaPNonA
import Derived.Test.YtoglmkjmnknbbaaCArr
import Derived.Test.YtoglmkjmnknbbaaCIm
import Derived.Test.YtoglmkjmnknbbaaPWalkQ
import Derived.Test.YtoglmkjmnknbbaaCTurn
namespace Go.Proofs.Ytoglmkjmnknbbaa.PW
open Go.RowKit Go.Proofs.Ytoglmkjmnknbbaa
open Go.Proofs.Ytoglmkjmnknbbaa.PM Go.Proofs.Ytoglmkjmnknbbaa.PX

/-- The numbers of the first i places that p tells, as a set. -/
def mskTo (p : Nat → Bool) : Nat → Int
  | 0 => 0
  | i + 1 => mskTo p i + (if p i then 2 ^ i else 0)
theorem mskTo_bd (p : Nat → Bool) (i : Nat) : 0 ≤ mskTo p i ∧ mskTo p i < 2 ^ i := by
  induction i with
  | zero => simp [mskTo]
  | succ i ih =>
    rw [mskTo, Int.pow_succ]
    have : (0 : Int) < 2 ^ i := Int.pow_pos (by decide)
    split <;> omega
theorem or_dec : ∀ i : Fin 5, ∀ m : Fin 32, m.val < 2 ^ i.val → bits BinOp.or IntKind.i64 ((m.val : Nat) : Int) (2 ^ i.val) = ((m.val : Nat) : Int) + 2 ^ i.val := by decide +kernel
theorem mskTo_or (p : Nat → Bool) {i : Nat} (hi : i < 5) : bits BinOp.or IntKind.i64 (mskTo p i) (2 ^ i) = mskTo p i + 2 ^ i := by
  obtain ⟨h0, h1⟩ := mskTo_bd p i
  obtain ⟨m, hm⟩ := Int.eq_ofNat_of_zero_le h0
  rw [hm] at h1 ⊢
  have h2 : (2 : Int) ^ i = ((2 ^ i : Nat) : Int) := by rw [Int.natCast_pow]; rfl
  have h3 : m < 2 ^ i := by rw [h2] at h1; exact_mod_cast h1
  have h4 : (2 : Nat) ^ i ≤ 2 ^ 4 := Nat.pow_le_pow_right (show 0 < 2 by omega) (by omega)
  exact or_dec ⟨i, hi⟩ ⟨m, by omega⟩ h3
/-- Which numbers of the point are less than 0. -/
def negP (M : List (List Int)) (Q : List Int) (k i : Nat) : Bool := decide ((ptF M Q k i).1 < 0)
def mskS (M : List (List Int)) (Q : List Int) (k : Nat) : Int := mskTo (negP M Q k) M.length
def goodS (M : List (List Int)) (Q : List Int) (k : Nat) : Bool := decide (dt M.length (colS M k) ≠ 0) && (List.range M.length).all fun i => decide ((ptF M Q k i).1 ≠ 0)
def mskL (M : List (List Int)) (Q : List Int) : List Int := (List.range (2 ^ M.length)).map (mskS M Q)
def cpB (M : List (List Int)) (Q : List Int) : Bool := (List.range (2 ^ M.length)).all (goodS M Q) && isCB M.length (mskL M Q)
def cpOut (M : List (List Int)) (Q : List Int) : (Int × List Int) × Int :=
  if isPB M Q = true then (if cpB M Q = true then (((M.length : Int), mskL M Q), 0) else ((0, []), 5)) else ((0, []), 1)
theorem cpOut_no {M : List (List Int)} {Q : List Int} (h : isPB M Q = false) : cpOut M Q = ((0, []), 1) := by unfold cpOut; rw [if_neg (by rw [h]; exact Bool.noConfusion)]
theorem cpOut_bad {M : List (List Int)} {Q : List Int} {k : Nat} (h : isPB M Q = true) (hk : k < 2 ^ M.length) (hg : goodS M Q k = false) : cpOut M Q = ((0, []), 5) := by
  have : cpB M Q = false := by
    unfold cpB
    rw [List.all_eq_false.2 ⟨k, by simp [hk], by simp [hg]⟩]
    rfl
  unfold cpOut
  rw [if_pos h, if_neg (by rw [this]; exact Bool.noConfusion)]
theorem cpOut_none {M : List (List Int)} {Q : List Int} (h : isPB M Q = true) (hc : isCB M.length (mskL M Q) = false) : cpOut M Q = ((0, []), 5) := by
  have : cpB M Q = false := by unfold cpB; rw [hc, Bool.and_false]
  unfold cpOut
  rw [if_pos h, if_neg (by rw [this]; exact Bool.noConfusion)]
theorem cpOut_ok {M : List (List Int)} {Q : List Int} (h : isPB M Q = true) (hg : ∀ k, k < 2 ^ M.length → goodS M Q k = true) (hc : isCB M.length (mskL M Q) = true) : cpOut M Q = (((M.length : Int), mskL M Q), 0) := by
  have : cpB M Q = true := by
    unfold cpB
    rw [hc, List.all_eq_true.2 (fun k hk => hg k (by simpa using hk))]
    rfl
  unfold cpOut
  rw [if_pos h, if_pos this]
theorem sgn_zero {x : Int} : sgn x = 0 ↔ x = 0 := by unfold sgn; split <;> (try split) <;> omega
theorem sgn_neg {x : Int} : sgn x < 0 ↔ x < 0 := by unfold sgn; split <;> (try split) <;> omega
theorem good_zero {M : List (List Int)} {Q : List Int} {k : Nat} (h : dt M.length (colS M k) = 0) : goodS M Q k = false := by unfold goodS; rw [decide_eq_false (by simp [h])]; rfl
theorem good_sg {M : List (List Int)} {Q : List Int} {k : Nat} (h : dt M.length (colS M k) ≠ 0) : goodS M Q k = !decide ((0 : Int) ∈ sgL M Q k) := by
  unfold goodS
  rw [decide_eq_true h, Bool.true_and]
  by_cases hm : (0 : Int) ∈ sgL M Q k
  · rw [decide_eq_true hm]
    obtain ⟨j, hj, hz⟩ := List.mem_map.1 hm
    exact List.all_eq_false.2 ⟨j, hj, by simp [sgn_zero.1 hz]⟩
  · rw [decide_eq_false hm]
    refine List.all_eq_true.2 (fun j hj => decide_eq_true (fun c => hm (List.mem_map.2 ⟨j, hj, by rw [c]; rfl⟩)))

/-- The array while the set k is written: its first i places are told. -/
def arrK (M : List (List Int)) (Q : List Int) (k i j : Nat) : Int := if j < k then mskS M Q j else if j = k then mskTo (negP M Q k) i else 0
theorem arrK_zero (M : List (List Int)) (Q : List Int) : arrK M Q 0 0 = fun _ => 0 := by
  funext j
  unfold arrK
  rw [if_neg (by omega)]
  split <;> rfl
theorem arrK_next (M : List (List Int)) (Q : List Int) (k j : Nat) : arrK M Q k M.length j = arrK M Q (k + 1) 0 j := by
  unfold arrK
  by_cases h : j < k
  · rw [if_pos h, if_pos (by omega)]
  · rw [if_neg h]
    by_cases e : j = k
    · subst e; rw [if_pos rfl, if_pos (by omega)]; rfl
    · rw [if_neg e, if_neg (by omega)]
      split <;> rfl
theorem arrK_at (M : List (List Int)) (Q : List Int) (k i : Nat) : arrK M Q k i k = mskTo (negP M Q k) i := by unfold arrK; rw [if_neg (by omega), if_pos rfl]
theorem arrK_yes {M : List (List Int)} {Q : List Int} {k i : Nat} (h : (ptF M Q k i).1 < 0) (j : Nat) : (if j = k then mskTo (negP M Q k) i + 2 ^ i else arrK M Q k i j) = arrK M Q k (i + 1) j := by
  by_cases e : j = k
  · subst e
    rw [if_pos rfl, arrK_at, mskTo, if_pos (by unfold negP; exact decide_eq_true h)]
  · rw [if_neg e]
    unfold arrK
    rw [if_neg e, if_neg e]
theorem arrK_no {M : List (List Int)} {Q : List Int} {k i : Nat} (h : ¬ (ptF M Q k i).1 < 0) (j : Nat) : arrK M Q k i j = arrK M Q k (i + 1) j := by
  by_cases e : j = k
  · subst e
    rw [arrK_at, arrK_at, mskTo, if_neg (by unfold negP; rw [decide_eq_false h]; exact Bool.noConfusion), Int.add_zero]
  · unfold arrK
    rw [if_neg e, if_neg e]
theorem arrK_all (M : List (List Int)) (Q : List Int) (k j : Nat) (h : j < k) : arrK M Q k 0 j = mskS M Q j := by unfold arrK; rw [if_pos h]

set_option maxRecDepth 100000 in
set_option maxHeartbeats 8000000 in
theorem implCubeOfProblem_any (m q : Value) (M : List (List Int)) (Q : List Int) (w : World) (h1 : PM.Rows w m M) (h2 : Ints w q Q) :
    Calls Try.prog 49 #[.agg #[m, q]] w (OutC w (cpOut M Q)) := by
  have g1 := fun (w' : World) (h : Below w.heap.size w w') => h1.below h
  have g2 := fun (w' : World) (h : Below w.heap.size w w') => h2.below h
  have HIP := Lib.hid (fun (w' : World) (h : Below w.heap.size w w') => implIsProblem_any m q M Q w' (g1 _ h) (g2 _ h))
  have HSG := Lib.hid (fun (k : Nat) (w' : World) (h : Below w.heap.size w w') => implSignsOfSet_any m q M Q k w' (g1 _ h) (g2 _ h))
  cases hp : isPB M Q
  · obtain ⟨a1, c1, rfl, _⟩ := h1
    obtain ⟨a2, c2, rfl, _⟩ := h2
    rw [cpOut_no hp]
    rw [hp] at HIP
    clear hp
    go_enter Try.func49, Try.ntmps49
    go_wp2_with fail
    refine (HIP.out _ (by (repeat' (first | (with_reducible exact Below.refl _ _) | (with_reducible assumption) | (with_reducible refine Below.alloc ?_ ?_ _) | (with_reducible refine Below.drew ?_) | (with_reducible refine below_drewN ?_ _) | (with_reducible refine Below.setCell ?_ ?_ _) | (with_reducible refine Below.trans ?_ (Below.mono (by with_reducible assumption) ?_)) | (with_reducible exact Below.size (by with_reducible assumption)) | go_size)))).mono ?_; rintro e w1 ⟨rfl, hb1⟩; obtain ⟨hc_hb1, hf_hb1⟩ := bcell hb1; obtain ⟨hcA_hb1, hfA_hb1⟩ := bcellG (W0 := w) hb1 (by (repeat' (first | (with_reducible exact Below.refl _ _) | (with_reducible assumption) | (with_reducible refine Below.alloc ?_ ?_ _) | (with_reducible refine Below.drew ?_) | (with_reducible refine below_drewN ?_ _) | (with_reducible refine Below.setCell ?_ ?_ _) | (with_reducible refine Below.trans ?_ (Below.mono (by with_reducible assumption) ?_)) | (with_reducible exact Below.size (by with_reducible assumption)) | go_size))); have hz_hb1 := hb1.size; (try simp at hz_hb1); (try simp only [Nat.add_one_le_iff] at hz_hb1); have hz0_hb1 : w.heap.size < w1.heap.size := (by omega); have hz1_hb1 : w.heap.size + 1 < w1.heap.size := (by omega)
    have hw1 : Below w.heap.size w w1 := by (repeat' (first | (with_reducible exact Below.refl _ _) | (with_reducible assumption) | (with_reducible refine Below.alloc ?_ ?_ _) | (with_reducible refine Below.drew ?_) | (with_reducible refine below_drewN ?_ _) | (with_reducible refine Below.setCell ?_ ?_ _) | (with_reducible refine Below.trans ?_ (Below.mono (by with_reducible assumption) ?_)) | (with_reducible exact Below.size (by with_reducible assumption)) | go_size))
    go_wp2_with fail
    refine bodyPost_ret (v := .tuple #[.agg #[.int .i64 0, .slice none 0 0], .int .i64 1]) (by simp [*, results, Try.results49, go_sem]) rfl ?_
    exact outC_err ((hw1.setCell (by simp) _).setCell (by simp) _)
  obtain ⟨f1, f2, hql, _, _⟩ := isPB_facts hp
  rw [hp] at HIP
  have hsc : ∀ k : Nat, k < 2 ^ M.length → setCode M Q k = 0 := fun k hk => setCode_ok hp (fun c => by
    rcases c with c | c
    · omega
    · have : ((2 ^ M.length : Nat) : Int) ≤ (k : Int) := by rw [Int.natCast_pow]; exact c
      omega)
  have HBAD := Lib.hid (fun (k : Nat) (hk : k < 2 ^ M.length) hg => cpOut_bad (Q := Q) hp hk hg)
  have HNON := Lib.hid (fun hc => cpOut_none (M := M) (Q := Q) hp hc)
  have HOK := Lib.hid (fun hg hc => cpOut_ok (M := M) (Q := Q) hp hg hc)
  have HSZ := Lib.hid (fun (k : Nat) (hk : k < 2 ^ M.length) (h : dt M.length (colS M k) = 0) => sgOut_zero (Q := Q) (hsc k hk) h)
  have HSO := Lib.hid (fun (k : Nat) (hk : k < 2 ^ M.length) (h : dt M.length (colS M k) ≠ 0) => sgOut_ok (Q := Q) (hsc k hk) h)
  obtain ⟨O, hO⟩ : ∃ O, O = cpOut M Q := ⟨_, rfl⟩
  rw [← hO] at HBAD HNON HOK ⊢
  have HSL := Lib.hid (fun k : Nat => show (sgL M Q k).length = M.length by unfold sgL; simp)
  have HSI := Lib.hid (fun k : Nat => show ∀ x ∈ sgL M Q k, I64 x from fun x hx => by
    obtain ⟨j, _, rfl⟩ := List.mem_map.1 hx
    unfold sgn I64
    split <;> (try split) <;> omega)
  have HSA := Lib.hid (fun (k i : Nat) (hi : i < M.length) => show (sgL M Q k).getD i 0 = sgn (ptF M Q k i).1 by unfold sgL; simp [hi])
  have HML : Hid ((List.range (2 ^ M.length)).map (arrK M Q (2 ^ M.length) 0) = mskL M Q) := Lib.hid (by
    unfold mskL
    exact List.map_congr_left (fun j hj => arrK_all M Q _ j (by simpa using hj)))
  have HMI := Lib.hid (show ∀ j, j < 2 ^ M.length → I64 (arrK M Q (2 ^ M.length) 0 j) from fun j hj => by
    rw [arrK_all M Q _ j hj]
    obtain ⟨h0, h1⟩ := mskTo_bd (negP M Q j) M.length
    have h5 : (2 : Nat) ^ M.length ≤ 2 ^ 5 := Nat.pow_le_pow_right (show 0 < 2 by omega) f2
    have h6 : (2 : Int) ^ M.length = ((2 ^ M.length : Nat) : Int) := by rw [Int.natCast_pow]; rfl
    unfold mskS I64
    omega)
  have hT32 : 2 ^ M.length ≤ 32 := Nat.pow_le_pow_right (show 0 < 2 by omega) f2
  have hwr : wrap64 ((2 : Int) ^ M.length) = ((2 ^ M.length : Nat) : Int) := by
    have h6 : (2 : Int) ^ M.length = ((2 ^ M.length : Nat) : Int) := by rw [Int.natCast_pow]; rfl
    rw [h6]
    generalize 2 ^ M.length = T at hT32 ⊢
    unfold wrap64
    omega
  obtain ⟨a1, c1, rfl, _⟩ := h1
  obtain ⟨a2, c2, rfl, _⟩ := h2
  obtain ⟨n, hn⟩ : ∃ n, n = M.length := ⟨_, rfl⟩
  have HGS := Lib.hid (fun (k : Nat) h => good_sg (M := M) (Q := Q) (k := k) h)
  have HGZ := Lib.hid (fun (k : Nat) h => good_zero (M := M) (Q := Q) (k := k) h)
  have HAN := Lib.hid (fun (k j : Nat) => arrK_next M Q k j)
  rw [← hn] at HAN HGS HGZ HML HMI HSA HSL HSO HSZ HOK HNON HBAD hT32 hwr f1 f2
  obtain ⟨T, hT⟩ : ∃ T, T = 2 ^ n := ⟨_, rfl⟩
  rw [← hT] at HML HMI HSO HSZ HOK HBAD hT32 hwr
  have HTT := Lib.hid hT
  have HWR := Lib.hid hwr
  have HNL := Lib.hid hn
  clear hp hql hsc hO hT hwr hn
  go_enter Try.func49, Try.ntmps49
  go_wp2_with fail
  refine (HIP.out _ (by (repeat' (first | (with_reducible exact Below.refl _ _) | (with_reducible assumption) | (with_reducible refine Below.alloc ?_ ?_ _) | (with_reducible refine Below.drew ?_) | (with_reducible refine below_drewN ?_ _) | (with_reducible refine Below.setCell ?_ ?_ _) | (with_reducible refine Below.trans ?_ (Below.mono (by with_reducible assumption) ?_)) | (with_reducible exact Below.size (by with_reducible assumption)) | go_size)))).mono ?_; rintro e w1 ⟨rfl, hb1⟩; obtain ⟨hc_hb1, hf_hb1⟩ := bcell hb1; obtain ⟨hcA_hb1, hfA_hb1⟩ := bcellG (W0 := w) hb1 (by (repeat' (first | (with_reducible exact Below.refl _ _) | (with_reducible assumption) | (with_reducible refine Below.alloc ?_ ?_ _) | (with_reducible refine Below.drew ?_) | (with_reducible refine below_drewN ?_ _) | (with_reducible refine Below.setCell ?_ ?_ _) | (with_reducible refine Below.trans ?_ (Below.mono (by with_reducible assumption) ?_)) | (with_reducible exact Below.size (by with_reducible assumption)) | go_size))); have hz_hb1 := hb1.size; (try simp at hz_hb1); (try simp only [Nat.add_one_le_iff] at hz_hb1); have hz0_hb1 : w.heap.size < w1.heap.size := (by omega); have hz1_hb1 : w.heap.size + 1 < w1.heap.size := (by omega)
  have hw1 : Below w.heap.size w w1 := by (repeat' (first | (with_reducible exact Below.refl _ _) | (with_reducible assumption) | (with_reducible refine Below.alloc ?_ ?_ _) | (with_reducible refine Below.drew ?_) | (with_reducible refine below_drewN ?_ _) | (with_reducible refine Below.setCell ?_ ?_ _) | (with_reducible refine Below.trans ?_ (Below.mono (by with_reducible assumption) ?_)) | (with_reducible exact Below.size (by with_reducible assumption)) | go_size))
  have x0 : w1.cell? ⟨w.heap.size, 0, none⟩ = some (.slice a1 M.length c1) := by rw [hc_hb1 _ _ (by go_size)]; simp
  have x1 : w1.cell? ⟨w.heap.size, 1, none⟩ = some (.slice a2 Q.length c2) := by rw [hc_hb1 _ _ (by go_size)]; simp
  have r0 : w1.cell? ⟨w.heap.size + 1, 0, none⟩ = some (.int .i64 0) := by rw [hc_hb1 _ _ (by go_size)]; simp
  have r1 : w1.cell? ⟨w.heap.size + 1, 1, none⟩ = some (.slice none 0 0) := by rw [hc_hb1 _ _ (by go_size)]; simp
  have fz : ∀ o, w1.frozen? ⟨w.heap.size + 1, o, none⟩ = false := fun o => by rw [hf_hb1 _ _ (by go_size)]; simp
  have hz1 : w.heap.size + 1 < w1.heap.size := by have := hb1.size; simp at this; omega
  have HK := Lib.hid (fun wr (h : Below w1.heap.size w1 wr) => show wr.cell? ⟨w.heap.size, 0, none⟩ = some (.slice a1 M.length c1) ∧ wr.cell? ⟨w.heap.size, 1, none⟩ = some (.slice a2 Q.length c2) ∧ wr.cell? ⟨w.heap.size + 1, 0, none⟩ = some (.int .i64 0) ∧ wr.cell? ⟨w.heap.size + 1, 1, none⟩ = some (.slice none 0 0) ∧ ∀ o, wr.frozen? ⟨w.heap.size + 1, o, none⟩ = false from
    ⟨(h.cell (p := ⟨w.heap.size, 0, none⟩) (by show w.heap.size < _; omega)).trans x0, (h.cell (p := ⟨w.heap.size, 1, none⟩) (by show w.heap.size < _; omega)).trans x1, (h.cell (p := ⟨w.heap.size + 1, 0, none⟩) hz1).trans r0, (h.cell (p := ⟨w.heap.size + 1, 1, none⟩) hz1).trans r1, fun o => (h.frozen (p := ⟨w.heap.size + 1, o, none⟩) hz1).trans (fz o)⟩)
  have HW1 := Lib.hid hw1
  rw [← HNL.out] at x0
  clear hc_hb1 hf_hb1 hcA_hb1 hfA_hb1 hb1 hw1 r0 r1 fz x1 hz_hb1
  go_wp2_with fail
  rw [HWR.out]
  obtain ⟨W2, hW2⟩ : ∃ W2, W2 = w1.alloc (.cells (arrC fun _ => 0) 119) := ⟨_, rfl⟩
  rw [← arrC_zero, ← hW2]
  have hb2 : Below w1.heap.size w1 W2 := by rw [hW2]; exact (Below.refl _ _).alloc (Nat.le_refl _) _
  obtain ⟨G, hG⟩ : ∃ G, G = w1.heap.size := ⟨_, rfl⟩
  have hA0 : Arr W2 G (arrK M Q 0 0) := by rw [hW2, arrK_zero, hG]; exact heap_alloc_new w1 _
  have HGG := Lib.hid hG
  rw [← hG]
  have HA0 := Lib.hid hA0
  have HB2 := Lib.hid hb2
  clear hW2 hA0 hb2 hG x0
  go_loopw [6, 7, 8, 9, 10, 21] (fun _ _ _ _ _ i wr => ∃ k : Nat, k ≤ T ∧ i = .int .i64 k ∧ Hid (∀ j, j < k → goodS M Q j = true) ∧ Arr wr G (arrK M Q k 0) ∧ Below w1.heap.size w1 wr) (fun _ _ _ _ _ i _ => T - (intOf i).toNat)
  case atStart => exact ⟨0, Nat.zero_le _, by go_num, fun j hj => absurd hj (Nat.not_lt_zero _), HA0.out, HB2.out⟩
  case round =>
    obtain ⟨k, hk, rfl, hgd, hA, hB⟩ := hrel
    obtain ⟨y0, y1, y2, y3, y4⟩ := HK.out wr hB
    have HA := Lib.hid hA
    have HB := Lib.hid hB
    have HBW := Lib.hid (HW1.out.trans (hB.mono HW1.out.size))
    have hzr : w.heap.size + 1 < wr.heap.size := Nat.lt_of_lt_of_le hz1 hB.size
    clear hA hB
    by_cases hlt : k < T
    · have hsg := HSG.out k wr HBW.out
      by_cases hD : dt n (colS M k) = 0
      · have HO := Lib.hid (HBAD.out k hlt (HGZ.out k hD))
        rw [HSZ.out k hlt hD] at hsg
        have HSGK := Lib.hid hsg
        clear hsg hD hgd
        go_wp2_with fail
        refine HSGK.out.mono ?_
        rintro e w2 ho
        obtain ⟨a3, c3, rfl, _, hb2⟩ := ho.out
        obtain ⟨z0, z1, z2, z3, z4⟩ := HK.out w2 (HB.out.trans (hb2.mono HB.out.size))
        have HBX := Lib.hid (HBW.out.trans (hb2.mono HBW.out.size))
        dsimp only
        clear ho hb2 y0 y1 y2 y3 y4
        go_wp2_with fail
        refine bodyPost_ret (v := .tuple #[.agg #[.int .i64 0, .slice none 0 0], .int .i64 5]) (by simp [*, results, Try.results49, go_sem]) rfl ?_
        rw [HO.out]
        exact outC_err ((HBX.out.setCell (by simp) _).setCell (by simp) _)
      · have hgk := HGS.out k hD
        rw [HSO.out k hlt hD] at hsg
        have hsl := HSL.out k
        have HSGK := Lib.hid hsg
        have HSLK := Lib.hid hsl
        have HSIK := Lib.hid (HSI.out k)
        have HSAK := Lib.hid (fun i (hi : i < n) => HSA.out k i hi)
        obtain ⟨S, hS⟩ : ∃ S, S = sgL M Q k := ⟨_, rfl⟩
        rw [← hS] at hgk HSGK HSLK HSIK HSAK
        have HBK := Lib.hid (fun hg => HBAD.out k hlt hg)
        have HGD := hgd
        clear hsg hD hgd hsl hS
        go_wp2_with fail
        refine HSGK.out.mono ?_
        rintro e w2 ho
        obtain ⟨a3, c3, rfl, hr, hb2⟩ := ho.out
        dsimp only at hr
        dsimp only
        obtain ⟨z0, z1, z2, z3, z4⟩ := HK.out w2 (HB.out.trans (hb2.mono HB.out.size))
        have HB2' := Lib.hid (HB.out.trans (hb2.mono HB.out.size))
        have HBX := Lib.hid (HBW.out.trans (hb2.mono HBW.out.size))
        have hGr : G < wr.heap.size := HA.out.lt
        have HA2 := Lib.hid (HA.out.below hb2 hGr)
        have HR := Lib.hid hr
        rw [HSLK.out] at HR ⊢
        have HCT := Lib.hid (contains_any (.slice a3 n c3) S 0 w2 (HR.out.own.ints HSIK.out))
        obtain ⟨g3, rfl, hg3⟩ : ∃ g3, a3 = some ⟨g3, 0, none⟩ ∧ wr.heap.size ≤ g3 := by
          obtain ⟨_, hor⟩ := HR.out.own
          rcases hor with ⟨hv, _⟩ | ⟨g, cap, cur, hv, _⟩
          · simp at hv
            have := hv.2.1
            omega
          · simp at hv
            refine ⟨g, hv.1, ?_⟩
            exact (HR.out.at_ g (by rw [hv.1]; simp [Value.ownBlock])).1
        have hg3G : g3 ≠ G := by omega
        clear ho hb2 y0 y1 y2 y3 y4 hr
        cases hm : decide ((0 : Int) ∈ S)
        case true =>
          have HO := Lib.hid (HBK.out (by rw [hgk, hm]; rfl))
          rw [hm] at HCT
          clear hm hgk
          go_wp2_with fail
          refine HCT.out.mono ?_
          rintro e w3 ⟨rfl, rfl⟩
          go_wp2_with fail
          refine bodyPost_ret (v := .tuple #[.agg #[.int .i64 0, .slice none 0 0], .int .i64 5]) (by simp [*, results, Try.results49, go_sem]) rfl ?_
          rw [HO.out]
          exact outC_err ((HBX.out.setCell (by simp) _).setCell (by simp) _)
        case false =>
          have HGK : Hid (∀ j, j < k + 1 → goodS M Q j = true) := Lib.hid (fun j hj => by
            by_cases e : j = k
            · rw [e, hgk, hm]; rfl
            · exact HGD.out j (by omega))
          rw [hm] at HCT
          clear hm hgk z0 z1 z2 z3 z4
          go_wp2_with fail
          refine HCT.out.mono ?_
          rintro e w3 ⟨rfl, rfl⟩
          go_wp2_with fail
          obtain ⟨Wr, rfl⟩ : ∃ Wr, Wr = wr := ⟨_, rfl⟩
          go_loopw [9, 10, 39] (fun _ _ i wq => ∃ ii : Nat, ii ≤ n ∧ i = .int .i64 ii ∧ Arr wq G (arrK M Q k ii) ∧ OwnI wq (.slice (some ⟨g3, 0, none⟩) n c3) S ∧ Below w1.heap.size w1 wq) (fun _ _ i _ => n - (intOf i).toNat)
          case atStart => exact ⟨0, Nat.zero_le _, rfl, HA2.out, HR.out.own, HB2'.out⟩
          case round =>
            obtain ⟨ii, hii, rfl, hA, hS, hB'⟩ := hrel
            by_cases hlti : ii < n
            · have hcs := own_cellN hS HSLK.out.symm hlti
              rw [HSAK.out ii hlti] at hcs
              have ha1 := hA.cell k (by omega)
              have ha2 := hA.frozen k
              rw [arrK_at] at ha1
              by_cases hneg : (ptF M Q k ii).1 < 0
              · have HA1 := Lib.hid (show Arr (wr.setCell ⟨G, k, none⟩ (.int .i64 (mskTo (negP M Q k) ii + 2 ^ ii))) G (arrK M Q k (ii + 1)) from (hA.set k _ (by omega)).congr (fun j _ => arrK_yes hneg j))
                have ht : Tch [G] wr (wr.setCell ⟨G, k, none⟩ (.int .i64 (mskTo (negP M Q k) ii + 2 ^ ii))) := (Tch.refl _ _).setCell (by simp) _
                have HS1 := Lib.hid (hS.tch ht (fun b hb c => by simp [Value.ownBlock] at hb c; omega))
                have HB1 := Lib.hid (show Below w1.heap.size w1 (wr.setCell ⟨G, k, none⟩ (.int .i64 (mskTo (negP M Q k) ii + 2 ^ ii))) from hB'.setCell (by rw [HGG.out]; exact Nat.le_refl _) _)
                have hor := mskTo_or (negP M Q k) (i := ii) (by omega)
                have hsn := sgn_neg.2 hneg
                have hpw : (2 : Int) ^ ii ≤ 16 := by
                  have h4 : (2 : Nat) ^ ii ≤ 2 ^ 4 := Nat.pow_le_pow_right (show 0 < 2 by omega) (by omega)
                  have h6 : (2 : Int) ^ ii = ((2 ^ ii : Nat) : Int) := by rw [Int.natCast_pow]; rfl
                  omega
                have hpw0 : (0 : Int) < 2 ^ ii := Int.pow_pos (by decide)
                generalize mskTo (negP M Q k) ii = x at *
                generalize sgn (ptF M Q k ii).1 = sx at *
                have hsh : IntKind.i64.wrap ((2 : Int) ^ ii) = 2 ^ ii := IntWalk.i64_in _ (by omega)
                have hkk : (k : Int) < 32 := by omega
                have hk0 : (0 : Int) ≤ (k : Int) := by omega
                clear hA hS hB' ht hneg hpw hpw0
                go_wp2_with fail
                go_region
                go_wp2_with fail
                go_roundw
                case rel => exact ⟨ii + 1, by omega, by go_num, HA1.out, HS1.out, HB1.out.drew⟩
                case measure => simp [intOf]; omega
              · have HA1 := Lib.hid (show Arr wr G (arrK M Q k (ii + 1)) from hA.congr (fun j _ => arrK_no hneg j))
                have HS1 := Lib.hid hS
                have HB1 := Lib.hid hB'
                have hsn : ¬ sgn (ptF M Q k ii).1 < 0 := fun c => hneg (sgn_neg.1 c)
                generalize sgn (ptF M Q k ii).1 = sx at *
                clear hA hS hB' hneg ha1 ha2
                go_wp2_with fail
                go_roundw
                case rel => exact ⟨ii + 1, by omega, by go_num, HA1.out, HS1.out, HB1.out⟩
                case measure => simp [intOf]; omega
            · obtain rfl : ii = n := by omega
              have HA1 := Lib.hid (show Arr wr G (arrK M Q (k + 1) 0) from hA.congr (fun j _ => HAN.out k j))
              have HB1 := Lib.hid hB'
              clear hA hS hB'
              go_wp2_with fail
              go_roundw
              case rel => exact ⟨k + 1, by omega, by go_num, HGK, HA1.out, HB1.out⟩
              case measure => simp [intOf]; omega
    · obtain rfl : k = T := by omega
      have hcu := cubeOf_any (arrK M Q k 0) n wr f1 f2 (by rw [← HTT.out]; exact HMI.out)
      rw [← HTT.out, HML.out] at hcu
      have HCU := Lib.hid hcu
      have hml : (mskL M Q).length = k := by rw [← HML.out]; simp
      have HMLL := Lib.hid hml
      have HMIX : Hid (∀ x ∈ mskL M Q, I64 x) := Lib.hid (by
        rw [← HML.out]
        intro x hx
        obtain ⟨j, hj, rfl⟩ := List.mem_map.1 hx
        exact HMI.out j (by simpa using hj))
      have HIC := Lib.hid (fun (q : Value) (w' : World) hq => implIsCube_any (n : Int) q (mskL M Q) w' hq)
      have HOKK := Lib.hid (HOK.out hgd.out)
      have HNN := HNON
      obtain ⟨ML, hML⟩ : ∃ ML, ML = mskL M Q := ⟨_, rfl⟩
      rw [← hML] at HCU HMLL HMIX HIC HOKK HNN
      clear hcu hml hML hgd y0 y1 y2 y3 y4
      go_wp2_with (refine wpList_load_row rfl 119 _ rfl G rfl _ _ _ _ HA.out Try.underlying119 rfl (by rw [arrC_size]; exact info_arr) ?_)
      refine HCU.out.mono ?_
      rintro e w3 ⟨g, gc, rfl, hf3, hb3⟩
      have HF3 := Lib.hid hf3
      have HB3 := Lib.hid hb3
      have hg3 : wr.heap.size ≤ g ∧ g < w3.heap.size := by
        obtain ⟨g', cc', hv', h1', h2', _⟩ := hf3
        simp at hv'
        omega
      clear hf3 hb3
      obtain ⟨P4, hP4⟩ : ∃ P4, P4 = w3.heap.size := ⟨_, rfl⟩
      obtain ⟨W4, hW4⟩ : ∃ W4, W4 = w3.alloc (.cells #[.int .i64 n, .slice (some ⟨g, 0, none⟩) k gc] 59) := ⟨_, rfl⟩
      have hb4 : Below w3.heap.size w3 W4 := by rw [hW4]; exact (Below.refl _ _).alloc (Nat.le_refl _) _
      have d0 : W4.cell? ⟨P4, 0, none⟩ = some (.int .i64 n) := by rw [hW4, hP4]; simp
      have d1 : W4.cell? ⟨P4, 1, none⟩ = some (.slice (some ⟨g, 0, none⟩) k gc) := by rw [hW4, hP4]; simp
      have hp4 : P4 < W4.heap.size := by rw [hW4, hP4]; simp
      have HF4 := Lib.hid (HF3.out.below hb4)
      have HB4 := Lib.hid (HB3.out.trans (hb4.mono HB3.out.size))
      have HIC4 := Lib.hid (HIC.out (.slice (some ⟨g, 0, none⟩) k gc) W4 (OwnI.ints (show OwnI W4 (.slice (some ⟨g, 0, none⟩) k gc) ML from HF4.out.owns) HMIX.out))
      have HW4 := Lib.hid hW4
      have HP4 := Lib.hid hP4
      have hgz : G < wr.heap.size := HA.out.lt
      have hg1 : w.heap.size + 1 < g := by omega
      have hgn : g < P4 := by omega
      have hp1 : w.heap.size + 1 < P4 := by omega
      clear hb4 hW4 hP4
      go_wp2_with fail
      rw [← HW4.out]
      refine HIC4.out.mono ?_
      rintro e w5 ⟨rfl, hb5⟩
      have HB5 := Lib.hid (HB.out.trans ((HB4.out.trans (hb5.mono HB4.out.size)).mono HB.out.size))
      obtain ⟨z0, z1, z2, z3, z4⟩ := HK.out w5 HB5.out
      have HW5 := Lib.hid (HW1.out.trans (HB5.out.mono HW1.out.size))
      have HF5 := Lib.hid (HF4.out.below hb5)
      have e0 := (hb5.cell (p := ⟨P4, 0, none⟩) hp4).trans d0
      have e1 := (hb5.cell (p := ⟨P4, 1, none⟩) hp4).trans d1
      rw [HP4.out] at e0 e1
      clear hb5 d0 d1
      cases hcb : isCB n ML
      · have HO := Lib.hid (HNN.out hcb)
        clear hcb e0 e1
        go_wp2_with fail
        refine bodyPost_ret (v := .tuple #[.agg #[.int .i64 0, .slice none 0 0], .int .i64 5]) (by simp [*, results, Try.results49, go_sem]) rfl ?_
        rw [HO.out]
        exact outC_err ((HW5.out.setCell (by simp) _).setCell (by simp) _)
      · have HO := Lib.hid (HOKK.out hcb)
        have hp1' : w.heap.size + 1 < w3.heap.size := by rw [← HP4.out]; exact hp1
        have hne : w3.heap.size ≠ w.heap.size + 1 := by omega
        clear hcb
        go_wp2_with fail
        refine bodyPost_ret (v := .tuple #[.agg #[.int .i64 n, .slice (some ⟨g, 0, none⟩) k gc], .int .i64 0]) (by simp [*, results, Try.results49, go_sem]) rfl ?_
        rw [HO.out]
        obtain ⟨g', gc', hv, g1, g2, g3⟩ := HF5.out
        have ht : Tch [w.heap.size + 1] w5 ((w5.setCell ⟨w.heap.size + 1, 0, none⟩ (.int .i64 n)).setCell ⟨w.heap.size + 1, 1, none⟩ (.slice (some ⟨g, 0, none⟩) k gc)) := ((Tch.refl _ _).setCell (by simp) _).setCell (by simp) _
        simp only [Value.slice.injEq, Option.some.injEq, Addr.mk.injEq, and_true] at hv
        obtain ⟨hg', -, -⟩ := hv
        exact ⟨_, rfl, ⟨g3.tch ht (fun b hb c => by simp [Value.ownBlock] at hb c; omega), fun b hb => by simp [Value.ownBlock] at hb; subst hb; exact ⟨by omega, by rw [← hg'] at g2; simpa using g2⟩⟩, (HW5.out.setCell (by simp) _).setCell (by simp) _⟩
end Go.Proofs.Ytoglmkjmnknbbaa.PW
