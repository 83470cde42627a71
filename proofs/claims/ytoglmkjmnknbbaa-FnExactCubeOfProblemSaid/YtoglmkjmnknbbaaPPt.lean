/-
  The program's point of a set.
  The model's point of a set; both sides' answers.
  The exact law of PointOf: both sides' answers, and the law.
-/
import Derived.Test.YtoglmkjmnknbbaaPFrB
import Derived.Test.YtoglmkjmnknbbaaPFrW
namespace Go.Proofs.Ytoglmkjmnknbbaa.PW
open Go.RowKit Go.Proofs.Ytoglmkjmnknbbaa
open Go.Proofs.Ytoglmkjmnknbbaa.PM Go.Proofs.Ytoglmkjmnknbbaa.PX

def ptF (M : List (List Int)) (Q : List Int) (s : Int) (j : Nat) : Int × Int := (FM.redN (dt M.length (setCol (colS M s) j Q)) (dt M.length (colS M s)), FM.redD (dt M.length (setCol (colS M s) j Q)) (dt M.length (colS M s)))
def ptL (M : List (List Int)) (Q : List Int) (s : Int) : List (Int × Int) := (List.range M.length).map (ptF M Q s)
def ptOut (M : List (List Int)) (Q : List Int) (s : Int) : List (Int × Int) × Int :=
  if setCode M Q s = 0 then (if dt M.length (colS M s) = 0 then ([], 5) else (ptL M Q s, 0)) else ([], setCode M Q s)
theorem ptOut_err {M : List (List Int)} {Q : List Int} {s c : Int} (h : setCode M Q s = c) (hc : c ≠ 0) : ptOut M Q s = ([], c) := by unfold ptOut; rw [if_neg (by omega), h]
theorem ptOut_zero {M : List (List Int)} {Q : List Int} {s : Int} (h : setCode M Q s = 0) (hd : dt M.length (colS M s) = 0) : ptOut M Q s = ([], 5) := by unfold ptOut; rw [if_pos h, if_pos hd]
theorem ptOut_ok {M : List (List Int)} {Q : List Int} {s : Int} (h : setCode M Q s = 0) (hd : dt M.length (colS M s) ≠ 0) : ptOut M Q s = (ptL M Q s, 0) := by unfold ptOut; rw [if_pos h, if_neg hd]
theorem isPB_right {M : List (List Int)} {Q : List Int} (hp : isPB M Q = true) (j : Nat) : Bd 100 (Q.getD j 0) := by
  obtain ⟨_, _, _, _, f5⟩ := isPB_facts hp
  by_cases hj : j < Q.length
  · exact f5 j hj
  · rw [List.getD_eq_getElem?_getD, List.getElem?_eq_none (by omega)]
    unfold Bd
    simp
theorem setCol_u {M : List (List Int)} {Q : List Int} (hp : isPB M Q = true) (s : Int) (k i j : Nat) : Bd (20 * u k j) (setCol (colS M s) k Q i j) := by
  unfold setCol u
  split
  · exact isPB_right hp i
  · exact colS_all hp s i j

theorem freshI_own {B : Nat} {w : World} {v : Value} {xs : List Int} (h : FreshI B w v xs) : OwnI w v xs := h.owns
def fillI (n k : Nat) (F : Nat → Int) : List Int := (List.range n).map fun j => if j < k then F j else 0
theorem fillI_zero (n : Nat) (F : Nat → Int) : fillI n 0 F = List.replicate n 0 := by
  unfold fillI
  apply List.ext_getElem (by simp)
  intro i h1 h2
  simp
theorem fillI_all (n : Nat) (F : Nat → Int) : fillI n n F = (List.range n).map F := by
  unfold fillI
  refine List.map_congr_left (fun j hj => ?_)
  rw [if_pos (by simpa using hj)]
theorem fillI_set (n k : Nat) (F : Nat → Int) : (fillI n k F).set k (F k) = fillI n (k + 1) F := by
  unfold fillI
  rw [row_set]
  refine List.map_congr_left (fun j _ => ?_)
  by_cases e : j = k
  · subst e; rw [if_pos rfl, if_pos (by omega)]
  · rw [if_neg e]
    by_cases e2 : j < k
    · rw [if_pos e2, if_pos (by omega)]
    · rw [if_neg e2, if_neg (by omega)]

set_option maxRecDepth 100000 in
set_option maxHeartbeats 2000000 in
theorem implPointOf_ok (m q : Value) (M : List (List Int)) (Q : List Int) (s : Int) (w : World) (h1 : PM.Rows w m M) (h2 : Ints w q Q) (h : setCode M Q s = 0) (hp : isPB M Q = true) (hD : dt M.length (colS M s) ≠ 0) :
    Calls Try.prog 37 #[.agg #[m, q], .int .i64 s] w (OutF w (ptL M Q s, 0)) := by
  have g1 := fun (w' : World) (h : Below w.heap.size w w') => h1.below h
  have g2 := fun (w' : World) (h : Below w.heap.size w w') => h2.below h
  obtain ⟨a1, c1, rfl, _⟩ := h1
  obtain ⟨a2, c2, rfl, _⟩ := h2
  obtain ⟨f1, f2, f3, f4, f5⟩ := isPB_facts hp
  have HC := Lib.hid (colsOut_ok h)
  have HL := Lib.hid (tab_length M.length (colS M s))
  have HQ := Lib.hid f3
  have HA := Lib.hid (colS_all hp s)
  have HU := Lib.hid (fun k i j => setCol_u hp s k i j)
  have HDB := Lib.hid (dt_hadR f1 f2 (fun i j _ _ => (colS_all hp s i j).mono (u_ge 5 j)))
  have HGB := Lib.hid (fun j => dt_hadR f1 f2 (fun a b _ _ => setCol_u hp s j a b))
  have hmk := run_make_row' (P := Try.prog) 23 2 (.int .i64 0) 8 Try.underlying23 info_int rfl .i64 .i64 M.length (by omega) (by omega)
  obtain ⟨n, hn⟩ : ∃ n, n = M.length := ⟨_, rfl⟩
  obtain ⟨G, hG⟩ : ∃ G : Nat → Int, G = fun j => dt M.length (setCol (colS M s) j Q) := ⟨_, rfl⟩
  have HG := Lib.hid (fun j => congrFun hG j)
  have HND := Lib.hid hD
  have hDn : (dt M.length (colS M s) == 0) = false := by rw [beq_eq_false_iff_ne]; exact hD
  have HPL : Hid (ptL M Q s = (List.range M.length).map fun j => (FM.redN (G j) (dt M.length (colS M s)), FM.redD (G j) (dt M.length (colS M s)))) := by
    show ptL M Q s = _
    rw [hG]
    rfl
  clear h hp f3 f4 f5 hG hD hn
  go_enter Try.func37, Try.ntmps37
  go_wp2_with fail
  refine (implColumnsOf_any _ _ M Q s _ (g1 _ (by (repeat' (first | (with_reducible exact Below.refl _ _) | (with_reducible assumption) | (with_reducible refine Below.alloc ?_ ?_ _) | (with_reducible refine Below.drew ?_) | (with_reducible refine below_drewN ?_ _) | (with_reducible refine Below.setCell ?_ ?_ _) | (with_reducible refine Below.trans ?_ (Below.mono (by with_reducible assumption) ?_)) | (with_reducible exact Below.size (by with_reducible assumption)) | go_size)))) (g2 _ (by (repeat' (first | (with_reducible exact Below.refl _ _) | (with_reducible assumption) | (with_reducible refine Below.alloc ?_ ?_ _) | (with_reducible refine Below.drew ?_) | (with_reducible refine below_drewN ?_ _) | (with_reducible refine Below.setCell ?_ ?_ _) | (with_reducible refine Below.trans ?_ (Below.mono (by with_reducible assumption) ?_)) | (with_reducible exact Below.size (by with_reducible assumption)) | go_size))))).mono ?_; rw [HC.out]; rintro e w1 ho; obtain ⟨a3, c3, rfl, hr, hb1⟩ := ho.out; dsimp only at hr; dsimp only; rw [HL.out] at hr ⊢; clear ho; obtain ⟨hc_hb1, hf_hb1⟩ := bcell hb1; obtain ⟨hcA_hb1, hfA_hb1⟩ := bcellG (W0 := w) hb1 (by (repeat' (first | (with_reducible exact Below.refl _ _) | (with_reducible assumption) | (with_reducible refine Below.alloc ?_ ?_ _) | (with_reducible refine Below.drew ?_) | (with_reducible refine below_drewN ?_ _) | (with_reducible refine Below.setCell ?_ ?_ _) | (with_reducible refine Below.trans ?_ (Below.mono (by with_reducible assumption) ?_)) | (with_reducible exact Below.size (by with_reducible assumption)) | go_size))); have hz_hb1 := hb1.size; (try simp at hz_hb1); (try simp only [Nat.add_one_le_iff] at hz_hb1); have hz0_hb1 : w.heap.size < w1.heap.size := (by omega)
  have hw1 : Below w.heap.size w w1 := by (repeat' (first | (with_reducible exact Below.refl _ _) | (with_reducible assumption) | (with_reducible refine Below.alloc ?_ ?_ _) | (with_reducible refine Below.drew ?_) | (with_reducible refine below_drewN ?_ _) | (with_reducible refine Below.setCell ?_ ?_ _) | (with_reducible refine Below.trans ?_ (Below.mono (by with_reducible assumption) ?_)) | (with_reducible exact Below.size (by with_reducible assumption)) | go_size))
  have x1 : w1.cell? ⟨w.heap.size, 1, none⟩ = some (.slice a2 Q.length c2) := by rw [hc_hb1 _ _ (by simp)]; simp
  have xz : w.heap.size < w1.heap.size := by omega
  have hrows := hr.rows (tab_I64 (B := 20) (by decide) (fun i j _ _ => HA.out i j))
  have hd := det_tab _ M.length 5 (colS M s) w1 hrows f1 f2 (fun i j _ _ => (HA.out i j).mono (u_ge 5 j))
  have HR := Lib.hid hrows
  have HD := Lib.hid hd
  clear hr hd hrows
  generalize dt M.length (colS M s) = D at *
  go_wp2_with fail
  refine HD.out.mono ?_
  rintro e w2 ⟨rfl, hb2⟩
  have hw2 : Below w.heap.size w w2 := hw1.trans (hb2.mono hw1.size)
  have HR2 := Lib.hid (HR.out.below hb2)
  have x2 : w2.cell? ⟨w.heap.size, 1, none⟩ = some (.slice a2 Q.length c2) := (hb2.cell (p := ⟨w.heap.size, 1, none⟩) xz).trans x1
  have xz2 : w.heap.size < w2.heap.size := by have := hb2.size; omega
  have HZ := Lib.hid (zeros_fresh w2 M.length (by unfold maxLen; omega))
  clear hb2 HR HD x1 xz
  go_wp2_with fail
  go_loopw [10, 29] (fun _ i wr => ∃ k : Nat, k ≤ M.length ∧ i = .int .i64 k ∧ FreshI w2.heap.size wr (.slice (some ⟨w2.heap.size, 0, none⟩) M.length M.length) (fillI M.length k G) ∧ Below w2.heap.size w2 wr) (fun _ i _ => M.length - (intOf i).toNat)
  case atStart => exact ⟨0, Nat.zero_le _, rfl, by rw [fillI_zero]; exact HZ.out, (Below.refl _ _).alloc (Nat.le_refl _) _⟩
  case round =>
    obtain ⟨k, hk, rfl, hO, hB⟩ := hrel
    by_cases hlt : k < M.length
    · have x3 : wr.cell? ⟨w.heap.size, 1, none⟩ = some (.slice a2 Q.length c2) := (hB.cell (p := ⟨w.heap.size, 1, none⟩) xz2).trans x2
      have hzz := hB.size
      have hwc := withColumn_any _ _ M.length k (colS M s) Q wr (HR2.out.below hB) (g2 wr (hw2.trans (hB.mono hw2.size))) HQ.out hlt f2
      have HWC := Lib.hid hwc
      have HO := Lib.hid hO
      have HB := Lib.hid hB
      clear hwc hO hB
      go_wp2_with fail
      refine HWC.out.mono ?_
      rintro e w3 ⟨us, rfl, hf3, hb3⟩
      have hd := det_tab _ M.length k (setCol (colS M s) k Q) w3 (hf3.own.rows' (fun i hi => tab_I64 (B := 100) (by decide) (fun a b _ _ => (HU.out k a b).mono (by unfold u; split <;> omega)) i hi)) f1 f2 (fun i j _ _ => HU.out k i j)
      rw [← HG.out k] at hd
      have HD := Lib.hid hd
      clear hd hf3 x3
      go_wp2_with fail
      refine HD.out.mono ?_
      rintro e w4 ⟨rfl, hb4⟩
      have hb24 := HB.out.trans ((hb3.trans (hb4.mono hb3.size)).mono HB.out.size)
      have hO4 := HO.out.below (hb3.trans (hb4.mono hb3.size))
      obtain ⟨_, _, hvv, _, hz4, hoo⟩ := id hO4
      have hgz : w2.heap.size < w4.heap.size := by simp at hvv; omega
      clear hvv hz4
      have hl : M.length = (fillI M.length k G).length := by simp [fillI]
      have c6 := own_cellN hoo hl hlt
      have c7 := own_frozenN hoo hl k
      have hst := hO4.set k (G k)
      rw [fillI_set] at hst
      have HST := Lib.hid hst
      have HBS := Lib.hid (hb24.setCell (p := ⟨w2.heap.size, k, none⟩) (Nat.le_refl _) (.int .i64 (G k)))
      clear hst hl hoo hO4 hb24 hb3 hb4 HD HWC HO HB
      generalize G k = x at *
      generalize (fillI M.length k G).getD k 0 = y at *
      go_wp2_with fail
      go_roundw
      case rel => exact ⟨k + 1, by omega, by go_num, HST.out, HBS.out⟩
      case measure => simp [intOf]; omega
    · obtain rfl : k = M.length := by omega
      rw [fillI_all] at hO
      have hlf := limitedFracs_any (.slice (some ⟨w2.heap.size, 0, none⟩) M.length M.length) M.length G D wr ((freshI_own hO).ints (fun x hx => by
        obtain ⟨j, _, rfl⟩ := List.mem_map.1 hx
        have := HGB.out j
        rw [← HG.out j] at this
        unfold Bd at this
        unfold I64
        omega)) f1 f2 HND.out (fun j _ => by rw [HG.out j]; exact HGB.out j) HDB.out
      have HLF := Lib.hid hlf
      have HB := Lib.hid (hw2.trans (hB.mono hw2.size))
      clear hO hB hlf
      go_wp2_with fail
      refine HLF.out.mono ?_
      rintro e w5 ⟨g, c, rfl, hf, hb5⟩
      rw [← HPL.out] at hf
      have HF := Lib.hid hf
      clear hf
      go_wp2_with fail
      go_ret2
      exact ⟨_, rfl, (HF.out.mono HB.out.size).rng, HB.out.trans (hb5.mono HB.out.size)⟩
end Go.Proofs.Ytoglmkjmnknbbaa.PW
namespace Go.Proofs.Ytoglmkjmnknbbaa.PW
open Go.RowKit Go.Proofs.Ytoglmkjmnknbbaa
open Go.Proofs.Ytoglmkjmnknbbaa.PM Go.Proofs.Ytoglmkjmnknbbaa.PX

set_option maxRecDepth 100000 in
set_option maxHeartbeats 1000000 in
theorem l01Point_zero (m q : Value) (M : List (List Int)) (Q : List Int) (s : Int) (w : World) (h1 : PM.Rows w m M) (h2 : Ints w q Q) (hp : isPB M Q = true) (hD : dt M.length (colS M s) = 0) :
    Calls Try.prog 90 #[.agg #[m, q], .int .i64 s] w fun e w' => e = .returned (.tuple #[.slice none 0 0, .bool false]) ∧ Below w.heap.size w w' := by
  have g1 := fun (w' : World) (h : Below w.heap.size w w') => h1.below h
  have g2 := fun (w' : World) (h : Below w.heap.size w w') => h2.below h
  obtain ⟨a1, c1, rfl, _⟩ := h1
  obtain ⟨a2, c2, rfl, _⟩ := h2
  obtain ⟨f1, f2, f3, f4, f5⟩ := isPB_facts hp
  have H4 := Lib.hid f4
  have HE := Lib.hid (ent_bd hp)
  have HI := Lib.hid (tab_I64 (n := M.length) (g := colS M s) (B := 20) (by decide) (fun i j _ _ => colS_all hp s i j))
  have hsol := fun (v : Value) (w' : World) (h : PM.Rows w' v (tab M.length (colS M s))) (hb : Below w.heap.size w w') => l01Solve_any v _ M.length (colS M s) Q w' h (g2 w' hb) f3 f1 f2 (fun i j => (colS_all hp s i j).mono (by decide)) (isPB_right hp)
  rw [hD] at hsol
  have HS := Lib.hid hsol
  clear hp f3 f4 f5 hD hsol
  go_enter Try.func90, Try.ntmps90
  go_wp2_with fail
  have k1 : ∀ w', Below (w.heap.size + 1) (w.alloc (.cells #[.slice a1 M.length c1, .slice a2 Q.length c2] 27)) w' → w'.cell? ⟨w.heap.size, 0, none⟩ = some (.slice a1 M.length c1) := fun w' h => by rw [h.cell (by simp)]; simp
  have k2 : ∀ w', Below (w.heap.size + 1) (w.alloc (.cells #[.slice a1 M.length c1, .slice a2 Q.length c2] 27)) w' → w'.cell? ⟨w.heap.size, 1, none⟩ = some (.slice a2 Q.length c2) := fun w' h => by rw [h.cell (by simp)]; simp
  have k3 : ∀ w', Below (w.heap.size + 1) (w.alloc (.cells #[.slice a1 M.length c1, .slice a2 Q.length c2] 27)) w' → Below w.heap.size w w' := fun w' h => ((Below.refl w.heap.size w).alloc (Nat.le_refl _) _).trans (h.mono (by omega))
  go_region_held3 (fun w' => Below (w.heap.size + 1) (w.alloc (.cells #[.slice a1 M.length c1, .slice a2 Q.length c2] 27)) w') ((repeat' (first | (with_reducible exact Below.refl _ _) | (with_reducible assumption) | (with_reducible refine Below.alloc ?_ ?_ _) | (with_reducible refine Below.drew ?_) | (with_reducible refine below_drewN ?_ _) | (with_reducible refine Below.setCell ?_ ?_ _) | (with_reducible refine Below.trans ?_ (Below.mono (by with_reducible assumption) ?_)) | (with_reducible exact Below.size (by with_reducible assumption)) | go_size)))
    (first
      | (go_at_call 74; refine (l01Columns_any _ M s _ (g1 _ (k3 _ (by (repeat' (first | (with_reducible exact Below.refl _ _) | (with_reducible assumption) | (with_reducible refine Below.alloc ?_ ?_ _) | (with_reducible refine Below.drew ?_) | (with_reducible refine below_drewN ?_ _) | (with_reducible refine Below.setCell ?_ ?_ _) | (with_reducible refine Below.trans ?_ (Below.mono (by with_reducible assumption) ?_)) | (with_reducible exact Below.size (by with_reducible assumption)) | go_size))))) f1 f2 (fun j hj => (H4.out j hj).1) HE.out).mono ?_; rintro e w3 ⟨g3, cap3, us3, rfl, hf3, hb3⟩; have hR3 := hf3.own.rows' HI.out; clear hf3; have hS3 : Below (w.heap.size + 1) (w.alloc (.cells #[.slice a1 M.length c1, .slice a2 Q.length c2] 27)) w3 := (by (repeat' (first | (with_reducible exact Below.refl _ _) | (with_reducible assumption) | (with_reducible refine Below.alloc ?_ ?_ _) | (with_reducible refine Below.drew ?_) | (with_reducible refine below_drewN ?_ _) | (with_reducible refine Below.setCell ?_ ?_ _) | (with_reducible refine Below.trans ?_ (Below.mono (by with_reducible assumption) ?_)) | (with_reducible exact Below.size (by with_reducible assumption)) | go_size))); have hz3 : w.heap.size + 1 ≤ w3.heap.size := (by have := hS3.size; simp at this; omega))
      | (go_at_call 127; refine (HS.out _ _ (hR3.below (by (repeat' (first | (with_reducible exact Below.refl _ _) | (with_reducible assumption) | (with_reducible refine Below.alloc ?_ ?_ _) | (with_reducible refine Below.drew ?_) | (with_reducible refine below_drewN ?_ _) | (with_reducible refine Below.setCell ?_ ?_ _) | (with_reducible refine Below.trans ?_ (Below.mono (by with_reducible assumption) ?_)) | (with_reducible exact Below.size (by with_reducible assumption)) | go_size)))) (k3 _ (by (repeat' (first | (with_reducible exact Below.refl _ _) | (with_reducible assumption) | (with_reducible refine Below.alloc ?_ ?_ _) | (with_reducible refine Below.drew ?_) | (with_reducible refine below_drewN ?_ _) | (with_reducible refine Below.setCell ?_ ?_ _) | (with_reducible refine Below.trans ?_ (Below.mono (by with_reducible assumption) ?_)) | (with_reducible exact Below.size (by with_reducible assumption)) | go_size))))).mono ?_; rintro e w4 ⟨g4, c4, rfl, _, hb4⟩; have hS4 : Below (w.heap.size + 1) (w.alloc (.cells #[.slice a1 M.length c1, .slice a2 Q.length c2] 27)) w4 := (by (repeat' (first | (with_reducible exact Below.refl _ _) | (with_reducible assumption) | (with_reducible refine Below.alloc ?_ ?_ _) | (with_reducible refine Below.drew ?_) | (with_reducible refine below_drewN ?_ _) | (with_reducible refine Below.setCell ?_ ?_ _) | (with_reducible refine Below.trans ?_ (Below.mono (by with_reducible assumption) ?_)) | (with_reducible exact Below.size (by with_reducible assumption)) | go_size)))))
  go_wp2_with fail
  go_ret2
  exact ⟨rfl, k3 _ (by (repeat' (first | (with_reducible exact Below.refl _ _) | (with_reducible assumption) | (with_reducible refine Below.alloc ?_ ?_ _) | (with_reducible refine Below.drew ?_) | (with_reducible refine below_drewN ?_ _) | (with_reducible refine Below.setCell ?_ ?_ _) | (with_reducible refine Below.trans ?_ (Below.mono (by with_reducible assumption) ?_)) | (with_reducible exact Below.size (by with_reducible assumption)) | go_size)))⟩
set_option maxRecDepth 100000 in
set_option maxHeartbeats 2000000 in
theorem l01Point_ok (m q : Value) (M : List (List Int)) (Q : List Int) (s : Int) (w : World) (h1 : PM.Rows w m M) (h2 : Ints w q Q) (hp : isPB M Q = true) (hD : dt M.length (colS M s) ≠ 0) :
    Calls Try.prog 90 #[.agg #[m, q], .int .i64 s] w fun e w' => ∃ g c, e = .returned (.tuple #[.slice (some ⟨g, 0, none⟩) M.length c, .bool true]) ∧ FreshF w.heap.size w' (.slice (some ⟨g, 0, none⟩) M.length c) (ptL M Q s) ∧ Below w.heap.size w w' := by
  have g1 := fun (w' : World) (h : Below w.heap.size w w') => h1.below h
  have g2 := fun (w' : World) (h : Below w.heap.size w w') => h2.below h
  obtain ⟨a1, c1, rfl, _⟩ := h1
  obtain ⟨a2, c2, rfl, _⟩ := h2
  obtain ⟨f1, f2, f3, f4, f5⟩ := isPB_facts hp
  have H4 := Lib.hid f4
  have HE := Lib.hid (ent_bd hp)
  have HI := Lib.hid (tab_I64 (n := M.length) (g := colS M s) (B := 20) (by decide) (fun i j _ _ => colS_all hp s i j))
  have hsol := fun (v : Value) (w' : World) (h : PM.Rows w' v (tab M.length (colS M s))) (hb : Below w.heap.size w w') => l01Solve_any v _ M.length (colS M s) Q w' h (g2 w' hb) f3 f1 f2 (fun i j => (colS_all hp s i j).mono (by decide)) (isPB_right hp)
  obtain ⟨G, hG⟩ : ∃ G : Nat → Int, G = fun j => dt M.length (setCol (colS M s) j Q) := ⟨_, rfl⟩
  have hgb := fun j => dt_hadR f1 f2 (fun a b _ _ => setCol_u hp s j a b)
  have hgb' : ∀ j, Bd 1000000000 (G j) := fun j => by rw [hG]; exact hgb j
  have hdb := dt_hadR f1 f2 (fun i j _ _ => (colS_all hp s i j).mono (u_ge 5 j))
  have hpl : ptL M Q s = (List.range M.length).map fun j => (FM.redN (G j) (dt M.length (colS M s)), FM.redD (G j) (dt M.length (colS M s))) := by
    rw [hG]
    rfl
  have hfr := fun (j : Nat) (w' : World) => FW.l01Frac_any (G j) (dt M.length (colS M s)) w' (by have := hgb' j; unfold Bd at this; omega) (by have := hgb' j; unfold Bd at this; omega) (by unfold Bd at hdb; omega) (by unfold Bd at hdb; omega) hD
  have hDn : (dt M.length (colS M s) == 0) = false := by rw [beq_eq_false_iff_ne]; exact hD
  rw [← hG] at hsol
  rw [hpl]
  generalize dt M.length (colS M s) = D at *
  obtain ⟨F, hF⟩ : ∃ F : Nat → Int × Int, F = fun j => (FM.redN (G j) D, FM.redD (G j) D) := ⟨_, rfl⟩
  have hF0 : ∀ j, (F j).1 = FM.redN (G j) D := fun j => by rw [hF]
  have hF1 : ∀ j, (F j).2 = FM.redD (G j) D := fun j => by rw [hF]
  rw [← hF]
  have HS := Lib.hid hsol
  have HFR := Lib.hid hfr
  have HF0 := Lib.hid hF0
  have HF1 := Lib.hid hF1
  obtain ⟨j0, hj, hyy0, hyy1, hyy2⟩ := info_parts info_frac
  clear hp f3 f4 f5 hD hsol hG hgb hgb' hdb hpl hfr hF hF0 hF1
  go_enter Try.func90, Try.ntmps90
  go_wp2_with fail
  have k1 : ∀ w', Below (w.heap.size + 1) (w.alloc (.cells #[.slice a1 M.length c1, .slice a2 Q.length c2] 27)) w' → w'.cell? ⟨w.heap.size, 0, none⟩ = some (.slice a1 M.length c1) := fun w' h => by rw [h.cell (by simp)]; simp
  have k2 : ∀ w', Below (w.heap.size + 1) (w.alloc (.cells #[.slice a1 M.length c1, .slice a2 Q.length c2] 27)) w' → w'.cell? ⟨w.heap.size, 1, none⟩ = some (.slice a2 Q.length c2) := fun w' h => by rw [h.cell (by simp)]; simp
  have k3 : ∀ w', Below (w.heap.size + 1) (w.alloc (.cells #[.slice a1 M.length c1, .slice a2 Q.length c2] 27)) w' → Below w.heap.size w w' := fun w' h => ((Below.refl w.heap.size w).alloc (Nat.le_refl _) _).trans (h.mono (by omega))
  go_region_held3 (fun w' => Below (w.heap.size + 1) (w.alloc (.cells #[.slice a1 M.length c1, .slice a2 Q.length c2] 27)) w') ((repeat' (first | (with_reducible exact Below.refl _ _) | (with_reducible assumption) | (with_reducible refine Below.alloc ?_ ?_ _) | (with_reducible refine Below.drew ?_) | (with_reducible refine below_drewN ?_ _) | (with_reducible refine Below.setCell ?_ ?_ _) | (with_reducible refine Below.trans ?_ (Below.mono (by with_reducible assumption) ?_)) | (with_reducible exact Below.size (by with_reducible assumption)) | go_size)))
    (first
      | (go_at_call 74; refine (l01Columns_any _ M s _ (g1 _ (k3 _ (by (repeat' (first | (with_reducible exact Below.refl _ _) | (with_reducible assumption) | (with_reducible refine Below.alloc ?_ ?_ _) | (with_reducible refine Below.drew ?_) | (with_reducible refine below_drewN ?_ _) | (with_reducible refine Below.setCell ?_ ?_ _) | (with_reducible refine Below.trans ?_ (Below.mono (by with_reducible assumption) ?_)) | (with_reducible exact Below.size (by with_reducible assumption)) | go_size))))) f1 f2 (fun j hj => (H4.out j hj).1) HE.out).mono ?_; rintro e w3 ⟨g3, cap3, us3, rfl, hf3, hb3⟩; have hR3 := hf3.own.rows' HI.out; clear hf3; have hS3 : Below (w.heap.size + 1) (w.alloc (.cells #[.slice a1 M.length c1, .slice a2 Q.length c2] 27)) w3 := (by (repeat' (first | (with_reducible exact Below.refl _ _) | (with_reducible assumption) | (with_reducible refine Below.alloc ?_ ?_ _) | (with_reducible refine Below.drew ?_) | (with_reducible refine below_drewN ?_ _) | (with_reducible refine Below.setCell ?_ ?_ _) | (with_reducible refine Below.trans ?_ (Below.mono (by with_reducible assumption) ?_)) | (with_reducible exact Below.size (by with_reducible assumption)) | go_size))); have hz3 : w.heap.size + 1 ≤ w3.heap.size := (by have := hS3.size; simp at this; omega))
      | (go_at_call 127; refine (HS.out _ _ (hR3.below (by (repeat' (first | (with_reducible exact Below.refl _ _) | (with_reducible assumption) | (with_reducible refine Below.alloc ?_ ?_ _) | (with_reducible refine Below.drew ?_) | (with_reducible refine below_drewN ?_ _) | (with_reducible refine Below.setCell ?_ ?_ _) | (with_reducible refine Below.trans ?_ (Below.mono (by with_reducible assumption) ?_)) | (with_reducible exact Below.size (by with_reducible assumption)) | go_size)))) (k3 _ (by (repeat' (first | (with_reducible exact Below.refl _ _) | (with_reducible assumption) | (with_reducible refine Below.alloc ?_ ?_ _) | (with_reducible refine Below.drew ?_) | (with_reducible refine below_drewN ?_ _) | (with_reducible refine Below.setCell ?_ ?_ _) | (with_reducible refine Below.trans ?_ (Below.mono (by with_reducible assumption) ?_)) | (with_reducible exact Below.size (by with_reducible assumption)) | go_size))))).mono ?_; rintro e w4 ⟨g4, c4, rfl, hf4, hb4⟩; have hz4 := hb4.size; have HL4 := Lib.hid hf4; clear hf4; have hS4 : Below (w.heap.size + 1) (w.alloc (.cells #[.slice a1 M.length c1, .slice a2 Q.length c2] 27)) w4 := (by (repeat' (first | (with_reducible exact Below.refl _ _) | (with_reducible assumption) | (with_reducible refine Below.alloc ?_ ?_ _) | (with_reducible refine Below.drew ?_) | (with_reducible refine below_drewN ?_ _) | (with_reducible refine Below.setCell ?_ ?_ _) | (with_reducible refine Below.trans ?_ (Below.mono (by with_reducible assumption) ?_)) | (with_reducible exact Below.size (by with_reducible assumption)) | go_size)))))
  have hw4 : Below w.heap.size w w4 := k3 _ hS4
  obtain ⟨_, _, hvv, _, hz5, hoo⟩ := id HL4.out
  have hg4 : g4 < w4.heap.size := by simp at hvv; omega
  have hce : ∀ j, j < M.length → w4.cell? ⟨g4, j, none⟩ = some (.int .i64 (G j)) := fun j hj => by
    rw [own_cellN hoo (row_length _ _).symm hj]
    simp [hj]
  have HCE := Lib.hid hce
  have HW4 := Lib.hid hw4
  clear k1 k2 k3 hb3 hR3 hS3 hz3 hb4 hz4 HL4 hS4 hvv hz5 hoo hce hw4 HS HI HE H4
  go_wp2_with fail
  go_loopw [8, 9] (fun v i wr => ∃ k : Nat, k ≤ M.length ∧ i = .int .i64 k ∧ FreshF w4.heap.size wr v ((List.range k).map F) ∧ Below w4.heap.size w4 wr) (fun _ i _ => M.length - (intOf i).toNat)
  case atStart => exact ⟨0, Nat.zero_le _, rfl, freshF_nil w4, (Below.refl _ _).alloc (Nat.le_refl _) _⟩
  case round =>
    obtain ⟨k, hk, rfl, hO, hB⟩ := hrel
    by_cases hlt : k < M.length
    · have t1 := (hB.cell (p := ⟨g4, k, none⟩) hg4).trans (HCE.out k hlt)
      have HFK := Lib.hid (HFR.out k)
      have HO := Lib.hid hO
      have HB := Lib.hid hB
      clear hO hB
      go_wp2_with fail
      refine (HFK.out _).mono ?_
      rintro e w5 ⟨rfl, hb5⟩
      rw [← HF0.out k, ← HF1.out k]
      have HX := Lib.hid (snocF k F)
      have HO5 := Lib.hid (HO.out.below hb5)
      have HB5 := Lib.hid (HB.out.trans (hb5.mono HB.out.size))
      have how := HO5.out.own
      unfold OwnF at how
      rw [rowF_length] at how
      have HOW := Lib.hid how
      clear how hb5 HO HB HFK
      generalize (F k).1 = x at *
      generalize (F k).2 = y at *
      go_wp2_with (at_builtin; refine wpList_append_lies _ rfl _ _ 41 rfl 0 97 j0 (.agg #[.int .i64 0, .int .i64 0]) 2 16 Try.underlying41 hj hyy0 hyy1 hyy2 rfl (by decide) u8 k _ rfl ((HOW.out).alloc _) _ 1 _ [.int .i64 x, .int .i64 y] rfl rfl (cell_two_new _ _ _ _) (by simp [Value.oneCell']) (by decide) (by unfold maxLen; omega) (by omega) (Nat.zero_le _) _ rfl ?_; intro g cap w6 hown hgrow hat hgl)
      have hpu := HO5.out.push HB5.out.size (rowF_length k F).symm hown hat hgl
      have hgr := HO5.out.grow HB5.out HB5.out.size hgrow
      rw [← HX.out] at hpu
      have HPU := Lib.hid hpu
      have HGR := Lib.hid hgr
      clear hpu hgr hown hgrow hat hgl
      go_wp2_with fail
      go_roundw
      case rel => exact ⟨k + 1, by omega, by go_num, HPU.out, HGR.out⟩
      case measure => simp [intOf]; omega
    · obtain rfl : k = M.length := by omega
      obtain ⟨g, c, rfl, _, _⟩ := hO.shape (rowF_length _ _)
      have HO := Lib.hid hO
      have HB := Lib.hid hB
      clear hO hB
      go_wp2_with fail
      go_ret2
      exact ⟨_, _, rfl, HO.out.mono HW4.out.size, HW4.out.trans (HB.out.mono HW4.out.size)⟩
end Go.Proofs.Ytoglmkjmnknbbaa.PW
namespace Go.Proofs.Ytoglmkjmnknbbaa.PW
open Go.RowKit Go.Proofs.Ytoglmkjmnknbbaa
open Go.Proofs.Ytoglmkjmnknbbaa.PM Go.Proofs.Ytoglmkjmnknbbaa.PX

theorem fine_pt (M : List (List Int)) (Q : List Int) (s : Int) : FineF (ptOut M Q s).1 := by
  unfold ptOut
  split
  · rename_i h
    split
    · exact fineF_nil
    · rcases setCode_cases M Q s with h' | h' | ⟨_, hp, _, _⟩
      · omega
      · omega
      · refine ⟨?_⟩
        have := (isPB_facts hp).2.1
        show (ptL M Q s).length ≤ _
        unfold ptL
        rw [rowF_length]
        omega
  · exact fineF_nil
theorem pt_isF {M : List (List Int)} {Q : List Int} {s : Int} (hp : isPB M Q = true) (hD : dt M.length (colS M s) ≠ 0) (j : Nat) : FM.isF (ptF M Q s j).1 (ptF M Q s j).2 = true := by
  obtain ⟨f1, f2, _, _, _⟩ := isPB_facts hp
  exact red_isF hD (dt_hadR f1 f2 (fun a b _ _ => setCol_u hp s j a b)) (dt_hadR f1 f2 (fun i j _ _ => (colS_all hp s i j).mono (u_ge 5 j)))

theorem implPointOf_any (m q : Value) (M : List (List Int)) (Q : List Int) (s : Int) (w : World) (h1 : PM.Rows w m M) (h2 : Ints w q Q) :
    Calls Try.prog 37 #[.agg #[m, q], .int .i64 s] w (OutF w (ptOut M Q s)) := by
  rcases setCode_cases M Q s with h | h | ⟨h, hp, hs0, hs1⟩
  case' inr.inr =>
    by_cases hD : dt M.length (colS M s) = 0
    case neg =>
      rw [ptOut_ok h hD]
      exact implPointOf_ok m q M Q s w h1 h2 h hp hD
    have g1 := fun (w' : World) (h : Below w.heap.size w w') => h1.below h
    have g2 := fun (w' : World) (h : Below w.heap.size w w') => h2.below h
    obtain ⟨a1, c1, rfl, _⟩ := h1
    obtain ⟨a2, c2, rfl, _⟩ := h2
    rw [ptOut_zero h hD]
    have HC := Lib.hid (colsOut_ok h)
    have HL := Lib.hid (tab_length M.length (colS M s))
    obtain ⟨f1, f2, f3, f4, f5⟩ := isPB_facts hp
    have HA := Lib.hid (colS_all hp s)
    have HD0 := Lib.hid hD
    clear h hp hs0 hs1 f3 f4 f5 hD
    go_enter Try.func37, Try.ntmps37
    go_wp2_with fail
    refine (implColumnsOf_any _ _ M Q s _ (g1 _ (by (repeat' (first | (with_reducible exact Below.refl _ _) | (with_reducible assumption) | (with_reducible refine Below.alloc ?_ ?_ _) | (with_reducible refine Below.drew ?_) | (with_reducible refine below_drewN ?_ _) | (with_reducible refine Below.setCell ?_ ?_ _) | (with_reducible refine Below.trans ?_ (Below.mono (by with_reducible assumption) ?_)) | (with_reducible exact Below.size (by with_reducible assumption)) | go_size)))) (g2 _ (by (repeat' (first | (with_reducible exact Below.refl _ _) | (with_reducible assumption) | (with_reducible refine Below.alloc ?_ ?_ _) | (with_reducible refine Below.drew ?_) | (with_reducible refine below_drewN ?_ _) | (with_reducible refine Below.setCell ?_ ?_ _) | (with_reducible refine Below.trans ?_ (Below.mono (by with_reducible assumption) ?_)) | (with_reducible exact Below.size (by with_reducible assumption)) | go_size))))).mono ?_; rw [HC.out]; rintro e w1 ho; obtain ⟨a3, c3, rfl, hr, hb1⟩ := ho.out; dsimp only at hr; dsimp only; rw [HL.out] at hr ⊢; clear ho; obtain ⟨hc_hb1, hf_hb1⟩ := bcell hb1; obtain ⟨hcA_hb1, hfA_hb1⟩ := bcellG (W0 := w) hb1 (by (repeat' (first | (with_reducible exact Below.refl _ _) | (with_reducible assumption) | (with_reducible refine Below.alloc ?_ ?_ _) | (with_reducible refine Below.drew ?_) | (with_reducible refine below_drewN ?_ _) | (with_reducible refine Below.setCell ?_ ?_ _) | (with_reducible refine Below.trans ?_ (Below.mono (by with_reducible assumption) ?_)) | (with_reducible exact Below.size (by with_reducible assumption)) | go_size))); have hz_hb1 := hb1.size; (try simp at hz_hb1); (try simp only [Nat.add_one_le_iff] at hz_hb1); have hz0_hb1 : w.heap.size < w1.heap.size := (by omega)
    have hw1 : Below w.heap.size w w1 := by (repeat' (first | (with_reducible exact Below.refl _ _) | (with_reducible assumption) | (with_reducible refine Below.alloc ?_ ?_ _) | (with_reducible refine Below.drew ?_) | (with_reducible refine below_drewN ?_ _) | (with_reducible refine Below.setCell ?_ ?_ _) | (with_reducible refine Below.trans ?_ (Below.mono (by with_reducible assumption) ?_)) | (with_reducible exact Below.size (by with_reducible assumption)) | go_size))
    have hd := det_tab _ M.length 5 (colS M s) w1 (hr.rows (tab_I64 (B := 20) (by decide) (fun i j _ _ => HA.out i j))) f1 f2 (fun i j _ _ => (HA.out i j).mono (u_ge 5 j))
    rw [HD0.out] at hd
    have HD := Lib.hid hd
    clear hr hd
    go_wp2_with fail
    refine HD.out.mono ?_
    rintro e w2 ⟨rfl, hb2⟩
    go_wp2_with fail
    go_ret2
    exact outF_nil (hw1.trans (hb2.mono hw1.size))
  all_goals
    have g1 := fun (w' : World) (h : Below w.heap.size w w') => h1.below h
    have g2 := fun (w' : World) (h : Below w.heap.size w w') => h2.below h
    obtain ⟨a1, c1, rfl, _⟩ := h1
    obtain ⟨a2, c2, rfl, _⟩ := h2
    rw [ptOut_err h (by omega)]
    have HC := Lib.hid (colsOut_err h (by omega))
    clear h
    go_enter Try.func37, Try.ntmps37
    go_wp2_with fail
    refine (implColumnsOf_any _ _ M Q s _ (g1 _ (by (repeat' (first | (with_reducible exact Below.refl _ _) | (with_reducible assumption) | (with_reducible refine Below.alloc ?_ ?_ _) | (with_reducible refine Below.drew ?_) | (with_reducible refine below_drewN ?_ _) | (with_reducible refine Below.setCell ?_ ?_ _) | (with_reducible refine Below.trans ?_ (Below.mono (by with_reducible assumption) ?_)) | (with_reducible exact Below.size (by with_reducible assumption)) | go_size)))) (g2 _ (by (repeat' (first | (with_reducible exact Below.refl _ _) | (with_reducible assumption) | (with_reducible refine Below.alloc ?_ ?_ _) | (with_reducible refine Below.drew ?_) | (with_reducible refine below_drewN ?_ _) | (with_reducible refine Below.setCell ?_ ?_ _) | (with_reducible refine Below.trans ?_ (Below.mono (by with_reducible assumption) ?_)) | (with_reducible exact Below.size (by with_reducible assumption)) | go_size))))).mono ?_; rw [HC.out]; rintro e w1 ho; obtain ⟨a3, c3, rfl, hr, hb1⟩ := ho.out; dsimp only; clear ho hr; obtain ⟨hc_hb1, hf_hb1⟩ := bcell hb1; obtain ⟨hcA_hb1, hfA_hb1⟩ := bcellG (W0 := w) hb1 (by (repeat' (first | (with_reducible exact Below.refl _ _) | (with_reducible assumption) | (with_reducible refine Below.alloc ?_ ?_ _) | (with_reducible refine Below.drew ?_) | (with_reducible refine below_drewN ?_ _) | (with_reducible refine Below.setCell ?_ ?_ _) | (with_reducible refine Below.trans ?_ (Below.mono (by with_reducible assumption) ?_)) | (with_reducible exact Below.size (by with_reducible assumption)) | go_size))); have hz_hb1 := hb1.size; (try simp at hz_hb1); (try simp only [Nat.add_one_le_iff] at hz_hb1); have hz0_hb1 : w.heap.size < w1.heap.size := (by omega)
    go_wp2_with fail
    go_ret2
    exact outF_nil (by (repeat' (first | (with_reducible exact Below.refl _ _) | (with_reducible assumption) | (with_reducible refine Below.alloc ?_ ?_ _) | (with_reducible refine Below.drew ?_) | (with_reducible refine below_drewN ?_ _) | (with_reducible refine Below.setCell ?_ ?_ _) | (with_reducible refine Below.trans ?_ (Below.mono (by with_reducible assumption) ?_)) | (with_reducible exact Below.size (by with_reducible assumption)) | go_size)))

set_option maxHeartbeats 1000000 in
theorem specPointOf_any (m q : Value) (M : List (List Int)) (Q : List Int) (s : Int) (w : World) (h1 : PM.Rows w m M) (h2 : Ints w q Q) :
    Calls Try.prog 36 #[.agg #[m, q], .int .i64 s] w (OutF w (ptOut M Q s)) := by
  have g1 := fun (w' : World) (h : Below w.heap.size w w') => h1.below h
  have g2 := fun (w' : World) (h : Below w.heap.size w w') => h2.below h
  obtain ⟨a1, c1, rfl, _⟩ := h1
  obtain ⟨a2, c2, rfl, _⟩ := h2
  rcases setCode_cases M Q s with h | h | ⟨h, hp, hs0, hs1⟩
  case' inr.inr =>
    have HC := Lib.hid h
    by_cases hD : dt M.length (colS M s) = 0
    case' pos =>
      rw [ptOut_zero h hD]
      have hpz := fun (w' : World) (hb : Below w.heap.size w w') => l01Point_zero _ _ M Q s w' (g1 _ hb) (g2 _ hb) hp hD
      have HPZ := Lib.hid hpz
      clear h hp hs0 hs1 hD hpz
      go_enter Try.func36, Try.ntmps36
      go_wp2_with fail
      refine (l01Set_any _ _ M Q s _ (g1 _ (by (repeat' (first | (with_reducible exact Below.refl _ _) | (with_reducible assumption) | (with_reducible refine Below.alloc ?_ ?_ _) | (with_reducible refine Below.drew ?_) | (with_reducible refine below_drewN ?_ _) | (with_reducible refine Below.setCell ?_ ?_ _) | (with_reducible refine Below.trans ?_ (Below.mono (by with_reducible assumption) ?_)) | (with_reducible exact Below.size (by with_reducible assumption)) | go_size)))) (g2 _ (by (repeat' (first | (with_reducible exact Below.refl _ _) | (with_reducible assumption) | (with_reducible refine Below.alloc ?_ ?_ _) | (with_reducible refine Below.drew ?_) | (with_reducible refine below_drewN ?_ _) | (with_reducible refine Below.setCell ?_ ?_ _) | (with_reducible refine Below.trans ?_ (Below.mono (by with_reducible assumption) ?_)) | (with_reducible exact Below.size (by with_reducible assumption)) | go_size))))).mono ?_; rw [HC.out]; rintro e w1 ⟨rfl, hb1⟩; obtain ⟨hc_hb1, hf_hb1⟩ := bcell hb1; obtain ⟨hcA_hb1, hfA_hb1⟩ := bcellG (W0 := w) hb1 (by (repeat' (first | (with_reducible exact Below.refl _ _) | (with_reducible assumption) | (with_reducible refine Below.alloc ?_ ?_ _) | (with_reducible refine Below.drew ?_) | (with_reducible refine below_drewN ?_ _) | (with_reducible refine Below.setCell ?_ ?_ _) | (with_reducible refine Below.trans ?_ (Below.mono (by with_reducible assumption) ?_)) | (with_reducible exact Below.size (by with_reducible assumption)) | go_size))); have hz_hb1 := hb1.size; (try simp at hz_hb1); (try simp only [Nat.add_one_le_iff] at hz_hb1); have hz0_hb1 : w.heap.size < w1.heap.size := (by omega)
      have hw1 : Below w.heap.size w w1 := by (repeat' (first | (with_reducible exact Below.refl _ _) | (with_reducible assumption) | (with_reducible refine Below.alloc ?_ ?_ _) | (with_reducible refine Below.drew ?_) | (with_reducible refine below_drewN ?_ _) | (with_reducible refine Below.setCell ?_ ?_ _) | (with_reducible refine Below.trans ?_ (Below.mono (by with_reducible assumption) ?_)) | (with_reducible exact Below.size (by with_reducible assumption)) | go_size))
      go_wp2_with fail
      refine (HPZ.out _ hw1).mono ?_; rintro e w2 ⟨rfl, hb2⟩
      go_wp2_with fail
      go_ret2
      exact outF_nil (hw1.trans (hb2.mono hw1.size))
    case' neg =>
      rw [ptOut_ok h hD]
      have hpz := fun (w' : World) (hb : Below w.heap.size w w') => l01Point_ok _ _ M Q s w' (g1 _ hb) (g2 _ hb) hp hD
      have hif := fun (j : Nat) (w' : World) => FW.specIsFrac_is (ptF M Q s j).1 (ptF M Q s j).2 true w' (pt_isF hp hD j)
      have f2 := (isPB_facts hp).2.1
      have HPZ := Lib.hid hpz
      have HIF := Lib.hid hif
      have HPL : Hid (∀ j, j < M.length → (ptL M Q s).getD j (0, 0) = ptF M Q s j) := by
        show ∀ j, j < M.length → _
        intro j hj
        unfold ptL
        simp [hj]
      have HLL : Hid ((ptL M Q s).length = M.length) := by
        show _ = _
        unfold ptL
        rw [rowF_length]
      clear h hp hs0 hs1 hD hpz hif
      go_enter Try.func36, Try.ntmps36
      go_wp2_with fail
      refine (l01Set_any _ _ M Q s _ (g1 _ (by (repeat' (first | (with_reducible exact Below.refl _ _) | (with_reducible assumption) | (with_reducible refine Below.alloc ?_ ?_ _) | (with_reducible refine Below.drew ?_) | (with_reducible refine below_drewN ?_ _) | (with_reducible refine Below.setCell ?_ ?_ _) | (with_reducible refine Below.trans ?_ (Below.mono (by with_reducible assumption) ?_)) | (with_reducible exact Below.size (by with_reducible assumption)) | go_size)))) (g2 _ (by (repeat' (first | (with_reducible exact Below.refl _ _) | (with_reducible assumption) | (with_reducible refine Below.alloc ?_ ?_ _) | (with_reducible refine Below.drew ?_) | (with_reducible refine below_drewN ?_ _) | (with_reducible refine Below.setCell ?_ ?_ _) | (with_reducible refine Below.trans ?_ (Below.mono (by with_reducible assumption) ?_)) | (with_reducible exact Below.size (by with_reducible assumption)) | go_size))))).mono ?_; rw [HC.out]; rintro e w1 ⟨rfl, hb1⟩; obtain ⟨hc_hb1, hf_hb1⟩ := bcell hb1; obtain ⟨hcA_hb1, hfA_hb1⟩ := bcellG (W0 := w) hb1 (by (repeat' (first | (with_reducible exact Below.refl _ _) | (with_reducible assumption) | (with_reducible refine Below.alloc ?_ ?_ _) | (with_reducible refine Below.drew ?_) | (with_reducible refine below_drewN ?_ _) | (with_reducible refine Below.setCell ?_ ?_ _) | (with_reducible refine Below.trans ?_ (Below.mono (by with_reducible assumption) ?_)) | (with_reducible exact Below.size (by with_reducible assumption)) | go_size))); have hz_hb1 := hb1.size; (try simp at hz_hb1); (try simp only [Nat.add_one_le_iff] at hz_hb1); have hz0_hb1 : w.heap.size < w1.heap.size := (by omega)
      have hw1 : Below w.heap.size w w1 := by (repeat' (first | (with_reducible exact Below.refl _ _) | (with_reducible assumption) | (with_reducible refine Below.alloc ?_ ?_ _) | (with_reducible refine Below.drew ?_) | (with_reducible refine below_drewN ?_ _) | (with_reducible refine Below.setCell ?_ ?_ _) | (with_reducible refine Below.trans ?_ (Below.mono (by with_reducible assumption) ?_)) | (with_reducible exact Below.size (by with_reducible assumption)) | go_size))
      go_wp2_with fail
      refine (HPZ.out _ hw1).mono ?_; rintro e w2 ⟨g, c, rfl, hf, hb2⟩
      have HF := Lib.hid hf
      have HW2 := Lib.hid (hw1.trans (hb2.mono hw1.size))
      clear hf hb2
      go_wp2_with fail
      go_loopw [9] (fun i wr => ∃ k : Nat, k ≤ M.length ∧ i = .int .i64 k ∧ Below w2.heap.size w2 wr) (fun i _ => M.length - (intOf i).toNat)
      case atStart => exact ⟨0, Nat.zero_le _, rfl, Below.refl _ _⟩
      case round =>
        obtain ⟨k, hk, rfl, hB⟩ := hrel
        by_cases hlt : k < M.length
        · have ho := (HF.out.below hB).own
          have t0 := ho.cell0 HLL.out.symm hlt
          have t1 := ho.cell1 HLL.out.symm hlt
          rw [HPL.out k hlt] at t0 t1
          have HIK := Lib.hid (HIF.out k)
          have HB := Lib.hid hB
          clear ho hB
          generalize (ptF M Q s k).1 = x at *
          generalize (ptF M Q s k).2 = y at *
          go_wp2_with fail
          refine (HIK.out _).mono ?_
          rintro e w3 ⟨rfl, hb3⟩
          have HB3 := Lib.hid (HB.out.trans (hb3.mono HB.out.size))
          clear hb3
          go_wp2_with fail
          go_roundw
          case rel => exact ⟨k + 1, by omega, by go_num, HB3.out⟩
          case measure => simp [intOf]; omega
        · obtain rfl : k = M.length := by omega
          have HB := Lib.hid hB
          clear hB
          go_wp2_with fail
          go_ret2
          exact ⟨_, rfl, ((HF.out.below HB.out).mono hw1.size).rng, HW2.out.trans (HB.out.mono HW2.out.size)⟩
  all_goals
    rw [ptOut_err h (by omega)]
    have HC := Lib.hid h
    clear h
    go_enter Try.func36, Try.ntmps36
    go_wp2_with fail
    refine (l01Set_any _ _ M Q s _ (g1 _ (by (repeat' (first | (with_reducible exact Below.refl _ _) | (with_reducible assumption) | (with_reducible refine Below.alloc ?_ ?_ _) | (with_reducible refine Below.drew ?_) | (with_reducible refine below_drewN ?_ _) | (with_reducible refine Below.setCell ?_ ?_ _) | (with_reducible refine Below.trans ?_ (Below.mono (by with_reducible assumption) ?_)) | (with_reducible exact Below.size (by with_reducible assumption)) | go_size)))) (g2 _ (by (repeat' (first | (with_reducible exact Below.refl _ _) | (with_reducible assumption) | (with_reducible refine Below.alloc ?_ ?_ _) | (with_reducible refine Below.drew ?_) | (with_reducible refine below_drewN ?_ _) | (with_reducible refine Below.setCell ?_ ?_ _) | (with_reducible refine Below.trans ?_ (Below.mono (by with_reducible assumption) ?_)) | (with_reducible exact Below.size (by with_reducible assumption)) | go_size))))).mono ?_; rw [HC.out]; rintro e w1 ⟨rfl, hb1⟩; obtain ⟨hc_hb1, hf_hb1⟩ := bcell hb1; obtain ⟨hcA_hb1, hfA_hb1⟩ := bcellG (W0 := w) hb1 (by (repeat' (first | (with_reducible exact Below.refl _ _) | (with_reducible assumption) | (with_reducible refine Below.alloc ?_ ?_ _) | (with_reducible refine Below.drew ?_) | (with_reducible refine below_drewN ?_ _) | (with_reducible refine Below.setCell ?_ ?_ _) | (with_reducible refine Below.trans ?_ (Below.mono (by with_reducible assumption) ?_)) | (with_reducible exact Below.size (by with_reducible assumption)) | go_size))); have hz_hb1 := hb1.size; (try simp at hz_hb1); (try simp only [Nat.add_one_le_iff] at hz_hb1); have hz0_hb1 : w.heap.size < w1.heap.size := (by omega)
    go_wp2_with fail
    go_ret2
    exact outF_nil (by (repeat' (first | (with_reducible exact Below.refl _ _) | (with_reducible assumption) | (with_reducible refine Below.alloc ?_ ?_ _) | (with_reducible refine Below.drew ?_) | (with_reducible refine below_drewN ?_ _) | (with_reducible refine Below.setCell ?_ ?_ _) | (with_reducible refine Below.trans ?_ (Below.mono (by with_reducible assumption) ?_)) | (with_reducible exact Below.size (by with_reducible assumption)) | go_size)))
set_option maxHeartbeats 4000000 in
theorem law_FnExactPointOf (m q : Value) (M : List (List Int)) (Q : List Int) (s : Int) (w : World) (h1 : PM.Rows w m M) (h2 : Ints w q Q) :
    Calls Try.prog 7 #[.agg #[m, q], .int .i64 s] w fun e w' => e = .returned (.bool true) ∧ Below w.heap.size w w' := by
  have g1 := fun (w' : World) (h : Below w.heap.size w w') => h1.below h
  have g2 := fun (w' : World) (h : Below w.heap.size w w') => h2.below h
  have I1 := Lib.hid (rows_I64 h1)
  have I2 := Lib.hid (ints_I64 h2)
  obtain ⟨a1, c1, rfl, _⟩ := h1
  obtain ⟨a2, c2, rfl, _⟩ := h2
  by_cases hz : szP M Q 1048576 < 0
  · have e1 := szP_neg hz
    have E1 := Lib.hid e1
    clear hz e1
    go_enter Try.func7, Try.ntmps7
    go_wp2_with fail
    refine (szProblem_any _ _ M Q _ (g1 _ (by (repeat' (first | (with_reducible exact Below.refl _ _) | (with_reducible assumption) | (with_reducible refine Below.alloc ?_ ?_ _) | (with_reducible refine Below.drew ?_) | (with_reducible refine below_drewN ?_ _) | (with_reducible refine Below.setCell ?_ ?_ _) | (with_reducible refine Below.trans ?_ (Below.mono (by with_reducible assumption) ?_)) | (with_reducible exact Below.size (by with_reducible assumption)) | go_size)))) (g2 _ (by (repeat' (first | (with_reducible exact Below.refl _ _) | (with_reducible assumption) | (with_reducible refine Below.alloc ?_ ?_ _) | (with_reducible refine Below.drew ?_) | (with_reducible refine below_drewN ?_ _) | (with_reducible refine Below.setCell ?_ ?_ _) | (with_reducible refine Below.trans ?_ (Below.mono (by with_reducible assumption) ?_)) | (with_reducible exact Below.size (by with_reducible assumption)) | go_size))))).mono ?_; rw [E1.out]; rintro e w1 ⟨rfl, hb1⟩; obtain ⟨hc_hb1, hf_hb1⟩ := bcell hb1; obtain ⟨hcA_hb1, hfA_hb1⟩ := bcellG (W0 := w) hb1 (by (repeat' (first | (with_reducible exact Below.refl _ _) | (with_reducible assumption) | (with_reducible refine Below.alloc ?_ ?_ _) | (with_reducible refine Below.drew ?_) | (with_reducible refine below_drewN ?_ _) | (with_reducible refine Below.setCell ?_ ?_ _) | (with_reducible refine Below.trans ?_ (Below.mono (by with_reducible assumption) ?_)) | (with_reducible exact Below.size (by with_reducible assumption)) | go_size))); have hz_hb1 := hb1.size; (try simp at hz_hb1); (try simp only [Nat.add_one_le_iff] at hz_hb1); have hz0_hb1 : w.heap.size < w1.heap.size := (by omega)
    go_wp2_with fail
    go_ret
    refine ⟨rfl, ?_⟩
    (repeat' (first | (with_reducible exact Below.refl _ _) | (with_reducible assumption) | (with_reducible refine Below.alloc ?_ ?_ _) | (with_reducible refine Below.drew ?_) | (with_reducible refine below_drewN ?_ _) | (with_reducible refine Below.setCell ?_ ?_ _) | (with_reducible refine Below.trans ?_ (Below.mono (by with_reducible assumption) ?_)) | (with_reducible exact Below.size (by with_reducible assumption)) | go_size))
  obtain ⟨hn1, hn2⟩ := szP_fits hz
  have hle := szP_le M Q
  have HN1 := Lib.hid hn1
  have HN2 := Lib.hid hn2
  clear hn1 hn2
  have hspec := fun (m q : Value) (w : World) (h1 : PM.Rows w m M) (h2 : Ints w q Q) => specPointOf_any m q M Q s w h1 h2
  have himpl := fun (m q : Value) (w : World) (h1 : PM.Rows w m M) (h2 : Ints w q Q) => implPointOf_any m q M Q s w h1 h2
  have hfine := fine_pt M Q s
  generalize ptOut M Q s = o at *
  obtain ⟨O, code⟩ := o
  have HS := Lib.hid hspec
  have HI := Lib.hid himpl
  have HF : Hid (FineF O) := Lib.hid hfine
  clear hspec himpl hfine
  go_enter Try.func7, Try.ntmps7
  go_wp2_with fail
  refine (szProblem_any _ _ M Q _ (g1 _ (by (repeat' (first | (with_reducible exact Below.refl _ _) | (with_reducible assumption) | (with_reducible refine Below.alloc ?_ ?_ _) | (with_reducible refine Below.drew ?_) | (with_reducible refine below_drewN ?_ _) | (with_reducible refine Below.setCell ?_ ?_ _) | (with_reducible refine Below.trans ?_ (Below.mono (by with_reducible assumption) ?_)) | (with_reducible exact Below.size (by with_reducible assumption)) | go_size)))) (g2 _ (by (repeat' (first | (with_reducible exact Below.refl _ _) | (with_reducible assumption) | (with_reducible refine Below.alloc ?_ ?_ _) | (with_reducible refine Below.drew ?_) | (with_reducible refine below_drewN ?_ _) | (with_reducible refine Below.setCell ?_ ?_ _) | (with_reducible refine Below.trans ?_ (Below.mono (by with_reducible assumption) ?_)) | (with_reducible exact Below.size (by with_reducible assumption)) | go_size))))).mono ?_; rintro e w1 ⟨rfl, hb1⟩; obtain ⟨hc_hb1, hf_hb1⟩ := bcell hb1; obtain ⟨hcA_hb1, hfA_hb1⟩ := bcellG (W0 := w) hb1 (by (repeat' (first | (with_reducible exact Below.refl _ _) | (with_reducible assumption) | (with_reducible refine Below.alloc ?_ ?_ _) | (with_reducible refine Below.drew ?_) | (with_reducible refine below_drewN ?_ _) | (with_reducible refine Below.setCell ?_ ?_ _) | (with_reducible refine Below.trans ?_ (Below.mono (by with_reducible assumption) ?_)) | (with_reducible exact Below.size (by with_reducible assumption)) | go_size))); have hz_hb1 := hb1.size; (try simp at hz_hb1); (try simp only [Nat.add_one_le_iff] at hz_hb1); have hz0_hb1 : w.heap.size < w1.heap.size := (by omega)
  generalize szP M Q 1048576 = left at *
  have hw1 : Below w.heap.size w w1 := by (repeat' (first | (with_reducible exact Below.refl _ _) | (with_reducible assumption) | (with_reducible refine Below.alloc ?_ ?_ _) | (with_reducible refine Below.drew ?_) | (with_reducible refine below_drewN ?_ _) | (with_reducible refine Below.setCell ?_ ?_ _) | (with_reducible refine Below.trans ?_ (Below.mono (by with_reducible assumption) ?_)) | (with_reducible exact Below.size (by with_reducible assumption)) | go_size))
  go_wp2_with fail
  refine (toProblem_out _ _ M Q _ (g1 _ (by (repeat' (first | (with_reducible exact Below.refl _ _) | (with_reducible assumption) | (with_reducible refine Below.alloc ?_ ?_ _) | (with_reducible refine Below.drew ?_) | (with_reducible refine below_drewN ?_ _) | (with_reducible refine Below.setCell ?_ ?_ _) | (with_reducible refine Below.trans ?_ (Below.mono (by with_reducible assumption) ?_)) | (with_reducible exact Below.size (by with_reducible assumption)) | go_size)))) (g2 _ (by (repeat' (first | (with_reducible exact Below.refl _ _) | (with_reducible assumption) | (with_reducible refine Below.alloc ?_ ?_ _) | (with_reducible refine Below.drew ?_) | (with_reducible refine below_drewN ?_ _) | (with_reducible refine Below.setCell ?_ ?_ _) | (with_reducible refine Below.trans ?_ (Below.mono (by with_reducible assumption) ?_)) | (with_reducible exact Below.size (by with_reducible assumption)) | go_size)))) HN1.out HN2.out).mono ?_; rintro e w2 ⟨gA, gB, us2, rfl, hr2, hb2⟩; obtain ⟨hc_hb2, hf_hb2⟩ := bcell hb2; obtain ⟨hcA_hb2, hfA_hb2⟩ := bcellG (W0 := w1) hb2 (by (repeat' (first | (with_reducible exact Below.refl _ _) | (with_reducible assumption) | (with_reducible refine Below.alloc ?_ ?_ _) | (with_reducible refine Below.drew ?_) | (with_reducible refine below_drewN ?_ _) | (with_reducible refine Below.setCell ?_ ?_ _) | (with_reducible refine Below.trans ?_ (Below.mono (by with_reducible assumption) ?_)) | (with_reducible exact Below.size (by with_reducible assumption)) | go_size))); have hz_hb2 := hb2.size; (try simp at hz_hb2); (try simp only [Nat.add_one_le_iff] at hz_hb2); have hz0_hb2 : w.heap.size < w2.heap.size := (by omega)
  have R2 := Lib.hid (hr2.reads I1.out I2.out)
  clear hr2
  have hw2 : Below w.heap.size w w2 := hw1.trans (hb2.mono hw1.size)
  go_wp2_with fail
  refine (HS.out _ _ _ R2.out.1 R2.out.2).mono ?_; rintro e w3 ho3; obtain ⟨a3, c3, rfl, hr3, hb3⟩ := ho3.out; clear ho3; dsimp only at hr3; dsimp only; obtain ⟨hc_hb3, hf_hb3⟩ := bcell hb3; obtain ⟨hcA_hb3, hfA_hb3⟩ := bcellG (W0 := w2) hb3 (by (repeat' (first | (with_reducible exact Below.refl _ _) | (with_reducible assumption) | (with_reducible refine Below.alloc ?_ ?_ _) | (with_reducible refine Below.drew ?_) | (with_reducible refine below_drewN ?_ _) | (with_reducible refine Below.setCell ?_ ?_ _) | (with_reducible refine Below.trans ?_ (Below.mono (by with_reducible assumption) ?_)) | (with_reducible exact Below.size (by with_reducible assumption)) | go_size))); have hz_hb3 := hb3.size; (try simp at hz_hb3); (try simp only [Nat.add_one_le_iff] at hz_hb3); have hz0_hb3 : w.heap.size < w3.heap.size := (by omega)
  have HR3 := Lib.hid hr3
  clear hr3 R2
  have hw3 : Below w.heap.size w w3 := hw2.trans (hb3.mono hw2.size)
  go_wp2_with fail
  refine (toProblem_out _ _ M Q _ (g1 _ (by (repeat' (first | (with_reducible exact Below.refl _ _) | (with_reducible assumption) | (with_reducible refine Below.alloc ?_ ?_ _) | (with_reducible refine Below.drew ?_) | (with_reducible refine below_drewN ?_ _) | (with_reducible refine Below.setCell ?_ ?_ _) | (with_reducible refine Below.trans ?_ (Below.mono (by with_reducible assumption) ?_)) | (with_reducible exact Below.size (by with_reducible assumption)) | go_size)))) (g2 _ (by (repeat' (first | (with_reducible exact Below.refl _ _) | (with_reducible assumption) | (with_reducible refine Below.alloc ?_ ?_ _) | (with_reducible refine Below.drew ?_) | (with_reducible refine below_drewN ?_ _) | (with_reducible refine Below.setCell ?_ ?_ _) | (with_reducible refine Below.trans ?_ (Below.mono (by with_reducible assumption) ?_)) | (with_reducible exact Below.size (by with_reducible assumption)) | go_size)))) HN1.out HN2.out).mono ?_; rintro e w4 ⟨gC, gD, us4, rfl, hr4, hb4⟩; obtain ⟨hc_hb4, hf_hb4⟩ := bcell hb4; obtain ⟨hcA_hb4, hfA_hb4⟩ := bcellG (W0 := w3) hb4 (by (repeat' (first | (with_reducible exact Below.refl _ _) | (with_reducible assumption) | (with_reducible refine Below.alloc ?_ ?_ _) | (with_reducible refine Below.drew ?_) | (with_reducible refine below_drewN ?_ _) | (with_reducible refine Below.setCell ?_ ?_ _) | (with_reducible refine Below.trans ?_ (Below.mono (by with_reducible assumption) ?_)) | (with_reducible exact Below.size (by with_reducible assumption)) | go_size))); have hz_hb4 := hb4.size; (try simp at hz_hb4); (try simp only [Nat.add_one_le_iff] at hz_hb4); have hz0_hb4 : w.heap.size < w4.heap.size := (by omega)
  have HR4 := Lib.hid hr4
  clear hr4
  have hw4 : Below w.heap.size w w4 := hw3.trans (hb4.mono hw3.size)
  go_wp2_with fail
  have hr4a := HR4.out.below (w' := w4.alloc (.cells #[.slice (some ⟨gC, 0, none⟩) M.length M.length, .slice (some ⟨gD, 0, none⟩) Q.length Q.length] 27)) (B := w4.heap.size) ((Below.refl _ _).alloc (Nat.le_refl _) _) (Nat.le_refl _)
  have R4 := Lib.hid (hr4a.reads I1.out I2.out)
  clear hr4a
  refine (HI.out _ _ _ R4.out.1 R4.out.2).mono ?_; rintro e w5 ho5; obtain ⟨a5, c5, rfl, hr5, hb5⟩ := ho5.out; clear ho5; dsimp only at hr5; dsimp only; obtain ⟨hc_hb5, hf_hb5⟩ := bcell hb5; obtain ⟨hcA_hb5, hfA_hb5⟩ := bcellG (W0 := w4) hb5 (by (repeat' (first | (with_reducible exact Below.refl _ _) | (with_reducible assumption) | (with_reducible refine Below.alloc ?_ ?_ _) | (with_reducible refine Below.drew ?_) | (with_reducible refine below_drewN ?_ _) | (with_reducible refine Below.setCell ?_ ?_ _) | (with_reducible refine Below.trans ?_ (Below.mono (by with_reducible assumption) ?_)) | (with_reducible exact Below.size (by with_reducible assumption)) | go_size))); have hz_hb5 := hb5.size; (try simp at hz_hb5); (try simp only [Nat.add_one_le_iff] at hz_hb5); have hz0_hb5 : w.heap.size < w5.heap.size := (by omega)
  have hz45 : w4.heap.size < w5.heap.size := by omega
  have HR5 := Lib.hid hr5
  clear hr5 R4
  have hw45 : Below w4.heap.size w4 w5 := ((Below.refl w4.heap.size w4).alloc (Nat.le_refl _) _).trans (hb5.mono (by simp))
  have x50 : w5.cell? ⟨w4.heap.size, 0, none⟩ = some (.slice (some ⟨gC, 0, none⟩) M.length M.length) := by rw [hc_hb5 _ _ (by simp)]; simp
  have x51 : w5.cell? ⟨w4.heap.size, 1, none⟩ = some (.slice (some ⟨gD, 0, none⟩) Q.length Q.length) := by rw [hc_hb5 _ _ (by simp)]; simp
  have hw13 : Below w1.heap.size w1 w3 := hb2.trans (hb3.mono hb2.size)
  have hw35 : Below w3.heap.size w3 w5 := hb4.trans (hw45.mono hb4.size)
  have hw15 : Below w1.heap.size w1 w5 := hw13.trans (hw35.mono hw13.size)
  have hw5 : Below w.heap.size w w5 := hw3.trans (hw35.mono hw3.size)
  have p10 : w1.cell? ⟨w.heap.size, 0, none⟩ = some (.slice a1 M.length c1) := by rw [hc_hb1 _ _ (by simp)]; simp
  have p11 : w1.cell? ⟨w.heap.size, 1, none⟩ = some (.slice a2 Q.length c2) := by rw [hc_hb1 _ _ (by simp)]; simp
  have hvq : Vq w5 w.heap.size w4.heap.size (.slice a1 M.length c1) (.slice a2 Q.length c2) (.slice (some ⟨gC, 0, none⟩) M.length M.length) (.slice (some ⟨gD, 0, none⟩) Q.length Q.length) :=
    ⟨(hw15.cell (p := ⟨w.heap.size, 0, none⟩) hz0_hb1).trans p10, (hw15.cell (p := ⟨w.heap.size, 1, none⟩) hz0_hb1).trans p11, x50, x51, by omega, hz45⟩
  have hA5 := HR3.out.below hw35 (Nat.le_refl _)
  have hX5 := HR4.out.below hw45 (Nat.le_refl _)
  have hG5 := HR5.out
  rw [show (w4.alloc (.cells #[.slice (some ⟨gC, 0, none⟩) M.length M.length, .slice (some ⟨gD, 0, none⟩) Q.length Q.length] 27)).heap.size = w4.heap.size + 1 by simp] at hG5
  have hPA : w.heap.size < w2.heap.size := by omega
  obtain ⟨P, hP⟩ : ∃ P, P = w.heap.size := ⟨_, rfl⟩
  obtain ⟨A0, hA0⟩ : ∃ A0, A0 = w2.heap.size := ⟨_, rfl⟩
  obtain ⟨A1, hA1⟩ : ∃ A1, A1 = w3.heap.size := ⟨_, rfl⟩
  obtain ⟨V, hV⟩ : ∃ V, V = w4.heap.size := ⟨_, rfl⟩
  have hAV : A0 ≤ A1 ∧ A1 ≤ V := by have := hb3.size; have := hb4.size; omega
  obtain ⟨hAV1, hAV2⟩ := hAV
  obtain ⟨G1, hG1⟩ : ∃ G1, G1 = w5.heap.size := ⟨_, rfl⟩
  have hGz : G1 ≤ w5.heap.size := by omega
  have hVG : V < G1 := by omega
  rw [← hP] at hvq hPA
  rw [← hA0] at hA5 hPA
  rw [← hA1] at hA5 hX5
  rw [← hV] at hX5 hG5 hvq hz45
  rw [← hG1] at hG5
  rw [← hP, ← hV]
  have hPw : P ≤ w.heap.size := by omega
  have hwP : w.heap.size ≤ P := by omega
  clear hP hA0 hA1 hV hG1 hw13 hw15 hw35 hw45 p10 p11 x50 x51 HR3 HR4 HR5 hw1 hw2 hw3 hw4 HS
  clear hc_hb1 hf_hb1 hcA_hb1 hfA_hb1 hz_hb1 hz0_hb1 hb1 hc_hb2 hf_hb2 hcA_hb2 hfA_hb2 hz_hb2 hz0_hb2 hb2 hc_hb3 hf_hb3 hcA_hb3 hfA_hb3 hz_hb3 hz0_hb3 hb3 hc_hb4 hf_hb4 hcA_hb4 hfA_hb4 hz_hb4 hz0_hb4 hb4 hc_hb5 hf_hb5 hcA_hb5 hfA_hb5 hz_hb5 hz0_hb5 hb5
  have HA5 := Lib.hid hA5
  have HX5 := Lib.hid hX5
  have HG5 := Lib.hid hG5
  have HV5 := Lib.hid hvq
  clear hA5 hX5 hG5 hvq
  go_wp2_with fail
  refine (eqF_ans HG5.out HA5.out HF.out).mono ?_; rintro e w6 ⟨rfl, hb6⟩
  have hw6 : Below w.heap.size w w6 := hw5.trans (hb6.mono hw5.size)
  have hz6 := hb6.size
  have HA := Lib.hid (HA5.out.below hb6 (by omega))
  have HX := Lib.hid (HX5.out.below hb6 (by omega))
  have HG := Lib.hid (HG5.out.below hb6 (by omega))
  have hv6 := HV5.out.next hb6
  have HV := Lib.hid hv6
  have hGz6 : G1 ≤ w6.heap.size := by omega
  have RX := Lib.hid (HX.out.reads I1.out I2.out)
  obtain ⟨k1, k2, k3, k4, l1, l2⟩ := hv6
  have r1 : ∀ w', Below w6.heap.size w6 w' → w'.cell? ⟨P, 0, none⟩ = some (.slice a1 M.length c1) := fun w' h => (h.cell (p := ⟨P, 0, none⟩) (by show P < _; omega)).trans k1
  have r2 : ∀ w', Below w6.heap.size w6 w' → w'.cell? ⟨P, 1, none⟩ = some (.slice a2 Q.length c2) := fun w' h => (h.cell (p := ⟨P, 1, none⟩) (by show P < _; omega)).trans k2
  have r3 : ∀ w', Below w6.heap.size w6 w' → w'.cell? ⟨V, 0, none⟩ = some (.slice (some ⟨gC, 0, none⟩) M.length M.length) := fun w' h => (h.cell (p := ⟨V, 0, none⟩) (by show V < _; omega)).trans k3
  have r4 : ∀ w', Below w6.heap.size w6 w' → w'.cell? ⟨V, 1, none⟩ = some (.slice (some ⟨gD, 0, none⟩) Q.length Q.length) := fun w' h => (h.cell (p := ⟨V, 1, none⟩) (by show V < _; omega)).trans k4
  clear HA5 HX5 HG5 HV5 hb6 hw5 hGz hz6 k1 k2 k3 k4 hz45
  go_wp2_with fail
  go_region_held3 (fun w' => Below w6.heap.size w6 w') ((repeat' (first | (with_reducible exact Below.refl _ _) | (with_reducible assumption) | (with_reducible refine Below.alloc ?_ ?_ _) | (with_reducible refine Below.drew ?_) | (with_reducible refine below_drewN ?_ _) | (with_reducible refine Below.setCell ?_ ?_ _) | (with_reducible refine Below.trans ?_ (Below.mono (by with_reducible assumption) ?_)) | (with_reducible exact Below.size (by with_reducible assumption)) | go_size)))
    (first | (go_at_call 17; refine (toProblem_out _ _ M Q _ (g1 _ (hw6.trans (Below.mono (by assumption) hw6.size))) (g2 _ (hw6.trans (Below.mono (by assumption) hw6.size))) HN1.out HN2.out).mono ?_; rintro e w8 ⟨gE, gF, us8, rfl, hr8, hb8⟩; have hS8 : Below w6.heap.size w6 w8 := (by (repeat' (first | (with_reducible exact Below.refl _ _) | (with_reducible assumption) | (with_reducible refine Below.alloc ?_ ?_ _) | (with_reducible refine Below.drew ?_) | (with_reducible refine below_drewN ?_ _) | (with_reducible refine Below.setCell ?_ ?_ _) | (with_reducible refine Below.trans ?_ (Below.mono (by with_reducible assumption) ?_)) | (with_reducible exact Below.size (by with_reducible assumption)) | go_size))); have R8 := Lib.hid (hr8.reads I1.out I2.out); clear hr8) | (go_at_call 19; refine (eqProblem_same _ _ _ _ M Q _ (RX.out.1.below hS8) (RX.out.2.below hS8) R8.out.1 R8.out.2).mono ?_; rintro e w9 ⟨rfl, hb9⟩; have hS9 : Below w6.heap.size w6 w9 := (by (repeat' (first | (with_reducible exact Below.refl _ _) | (with_reducible assumption) | (with_reducible refine Below.alloc ?_ ?_ _) | (with_reducible refine Below.drew ?_) | (with_reducible refine below_drewN ?_ _) | (with_reducible refine Below.setCell ?_ ?_ _) | (with_reducible refine Below.trans ?_ (Below.mono (by with_reducible assumption) ?_)) | (with_reducible exact Below.size (by with_reducible assumption)) | go_size)))))
  have x90 := r3 _ hS9
  have x91 := r4 _ hS9
  have hw9 : Below w.heap.size w w9 := hw6.trans (hS9.mono hw6.size)
  have hz9 := hS9.size
  have HX9 := Lib.hid (HX.out.below hS9 (by omega))
  have HG9 := Lib.hid (HG.out.below hS9 (by omega))
  have HA9 := Lib.hid (HA.out.below hS9 (by omega))
  have HV9 := Lib.hid (HV.out.next hS9)
  have hGz9 : G1 ≤ w9.heap.size := by omega
  have lP9 : P < w9.heap.size := by omega
  have lV9 : V < w9.heap.size := by omega
  clear HX HG HA HV RX R8 r1 r2 r3 r4 hS9 hb9 hS8 hb8 hw6 hGz6 hz9 l1 l2
  have hkb : (1 : Int) + tot M + Q.length ≤ 4611686018427387904 := by have := HN1.out; have := HN2.out; omega
  have hc10 := markProblem_any A1 V _ _ M Q us4 1 _ HX9.out (by omega) (by decide) hkb
  generalize pre M M.length = pM at hc10
  have hp0 : 0 ≤ (1 : Int) + pM + Q.length := by omega
  have HC10 := Lib.hid hc10
  clear hc10 hkb
  go_wp2_with fail
  refine HC10.out.mono ?_; rintro e w10 ⟨rfl, _, hbt10⟩
  have hsz10 := hbt10.size
  have v10 := HV9.out.bet hbt10 (.inl (by omega)) (.inr (by omega))
  have hw10 : Below w.heap.size w w10 := hw9.trans ((hbt10.below (by omega)).mono (by omega))
  have HG10 := Lib.hid (HG9.out.bet hbt10 (.inr (by omega)))
  have HA10 := Lib.hid (HA9.out.bet hbt10 (.inl (by omega)))
  have HV10 := Lib.hid v10
  have hGz10 : G1 ≤ w10.heap.size := by omega
  clear HC10 HX9 HV9 HG9 HA9 v10 hbt10 hw9 x90 x91 hGz9 hsz10 lP9 lV9
  go_wp2_with fail
  refine (eqF_ans HG10.out HA10.out HF.out).mono ?_; rintro e w11 ⟨rfl, hb11⟩
  have hsz11 := hb11.size
  have hw11 : Below w.heap.size w w11 := hw10.trans (hb11.mono hw10.size)
  have HG11 := Lib.hid (HG10.out.below hb11 (by omega))
  have HA11 := Lib.hid (HA10.out.below hb11 (by omega))
  have HV11 := Lib.hid (HV10.out.next hb11)
  have hGz11 : G1 ≤ w11.heap.size := by omega
  clear HG10 HA10 HV10 hb11 hw10 hGz10 hsz11
  have hsl := sizeF_le HF.out
  generalize hsg : sizeF O = sz at hsl
  have HSG := Lib.hid hsg
  clear hsg
  go_wp2_with fail
  refine (markF_ans HG11.out HF.out).mono ?_; rw [HSG.out]; rintro e w12 ⟨rfl, hm12, hbt12⟩
  have hsz12 := hbt12.size
  have hVz := HV11.out.lV
  have hPz := HV11.out.lP
  have hw12 : Below w.heap.size w w12 := hw11.trans ((hbt12.below (by omega)).mono (by omega))
  have HA12 := Lib.hid (HA11.out.bet hbt12 (.inl (by omega)))
  have HV12 := Lib.hid (HV11.out.bet hbt12 (.inl (by omega)) (.inl (by omega)))
  have HM12 := Lib.hid hm12
  have hGz12 : G1 ≤ w12.heap.size := by omega
  clear HG11 HA11 HV11 hm12 hbt12 hw11 hGz11 hsz12 hVz hPz
  go_wp2_with fail
  refine (heldF_ans HM12.out HF.out).mono ?_; rw [HSG.out]; rintro e w13 ⟨rfl, hb13⟩
  have hsz13 := hb13.size
  have hw13 : Below w.heap.size w w13 := hw12.trans (hb13.mono hw12.size)
  have HM13 := Lib.hid (HM12.out.below hb13 (by omega))
  have HA13 := Lib.hid (HA12.out.below hb13 (by omega))
  have v13 := HV12.out.next hb13
  have HV13 := Lib.hid v13
  obtain ⟨q1, q2, q3, q4, l1, l2⟩ := v13
  have hGz13 : G1 ≤ w13.heap.size := by omega
  clear HM12 HA12 HV12 hb13 hw12 hGz12 hsz13 q3 q4 l1 l2
  go_wp2_with fail
  refine (toProblem_out _ _ M Q _ (g1 _ hw13) (g2 _ hw13) HN1.out HN2.out).mono ?_; rintro e w14 ⟨gE, gF, us14, rfl, hr14, hb14⟩
  have hsz14 := hb14.size
  have hw14 : Below w.heap.size w w14 := hw13.trans (hb14.mono hw13.size)
  have R14 := Lib.hid (hr14.reads I1.out I2.out)
  have HM14 := Lib.hid (HM13.out.below hb14 (by omega))
  have HA14 := Lib.hid (HA13.out.below hb14 (by omega))
  have hGz14 : G1 ≤ w14.heap.size := by omega
  clear hr14 HV13 HM13 HA13 hb14 hw13 hGz13 hsz14 q1 q2
  go_wp2_with fail
  refine (HI.out _ _ _ R14.out.1 R14.out.2).mono ?_; rintro e w15 ho15; obtain ⟨a15, c15, rfl, hr15, hb15⟩ := ho15.out; clear ho15; dsimp only at hr15; dsimp only
  have hsz15 := hb15.size
  have hw15 : Below w.heap.size w w15 := hw14.trans (hb15.mono hw14.size)
  have HM15 := Lib.hid (HM14.out.below hb15 (by omega))
  have HA15 := Lib.hid (HA14.out.below hb15 (by omega))
  have HH15 := Lib.hid hr15
  have hGz15 : G1 ≤ w15.heap.size := by omega
  clear hr15 HM14 HA14 hb15 hw14 hGz14 hsz15 R14
  go_wp2_with fail
  refine (eqF_ans HH15.out HA15.out HF.out).mono ?_; rintro e w16 ⟨rfl, hb16⟩
  have hw16 : Below w.heap.size w w16 := hw15.trans (hb16.mono hw15.size)
  have HM16 := Lib.hid (HM15.out.below hb16 (by omega))
  clear HM15 HA15 HH15 hb16 hw15
  go_wp2_with fail
  refine (heldF_ans HM16.out HF.out).mono ?_; rw [HSG.out]; rintro e w17 ⟨rfl, hb17⟩
  have hw17 : Below w.heap.size w w17 := hw16.trans (hb17.mono hw16.size)
  go_wp2_with fail
  go_ret
  exact ⟨rfl, hw17⟩
end Go.Proofs.Ytoglmkjmnknbbaa.PW
