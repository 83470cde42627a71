/-
  The program's point of a set.
  The model's point of a set; both sides' answers.
  The exact law of PointOf: both sides' answers, and the law.
-/
import Derived.Test.YtkdgnegnndedaaaPFrW
namespace Go.Proofs.Ytkdgnegnndedaaa.PW
open Go.RowKit Go.Proofs.Ytkdgnegnndedaaa
open Go.Proofs.Ytkdgnegnndedaaa.PM Go.Proofs.Ytkdgnegnndedaaa.PX

def ptF (M : List (List Int)) (Q : List Int) (s : Int) (j : Nat) : Int × Int := (FM.redN (dt M.length (setCol (colS M s) j Q)) (dt M.length (colS M s)), FM.redD (dt M.length (setCol (colS M s) j Q)) (dt M.length (colS M s)))
def ptL (M : List (List Int)) (Q : List Int) (s : Int) : List (Int × Int) := (List.range M.length).map (ptF M Q s)
def ptOut (M : List (List Int)) (Q : List Int) (s : Int) : List (Int × Int) × Int :=
  if setCode M Q s = 0 then (if dt M.length (colS M s) = 0 then ([], 5) else (ptL M Q s, 0)) else ([], setCode M Q s)
theorem ptOut_err {M : List (List Int)} {Q : List Int} {s c : Int} (h : setCode M Q s = c) (hc : c ≠ 0) : ptOut M Q s = ([], c) := by unfold ptOut; rw [if_neg (by omega), h]
theorem ptOut_zero {M : List (List Int)} {Q : List Int} {s : Int} (h : setCode M Q s = 0) (hd : dt M.length (colS M s) = 0) : ptOut M Q s = ([], 5) := by unfold ptOut; rw [if_pos h, if_pos hd]
theorem ptOut_ok {M : List (List Int)} {Q : List Int} {s : Int} (h : setCode M Q s = 0) (hd : dt M.length (colS M s) ≠ 0) : ptOut M Q s = (ptL M Q s, 0) := by unfold ptOut; rw [if_pos h, if_neg hd]
theorem isPB_right {M : List (List Int)} {Q : List Int} (hp : isPB M Q = true) (j : Nat) : Bd 100 (Q.getD j 0) := by
  obtain ⟨_, _, _, _, f5⟩ := isPB_facts hp
  by_cases hj : j < Q.length
  · exact f5 j hj
  · rw [List.getD_eq_getElem?_getD, List.getElem?_eq_none (by omega)]
    unfold Bd
    simp
theorem setCol_u {M : List (List Int)} {Q : List Int} (hp : isPB M Q = true) (s : Int) (k i j : Nat) : Bd (20 * u k j) (setCol (colS M s) k Q i j) := by
  unfold setCol u
  split
  · exact isPB_right hp i
  · exact colS_all hp s i j

theorem freshI_own {B : Nat} {w : World} {v : Value} {xs : List Int} (h : FreshI B w v xs) : OwnI w v xs := h.owns
def fillI (n k : Nat) (F : Nat → Int) : List Int := (List.range n).map fun j => if j < k then F j else 0
theorem fillI_zero (n : Nat) (F : Nat → Int) : fillI n 0 F = List.replicate n 0 := by
  unfold fillI
  apply List.ext_getElem (by simp)
  intro i h1 h2
  simp
theorem fillI_all (n : Nat) (F : Nat → Int) : fillI n n F = (List.range n).map F := by
  unfold fillI
  refine List.map_congr_left (fun j hj => ?_)
  rw [if_pos (by simpa using hj)]
theorem fillI_set (n k : Nat) (F : Nat → Int) : (fillI n k F).set k (F k) = fillI n (k + 1) F := by
  unfold fillI
  rw [row_set]
  refine List.map_congr_left (fun j _ => ?_)
  by_cases e : j = k
  · subst e; rw [if_pos rfl, if_pos (by omega)]
  · rw [if_neg e]
    by_cases e2 : j < k
    · rw [if_pos e2, if_pos (by omega)]
    · rw [if_neg e2, if_neg (by omega)]

set_option maxRecDepth 100000 in
set_option maxHeartbeats 2000000 in
theorem implPointOf_ok (m q : Value) (M : List (List Int)) (Q : List Int) (s : Int) (w : World) (h1 : PM.Rows w m M) (h2 : Ints w q Q) (h : setCode M Q s = 0) (hp : isPB M Q = true) (hD : dt M.length (colS M s) ≠ 0) :
    Calls Try.prog 133 #[.agg #[m, q], .int .i64 s] w (OutF w (ptL M Q s, 0)) := by
  have g1 := fun (w' : World) (h : Below w.heap.size w w') => h1.below h
  have g2 := fun (w' : World) (h : Below w.heap.size w w') => h2.below h
  obtain ⟨a1, c1, rfl, _⟩ := h1
  obtain ⟨a2, c2, rfl, _⟩ := h2
  obtain ⟨f1, f2, f3, f4, f5⟩ := isPB_facts hp
  have HC := Lib.hid (colsOut_ok h)
  have HL := Lib.hid (tab_length M.length (colS M s))
  have HQ := Lib.hid f3
  have HA := Lib.hid (colS_all hp s)
  have HU := Lib.hid (fun k i j => setCol_u hp s k i j)
  have HDB := Lib.hid (dt_hadR f1 f2 (fun i j _ _ => (colS_all hp s i j).mono (u_ge 5 j)))
  have HGB := Lib.hid (fun j => dt_hadR f1 f2 (fun a b _ _ => setCol_u hp s j a b))
  have hmk := run_make_row' (P := Try.prog) 23 2 (.int .i64 0) 8 Try.underlying23 info_int rfl .i64 .i64 M.length (by omega) (by omega)
  obtain ⟨n, hn⟩ : ∃ n, n = M.length := ⟨_, rfl⟩
  obtain ⟨G, hG⟩ : ∃ G : Nat → Int, G = fun j => dt M.length (setCol (colS M s) j Q) := ⟨_, rfl⟩
  have HG := Lib.hid (fun j => congrFun hG j)
  have HND := Lib.hid hD
  have hDn : (dt M.length (colS M s) == 0) = false := by rw [beq_eq_false_iff_ne]; exact hD
  have HPL : Hid (ptL M Q s = (List.range M.length).map fun j => (FM.redN (G j) (dt M.length (colS M s)), FM.redD (G j) (dt M.length (colS M s)))) := by
    show ptL M Q s = _
    rw [hG]
    rfl
  clear h hp f3 f4 f5 hG hD hn
  go_enter Try.func133, Try.ntmps133
  go_wp2_with fail
  refine (implColumnsOf_any _ _ M Q s _ (g1 _ (by (repeat' (first | (with_reducible exact Below.refl _ _) | (with_reducible assumption) | (with_reducible refine Below.alloc ?_ ?_ _) | (with_reducible refine Below.drew ?_) | (with_reducible refine below_drewN ?_ _) | (with_reducible refine Below.setCell ?_ ?_ _) | (with_reducible refine Below.trans ?_ (Below.mono (by with_reducible assumption) ?_)) | (with_reducible exact Below.size (by with_reducible assumption)) | go_size)))) (g2 _ (by (repeat' (first | (with_reducible exact Below.refl _ _) | (with_reducible assumption) | (with_reducible refine Below.alloc ?_ ?_ _) | (with_reducible refine Below.drew ?_) | (with_reducible refine below_drewN ?_ _) | (with_reducible refine Below.setCell ?_ ?_ _) | (with_reducible refine Below.trans ?_ (Below.mono (by with_reducible assumption) ?_)) | (with_reducible exact Below.size (by with_reducible assumption)) | go_size))))).mono ?_; rw [HC.out]; rintro e w1 ho; obtain ⟨a3, c3, rfl, hr, hb1⟩ := ho.out; dsimp only at hr; dsimp only; rw [HL.out] at hr ⊢; clear ho; obtain ⟨hc_hb1, hf_hb1⟩ := bcell hb1; obtain ⟨hcA_hb1, hfA_hb1⟩ := bcellG (W0 := w) hb1 (by (repeat' (first | (with_reducible exact Below.refl _ _) | (with_reducible assumption) | (with_reducible refine Below.alloc ?_ ?_ _) | (with_reducible refine Below.drew ?_) | (with_reducible refine below_drewN ?_ _) | (with_reducible refine Below.setCell ?_ ?_ _) | (with_reducible refine Below.trans ?_ (Below.mono (by with_reducible assumption) ?_)) | (with_reducible exact Below.size (by with_reducible assumption)) | go_size))); have hz_hb1 := hb1.size; (try simp at hz_hb1); (try simp only [Nat.add_one_le_iff] at hz_hb1); have hz0_hb1 : w.heap.size < w1.heap.size := (by omega)
  have hw1 : Below w.heap.size w w1 := by (repeat' (first | (with_reducible exact Below.refl _ _) | (with_reducible assumption) | (with_reducible refine Below.alloc ?_ ?_ _) | (with_reducible refine Below.drew ?_) | (with_reducible refine below_drewN ?_ _) | (with_reducible refine Below.setCell ?_ ?_ _) | (with_reducible refine Below.trans ?_ (Below.mono (by with_reducible assumption) ?_)) | (with_reducible exact Below.size (by with_reducible assumption)) | go_size))
  have x1 : w1.cell? ⟨w.heap.size, 1, none⟩ = some (.slice a2 Q.length c2) := by rw [hc_hb1 _ _ (by simp)]; simp
  have xz : w.heap.size < w1.heap.size := by omega
  have hrows := hr.rows (tab_I64 (B := 20) (by decide) (fun i j _ _ => HA.out i j))
  have hd := det_tab _ M.length 5 (colS M s) w1 hrows f1 f2 (fun i j _ _ => (HA.out i j).mono (u_ge 5 j))
  have HR := Lib.hid hrows
  have HD := Lib.hid hd
  clear hr hd hrows
  generalize dt M.length (colS M s) = D at *
  go_wp2_with fail
  refine HD.out.mono ?_
  rintro e w2 ⟨rfl, hb2⟩
  have hw2 : Below w.heap.size w w2 := hw1.trans (hb2.mono hw1.size)
  have HR2 := Lib.hid (HR.out.below hb2)
  have x2 : w2.cell? ⟨w.heap.size, 1, none⟩ = some (.slice a2 Q.length c2) := (hb2.cell (p := ⟨w.heap.size, 1, none⟩) xz).trans x1
  have xz2 : w.heap.size < w2.heap.size := by have := hb2.size; omega
  have HZ := Lib.hid (zeros_fresh w2 M.length (by unfold maxLen; omega))
  clear hb2 HR HD x1 xz
  go_wp2_with fail
  go_loopw [10, 29] (fun _ i wr => ∃ k : Nat, k ≤ M.length ∧ i = .int .i64 k ∧ FreshI w2.heap.size wr (.slice (some ⟨w2.heap.size, 0, none⟩) M.length M.length) (fillI M.length k G) ∧ Below w2.heap.size w2 wr) (fun _ i _ => M.length - (intOf i).toNat)
  case atStart => exact ⟨0, Nat.zero_le _, rfl, by rw [fillI_zero]; exact HZ.out, (Below.refl _ _).alloc (Nat.le_refl _) _⟩
  case round =>
    obtain ⟨k, hk, rfl, hO, hB⟩ := hrel
    by_cases hlt : k < M.length
    · have x3 : wr.cell? ⟨w.heap.size, 1, none⟩ = some (.slice a2 Q.length c2) := (hB.cell (p := ⟨w.heap.size, 1, none⟩) xz2).trans x2
      have hzz := hB.size
      have hwc := withColumn_any _ _ M.length k (colS M s) Q wr (HR2.out.below hB) (g2 wr (hw2.trans (hB.mono hw2.size))) HQ.out hlt f2
      have HWC := Lib.hid hwc
      have HO := Lib.hid hO
      have HB := Lib.hid hB
      clear hwc hO hB
      go_wp2_with fail
      refine HWC.out.mono ?_
      rintro e w3 ⟨us, rfl, hf3, hb3⟩
      have hd := det_tab _ M.length k (setCol (colS M s) k Q) w3 (hf3.own.rows' (fun i hi => tab_I64 (B := 100) (by decide) (fun a b _ _ => (HU.out k a b).mono (by unfold u; split <;> omega)) i hi)) f1 f2 (fun i j _ _ => HU.out k i j)
      rw [← HG.out k] at hd
      have HD := Lib.hid hd
      clear hd hf3 x3
      go_wp2_with fail
      refine HD.out.mono ?_
      rintro e w4 ⟨rfl, hb4⟩
      have hb24 := HB.out.trans ((hb3.trans (hb4.mono hb3.size)).mono HB.out.size)
      have hO4 := HO.out.below (hb3.trans (hb4.mono hb3.size))
      obtain ⟨_, _, hvv, _, hz4, hoo⟩ := id hO4
      have hgz : w2.heap.size < w4.heap.size := by simp at hvv; omega
      clear hvv hz4
      have hl : M.length = (fillI M.length k G).length := by simp [fillI]
      have c6 := own_cellN hoo hl hlt
      have c7 := own_frozenN hoo hl k
      have hst := hO4.set k (G k)
      rw [fillI_set] at hst
      have HST := Lib.hid hst
      have HBS := Lib.hid (hb24.setCell (p := ⟨w2.heap.size, k, none⟩) (Nat.le_refl _) (.int .i64 (G k)))
      clear hst hl hoo hO4 hb24 hb3 hb4 HD HWC HO HB
      generalize G k = x at *
      generalize (fillI M.length k G).getD k 0 = y at *
      go_wp2_with fail
      go_roundw
      case rel => exact ⟨k + 1, by omega, by go_num, HST.out, HBS.out⟩
      case measure => simp [intOf]; omega
    · obtain rfl : k = M.length := by omega
      rw [fillI_all] at hO
      have hlf := limitedFracs_any (.slice (some ⟨w2.heap.size, 0, none⟩) M.length M.length) M.length G D wr ((freshI_own hO).ints (fun x hx => by
        obtain ⟨j, _, rfl⟩ := List.mem_map.1 hx
        have := HGB.out j
        rw [← HG.out j] at this
        unfold Bd at this
        unfold I64
        omega)) f1 f2 HND.out (fun j _ => by rw [HG.out j]; exact HGB.out j) HDB.out
      have HLF := Lib.hid hlf
      have HB := Lib.hid (hw2.trans (hB.mono hw2.size))
      clear hO hB hlf
      go_wp2_with fail
      refine HLF.out.mono ?_
      rintro e w5 ⟨g, c, rfl, hf, hb5⟩
      rw [← HPL.out] at hf
      have HF := Lib.hid hf
      clear hf
      go_wp2_with fail
      go_ret2
      exact ⟨_, rfl, (HF.out.mono HB.out.size).rng, HB.out.trans (hb5.mono HB.out.size)⟩
end Go.Proofs.Ytkdgnegnndedaaa.PW
namespace Go.Proofs.Ytkdgnegnndedaaa.PW
open Go.RowKit Go.Proofs.Ytkdgnegnndedaaa
open Go.Proofs.Ytkdgnegnndedaaa.PM Go.Proofs.Ytkdgnegnndedaaa.PX

theorem cell_two_new (w : World) (x y : Value) (t : TypeId) : ∀ j u, [x, y][j]? = some u → (w.alloc (.cells #[x, y] t)).cell? ((⟨w.heap.size, 0, none⟩ : Addr).add j) = some u := by
  intro j u hj
  match j, hj with
  | 0, hj =>
    simp at hj
    subst hj
    simp [Addr.add]
  | 1, hj =>
    simp at hj
    subst hj
    simp [Addr.add]
theorem rowF_length (n : Nat) (F : Nat → Int × Int) : ((List.range n).map F).length = n := by simp
theorem snocF (k : Nat) (F : Nat → Int × Int) : (List.range (k + 1)).map F = (List.range k).map F ++ [((F k).1, (F k).2)] := by
  rw [List.range_succ, List.map_append]
  rfl

set_option maxRecDepth 100000 in
set_option maxHeartbeats 1000000 in
theorem l01Point_zero (m q : Value) (M : List (List Int)) (Q : List Int) (s : Int) (w : World) (h1 : PM.Rows w m M) (h2 : Ints w q Q) (hp : isPB M Q = true) (hD : dt M.length (colS M s) = 0) :
    Calls Try.prog 103 #[.agg #[m, q], .int .i64 s] w fun e w' => e = .returned (.tuple #[.slice none 0 0, .bool false]) ∧ Below w.heap.size w w' := by
  have g1 := fun (w' : World) (h : Below w.heap.size w w') => h1.below h
  have g2 := fun (w' : World) (h : Below w.heap.size w w') => h2.below h
  obtain ⟨a1, c1, rfl, _⟩ := h1
  obtain ⟨a2, c2, rfl, _⟩ := h2
  obtain ⟨f1, f2, f3, f4, f5⟩ := isPB_facts hp
  have H4 := Lib.hid f4
  have HE := Lib.hid (ent_bd hp)
  have HI := Lib.hid (tab_I64 (n := M.length) (g := colS M s) (B := 20) (by decide) (fun i j _ _ => colS_all hp s i j))
  have hsol := fun (v : Value) (w' : World) (h : PM.Rows w' v (tab M.length (colS M s))) (hb : Below w.heap.size w w') => l01Solve_any v _ M.length (colS M s) Q w' h (g2 w' hb) f3 f1 f2 (fun i j => (colS_all hp s i j).mono (by decide)) (isPB_right hp)
  rw [hD] at hsol
  have HS := Lib.hid hsol
  clear hp f3 f4 f5 hD hsol
  go_enter Try.func103, Try.ntmps103
  go_wp2_with fail
  have k1 : ∀ w', Below (w.heap.size + 1) (w.alloc (.cells #[.slice a1 M.length c1, .slice a2 Q.length c2] 27)) w' → w'.cell? ⟨w.heap.size, 0, none⟩ = some (.slice a1 M.length c1) := fun w' h => by rw [h.cell (by simp)]; simp
  have k2 : ∀ w', Below (w.heap.size + 1) (w.alloc (.cells #[.slice a1 M.length c1, .slice a2 Q.length c2] 27)) w' → w'.cell? ⟨w.heap.size, 1, none⟩ = some (.slice a2 Q.length c2) := fun w' h => by rw [h.cell (by simp)]; simp
  have k3 : ∀ w', Below (w.heap.size + 1) (w.alloc (.cells #[.slice a1 M.length c1, .slice a2 Q.length c2] 27)) w' → Below w.heap.size w w' := fun w' h => ((Below.refl w.heap.size w).alloc (Nat.le_refl _) _).trans (h.mono (by omega))
  go_region_held3 (fun w' => Below (w.heap.size + 1) (w.alloc (.cells #[.slice a1 M.length c1, .slice a2 Q.length c2] 27)) w') ((repeat' (first | (with_reducible exact Below.refl _ _) | (with_reducible assumption) | (with_reducible refine Below.alloc ?_ ?_ _) | (with_reducible refine Below.drew ?_) | (with_reducible refine below_drewN ?_ _) | (with_reducible refine Below.setCell ?_ ?_ _) | (with_reducible refine Below.trans ?_ (Below.mono (by with_reducible assumption) ?_)) | (with_reducible exact Below.size (by with_reducible assumption)) | go_size)))
    (first
      | (go_at_call 73; refine (l01Columns_any _ M s _ (g1 _ (k3 _ (by (repeat' (first | (with_reducible exact Below.refl _ _) | (with_reducible assumption) | (with_reducible refine Below.alloc ?_ ?_ _) | (with_reducible refine Below.drew ?_) | (with_reducible refine below_drewN ?_ _) | (with_reducible refine Below.setCell ?_ ?_ _) | (with_reducible refine Below.trans ?_ (Below.mono (by with_reducible assumption) ?_)) | (with_reducible exact Below.size (by with_reducible assumption)) | go_size))))) f1 f2 (fun j hj => (H4.out j hj).1) HE.out).mono ?_; rintro e w3 ⟨g3, cap3, us3, rfl, hf3, hb3⟩; have hR3 := hf3.own.rows' HI.out; clear hf3; have hS3 : Below (w.heap.size + 1) (w.alloc (.cells #[.slice a1 M.length c1, .slice a2 Q.length c2] 27)) w3 := (by (repeat' (first | (with_reducible exact Below.refl _ _) | (with_reducible assumption) | (with_reducible refine Below.alloc ?_ ?_ _) | (with_reducible refine Below.drew ?_) | (with_reducible refine below_drewN ?_ _) | (with_reducible refine Below.setCell ?_ ?_ _) | (with_reducible refine Below.trans ?_ (Below.mono (by with_reducible assumption) ?_)) | (with_reducible exact Below.size (by with_reducible assumption)) | go_size))); have hz3 : w.heap.size + 1 ≤ w3.heap.size := (by have := hS3.size; simp at this; omega))
      | (go_at_call 132; refine (HS.out _ _ (hR3.below (by (repeat' (first | (with_reducible exact Below.refl _ _) | (with_reducible assumption) | (with_reducible refine Below.alloc ?_ ?_ _) | (with_reducible refine Below.drew ?_) | (with_reducible refine below_drewN ?_ _) | (with_reducible refine Below.setCell ?_ ?_ _) | (with_reducible refine Below.trans ?_ (Below.mono (by with_reducible assumption) ?_)) | (with_reducible exact Below.size (by with_reducible assumption)) | go_size)))) (k3 _ (by (repeat' (first | (with_reducible exact Below.refl _ _) | (with_reducible assumption) | (with_reducible refine Below.alloc ?_ ?_ _) | (with_reducible refine Below.drew ?_) | (with_reducible refine below_drewN ?_ _) | (with_reducible refine Below.setCell ?_ ?_ _) | (with_reducible refine Below.trans ?_ (Below.mono (by with_reducible assumption) ?_)) | (with_reducible exact Below.size (by with_reducible assumption)) | go_size))))).mono ?_; rintro e w4 ⟨g4, c4, rfl, _, hb4⟩; have hS4 : Below (w.heap.size + 1) (w.alloc (.cells #[.slice a1 M.length c1, .slice a2 Q.length c2] 27)) w4 := (by (repeat' (first | (with_reducible exact Below.refl _ _) | (with_reducible assumption) | (with_reducible refine Below.alloc ?_ ?_ _) | (with_reducible refine Below.drew ?_) | (with_reducible refine below_drewN ?_ _) | (with_reducible refine Below.setCell ?_ ?_ _) | (with_reducible refine Below.trans ?_ (Below.mono (by with_reducible assumption) ?_)) | (with_reducible exact Below.size (by with_reducible assumption)) | go_size)))))
  go_wp2_with fail
  go_ret2
  exact ⟨rfl, k3 _ (by (repeat' (first | (with_reducible exact Below.refl _ _) | (with_reducible assumption) | (with_reducible refine Below.alloc ?_ ?_ _) | (with_reducible refine Below.drew ?_) | (with_reducible refine below_drewN ?_ _) | (with_reducible refine Below.setCell ?_ ?_ _) | (with_reducible refine Below.trans ?_ (Below.mono (by with_reducible assumption) ?_)) | (with_reducible exact Below.size (by with_reducible assumption)) | go_size)))⟩
set_option maxRecDepth 100000 in
set_option maxHeartbeats 2000000 in
theorem l01Point_ok (m q : Value) (M : List (List Int)) (Q : List Int) (s : Int) (w : World) (h1 : PM.Rows w m M) (h2 : Ints w q Q) (hp : isPB M Q = true) (hD : dt M.length (colS M s) ≠ 0) :
    Calls Try.prog 103 #[.agg #[m, q], .int .i64 s] w fun e w' => ∃ g c, e = .returned (.tuple #[.slice (some ⟨g, 0, none⟩) M.length c, .bool true]) ∧ FreshF w.heap.size w' (.slice (some ⟨g, 0, none⟩) M.length c) (ptL M Q s) ∧ Below w.heap.size w w' := by
  have g1 := fun (w' : World) (h : Below w.heap.size w w') => h1.below h
  have g2 := fun (w' : World) (h : Below w.heap.size w w') => h2.below h
  obtain ⟨a1, c1, rfl, _⟩ := h1
  obtain ⟨a2, c2, rfl, _⟩ := h2
  obtain ⟨f1, f2, f3, f4, f5⟩ := isPB_facts hp
  have H4 := Lib.hid f4
  have HE := Lib.hid (ent_bd hp)
  have HI := Lib.hid (tab_I64 (n := M.length) (g := colS M s) (B := 20) (by decide) (fun i j _ _ => colS_all hp s i j))
  have hsol := fun (v : Value) (w' : World) (h : PM.Rows w' v (tab M.length (colS M s))) (hb : Below w.heap.size w w') => l01Solve_any v _ M.length (colS M s) Q w' h (g2 w' hb) f3 f1 f2 (fun i j => (colS_all hp s i j).mono (by decide)) (isPB_right hp)
  obtain ⟨G, hG⟩ : ∃ G : Nat → Int, G = fun j => dt M.length (setCol (colS M s) j Q) := ⟨_, rfl⟩
  have hgb := fun j => dt_hadR f1 f2 (fun a b _ _ => setCol_u hp s j a b)
  have hgb' : ∀ j, Bd 1000000000 (G j) := fun j => by rw [hG]; exact hgb j
  have hdb := dt_hadR f1 f2 (fun i j _ _ => (colS_all hp s i j).mono (u_ge 5 j))
  have hpl : ptL M Q s = (List.range M.length).map fun j => (FM.redN (G j) (dt M.length (colS M s)), FM.redD (G j) (dt M.length (colS M s))) := by
    rw [hG]
    rfl
  have hfr := fun (j : Nat) (w' : World) => FW.l01Frac_any (G j) (dt M.length (colS M s)) w' (by have := hgb' j; unfold Bd at this; omega) (by have := hgb' j; unfold Bd at this; omega) (by unfold Bd at hdb; omega) (by unfold Bd at hdb; omega) hD
  have hDn : (dt M.length (colS M s) == 0) = false := by rw [beq_eq_false_iff_ne]; exact hD
  rw [← hG] at hsol
  rw [hpl]
  generalize dt M.length (colS M s) = D at *
  obtain ⟨F, hF⟩ : ∃ F : Nat → Int × Int, F = fun j => (FM.redN (G j) D, FM.redD (G j) D) := ⟨_, rfl⟩
  have hF0 : ∀ j, (F j).1 = FM.redN (G j) D := fun j => by rw [hF]
  have hF1 : ∀ j, (F j).2 = FM.redD (G j) D := fun j => by rw [hF]
  rw [← hF]
  have HS := Lib.hid hsol
  have HFR := Lib.hid hfr
  have HF0 := Lib.hid hF0
  have HF1 := Lib.hid hF1
  obtain ⟨j0, hj, hyy0, hyy1, hyy2⟩ := info_parts info_frac
  clear hp f3 f4 f5 hD hsol hG hgb hgb' hdb hpl hfr hF hF0 hF1
  go_enter Try.func103, Try.ntmps103
  go_wp2_with fail
  have k1 : ∀ w', Below (w.heap.size + 1) (w.alloc (.cells #[.slice a1 M.length c1, .slice a2 Q.length c2] 27)) w' → w'.cell? ⟨w.heap.size, 0, none⟩ = some (.slice a1 M.length c1) := fun w' h => by rw [h.cell (by simp)]; simp
  have k2 : ∀ w', Below (w.heap.size + 1) (w.alloc (.cells #[.slice a1 M.length c1, .slice a2 Q.length c2] 27)) w' → w'.cell? ⟨w.heap.size, 1, none⟩ = some (.slice a2 Q.length c2) := fun w' h => by rw [h.cell (by simp)]; simp
  have k3 : ∀ w', Below (w.heap.size + 1) (w.alloc (.cells #[.slice a1 M.length c1, .slice a2 Q.length c2] 27)) w' → Below w.heap.size w w' := fun w' h => ((Below.refl w.heap.size w).alloc (Nat.le_refl _) _).trans (h.mono (by omega))
  go_region_held3 (fun w' => Below (w.heap.size + 1) (w.alloc (.cells #[.slice a1 M.length c1, .slice a2 Q.length c2] 27)) w') ((repeat' (first | (with_reducible exact Below.refl _ _) | (with_reducible assumption) | (with_reducible refine Below.alloc ?_ ?_ _) | (with_reducible refine Below.drew ?_) | (with_reducible refine below_drewN ?_ _) | (with_reducible refine Below.setCell ?_ ?_ _) | (with_reducible refine Below.trans ?_ (Below.mono (by with_reducible assumption) ?_)) | (with_reducible exact Below.size (by with_reducible assumption)) | go_size)))
    (first
      | (go_at_call 73; refine (l01Columns_any _ M s _ (g1 _ (k3 _ (by (repeat' (first | (with_reducible exact Below.refl _ _) | (with_reducible assumption) | (with_reducible refine Below.alloc ?_ ?_ _) | (with_reducible refine Below.drew ?_) | (with_reducible refine below_drewN ?_ _) | (with_reducible refine Below.setCell ?_ ?_ _) | (with_reducible refine Below.trans ?_ (Below.mono (by with_reducible assumption) ?_)) | (with_reducible exact Below.size (by with_reducible assumption)) | go_size))))) f1 f2 (fun j hj => (H4.out j hj).1) HE.out).mono ?_; rintro e w3 ⟨g3, cap3, us3, rfl, hf3, hb3⟩; have hR3 := hf3.own.rows' HI.out; clear hf3; have hS3 : Below (w.heap.size + 1) (w.alloc (.cells #[.slice a1 M.length c1, .slice a2 Q.length c2] 27)) w3 := (by (repeat' (first | (with_reducible exact Below.refl _ _) | (with_reducible assumption) | (with_reducible refine Below.alloc ?_ ?_ _) | (with_reducible refine Below.drew ?_) | (with_reducible refine below_drewN ?_ _) | (with_reducible refine Below.setCell ?_ ?_ _) | (with_reducible refine Below.trans ?_ (Below.mono (by with_reducible assumption) ?_)) | (with_reducible exact Below.size (by with_reducible assumption)) | go_size))); have hz3 : w.heap.size + 1 ≤ w3.heap.size := (by have := hS3.size; simp at this; omega))
      | (go_at_call 132; refine (HS.out _ _ (hR3.below (by (repeat' (first | (with_reducible exact Below.refl _ _) | (with_reducible assumption) | (with_reducible refine Below.alloc ?_ ?_ _) | (with_reducible refine Below.drew ?_) | (with_reducible refine below_drewN ?_ _) | (with_reducible refine Below.setCell ?_ ?_ _) | (with_reducible refine Below.trans ?_ (Below.mono (by with_reducible assumption) ?_)) | (with_reducible exact Below.size (by with_reducible assumption)) | go_size)))) (k3 _ (by (repeat' (first | (with_reducible exact Below.refl _ _) | (with_reducible assumption) | (with_reducible refine Below.alloc ?_ ?_ _) | (with_reducible refine Below.drew ?_) | (with_reducible refine below_drewN ?_ _) | (with_reducible refine Below.setCell ?_ ?_ _) | (with_reducible refine Below.trans ?_ (Below.mono (by with_reducible assumption) ?_)) | (with_reducible exact Below.size (by with_reducible assumption)) | go_size))))).mono ?_; rintro e w4 ⟨g4, c4, rfl, hf4, hb4⟩; have hz4 := hb4.size; have HL4 := Lib.hid hf4; clear hf4; have hS4 : Below (w.heap.size + 1) (w.alloc (.cells #[.slice a1 M.length c1, .slice a2 Q.length c2] 27)) w4 := (by (repeat' (first | (with_reducible exact Below.refl _ _) | (with_reducible assumption) | (with_reducible refine Below.alloc ?_ ?_ _) | (with_reducible refine Below.drew ?_) | (with_reducible refine below_drewN ?_ _) | (with_reducible refine Below.setCell ?_ ?_ _) | (with_reducible refine Below.trans ?_ (Below.mono (by with_reducible assumption) ?_)) | (with_reducible exact Below.size (by with_reducible assumption)) | go_size)))))
  have hw4 : Below w.heap.size w w4 := k3 _ hS4
  obtain ⟨_, _, hvv, _, hz5, hoo⟩ := id HL4.out
  have hg4 : g4 < w4.heap.size := by simp at hvv; omega
  have hce : ∀ j, j < M.length → w4.cell? ⟨g4, j, none⟩ = some (.int .i64 (G j)) := fun j hj => by
    rw [own_cellN hoo (row_length _ _).symm hj]
    simp [hj]
  have HCE := Lib.hid hce
  have HW4 := Lib.hid hw4
  clear k1 k2 k3 hb3 hR3 hS3 hz3 hb4 hz4 HL4 hS4 hvv hz5 hoo hce hw4 HS HI HE H4
  go_wp2_with fail
  go_loopw [8, 9] (fun v i wr => ∃ k : Nat, k ≤ M.length ∧ i = .int .i64 k ∧ FreshF w4.heap.size wr v ((List.range k).map F) ∧ Below w4.heap.size w4 wr) (fun _ i _ => M.length - (intOf i).toNat)
  case atStart => exact ⟨0, Nat.zero_le _, rfl, freshF_nil w4, (Below.refl _ _).alloc (Nat.le_refl _) _⟩
  case round =>
    obtain ⟨k, hk, rfl, hO, hB⟩ := hrel
    by_cases hlt : k < M.length
    · have t1 := (hB.cell (p := ⟨g4, k, none⟩) hg4).trans (HCE.out k hlt)
      have HFK := Lib.hid (HFR.out k)
      have HO := Lib.hid hO
      have HB := Lib.hid hB
      clear hO hB
      go_wp2_with fail
      refine (HFK.out _).mono ?_
      rintro e w5 ⟨rfl, hb5⟩
      rw [← HF0.out k, ← HF1.out k]
      have HX := Lib.hid (snocF k F)
      have HO5 := Lib.hid (HO.out.below hb5)
      have HB5 := Lib.hid (HB.out.trans (hb5.mono HB.out.size))
      have how := HO5.out.own
      unfold OwnF at how
      rw [rowF_length] at how
      have HOW := Lib.hid how
      clear how hb5 HO HB HFK
      generalize (F k).1 = x at *
      generalize (F k).2 = y at *
      go_wp2_with (at_builtin; refine wpList_append_lies _ rfl _ _ 53 rfl 0 61 j0 (.agg #[.int .i64 0, .int .i64 0]) 2 16 Try.underlying53 hj hyy0 hyy1 hyy2 rfl (by decide) u8 k _ rfl ((HOW.out).alloc _) _ 1 _ [.int .i64 x, .int .i64 y] rfl rfl (cell_two_new _ _ _ _) (by simp [Value.oneCell']) (by decide) (by unfold maxLen; omega) (by omega) (Nat.zero_le _) _ rfl ?_; intro g cap w6 hown hgrow hat hgl)
      have hpu := HO5.out.push HB5.out.size (rowF_length k F).symm hown hat hgl
      have hgr := HO5.out.grow HB5.out HB5.out.size hgrow
      rw [← HX.out] at hpu
      have HPU := Lib.hid hpu
      have HGR := Lib.hid hgr
      clear hpu hgr hown hgrow hat hgl
      go_wp2_with fail
      go_roundw
      case rel => exact ⟨k + 1, by omega, by go_num, HPU.out, HGR.out⟩
      case measure => simp [intOf]; omega
    · obtain rfl : k = M.length := by omega
      obtain ⟨g, c, rfl, _, _⟩ := hO.shape (rowF_length _ _)
      have HO := Lib.hid hO
      have HB := Lib.hid hB
      clear hO hB
      go_wp2_with fail
      go_ret2
      exact ⟨_, _, rfl, HO.out.mono HW4.out.size, HW4.out.trans (HB.out.mono HW4.out.size)⟩
end Go.Proofs.Ytkdgnegnndedaaa.PW
namespace Go.Proofs.Ytkdgnegnndedaaa.PW
open Go.RowKit Go.Proofs.Ytkdgnegnndedaaa
open Go.Proofs.Ytkdgnegnndedaaa.PM Go.Proofs.Ytkdgnegnndedaaa.PX

theorem fine_pt (M : List (List Int)) (Q : List Int) (s : Int) : FineF (ptOut M Q s).1 := by
  unfold ptOut
  split
  · rename_i h
    split
    · exact fineF_nil
    · rcases setCode_cases M Q s with h' | h' | ⟨_, hp, _, _⟩
      · omega
      · omega
      · refine ⟨?_⟩
        have := (isPB_facts hp).2.1
        show (ptL M Q s).length ≤ _
        unfold ptL
        rw [rowF_length]
        omega
  · exact fineF_nil
theorem pt_isF {M : List (List Int)} {Q : List Int} {s : Int} (hp : isPB M Q = true) (hD : dt M.length (colS M s) ≠ 0) (j : Nat) : FM.isF (ptF M Q s j).1 (ptF M Q s j).2 = true := by
  obtain ⟨f1, f2, _, _, _⟩ := isPB_facts hp
  exact red_isF hD (dt_hadR f1 f2 (fun a b _ _ => setCol_u hp s j a b)) (dt_hadR f1 f2 (fun i j _ _ => (colS_all hp s i j).mono (u_ge 5 j)))

theorem implPointOf_any (m q : Value) (M : List (List Int)) (Q : List Int) (s : Int) (w : World) (h1 : PM.Rows w m M) (h2 : Ints w q Q) :
    Calls Try.prog 133 #[.agg #[m, q], .int .i64 s] w (OutF w (ptOut M Q s)) := by
  rcases setCode_cases M Q s with h | h | ⟨h, hp, hs0, hs1⟩
  case' inr.inr =>
    by_cases hD : dt M.length (colS M s) = 0
    case neg =>
      rw [ptOut_ok h hD]
      exact implPointOf_ok m q M Q s w h1 h2 h hp hD
    have g1 := fun (w' : World) (h : Below w.heap.size w w') => h1.below h
    have g2 := fun (w' : World) (h : Below w.heap.size w w') => h2.below h
    obtain ⟨a1, c1, rfl, _⟩ := h1
    obtain ⟨a2, c2, rfl, _⟩ := h2
    rw [ptOut_zero h hD]
    have HC := Lib.hid (colsOut_ok h)
    have HL := Lib.hid (tab_length M.length (colS M s))
    obtain ⟨f1, f2, f3, f4, f5⟩ := isPB_facts hp
    have HA := Lib.hid (colS_all hp s)
    have HD0 := Lib.hid hD
    clear h hp hs0 hs1 f3 f4 f5 hD
    go_enter Try.func133, Try.ntmps133
    go_wp2_with fail
    refine (implColumnsOf_any _ _ M Q s _ (g1 _ (by (repeat' (first | (with_reducible exact Below.refl _ _) | (with_reducible assumption) | (with_reducible refine Below.alloc ?_ ?_ _) | (with_reducible refine Below.drew ?_) | (with_reducible refine below_drewN ?_ _) | (with_reducible refine Below.setCell ?_ ?_ _) | (with_reducible refine Below.trans ?_ (Below.mono (by with_reducible assumption) ?_)) | (with_reducible exact Below.size (by with_reducible assumption)) | go_size)))) (g2 _ (by (repeat' (first | (with_reducible exact Below.refl _ _) | (with_reducible assumption) | (with_reducible refine Below.alloc ?_ ?_ _) | (with_reducible refine Below.drew ?_) | (with_reducible refine below_drewN ?_ _) | (with_reducible refine Below.setCell ?_ ?_ _) | (with_reducible refine Below.trans ?_ (Below.mono (by with_reducible assumption) ?_)) | (with_reducible exact Below.size (by with_reducible assumption)) | go_size))))).mono ?_; rw [HC.out]; rintro e w1 ho; obtain ⟨a3, c3, rfl, hr, hb1⟩ := ho.out; dsimp only at hr; dsimp only; rw [HL.out] at hr ⊢; clear ho; obtain ⟨hc_hb1, hf_hb1⟩ := bcell hb1; obtain ⟨hcA_hb1, hfA_hb1⟩ := bcellG (W0 := w) hb1 (by (repeat' (first | (with_reducible exact Below.refl _ _) | (with_reducible assumption) | (with_reducible refine Below.alloc ?_ ?_ _) | (with_reducible refine Below.drew ?_) | (with_reducible refine below_drewN ?_ _) | (with_reducible refine Below.setCell ?_ ?_ _) | (with_reducible refine Below.trans ?_ (Below.mono (by with_reducible assumption) ?_)) | (with_reducible exact Below.size (by with_reducible assumption)) | go_size))); have hz_hb1 := hb1.size; (try simp at hz_hb1); (try simp only [Nat.add_one_le_iff] at hz_hb1); have hz0_hb1 : w.heap.size < w1.heap.size := (by omega)
    have hw1 : Below w.heap.size w w1 := by (repeat' (first | (with_reducible exact Below.refl _ _) | (with_reducible assumption) | (with_reducible refine Below.alloc ?_ ?_ _) | (with_reducible refine Below.drew ?_) | (with_reducible refine below_drewN ?_ _) | (with_reducible refine Below.setCell ?_ ?_ _) | (with_reducible refine Below.trans ?_ (Below.mono (by with_reducible assumption) ?_)) | (with_reducible exact Below.size (by with_reducible assumption)) | go_size))
    have hd := det_tab _ M.length 5 (colS M s) w1 (hr.rows (tab_I64 (B := 20) (by decide) (fun i j _ _ => HA.out i j))) f1 f2 (fun i j _ _ => (HA.out i j).mono (u_ge 5 j))
    rw [HD0.out] at hd
    have HD := Lib.hid hd
    clear hr hd
    go_wp2_with fail
    refine HD.out.mono ?_
    rintro e w2 ⟨rfl, hb2⟩
    go_wp2_with fail
    go_ret2
    exact outF_nil (hw1.trans (hb2.mono hw1.size))
  all_goals
    have g1 := fun (w' : World) (h : Below w.heap.size w w') => h1.below h
    have g2 := fun (w' : World) (h : Below w.heap.size w w') => h2.below h
    obtain ⟨a1, c1, rfl, _⟩ := h1
    obtain ⟨a2, c2, rfl, _⟩ := h2
    rw [ptOut_err h (by omega)]
    have HC := Lib.hid (colsOut_err h (by omega))
    clear h
    go_enter Try.func133, Try.ntmps133
    go_wp2_with fail
    refine (implColumnsOf_any _ _ M Q s _ (g1 _ (by (repeat' (first | (with_reducible exact Below.refl _ _) | (with_reducible assumption) | (with_reducible refine Below.alloc ?_ ?_ _) | (with_reducible refine Below.drew ?_) | (with_reducible refine below_drewN ?_ _) | (with_reducible refine Below.setCell ?_ ?_ _) | (with_reducible refine Below.trans ?_ (Below.mono (by with_reducible assumption) ?_)) | (with_reducible exact Below.size (by with_reducible assumption)) | go_size)))) (g2 _ (by (repeat' (first | (with_reducible exact Below.refl _ _) | (with_reducible assumption) | (with_reducible refine Below.alloc ?_ ?_ _) | (with_reducible refine Below.drew ?_) | (with_reducible refine below_drewN ?_ _) | (with_reducible refine Below.setCell ?_ ?_ _) | (with_reducible refine Below.trans ?_ (Below.mono (by with_reducible assumption) ?_)) | (with_reducible exact Below.size (by with_reducible assumption)) | go_size))))).mono ?_; rw [HC.out]; rintro e w1 ho; obtain ⟨a3, c3, rfl, hr, hb1⟩ := ho.out; dsimp only; clear ho hr; obtain ⟨hc_hb1, hf_hb1⟩ := bcell hb1; obtain ⟨hcA_hb1, hfA_hb1⟩ := bcellG (W0 := w) hb1 (by (repeat' (first | (with_reducible exact Below.refl _ _) | (with_reducible assumption) | (with_reducible refine Below.alloc ?_ ?_ _) | (with_reducible refine Below.drew ?_) | (with_reducible refine below_drewN ?_ _) | (with_reducible refine Below.setCell ?_ ?_ _) | (with_reducible refine Below.trans ?_ (Below.mono (by with_reducible assumption) ?_)) | (with_reducible exact Below.size (by with_reducible assumption)) | go_size))); have hz_hb1 := hb1.size; (try simp at hz_hb1); (try simp only [Nat.add_one_le_iff] at hz_hb1); have hz0_hb1 : w.heap.size < w1.heap.size := (by omega)
    go_wp2_with fail
    go_ret2
    exact outF_nil (by (repeat' (first | (with_reducible exact Below.refl _ _) | (with_reducible assumption) | (with_reducible refine Below.alloc ?_ ?_ _) | (with_reducible refine Below.drew ?_) | (with_reducible refine below_drewN ?_ _) | (with_reducible refine Below.setCell ?_ ?_ _) | (with_reducible refine Below.trans ?_ (Below.mono (by with_reducible assumption) ?_)) | (with_reducible exact Below.size (by with_reducible assumption)) | go_size)))

end Go.Proofs.Ytkdgnegnndedaaa.PW
