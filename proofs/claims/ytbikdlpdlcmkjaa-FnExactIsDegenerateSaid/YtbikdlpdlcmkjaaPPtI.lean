/-
  The program's point of a set.
-/
import Derived.Test.YtbikdlpdlcmkjaaPFrW
namespace Go.Proofs.Ytbikdlpdlcmkjaa.PW
open Go.RowKit Go.Proofs.Ytbikdlpdlcmkjaa
open Go.Proofs.Ytbikdlpdlcmkjaa.PM Go.Proofs.Ytbikdlpdlcmkjaa.PX

def ptF (M : List (List Int)) (Q : List Int) (s : Int) (j : Nat) : Int × Int := (FM.redN (dt M.length (setCol (colS M s) j Q)) (dt M.length (colS M s)), FM.redD (dt M.length (setCol (colS M s) j Q)) (dt M.length (colS M s)))
def ptL (M : List (List Int)) (Q : List Int) (s : Int) : List (Int × Int) := (List.range M.length).map (ptF M Q s)
def ptOut (M : List (List Int)) (Q : List Int) (s : Int) : List (Int × Int) × Int :=
  if setCode M Q s = 0 then (if dt M.length (colS M s) = 0 then ([], 5) else (ptL M Q s, 0)) else ([], setCode M Q s)
theorem ptOut_err {M : List (List Int)} {Q : List Int} {s c : Int} (h : setCode M Q s = c) (hc : c ≠ 0) : ptOut M Q s = ([], c) := by unfold ptOut; rw [if_neg (by omega), h]
theorem ptOut_zero {M : List (List Int)} {Q : List Int} {s : Int} (h : setCode M Q s = 0) (hd : dt M.length (colS M s) = 0) : ptOut M Q s = ([], 5) := by unfold ptOut; rw [if_pos h, if_pos hd]
theorem ptOut_ok {M : List (List Int)} {Q : List Int} {s : Int} (h : setCode M Q s = 0) (hd : dt M.length (colS M s) ≠ 0) : ptOut M Q s = (ptL M Q s, 0) := by unfold ptOut; rw [if_pos h, if_neg hd]
theorem isPB_right {M : List (List Int)} {Q : List Int} (hp : isPB M Q = true) (j : Nat) : Bd 100 (Q.getD j 0) := by
  obtain ⟨_, _, _, _, f5⟩ := isPB_facts hp
  by_cases hj : j < Q.length
  · exact f5 j hj
  · rw [List.getD_eq_getElem?_getD, List.getElem?_eq_none (by omega)]
    unfold Bd
    simp
theorem setCol_u {M : List (List Int)} {Q : List Int} (hp : isPB M Q = true) (s : Int) (k i j : Nat) : Bd (20 * u k j) (setCol (colS M s) k Q i j) := by
  unfold setCol u
  split
  · exact isPB_right hp i
  · exact colS_all hp s i j

theorem freshI_own {B : Nat} {w : World} {v : Value} {xs : List Int} (h : FreshI B w v xs) : OwnI w v xs := h.owns
def fillI (n k : Nat) (F : Nat → Int) : List Int := (List.range n).map fun j => if j < k then F j else 0
theorem fillI_zero (n : Nat) (F : Nat → Int) : fillI n 0 F = List.replicate n 0 := by
  unfold fillI
  apply List.ext_getElem (by simp)
  intro i h1 h2
  simp
theorem fillI_all (n : Nat) (F : Nat → Int) : fillI n n F = (List.range n).map F := by
  unfold fillI
  refine List.map_congr_left (fun j hj => ?_)
  rw [if_pos (by simpa using hj)]
theorem fillI_set (n k : Nat) (F : Nat → Int) : (fillI n k F).set k (F k) = fillI n (k + 1) F := by
  unfold fillI
  rw [row_set]
  refine List.map_congr_left (fun j _ => ?_)
  by_cases e : j = k
  · subst e; rw [if_pos rfl, if_pos (by omega)]
  · rw [if_neg e]
    by_cases e2 : j < k
    · rw [if_pos e2, if_pos (by omega)]
    · rw [if_neg e2, if_neg (by omega)]

set_option maxRecDepth 100000 in
set_option maxHeartbeats 2000000 in
theorem implPointOf_ok (m q : Value) (M : List (List Int)) (Q : List Int) (s : Int) (w : World) (h1 : PM.Rows w m M) (h2 : Ints w q Q) (h : setCode M Q s = 0) (hp : isPB M Q = true) (hD : dt M.length (colS M s) ≠ 0) :
    Calls Try.prog 26 #[.agg #[m, q], .int .i64 s] w (OutF w (ptL M Q s, 0)) := by
  have g1 := fun (w' : World) (h : Below w.heap.size w w') => h1.below h
  have g2 := fun (w' : World) (h : Below w.heap.size w w') => h2.below h
  obtain ⟨a1, c1, rfl, _⟩ := h1
  obtain ⟨a2, c2, rfl, _⟩ := h2
  obtain ⟨f1, f2, f3, f4, f5⟩ := isPB_facts hp
  have HC := Lib.hid (colsOut_ok h)
  have HL := Lib.hid (tab_length M.length (colS M s))
  have HQ := Lib.hid f3
  have HA := Lib.hid (colS_all hp s)
  have HU := Lib.hid (fun k i j => setCol_u hp s k i j)
  have HDB := Lib.hid (dt_hadR f1 f2 (fun i j _ _ => (colS_all hp s i j).mono (u_ge 5 j)))
  have HGB := Lib.hid (fun j => dt_hadR f1 f2 (fun a b _ _ => setCol_u hp s j a b))
  have hmk := run_make_row' (P := Try.prog) 23 2 (.int .i64 0) 8 Try.underlying23 info_int rfl .i64 .i64 M.length (by omega) (by omega)
  obtain ⟨n, hn⟩ : ∃ n, n = M.length := ⟨_, rfl⟩
  obtain ⟨G, hG⟩ : ∃ G : Nat → Int, G = fun j => dt M.length (setCol (colS M s) j Q) := ⟨_, rfl⟩
  have HG := Lib.hid (fun j => congrFun hG j)
  have HND := Lib.hid hD
  have hDn : (dt M.length (colS M s) == 0) = false := by rw [beq_eq_false_iff_ne]; exact hD
  have HPL : Hid (ptL M Q s = (List.range M.length).map fun j => (FM.redN (G j) (dt M.length (colS M s)), FM.redD (G j) (dt M.length (colS M s)))) := by
    show ptL M Q s = _
    rw [hG]
    rfl
  clear h hp f3 f4 f5 hG hD hn
  go_enter Try.func26, Try.ntmps26
  go_wp2_with fail
  refine (implColumnsOf_any _ _ M Q s _ (g1 _ (by (repeat' (first | (with_reducible exact Below.refl _ _) | (with_reducible assumption) | (with_reducible refine Below.alloc ?_ ?_ _) | (with_reducible refine Below.drew ?_) | (with_reducible refine below_drewN ?_ _) | (with_reducible refine Below.setCell ?_ ?_ _) | (with_reducible refine Below.trans ?_ (Below.mono (by with_reducible assumption) ?_)) | (with_reducible exact Below.size (by with_reducible assumption)) | go_size)))) (g2 _ (by (repeat' (first | (with_reducible exact Below.refl _ _) | (with_reducible assumption) | (with_reducible refine Below.alloc ?_ ?_ _) | (with_reducible refine Below.drew ?_) | (with_reducible refine below_drewN ?_ _) | (with_reducible refine Below.setCell ?_ ?_ _) | (with_reducible refine Below.trans ?_ (Below.mono (by with_reducible assumption) ?_)) | (with_reducible exact Below.size (by with_reducible assumption)) | go_size))))).mono ?_; rw [HC.out]; rintro e w1 ho; obtain ⟨a3, c3, rfl, hr, hb1⟩ := ho.out; dsimp only at hr; dsimp only; rw [HL.out] at hr ⊢; clear ho; obtain ⟨hc_hb1, hf_hb1⟩ := bcell hb1; obtain ⟨hcA_hb1, hfA_hb1⟩ := bcellG (W0 := w) hb1 (by (repeat' (first | (with_reducible exact Below.refl _ _) | (with_reducible assumption) | (with_reducible refine Below.alloc ?_ ?_ _) | (with_reducible refine Below.drew ?_) | (with_reducible refine below_drewN ?_ _) | (with_reducible refine Below.setCell ?_ ?_ _) | (with_reducible refine Below.trans ?_ (Below.mono (by with_reducible assumption) ?_)) | (with_reducible exact Below.size (by with_reducible assumption)) | go_size))); have hz_hb1 := hb1.size; (try simp at hz_hb1); (try simp only [Nat.add_one_le_iff] at hz_hb1); have hz0_hb1 : w.heap.size < w1.heap.size := (by omega)
  have hw1 : Below w.heap.size w w1 := by (repeat' (first | (with_reducible exact Below.refl _ _) | (with_reducible assumption) | (with_reducible refine Below.alloc ?_ ?_ _) | (with_reducible refine Below.drew ?_) | (with_reducible refine below_drewN ?_ _) | (with_reducible refine Below.setCell ?_ ?_ _) | (with_reducible refine Below.trans ?_ (Below.mono (by with_reducible assumption) ?_)) | (with_reducible exact Below.size (by with_reducible assumption)) | go_size))
  have x1 : w1.cell? ⟨w.heap.size, 1, none⟩ = some (.slice a2 Q.length c2) := by rw [hc_hb1 _ _ (by simp)]; simp
  have xz : w.heap.size < w1.heap.size := by omega
  have hrows := hr.rows (tab_I64 (B := 20) (by decide) (fun i j _ _ => HA.out i j))
  have hd := det_tab _ M.length 5 (colS M s) w1 hrows f1 f2 (fun i j _ _ => (HA.out i j).mono (u_ge 5 j))
  have HR := Lib.hid hrows
  have HD := Lib.hid hd
  clear hr hd hrows
  generalize dt M.length (colS M s) = D at *
  go_wp2_with fail
  refine HD.out.mono ?_
  rintro e w2 ⟨rfl, hb2⟩
  have hw2 : Below w.heap.size w w2 := hw1.trans (hb2.mono hw1.size)
  have HR2 := Lib.hid (HR.out.below hb2)
  have x2 : w2.cell? ⟨w.heap.size, 1, none⟩ = some (.slice a2 Q.length c2) := (hb2.cell (p := ⟨w.heap.size, 1, none⟩) xz).trans x1
  have xz2 : w.heap.size < w2.heap.size := by have := hb2.size; omega
  have HZ := Lib.hid (zeros_fresh w2 M.length (by unfold maxLen; omega))
  clear hb2 HR HD x1 xz
  go_wp2_with fail
  go_loopw [10, 29] (fun _ i wr => ∃ k : Nat, k ≤ M.length ∧ i = .int .i64 k ∧ FreshI w2.heap.size wr (.slice (some ⟨w2.heap.size, 0, none⟩) M.length M.length) (fillI M.length k G) ∧ Below w2.heap.size w2 wr) (fun _ i _ => M.length - (intOf i).toNat)
  case atStart => exact ⟨0, Nat.zero_le _, rfl, by rw [fillI_zero]; exact HZ.out, (Below.refl _ _).alloc (Nat.le_refl _) _⟩
  case round =>
    obtain ⟨k, hk, rfl, hO, hB⟩ := hrel
    by_cases hlt : k < M.length
    · have x3 : wr.cell? ⟨w.heap.size, 1, none⟩ = some (.slice a2 Q.length c2) := (hB.cell (p := ⟨w.heap.size, 1, none⟩) xz2).trans x2
      have hzz := hB.size
      have hwc := withColumn_any _ _ M.length k (colS M s) Q wr (HR2.out.below hB) (g2 wr (hw2.trans (hB.mono hw2.size))) HQ.out hlt f2
      have HWC := Lib.hid hwc
      have HO := Lib.hid hO
      have HB := Lib.hid hB
      clear hwc hO hB
      go_wp2_with fail
      refine HWC.out.mono ?_
      rintro e w3 ⟨us, rfl, hf3, hb3⟩
      have hd := det_tab _ M.length k (setCol (colS M s) k Q) w3 (hf3.own.rows' (fun i hi => tab_I64 (B := 100) (by decide) (fun a b _ _ => (HU.out k a b).mono (by unfold u; split <;> omega)) i hi)) f1 f2 (fun i j _ _ => HU.out k i j)
      rw [← HG.out k] at hd
      have HD := Lib.hid hd
      clear hd hf3 x3
      go_wp2_with fail
      refine HD.out.mono ?_
      rintro e w4 ⟨rfl, hb4⟩
      have hb24 := HB.out.trans ((hb3.trans (hb4.mono hb3.size)).mono HB.out.size)
      have hO4 := HO.out.below (hb3.trans (hb4.mono hb3.size))
      obtain ⟨_, _, hvv, _, hz4, hoo⟩ := id hO4
      have hgz : w2.heap.size < w4.heap.size := by simp at hvv; omega
      clear hvv hz4
      have hl : M.length = (fillI M.length k G).length := by simp [fillI]
      have c6 := own_cellN hoo hl hlt
      have c7 := own_frozenN hoo hl k
      have hst := hO4.set k (G k)
      rw [fillI_set] at hst
      have HST := Lib.hid hst
      have HBS := Lib.hid (hb24.setCell (p := ⟨w2.heap.size, k, none⟩) (Nat.le_refl _) (.int .i64 (G k)))
      clear hst hl hoo hO4 hb24 hb3 hb4 HD HWC HO HB
      generalize G k = x at *
      generalize (fillI M.length k G).getD k 0 = y at *
      go_wp2_with fail
      go_roundw
      case rel => exact ⟨k + 1, by omega, by go_num, HST.out, HBS.out⟩
      case measure => simp [intOf]; omega
    · obtain rfl : k = M.length := by omega
      rw [fillI_all] at hO
      have hlf := limitedFracs_any (.slice (some ⟨w2.heap.size, 0, none⟩) M.length M.length) M.length G D wr ((freshI_own hO).ints (fun x hx => by
        obtain ⟨j, _, rfl⟩ := List.mem_map.1 hx
        have := HGB.out j
        rw [← HG.out j] at this
        unfold Bd at this
        unfold I64
        omega)) f1 f2 HND.out (fun j _ => by rw [HG.out j]; exact HGB.out j) HDB.out
      have HLF := Lib.hid hlf
      have HB := Lib.hid (hw2.trans (hB.mono hw2.size))
      clear hO hB hlf
      go_wp2_with fail
      refine HLF.out.mono ?_
      rintro e w5 ⟨g, c, rfl, hf, hb5⟩
      rw [← HPL.out] at hf
      have HF := Lib.hid hf
      clear hf
      go_wp2_with fail
      go_ret2
      exact ⟨_, rfl, (HF.out.mono HB.out.size).rng, HB.out.trans (hb5.mono HB.out.size)⟩
end Go.Proofs.Ytbikdlpdlcmkjaa.PW
