/-
  The model's point of a set; both sides' answers.
-/
import Derived.Test.YtbikdlpdlcmkjaaPPtI
namespace Go.Proofs.Ytbikdlpdlcmkjaa.PW
open Go.RowKit Go.Proofs.Ytbikdlpdlcmkjaa
open Go.Proofs.Ytbikdlpdlcmkjaa.PM Go.Proofs.Ytbikdlpdlcmkjaa.PX

theorem cell_two_new (w : World) (x y : Value) (t : TypeId) : ∀ j u, [x, y][j]? = some u → (w.alloc (.cells #[x, y] t)).cell? ((⟨w.heap.size, 0, none⟩ : Addr).add j) = some u := by
  intro j u hj
  match j, hj with
  | 0, hj =>
    simp at hj
    subst hj
    simp [Addr.add]
  | 1, hj =>
    simp at hj
    subst hj
    simp [Addr.add]
theorem rowF_length (n : Nat) (F : Nat → Int × Int) : ((List.range n).map F).length = n := by simp
theorem snocF (k : Nat) (F : Nat → Int × Int) : (List.range (k + 1)).map F = (List.range k).map F ++ [((F k).1, (F k).2)] := by
  rw [List.range_succ, List.map_append]
  rfl

set_option maxRecDepth 100000 in
set_option maxHeartbeats 1000000 in
theorem l01Point_zero (m q : Value) (M : List (List Int)) (Q : List Int) (s : Int) (w : World) (h1 : PM.Rows w m M) (h2 : Ints w q Q) (hp : isPB M Q = true) (hD : dt M.length (colS M s) = 0) :
    Calls Try.prog 62 #[.agg #[m, q], .int .i64 s] w fun e w' => e = .returned (.tuple #[.slice none 0 0, .bool false]) ∧ Below w.heap.size w w' := by
  have g1 := fun (w' : World) (h : Below w.heap.size w w') => h1.below h
  have g2 := fun (w' : World) (h : Below w.heap.size w w') => h2.below h
  obtain ⟨a1, c1, rfl, _⟩ := h1
  obtain ⟨a2, c2, rfl, _⟩ := h2
  obtain ⟨f1, f2, f3, f4, f5⟩ := isPB_facts hp
  have H4 := Lib.hid f4
  have HE := Lib.hid (ent_bd hp)
  have HI := Lib.hid (tab_I64 (n := M.length) (g := colS M s) (B := 20) (by decide) (fun i j _ _ => colS_all hp s i j))
  have hsol := fun (v : Value) (w' : World) (h : PM.Rows w' v (tab M.length (colS M s))) (hb : Below w.heap.size w w') => l01Solve_any v _ M.length (colS M s) Q w' h (g2 w' hb) f3 f1 f2 (fun i j => (colS_all hp s i j).mono (by decide)) (isPB_right hp)
  rw [hD] at hsol
  have HS := Lib.hid hsol
  clear hp f3 f4 f5 hD hsol
  go_enter Try.func62, Try.ntmps62
  go_wp2_with fail
  have k1 : ∀ w', Below (w.heap.size + 1) (w.alloc (.cells #[.slice a1 M.length c1, .slice a2 Q.length c2] 28)) w' → w'.cell? ⟨w.heap.size, 0, none⟩ = some (.slice a1 M.length c1) := fun w' h => by rw [h.cell (by simp)]; simp
  have k2 : ∀ w', Below (w.heap.size + 1) (w.alloc (.cells #[.slice a1 M.length c1, .slice a2 Q.length c2] 28)) w' → w'.cell? ⟨w.heap.size, 1, none⟩ = some (.slice a2 Q.length c2) := fun w' h => by rw [h.cell (by simp)]; simp
  have k3 : ∀ w', Below (w.heap.size + 1) (w.alloc (.cells #[.slice a1 M.length c1, .slice a2 Q.length c2] 28)) w' → Below w.heap.size w w' := fun w' h => ((Below.refl w.heap.size w).alloc (Nat.le_refl _) _).trans (h.mono (by omega))
  go_region_held3 (fun w' => Below (w.heap.size + 1) (w.alloc (.cells #[.slice a1 M.length c1, .slice a2 Q.length c2] 28)) w') ((repeat' (first | (with_reducible exact Below.refl _ _) | (with_reducible assumption) | (with_reducible refine Below.alloc ?_ ?_ _) | (with_reducible refine Below.drew ?_) | (with_reducible refine below_drewN ?_ _) | (with_reducible refine Below.setCell ?_ ?_ _) | (with_reducible refine Below.trans ?_ (Below.mono (by with_reducible assumption) ?_)) | (with_reducible exact Below.size (by with_reducible assumption)) | go_size)))
    (first
      | (go_at_call 93; refine (l01Columns_any _ M s _ (g1 _ (k3 _ (by (repeat' (first | (with_reducible exact Below.refl _ _) | (with_reducible assumption) | (with_reducible refine Below.alloc ?_ ?_ _) | (with_reducible refine Below.drew ?_) | (with_reducible refine below_drewN ?_ _) | (with_reducible refine Below.setCell ?_ ?_ _) | (with_reducible refine Below.trans ?_ (Below.mono (by with_reducible assumption) ?_)) | (with_reducible exact Below.size (by with_reducible assumption)) | go_size))))) f1 f2 (fun j hj => (H4.out j hj).1) HE.out).mono ?_; rintro e w3 ⟨g3, cap3, us3, rfl, hf3, hb3⟩; have hR3 := hf3.own.rows' HI.out; clear hf3; have hS3 : Below (w.heap.size + 1) (w.alloc (.cells #[.slice a1 M.length c1, .slice a2 Q.length c2] 28)) w3 := (by (repeat' (first | (with_reducible exact Below.refl _ _) | (with_reducible assumption) | (with_reducible refine Below.alloc ?_ ?_ _) | (with_reducible refine Below.drew ?_) | (with_reducible refine below_drewN ?_ _) | (with_reducible refine Below.setCell ?_ ?_ _) | (with_reducible refine Below.trans ?_ (Below.mono (by with_reducible assumption) ?_)) | (with_reducible exact Below.size (by with_reducible assumption)) | go_size))); have hz3 : w.heap.size + 1 ≤ w3.heap.size := (by have := hS3.size; simp at this; omega))
      | (go_at_call 92; refine (HS.out _ _ (hR3.below (by (repeat' (first | (with_reducible exact Below.refl _ _) | (with_reducible assumption) | (with_reducible refine Below.alloc ?_ ?_ _) | (with_reducible refine Below.drew ?_) | (with_reducible refine below_drewN ?_ _) | (with_reducible refine Below.setCell ?_ ?_ _) | (with_reducible refine Below.trans ?_ (Below.mono (by with_reducible assumption) ?_)) | (with_reducible exact Below.size (by with_reducible assumption)) | go_size)))) (k3 _ (by (repeat' (first | (with_reducible exact Below.refl _ _) | (with_reducible assumption) | (with_reducible refine Below.alloc ?_ ?_ _) | (with_reducible refine Below.drew ?_) | (with_reducible refine below_drewN ?_ _) | (with_reducible refine Below.setCell ?_ ?_ _) | (with_reducible refine Below.trans ?_ (Below.mono (by with_reducible assumption) ?_)) | (with_reducible exact Below.size (by with_reducible assumption)) | go_size))))).mono ?_; rintro e w4 ⟨g4, c4, rfl, _, hb4⟩; have hS4 : Below (w.heap.size + 1) (w.alloc (.cells #[.slice a1 M.length c1, .slice a2 Q.length c2] 28)) w4 := (by (repeat' (first | (with_reducible exact Below.refl _ _) | (with_reducible assumption) | (with_reducible refine Below.alloc ?_ ?_ _) | (with_reducible refine Below.drew ?_) | (with_reducible refine below_drewN ?_ _) | (with_reducible refine Below.setCell ?_ ?_ _) | (with_reducible refine Below.trans ?_ (Below.mono (by with_reducible assumption) ?_)) | (with_reducible exact Below.size (by with_reducible assumption)) | go_size)))))
  go_wp2_with fail
  go_ret2
  exact ⟨rfl, k3 _ (by (repeat' (first | (with_reducible exact Below.refl _ _) | (with_reducible assumption) | (with_reducible refine Below.alloc ?_ ?_ _) | (with_reducible refine Below.drew ?_) | (with_reducible refine below_drewN ?_ _) | (with_reducible refine Below.setCell ?_ ?_ _) | (with_reducible refine Below.trans ?_ (Below.mono (by with_reducible assumption) ?_)) | (with_reducible exact Below.size (by with_reducible assumption)) | go_size)))⟩
set_option maxRecDepth 100000 in
set_option maxHeartbeats 2000000 in
theorem l01Point_ok (m q : Value) (M : List (List Int)) (Q : List Int) (s : Int) (w : World) (h1 : PM.Rows w m M) (h2 : Ints w q Q) (hp : isPB M Q = true) (hD : dt M.length (colS M s) ≠ 0) :
    Calls Try.prog 62 #[.agg #[m, q], .int .i64 s] w fun e w' => ∃ g c, e = .returned (.tuple #[.slice (some ⟨g, 0, none⟩) M.length c, .bool true]) ∧ FreshF w.heap.size w' (.slice (some ⟨g, 0, none⟩) M.length c) (ptL M Q s) ∧ Below w.heap.size w w' := by
  have g1 := fun (w' : World) (h : Below w.heap.size w w') => h1.below h
  have g2 := fun (w' : World) (h : Below w.heap.size w w') => h2.below h
  obtain ⟨a1, c1, rfl, _⟩ := h1
  obtain ⟨a2, c2, rfl, _⟩ := h2
  obtain ⟨f1, f2, f3, f4, f5⟩ := isPB_facts hp
  have H4 := Lib.hid f4
  have HE := Lib.hid (ent_bd hp)
  have HI := Lib.hid (tab_I64 (n := M.length) (g := colS M s) (B := 20) (by decide) (fun i j _ _ => colS_all hp s i j))
  have hsol := fun (v : Value) (w' : World) (h : PM.Rows w' v (tab M.length (colS M s))) (hb : Below w.heap.size w w') => l01Solve_any v _ M.length (colS M s) Q w' h (g2 w' hb) f3 f1 f2 (fun i j => (colS_all hp s i j).mono (by decide)) (isPB_right hp)
  obtain ⟨G, hG⟩ : ∃ G : Nat → Int, G = fun j => dt M.length (setCol (colS M s) j Q) := ⟨_, rfl⟩
  have hgb := fun j => dt_hadR f1 f2 (fun a b _ _ => setCol_u hp s j a b)
  have hgb' : ∀ j, Bd 1000000000 (G j) := fun j => by rw [hG]; exact hgb j
  have hdb := dt_hadR f1 f2 (fun i j _ _ => (colS_all hp s i j).mono (u_ge 5 j))
  have hpl : ptL M Q s = (List.range M.length).map fun j => (FM.redN (G j) (dt M.length (colS M s)), FM.redD (G j) (dt M.length (colS M s))) := by
    rw [hG]
    rfl
  have hfr := fun (j : Nat) (w' : World) => FW.l01Frac_any (G j) (dt M.length (colS M s)) w' (by have := hgb' j; unfold Bd at this; omega) (by have := hgb' j; unfold Bd at this; omega) (by unfold Bd at hdb; omega) (by unfold Bd at hdb; omega) hD
  have hDn : (dt M.length (colS M s) == 0) = false := by rw [beq_eq_false_iff_ne]; exact hD
  rw [← hG] at hsol
  rw [hpl]
  generalize dt M.length (colS M s) = D at *
  obtain ⟨F, hF⟩ : ∃ F : Nat → Int × Int, F = fun j => (FM.redN (G j) D, FM.redD (G j) D) := ⟨_, rfl⟩
  have hF0 : ∀ j, (F j).1 = FM.redN (G j) D := fun j => by rw [hF]
  have hF1 : ∀ j, (F j).2 = FM.redD (G j) D := fun j => by rw [hF]
  rw [← hF]
  have HS := Lib.hid hsol
  have HFR := Lib.hid hfr
  have HF0 := Lib.hid hF0
  have HF1 := Lib.hid hF1
  obtain ⟨j0, hj, hyy0, hyy1, hyy2⟩ := info_parts info_frac
  clear hp f3 f4 f5 hD hsol hG hgb hgb' hdb hpl hfr hF hF0 hF1
  go_enter Try.func62, Try.ntmps62
  go_wp2_with fail
  have k1 : ∀ w', Below (w.heap.size + 1) (w.alloc (.cells #[.slice a1 M.length c1, .slice a2 Q.length c2] 28)) w' → w'.cell? ⟨w.heap.size, 0, none⟩ = some (.slice a1 M.length c1) := fun w' h => by rw [h.cell (by simp)]; simp
  have k2 : ∀ w', Below (w.heap.size + 1) (w.alloc (.cells #[.slice a1 M.length c1, .slice a2 Q.length c2] 28)) w' → w'.cell? ⟨w.heap.size, 1, none⟩ = some (.slice a2 Q.length c2) := fun w' h => by rw [h.cell (by simp)]; simp
  have k3 : ∀ w', Below (w.heap.size + 1) (w.alloc (.cells #[.slice a1 M.length c1, .slice a2 Q.length c2] 28)) w' → Below w.heap.size w w' := fun w' h => ((Below.refl w.heap.size w).alloc (Nat.le_refl _) _).trans (h.mono (by omega))
  go_region_held3 (fun w' => Below (w.heap.size + 1) (w.alloc (.cells #[.slice a1 M.length c1, .slice a2 Q.length c2] 28)) w') ((repeat' (first | (with_reducible exact Below.refl _ _) | (with_reducible assumption) | (with_reducible refine Below.alloc ?_ ?_ _) | (with_reducible refine Below.drew ?_) | (with_reducible refine below_drewN ?_ _) | (with_reducible refine Below.setCell ?_ ?_ _) | (with_reducible refine Below.trans ?_ (Below.mono (by with_reducible assumption) ?_)) | (with_reducible exact Below.size (by with_reducible assumption)) | go_size)))
    (first
      | (go_at_call 93; refine (l01Columns_any _ M s _ (g1 _ (k3 _ (by (repeat' (first | (with_reducible exact Below.refl _ _) | (with_reducible assumption) | (with_reducible refine Below.alloc ?_ ?_ _) | (with_reducible refine Below.drew ?_) | (with_reducible refine below_drewN ?_ _) | (with_reducible refine Below.setCell ?_ ?_ _) | (with_reducible refine Below.trans ?_ (Below.mono (by with_reducible assumption) ?_)) | (with_reducible exact Below.size (by with_reducible assumption)) | go_size))))) f1 f2 (fun j hj => (H4.out j hj).1) HE.out).mono ?_; rintro e w3 ⟨g3, cap3, us3, rfl, hf3, hb3⟩; have hR3 := hf3.own.rows' HI.out; clear hf3; have hS3 : Below (w.heap.size + 1) (w.alloc (.cells #[.slice a1 M.length c1, .slice a2 Q.length c2] 28)) w3 := (by (repeat' (first | (with_reducible exact Below.refl _ _) | (with_reducible assumption) | (with_reducible refine Below.alloc ?_ ?_ _) | (with_reducible refine Below.drew ?_) | (with_reducible refine below_drewN ?_ _) | (with_reducible refine Below.setCell ?_ ?_ _) | (with_reducible refine Below.trans ?_ (Below.mono (by with_reducible assumption) ?_)) | (with_reducible exact Below.size (by with_reducible assumption)) | go_size))); have hz3 : w.heap.size + 1 ≤ w3.heap.size := (by have := hS3.size; simp at this; omega))
      | (go_at_call 92; refine (HS.out _ _ (hR3.below (by (repeat' (first | (with_reducible exact Below.refl _ _) | (with_reducible assumption) | (with_reducible refine Below.alloc ?_ ?_ _) | (with_reducible refine Below.drew ?_) | (with_reducible refine below_drewN ?_ _) | (with_reducible refine Below.setCell ?_ ?_ _) | (with_reducible refine Below.trans ?_ (Below.mono (by with_reducible assumption) ?_)) | (with_reducible exact Below.size (by with_reducible assumption)) | go_size)))) (k3 _ (by (repeat' (first | (with_reducible exact Below.refl _ _) | (with_reducible assumption) | (with_reducible refine Below.alloc ?_ ?_ _) | (with_reducible refine Below.drew ?_) | (with_reducible refine below_drewN ?_ _) | (with_reducible refine Below.setCell ?_ ?_ _) | (with_reducible refine Below.trans ?_ (Below.mono (by with_reducible assumption) ?_)) | (with_reducible exact Below.size (by with_reducible assumption)) | go_size))))).mono ?_; rintro e w4 ⟨g4, c4, rfl, hf4, hb4⟩; have hz4 := hb4.size; have HL4 := Lib.hid hf4; clear hf4; have hS4 : Below (w.heap.size + 1) (w.alloc (.cells #[.slice a1 M.length c1, .slice a2 Q.length c2] 28)) w4 := (by (repeat' (first | (with_reducible exact Below.refl _ _) | (with_reducible assumption) | (with_reducible refine Below.alloc ?_ ?_ _) | (with_reducible refine Below.drew ?_) | (with_reducible refine below_drewN ?_ _) | (with_reducible refine Below.setCell ?_ ?_ _) | (with_reducible refine Below.trans ?_ (Below.mono (by with_reducible assumption) ?_)) | (with_reducible exact Below.size (by with_reducible assumption)) | go_size)))))
  have hw4 : Below w.heap.size w w4 := k3 _ hS4
  obtain ⟨_, _, hvv, _, hz5, hoo⟩ := id HL4.out
  have hg4 : g4 < w4.heap.size := by simp at hvv; omega
  have hce : ∀ j, j < M.length → w4.cell? ⟨g4, j, none⟩ = some (.int .i64 (G j)) := fun j hj => by
    rw [own_cellN hoo (row_length _ _).symm hj]
    simp [hj]
  have HCE := Lib.hid hce
  have HW4 := Lib.hid hw4
  clear k1 k2 k3 hb3 hR3 hS3 hz3 hb4 hz4 HL4 hS4 hvv hz5 hoo hce hw4 HS HI HE H4
  go_wp2_with fail
  go_loopw [8, 9] (fun v i wr => ∃ k : Nat, k ≤ M.length ∧ i = .int .i64 k ∧ FreshF w4.heap.size wr v ((List.range k).map F) ∧ Below w4.heap.size w4 wr) (fun _ i _ => M.length - (intOf i).toNat)
  case atStart => exact ⟨0, Nat.zero_le _, rfl, freshF_nil w4, (Below.refl _ _).alloc (Nat.le_refl _) _⟩
  case round =>
    obtain ⟨k, hk, rfl, hO, hB⟩ := hrel
    by_cases hlt : k < M.length
    · have t1 := (hB.cell (p := ⟨g4, k, none⟩) hg4).trans (HCE.out k hlt)
      have HFK := Lib.hid (HFR.out k)
      have HO := Lib.hid hO
      have HB := Lib.hid hB
      clear hO hB
      go_wp2_with fail
      refine (HFK.out _).mono ?_
      rintro e w5 ⟨rfl, hb5⟩
      rw [← HF0.out k, ← HF1.out k]
      have HX := Lib.hid (snocF k F)
      have HO5 := Lib.hid (HO.out.below hb5)
      have HB5 := Lib.hid (HB.out.trans (hb5.mono HB.out.size))
      have how := HO5.out.own
      unfold OwnF at how
      rw [rowF_length] at how
      have HOW := Lib.hid how
      clear how hb5 HO HB HFK
      generalize (F k).1 = x at *
      generalize (F k).2 = y at *
      go_wp2_with (at_builtin; refine wpList_append_lies _ rfl _ _ 39 rfl 0 69 j0 (.agg #[.int .i64 0, .int .i64 0]) 2 16 Try.underlying39 hj hyy0 hyy1 hyy2 rfl (by decide) u8 k _ rfl ((HOW.out).alloc _) _ 1 _ [.int .i64 x, .int .i64 y] rfl rfl (cell_two_new _ _ _ _) (by simp [Value.oneCell']) (by decide) (by unfold maxLen; omega) (by omega) (Nat.zero_le _) _ rfl ?_; intro g cap w6 hown hgrow hat hgl)
      have hpu := HO5.out.push HB5.out.size (rowF_length k F).symm hown hat hgl
      have hgr := HO5.out.grow HB5.out HB5.out.size hgrow
      rw [← HX.out] at hpu
      have HPU := Lib.hid hpu
      have HGR := Lib.hid hgr
      clear hpu hgr hown hgrow hat hgl
      go_wp2_with fail
      go_roundw
      case rel => exact ⟨k + 1, by omega, by go_num, HPU.out, HGR.out⟩
      case measure => simp [intOf]; omega
    · obtain rfl : k = M.length := by omega
      obtain ⟨g, c, rfl, _, _⟩ := hO.shape (rowF_length _ _)
      have HO := Lib.hid hO
      have HB := Lib.hid hB
      clear hO hB
      go_wp2_with fail
      go_ret2
      exact ⟨_, _, rfl, HO.out.mono HW4.out.size, HW4.out.trans (HB.out.mono HW4.out.size)⟩
end Go.Proofs.Ytbikdlpdlcmkjaa.PW
