/-
  Walks: fractions compared; the least one of a list and its place; the numbers of a point that are less than 0.
-/
import Derived.Test.YtopokicejgjcoaaDoorUMath
import Derived.Test.YtopokicejgjcoaaDoorUTab
import Derived.BigQuiet
namespace Go.Proofs.YtopokicejgjcoaaDoor.PW
open Go.RowKit Go.Proofs.YtopokicejgjcoaaDoor
open Go.Proofs.YtopokicejgjcoaaDoor.PM Go.Proofs.YtopokicejgjcoaaDoor.PX
attribute [local go_sem high] FW.eql_frac FW.eqGuard_frac

theorem ucmpI_lt {x y : Int} (h : x < y) : FM.cmpI x y = -1 := by unfold FM.cmpI; rw [if_pos h]
theorem ucmpI_gt {x y : Int} (h : y < x) : FM.cmpI x y = 1 := by unfold FM.cmpI; rw [if_neg (by omega), if_pos h]
theorem ucmpI_eq (x : Int) : FM.cmpI x x = 0 := by unfold FM.cmpI; rw [if_neg (by omega), if_neg (by omega)]
theorem ucmp_any (x y : Int) (w : World) :
    Calls Tryd.prog 152 #[.int .i64 x, .int .i64 y] w fun e w' => e = .returned (.int .i64 (FM.cmpI x y)) ∧ w = w' := by
  rcases Int.lt_trichotomy x y with h | h | h
  · rw [ucmpI_lt h]
    go_enter Tryd.func152, Tryd.ntmps152
    go_wp2_with (refine (isNaN_any _ _).mono ?_; rintro e w' ⟨rfl, rfl⟩)
    go_ret
    exact ⟨rfl, rfl⟩
  · subst h
    rw [ucmpI_eq]
    go_enter Tryd.func152, Tryd.ntmps152
    go_wp2_with (refine (isNaN_any _ _).mono ?_; rintro e w' ⟨rfl, rfl⟩)
    go_ret
    exact ⟨rfl, rfl⟩
  · rw [ucmpI_gt h]
    have h' : ¬ x < y := by omega
    go_enter Tryd.func152, Tryd.ntmps152
    go_wp2_with (refine (isNaN_any _ _).mono ?_; rintro e w' ⟨rfl, rfl⟩)
    go_ret
    exact ⟨rfl, rfl⟩
theorem uprod_bd {a b : Int} (h1 : -1000000000 ≤ a) (h2 : a ≤ 1000000000) (h3 : -1000000000 ≤ b) (h4 : b ≤ 1000000000) : -1000000000000000000 ≤ a * b ∧ a * b ≤ 1000000000000000000 := FM.mul_bd h1 h2 h3 h4
theorem ucompare_any (an ad bn bd : Int) (w : World) (ha : FM.isF an ad = true) (hb : FM.isF bn bd = true) :
    Calls Tryd.prog 148 #[.agg #[.int .i64 an, .int .i64 ad], .agg #[.int .i64 bn, .int .i64 bd]] w fun e w' => e = .returned (.tuple #[.int .i64 (FM.cmpI (an * bd) (bn * ad)), .int .i64 0]) ∧ Below w.heap.size w w' := by
  obtain ⟨a1, a2, a3, a4, _⟩ := FM.isF_yes ha
  obtain ⟨b1, b2, b3, b4, _⟩ := FM.isF_yes hb
  have p1 := uprod_bd a1 a2 (b := bd) (by omega) b4
  have p2 := uprod_bd b1 b2 (b := ad) (by omega) a4
  have hc : -1 ≤ FM.cmpI (an * bd) (bn * ad) ∧ FM.cmpI (an * bd) (bn * ad) ≤ 1 := by unfold FM.cmpI; split <;> (try split) <;> omega
  have HA := Lib.hid ha
  have HB := Lib.hid hb
  clear ha hb
  go_enter Tryd.func148, Tryd.ntmps148
  go_wp2_with fail
  refine (FW.implIsFrac_is _ _ _ _ HA.out).mono ?_; rintro e w1 ⟨rfl, hb1⟩; obtain ⟨hc_hb1, hf_hb1⟩ := bcell hb1; obtain ⟨hcA_hb1, hfA_hb1⟩ := bcellG (W0 := w) hb1 (by (repeat' (first | (with_reducible exact Below.refl _ _) | (with_reducible assumption) | (with_reducible refine Below.alloc ?_ ?_ _) | (with_reducible refine Below.drew ?_) | (with_reducible refine below_drewN ?_ _) | (with_reducible refine Below.setCell ?_ ?_ _) | (with_reducible refine Below.trans ?_ (Below.mono (by with_reducible assumption) ?_)) | (with_reducible exact Below.size (by with_reducible assumption)) | go_size))); have hz_hb1 := hb1.size; (try simp at hz_hb1); (try simp only [Nat.add_one_le_iff] at hz_hb1); have hz0_hb1 : w.heap.size < w1.heap.size := (by omega); have hz1_hb1 : w.heap.size + 1 < w1.heap.size := (by omega)
  go_wp2_with fail
  refine (FW.implIsFrac_is _ _ _ _ HB.out).mono ?_; rintro e w2 ⟨rfl, hb2⟩; obtain ⟨hc_hb2, hf_hb2⟩ := bcell hb2; obtain ⟨hcA_hb2, hfA_hb2⟩ := bcellG (W0 := w1) hb2 (by (repeat' (first | (with_reducible exact Below.refl _ _) | (with_reducible assumption) | (with_reducible refine Below.alloc ?_ ?_ _) | (with_reducible refine Below.drew ?_) | (with_reducible refine below_drewN ?_ _) | (with_reducible refine Below.setCell ?_ ?_ _) | (with_reducible refine Below.trans ?_ (Below.mono (by with_reducible assumption) ?_)) | (with_reducible exact Below.size (by with_reducible assumption)) | go_size))); have hz_hb2 := hb2.size; (try simp at hz_hb2); (try simp only [Nat.add_one_le_iff] at hz_hb2); have hz0_hb2 : w.heap.size < w2.heap.size := (by omega); have hz1_hb2 : w.heap.size + 1 < w2.heap.size := (by omega)
  go_wp2_with fail
  refine (ucmp_any _ _ _).mono ?_; rintro e w3 ⟨rfl, rfl⟩
  go_wp2_with fail
  go_ret2
  refine ⟨rfl, ?_⟩
  (repeat' (first | (with_reducible exact Below.refl _ _) | (with_reducible assumption) | (with_reducible refine Below.alloc ?_ ?_ _) | (with_reducible refine Below.drew ?_) | (with_reducible refine below_drewN ?_ _) | (with_reducible refine Below.setCell ?_ ?_ _) | (with_reducible refine Below.trans ?_ (Below.mono (by with_reducible assumption) ?_)) | (with_reducible exact Below.size (by with_reducible assumption)) | go_size))
theorem uorder_any (an ad bn bd : Int) (w : World) (ha : FM.isF an ad = true) (hb : FM.isF bn bd = true) :
    Calls Tryd.prog 139 #[.agg #[.int .i64 an, .int .i64 ad], .agg #[.int .i64 bn, .int .i64 bd]] w fun e w' => e = .returned (.int .i64 (FM.cmpI (an * bd) (bn * ad))) ∧ Below w.heap.size w w' := by
  have HC := Lib.hid (fun w => ucompare_any an ad bn bd w ha hb)
  have hc : -1 ≤ FM.cmpI (an * bd) (bn * ad) ∧ FM.cmpI (an * bd) (bn * ad) ≤ 1 := by unfold FM.cmpI; split <;> (try split) <;> omega
  generalize FM.cmpI (an * bd) (bn * ad) = C at *
  clear ha hb
  go_enter Tryd.func139, Tryd.ntmps139
  go_wp2_with fail
  refine (HC.out _).mono ?_; rintro e w1 ⟨rfl, hb1⟩; obtain ⟨hc_hb1, hf_hb1⟩ := bcell hb1; obtain ⟨hcA_hb1, hfA_hb1⟩ := bcellG (W0 := w) hb1 (by (repeat' (first | (with_reducible exact Below.refl _ _) | (with_reducible assumption) | (with_reducible refine Below.alloc ?_ ?_ _) | (with_reducible refine Below.drew ?_) | (with_reducible refine below_drewN ?_ _) | (with_reducible refine Below.setCell ?_ ?_ _) | (with_reducible refine Below.trans ?_ (Below.mono (by with_reducible assumption) ?_)) | (with_reducible exact Below.size (by with_reducible assumption)) | go_size))); have hz_hb1 := hb1.size; (try simp at hz_hb1); (try simp only [Nat.add_one_le_iff] at hz_hb1); have hz0_hb1 : w.heap.size < w1.heap.size := (by omega); have hz1_hb1 : w.heap.size + 1 < w1.heap.size := (by omega)
  go_wp2_with fail
  go_ret
  refine ⟨rfl, ?_⟩
  (repeat' (first | (with_reducible exact Below.refl _ _) | (with_reducible assumption) | (with_reducible refine Below.alloc ?_ ?_ _) | (with_reducible refine Below.drew ?_) | (with_reducible refine below_drewN ?_ _) | (with_reducible refine Below.setCell ?_ ?_ _) | (with_reducible refine Below.trans ?_ (Below.mono (by with_reducible assumption) ?_)) | (with_reducible exact Below.size (by with_reducible assumption)) | go_size))

/-- The place of a value in a list, if it is there first. -/
theorem indexP_any (g cap n t : Nat) (xs : List (Int × Int)) (a b : Int) (w : World) (hv : OwnF w (.slice (some ⟨g, 0, none⟩) n cap) xs) (hn : n = xs.length) (hg : g < w.heap.size) (hm : n ≤ 5) (ht : t < n) (he : xs.getD t (0, 0) = (a, b)) (hne : ∀ j, j < t → xs.getD j (0, 0) ≠ (a, b)) :
    Calls Tryd.prog 137 #[.slice (some ⟨g, 0, none⟩) n cap, .agg #[.int .i64 a, .int .i64 b]] w fun e w' => e = .returned (.int .i64 t) ∧ Below w.heap.size w w' := by
  have HV := Lib.hid hv
  have HN := Lib.hid hn
  have HE := Lib.hid he
  have HNE := Lib.hid hne
  obtain ⟨W0, hW0⟩ : ∃ W0, W0 = w.alloc (.cells #[.int .i64 a, .int .i64 b] 101) := ⟨_, rfl⟩
  have d0 : W0.cell? ⟨w.heap.size, 0, none⟩ = some (.int .i64 a) := by rw [hW0]; simp
  have d1 : W0.cell? ⟨w.heap.size, 1, none⟩ = some (.int .i64 b) := by rw [hW0]; simp
  have hB0 : Below w.heap.size w W0 := by rw [hW0]; exact (Below.refl _ _).alloc (Nat.le_refl _) _
  have HB0 := Lib.hid hB0
  have hV0 := hv.below hB0 hg
  have HV0 := Lib.hid hV0
  have HD0 := Lib.hid d0
  have HD1 := Lib.hid d1
  have hz0 : w.heap.size < W0.heap.size := by rw [hW0]; simp
  have HW0 := Lib.hid hW0
  clear hv hn he hne hV0 hB0 hW0 d0 d1
  go_enter Tryd.func137, Tryd.ntmps137
  go_wp2
  rw [← HW0.out]
  clear HW0
  go_loopw [5, 8] (fun _ i wr => ∃ k : Nat, k ≤ t ∧ i = .int .i64 k ∧ Below W0.heap.size W0 wr) (fun _ i _ => n - (intOf i).toNat)
  case atStart => exact ⟨0, Nat.zero_le _, rfl, Below.refl _ _⟩
  case round =>
    obtain ⟨k, hk, rfl, hB⟩ := hrel
    have hlt : k < n := by omega
    have ho := HV0.out.below hB (by omega)
    have c0 := ho.cell0 HN.out hlt
    have c1 := ho.cell1 HN.out hlt
    have d0 := (hB.cell (p := ⟨w.heap.size, 0, none⟩) hz0).trans HD0.out
    have d1 := (hB.cell (p := ⟨w.heap.size, 1, none⟩) hz0).trans HD1.out
    have HBD := Lib.hid hB
    clear ho hB
    have hx0 : (0 : Int) ≤ (k : Int) := by omega
    have hx1 : (k : Int) < (n : Int) := by omega
    by_cases e : k = t
    · subst e
      rw [HE.out] at c0 c1
      dsimp only at c0 c1
      clear hx0 HNE
      go_wp2_with fail
      go_quiet (fail)
      go_wp2_with fail
      go_ret
      exact ⟨rfl, HB0.out.trans ((below_drewN HBD.out _).mono HB0.out.size)⟩
    · have hxy := HNE.out k (by omega)
      obtain ⟨x, hx⟩ : ∃ x, x = (xs.getD k (0, 0)).1 := ⟨_, rfl⟩
      obtain ⟨y, hy⟩ : ∃ y, y = (xs.getD k (0, 0)).2 := ⟨_, rfl⟩
      rw [← hx] at c0
      rw [← hy] at c1
      have hxy' : ¬ (x = a ∧ y = b) := fun c => hxy (by rw [← c.1, ← c.2, hx, hy])
      clear hxy hx hy
      by_cases e2 : b = y
      · have e1 : ¬ a = x := fun c => hxy' ⟨c.symm, e2.symm⟩
        subst e2
        have hax : (a == x) = false := beq_eq_false_iff_ne.2 e1
        clear hxy' e1
        go_wp2_with fail
        go_quiet (fail)
        go_wp2_with fail
        go_roundw
        case rel => exact ⟨k + 1, by omega, by go_num, below_drewN HBD.out _⟩
        case measure => simp [intOf]; omega
      · have hab : (a == x && b == y) = false := by simp [e2]
        clear hxy' e2
        go_wp2_with fail
        go_quiet (fail)
        go_wp2_with fail
        go_roundw
        case rel => exact ⟨k + 1, by omega, by go_num, below_drewN HBD.out _⟩
        case measure => simp [intOf]; omega

/-- While the least one is looked for: what the variable and the result's place hold. -/
structure MinR (w wr : World) (a b : Int) : Prop where
  below : Below w.heap.size w wr
  r0 : wr.cell? ⟨w.heap.size, 0, none⟩ = some (.int .i64 0)
  r1 : wr.cell? ⟨w.heap.size, 1, none⟩ = some (.int .i64 0)
  m0 : wr.cell? ⟨w.heap.size + 1, 0, none⟩ = some (.int .i64 a)
  m1 : wr.cell? ⟨w.heap.size + 1, 1, none⟩ = some (.int .i64 b)
  fr : ∀ o, wr.frozen? ⟨w.heap.size, o, none⟩ = false
  fm : ∀ o, wr.frozen? ⟨w.heap.size + 1, o, none⟩ = false
theorem MinR.big {w wr : World} {a b : Int} (h : MinR w wr a b) : w.heap.size + 1 < wr.heap.size := World.block_lt_of_cell? wr _ h.m0
theorem MinR.keep {w wr w' : World} {a b : Int} (h : MinR w wr a b) (hb : Below wr.heap.size wr w') : MinR w w' a b := by
  have hz := h.big
  obtain ⟨hc, hf⟩ := FW.bcell hb
  exact ⟨h.below.trans (hb.mono h.below.size), (hc _ _ (by omega)).trans h.r0, (hc _ _ (by omega)).trans h.r1, (hc _ _ (by omega)).trans h.m0, (hc _ _ (by omega)).trans h.m1, fun o => (hf _ _ (by omega)).trans (h.fr o), fun o => (hf _ _ (by omega)).trans (h.fm o)⟩
theorem MinR.put {w wr : World} {a b : Int} (h : MinR w wr a b) (x y : Int) : MinR w ((wr.setCell ⟨w.heap.size + 1, 0, none⟩ (.int .i64 x)).setCell ⟨w.heap.size + 1, 1, none⟩ (.int .i64 y)) x y := by
  have h0 := h.r0; have h1 := h.r1; have h2 := h.m0; have h3 := h.m1; have h4 := h.fr; have h5 := h.fm
  refine ⟨(h.below.setCell (by simp) _).setCell (by simp) _, ?_, ?_, ?_, ?_, ?_, ?_⟩
  all_goals simp [h0, h1, h2, h3, h4, h5, go_sem]

set_option maxHeartbeats 1000000 in
theorem minFunc_any (g cap n : Nat) (xs : List (Int × Int)) (w : World) (hv : OwnF w (.slice (some ⟨g, 0, none⟩) n cap) xs) (hn : n = xs.length) (hg : g < w.heap.size) (h1 : 1 ≤ n) (hm : n ≤ 5) (hF : ∀ j, j < n → FM.isF (xs.getD j (0, 0)).1 (xs.getD j (0, 0)).2 = true) :
    Calls Tryd.prog 138 #[.slice (some ⟨g, 0, none⟩) n cap, .func (.func 139) #[] #[]] w fun e w' => e = .returned (.agg #[.int .i64 (xs.getD (lsI xs n) (0, 0)).1, .int .i64 (xs.getD (lsI xs n) (0, 0)).2]) ∧ Below w.heap.size w w' := by
  have HV := Lib.hid hv
  have HN := Lib.hid hn
  have HF := Lib.hid hF
  have c0 := hv.cell0 hn (show 0 < n by omega)
  have c1 := hv.cell1 hn (show 0 < n by omega)
  rw [Nat.zero_mul] at c0 c1
  rw [Nat.zero_add] at c1
  have hl1 : lsI xs 1 = 0 := rfl
  obtain ⟨a0, ha0⟩ : ∃ a, a = (xs.getD 0 (0, 0)).1 := ⟨_, rfl⟩
  obtain ⟨b0, hb0⟩ : ∃ b, b = (xs.getD 0 (0, 0)).2 := ⟨_, rfl⟩
  rw [← ha0] at c0
  rw [← hb0] at c1
  have HA0 := Lib.hid ha0
  have HB0 := Lib.hid hb0
  have hn1 : ¬ (n : Int) < 1 := by omega
  have hn0 : (0 : Int) < (n : Int) := by omega
  clear hv hn hF ha0 hb0 hl1
  go_enter Tryd.func138, Tryd.ntmps138
  go_wp2_with fail
  go_loopw [6] (fun i wr => ∃ k : Nat, 1 ≤ k ∧ k ≤ n ∧ i = .int .i64 k ∧ MinR w wr (xs.getD (lsI xs k) (0, 0)).1 (xs.getD (lsI xs k) (0, 0)).2) (fun i _ => n - (intOf i).toNat)
  case atStart =>
    refine ⟨1, by omega, by omega, rfl, ?_⟩
    rw [lsI_one, ← HA0.out, ← HB0.out]
    refine ⟨?_, ?_, ?_, ?_, ?_, ?_, ?_⟩
    · (repeat' (first | (with_reducible exact Below.refl _ _) | (with_reducible assumption) | (with_reducible refine Below.alloc ?_ ?_ _) | (with_reducible refine Below.drew ?_) | (with_reducible refine below_drewN ?_ _) | (with_reducible refine Below.setCell ?_ ?_ _) | (with_reducible refine Below.trans ?_ (Below.mono (by with_reducible assumption) ?_)) | (with_reducible exact Below.size (by with_reducible assumption)) | go_size))
    all_goals simp [go_sem]
  case round =>
    obtain ⟨k, hk1, hk, rfl, hR⟩ := hrel
    have HR := Lib.hid hR
    by_cases hlt : k < n
    · have hb := hR.below
      have ho := HV.out.below hb hg
      have c0 := ho.cell0 HN.out hlt
      have c1 := ho.cell1 HN.out hlt
      have hgl : g < wr.heap.size := Nat.lt_of_lt_of_le hg hb.size
      have hls := lsI_lt xs k (by omega)
      have hx := HF.out k hlt
      have hy := HF.out (lsI xs k) (by omega)
      have hm0 := hR.m0
      have hm1 := hR.m1
      have hbig := hR.big
      have hyes := lsI_yes (xs := xs) (k := k) (by omega)
      have hno := lsI_no (xs := xs) (k := k) (by omega)
      unfold lessF at hyes hno
      obtain ⟨a, ha⟩ : ∃ a, a = (xs.getD (lsI xs k) (0, 0)).1 := ⟨_, rfl⟩
      obtain ⟨b, hb'⟩ : ∃ b, b = (xs.getD (lsI xs k) (0, 0)).2 := ⟨_, rfl⟩
      obtain ⟨x, hx'⟩ : ∃ x, x = (xs.getD k (0, 0)).1 := ⟨_, rfl⟩
      obtain ⟨y, hy'⟩ : ∃ y, y = (xs.getD k (0, 0)).2 := ⟨_, rfl⟩
      have HXY := Lib.hid (And.intro hx' hy')
      have HAB := Lib.hid (And.intro ha hb')
      rw [← hx', ← hy'] at hx
      rw [← ha, ← hb'] at hy
      rw [← hx', ← hy', ← ha, ← hb'] at hyes hno
      rw [← hx'] at c0
      rw [← hy'] at c1
      rw [← ha] at hm0
      rw [← hb'] at hm1
      rw [← ha, ← hb'] at HR
      have HYES := Lib.hid hyes
      have HNO := Lib.hid hno
      have r0 : ∀ w', Below wr.heap.size wr w' → w'.cell? ⟨g, k * 2, none⟩ = some (.int .i64 x) := fun w' h => (h.cell (p := ⟨g, k * 2, none⟩) hgl).trans c0
      have r1 : ∀ w', Below wr.heap.size wr w' → w'.cell? ⟨g, k * 2 + 1, none⟩ = some (.int .i64 y) := fun w' h => (h.cell (p := ⟨g, k * 2 + 1, none⟩) hgl).trans c1
      have r2 : ∀ w', Below wr.heap.size wr w' → w'.cell? ⟨w.heap.size + 1, 0, none⟩ = some (.int .i64 a) := fun w' h => (h.cell (p := ⟨w.heap.size + 1, 0, none⟩) hbig).trans hm0
      have r3 : ∀ w', Below wr.heap.size wr w' → w'.cell? ⟨w.heap.size + 1, 1, none⟩ = some (.int .i64 b) := fun w' h => (h.cell (p := ⟨w.heap.size + 1, 1, none⟩) hbig).trans hm1
      have HO := Lib.hid (fun w => uorder_any x y a b w hx hy)
      have hc : -1 ≤ FM.cmpI (x * b) (a * y) ∧ FM.cmpI (x * b) (a * y) ≤ 1 := by unfold FM.cmpI; split <;> (try split) <;> omega
      have hcl : FM.cmpI (x * b) (a * y) < 0 ↔ x * b < a * y := by unfold FM.cmpI; split <;> (try split) <;> omega
      have HCL := Lib.hid hcl
      generalize FM.cmpI (x * b) (a * y) = C at *
      have hk0 : (0 : Int) ≤ (k : Int) := by omega
      have hk2 : (k : Int) < (n : Int) := by omega
      clear hb ho hls hx hy hyes hno ha hb' hx' hy' hcl hR
      by_cases hC : C < 0
      · go_wp2_with fail
        go_region_held3 (fun w' => Below wr.heap.size wr w') ((repeat' (first | (with_reducible exact Below.refl _ _) | (with_reducible assumption) | (with_reducible refine Below.alloc ?_ ?_ _) | (with_reducible refine Below.drew ?_) | (with_reducible refine below_drewN ?_ _) | (with_reducible refine Below.setCell ?_ ?_ _) | (with_reducible refine Below.trans ?_ (Below.mono (by with_reducible assumption) ?_)) | (with_reducible exact Below.size (by with_reducible assumption)) | go_size)))
          (first | (go_at_call 139; refine (HO.out _).mono ?_; rintro e w8 ⟨rfl, hb8⟩; have hS8 : Below wr.heap.size wr w8 := (by (repeat' (first | (with_reducible exact Below.refl _ _) | (with_reducible assumption) | (with_reducible refine Below.alloc ?_ ?_ _) | (with_reducible refine Below.drew ?_) | (with_reducible refine below_drewN ?_ _) | (with_reducible refine Below.setCell ?_ ?_ _) | (with_reducible refine Below.trans ?_ (Below.mono (by with_reducible assumption) ?_)) | (with_reducible exact Below.size (by with_reducible assumption)) | go_size)))))
        have t0 := r0 _ hS8
        have t1 := r1 _ hS8
        have hR8 := HR.out.keep hS8
        have m0 := hR8.m0
        have m1 := hR8.m1
        have f0 := hR8.fm 0
        have f1 := hR8.fm 1
        have hput := hR8.put x y
        have HP := Lib.hid hput
        clear hput hR8 r0 r1 r2 r3 hS8 hb8 c0 c1 hm0 hm1
        go_wp2_with fail
        go_roundw
        case rel =>
          refine ⟨k + 1, by omega, by omega, by go_num, ?_⟩
          rw [HYES.out (HCL.out.1 hC), ← HXY.out.1, ← HXY.out.2]
          exact HP.out
        case measure => simp [intOf]; omega
      · go_wp2_with fail
        go_region_held3 (fun w' => Below wr.heap.size wr w') ((repeat' (first | (with_reducible exact Below.refl _ _) | (with_reducible assumption) | (with_reducible refine Below.alloc ?_ ?_ _) | (with_reducible refine Below.drew ?_) | (with_reducible refine below_drewN ?_ _) | (with_reducible refine Below.setCell ?_ ?_ _) | (with_reducible refine Below.trans ?_ (Below.mono (by with_reducible assumption) ?_)) | (with_reducible exact Below.size (by with_reducible assumption)) | go_size)))
          (first | (go_at_call 139; refine (HO.out _).mono ?_; rintro e w8 ⟨rfl, hb8⟩; have hS8 : Below wr.heap.size wr w8 := (by (repeat' (first | (with_reducible exact Below.refl _ _) | (with_reducible assumption) | (with_reducible refine Below.alloc ?_ ?_ _) | (with_reducible refine Below.drew ?_) | (with_reducible refine below_drewN ?_ _) | (with_reducible refine Below.setCell ?_ ?_ _) | (with_reducible refine Below.trans ?_ (Below.mono (by with_reducible assumption) ?_)) | (with_reducible exact Below.size (by with_reducible assumption)) | go_size)))))
        have HP := Lib.hid (HR.out.keep hS8)
        clear r0 r1 r2 r3 hS8 hb8 c0 c1 hm0 hm1
        go_wp2_with fail
        go_roundw
        case rel =>
          refine ⟨k + 1, by omega, by omega, by go_num, ?_⟩
          rw [HNO.out (by have := HCL.out; omega), ← HAB.out.1, ← HAB.out.2]
          exact HP.out
        case measure => simp [intOf]; omega
    · obtain rfl : k = n := by omega
      have e0 := hR.r0; have e1 := hR.r1; have e2 := hR.m0; have e3 := hR.m1; have e4 := hR.fr 0; have e5 := hR.fr 1
      obtain ⟨a, ha⟩ : ∃ a, a = (xs.getD (lsI xs k) (0, 0)).1 := ⟨_, rfl⟩
      obtain ⟨b, hb⟩ : ∃ b, b = (xs.getD (lsI xs k) (0, 0)).2 := ⟨_, rfl⟩
      rw [← ha] at e2
      rw [← hb] at e3
      have HA := Lib.hid ha
      have HB := Lib.hid hb
      clear hR ha hb
      go_wp2_with fail
      refine bodyPost_ret (v := .agg #[.int .i64 a, .int .i64 b]) (by simp [*, results, Tryd.results138, go_sem]) rfl ?_
      exact ⟨by rw [HA.out, HB.out], (HR.out.below.setCell (by simp) _).setCell (by simp) _⟩

set_option maxHeartbeats 1000000 in
theorem allBelow_any (g cap n : Nat) (xs : List (Int × Int)) (w : World) (hv : OwnF w (.slice (some ⟨g, 0, none⟩) n cap) xs) (hn : n = xs.length) (hg : g < w.heap.size) (hm : n ≤ 5) :
    Calls Tryd.prog 117 #[.slice (some ⟨g, 0, none⟩) n cap] w fun e w' => e = .returned (.int .i64 (negM xs n : Nat)) ∧ Below w.heap.size w w' := by
  have HV := Lib.hid hv
  have HN := Lib.hid hn
  clear hv hn
  go_enter Tryd.func117, Tryd.ntmps117
  go_wp2_with fail
  go_loopw [3, 4, 5, 8] (fun s _ _ i wr => ∃ k : Nat, k ≤ n ∧ i = .int .i64 k ∧ s = .int .i64 (negM xs k : Nat) ∧ Below w.heap.size w wr) (fun _ _ _ i _ => n - (intOf i).toNat)
  case atStart => exact ⟨0, Nat.zero_le _, rfl, rfl, Below.refl _ _⟩
  case round =>
    obtain ⟨k, hk, rfl, rfl, hB⟩ := hrel
    by_cases hlt : k < n
    · have ho := HV.out.below hB hg
      have c0 := ho.cell0 HN.out hlt
      have c1 := ho.cell1 HN.out hlt
      have HB := Lib.hid hB
      have hyes := negM_yes (xs := xs) (k := k)
      have hno := negM_no (xs := xs) (k := k)
      have hN := negM_lt xs k
      have hp := pow_le_32 (n := k) (by omega)
      have hp1 := pow_le_32 (n := k + 1) (by omega)
      have h2k : (2 : Nat) ^ k < 2 ^ (k + 1) := Nat.pow_lt_pow_right (by decide) (by omega)
      have hor := ob_nat (negM xs k) (2 ^ k) (by omega) (by omega)
      have hsh : ((2 ^ k : Nat) : Int) = (2 : Int) ^ k := by norm_cast
      rw [hsh] at hor
      have hpw : wrap64 ((2 : Int) ^ k) = (2 : Int) ^ k := by rw [← hsh]; unfold wrap64; omega
      obtain ⟨x, hx⟩ : ∃ x, x = (xs.getD k (0, 0)).1 := ⟨_, rfl⟩
      rw [← hx] at c0 hyes hno
      have HYES := Lib.hid hyes
      have HNO := Lib.hid hno
      have HOR := Lib.hid hor
      generalize (xs.getD k (0, 0)).2 = y at *
      clear ho hB hx hyes hno hN hp hp1 h2k hsh hor
      have hk0 : (0 : Int) ≤ (k : Int) := by omega
      by_cases hneg : x < 0
      · go_wp2_with fail
        rw [HOR.out]
        go_roundw
        case rel => exact ⟨k + 1, by omega, by go_num, by rw [HYES.out hneg], by have := HB.out; (repeat' (first | (with_reducible exact Below.refl _ _) | (with_reducible assumption) | (with_reducible refine Below.alloc ?_ ?_ _) | (with_reducible refine Below.drew ?_) | (with_reducible refine below_drewN ?_ _) | (with_reducible refine Below.setCell ?_ ?_ _) | (with_reducible refine Below.trans ?_ (Below.mono (by with_reducible assumption) ?_)) | (with_reducible exact Below.size (by with_reducible assumption)) | go_size))⟩
        case measure => simp [intOf]; omega
      · go_wp2_with fail
        go_roundw
        case rel => exact ⟨k + 1, by omega, by go_num, by rw [HNO.out hneg], by have := HB.out; (repeat' (first | (with_reducible exact Below.refl _ _) | (with_reducible assumption) | (with_reducible refine Below.alloc ?_ ?_ _) | (with_reducible refine Below.drew ?_) | (with_reducible refine below_drewN ?_ _) | (with_reducible refine Below.setCell ?_ ?_ _) | (with_reducible refine Below.trans ?_ (Below.mono (by with_reducible assumption) ?_)) | (with_reducible exact Below.size (by with_reducible assumption)) | go_size))⟩
        case measure => simp [intOf]; omega
    · obtain rfl : k = n := by omega
      go_wp2_with fail
      go_ret
      exact ⟨rfl, hB⟩

/-- The least bit, and the length, of a number below 32. -/
theorem tz_core (x k idx : Nat) (w : World) (hx0 : ((x : Int) == 0) = false)
    (key : IntKind.u64.wrap (bits BinOp.and IntKind.u64 (x : Int) (IntKind.u64.wrap (-(x : Int))) * 285870213051353865) / 288230376151711744 = (idx : Int))
    (hi : idx < 64) (hcell : w.cell? ⟨1, idx, none⟩ = some (.int .u8 k)) (hk : k < 64) :
    Calls Tryd.prog 124 #[.int .u64 x] w fun e w' => e = .returned (.int .i64 k) ∧ w = w' := by
  go_enter Tryd.func124, Tryd.ntmps124
  go_wp2_with (simp only [key])
  go_ret
  exact ⟨rfl, rfl⟩
def idxB (l : Nat) : Nat := if l = 0 then 0 else if l = 1 then 1 else if l = 2 then 3 else if l = 3 then 7 else 15
theorem key_dec : ∀ x : Fin 32, x.val ≠ 0 → IntKind.u64.wrap (bits BinOp.and IntKind.u64 (x.val : Int) (IntKind.u64.wrap (-(x.val : Int))) * 285870213051353865) / 288230376151711744 = (idxB (loB x.val) : Int) := by decide +kernel
theorem lohi_5 : ∀ x : Fin 32, loB x.val ≤ 4 ∧ hiB x.val ≤ 4 := by decide +kernel
theorem idxB_at : ∀ l : Fin 5, idxB l.val < 64 ∧ dbT.getD (idxB l.val) 0 = (l.val : Int) := by decide +kernel
theorem tz_any (x : Nat) (h0 : x ≠ 0) (h1 : x < 32) (w : World) (hT : Tab8 w) : Calls Tryd.prog 124 #[.int .u64 x] w fun e w' => e = .returned (.int .i64 (loB x : Nat)) ∧ w = w' := by
  have hl := (lohi_5 ⟨x, h1⟩).1
  dsimp only at hl
  obtain ⟨i1, i2⟩ := idxB_at ⟨loB x, by omega⟩
  dsimp only at i1 i2
  exact tz_core x (loB x) (idxB (loB x)) w (by simp; omega) (key_dec ⟨x, h1⟩ h0) i1 (by rw [hT _ i1, i2]) (by omega)
set_option maxRecDepth 100000 in
theorem len_any (x : Nat) (h0 : x ≠ 0) (h1 : x < 32) (w : World) : Calls Tryd.prog 125 #[.int .u64 x] w fun e w' => e = .returned (.int .i64 ((hiB x : Nat) + 1)) ∧ w = w' := by
  obtain rfl | rfl | rfl | rfl | rfl | rfl | rfl | rfl | rfl | rfl | rfl | rfl | rfl | rfl | rfl | rfl | rfl | rfl | rfl | rfl | rfl | rfl | rfl | rfl | rfl | rfl | rfl | rfl | rfl | rfl | rfl : x = 1 ∨ x = 2 ∨ x = 3 ∨ x = 4 ∨ x = 5 ∨ x = 6 ∨ x = 7 ∨ x = 8 ∨ x = 9 ∨ x = 10 ∨ x = 11 ∨ x = 12 ∨ x = 13 ∨ x = 14 ∨ x = 15 ∨ x = 16 ∨ x = 17 ∨ x = 18 ∨ x = 19 ∨ x = 20 ∨ x = 21 ∨ x = 22 ∨ x = 23 ∨ x = 24 ∨ x = 25 ∨ x = 26 ∨ x = 27 ∨ x = 28 ∨ x = 29 ∨ x = 30 ∨ x = 31 := by omega
  all_goals
    go_enter Tryd.func125, Tryd.ntmps125
    go_wp2
    go_ret
    exact ⟨ret_i64 (by decide +kernel), rfl⟩
theorem changed0_any (x : Nat) (h0 : x ≠ 0) (h1 : x < 32) (w : World) (hT : Tab8 w) : Calls Tryd.prog 93 #[.int .i64 0, .int .i64 x] w fun e w' => e = .returned (.int .i64 ((2 ^ loB x : Nat) : Int)) ∧ w = w' := by
  have HZ := Lib.hid (fun w (h : Tab8 w) => tz_any x h0 h1 w h)
  have HT := Lib.hid hT
  have hl := (lohi_5 ⟨x, h1⟩).1
  dsimp only at hl
  generalize loB x = l at *
  clear hT
  obtain rfl | rfl | rfl | rfl | rfl : l = 0 ∨ l = 1 ∨ l = 2 ∨ l = 3 ∨ l = 4 := by omega
  all_goals
    clear hl
    go_enter Tryd.func93, Tryd.ntmps93
    go_wp2_with fail
    refine (HZ.out _ HT.out).mono ?_; rintro e w1 ⟨rfl, rfl⟩
    go_wp2_with fail
    go_ret
    exact ⟨rfl, rfl⟩
theorem changed1_any (x : Nat) (h0 : x ≠ 0) (h1 : x < 32) (w : World) : Calls Tryd.prog 93 #[.int .i64 1, .int .i64 x] w fun e w' => e = .returned (.int .i64 ((2 ^ hiB x : Nat) : Int)) ∧ w = w' := by
  have HZ := Lib.hid (fun w => len_any x h0 h1 w)
  have hl := (lohi_5 ⟨x, h1⟩).2
  dsimp only at hl
  generalize hiB x = l at *
  obtain rfl | rfl | rfl | rfl | rfl : l = 0 ∨ l = 1 ∨ l = 2 ∨ l = 3 ∨ l = 4 := by omega
  all_goals
    clear hl
    go_enter Tryd.func93, Tryd.ntmps93
    go_wp2_with fail
    refine (HZ.out _).mono ?_; rintro e w1 ⟨rfl, rfl⟩
    go_wp2_with fail
    go_ret
    exact ⟨rfl, rfl⟩
end Go.Proofs.YtopokicejgjcoaaDoor.PW
