/-
  Walks: the complement of a set in a pivot, in the model and in the program; the exact law of ComplementOf.
-/
import Derived.Test.YthnefjllijoobaaDoorRInv
import Derived.Test.YthnefjllijoobaaDoorQPart
namespace Go.Proofs.YthnefjllijoobaaDoor.PW
open Go.RowKit Go.Proofs.YthnefjllijoobaaDoor
open Go.Proofs.YthnefjllijoobaaDoor.PM Go.Proofs.YthnefjllijoobaaDoor.PX

/-- The rows and columns of a set, of a table of n rows. -/
def cmpTo (n : Nat) (f : Nat → Nat → Int) (t : Int) (i k : Nat) : List (List Int) := ((memTo n t i).map Fin.val).map fun a => ((memTo n t k).map Fin.val).map fun b => f a b
def cmpL (n : Nat) (f : Nat → Nat → Int) (t : Int) : List (List Int) := cmpTo n f t n n
theorem partL_cmp (n : Nat) (f : Nat → Nat → Int) (t : Int) : partL (tab n f) t t = cmpL n f t := by
  have key : ∀ m, m = n → (memTo m t m).map (fun i => (memTo m t m).map fun k => ent (tab n f) i.val k.val) = cmpL n f t := by
    intro m hm
    subst hm
    unfold cmpL cmpTo
    rw [List.map_map]
    apply List.map_congr_left
    intro i _
    show _ = ((memTo m t m).map Fin.val).map _
    rw [List.map_map]
    apply List.map_congr_left
    intro k _
    exact ent_tab _ _ _ _ i.isLt k.isLt
  exact key _ (tab_length n f)
def cmOut (M : List (List Int)) (Q : List Int) (s : Int) : List (List Int) × Int × Int :=
  if setCode M Q s ≠ 0 then ([], 0, setCode M Q s)
  else if s = 2 ^ M.length - 1 then ([], 0, 2)
  else if dt M.length (colS M s) = 0 then ([], 0, 5)
  else (cmpL M.length (pvR M s) (cmplI M.length s), pvD M s, 0)
theorem cmOut_e1 {M : List (List Int)} {Q : List Int} {s c : Int} (h : setCode M Q s = c) (hc : c ≠ 0) : cmOut M Q s = ([], 0, c) := by unfold cmOut; rw [if_pos (by omega), h]
theorem cmOut_e2 {M : List (List Int)} {Q : List Int} {s : Int} (h0 : setCode M Q s = 0) (hs : s = 2 ^ M.length - 1) : cmOut M Q s = ([], 0, 2) := by unfold cmOut; rw [if_neg (by omega), if_pos hs]
theorem cmOut_e5 {M : List (List Int)} {Q : List Int} {s : Int} (h0 : setCode M Q s = 0) (hs : ¬ s = 2 ^ M.length - 1) (hm : dt M.length (colS M s) = 0) : cmOut M Q s = ([], 0, 5) := by unfold cmOut; rw [if_neg (by omega), if_neg hs, if_pos hm]
theorem cmOut_ok {M : List (List Int)} {Q : List Int} {s : Int} (h0 : setCode M Q s = 0) (hs : ¬ s = 2 ^ M.length - 1) (hm : dt M.length (colS M s) ≠ 0) : cmOut M Q s = (cmpL M.length (pvR M s) (cmplI M.length s), pvD M s, 0) := by unfold cmOut; rw [if_neg (by omega), if_neg hs, if_neg hm]
theorem cmpl_zero_dec : ∀ (n : Fin 6) (x : Fin 32), (x.val : Int) < 2 ^ n.val → (cmplI n.val (x.val : Int) = 0 ↔ (x.val : Int) = 2 ^ n.val - 1) := by decide +kernel
theorem cmpl_zero {n : Nat} {s : Int} (hn : n ≤ 5) (h0 : 0 ≤ s) (h1 : s < 2 ^ n) : cmplI n s = 0 ↔ s = 2 ^ n - 1 := by
  have hp := pow_le_32 hn
  obtain ⟨x, rfl⟩ : ∃ x : Nat, s = x := ⟨s.toNat, by omega⟩
  exact cmpl_zero_dec ⟨n, by omega⟩ ⟨x, by omega⟩ h1
/-- While the rows are taken out: what has been laid. -/
structure CmR (W w' : World) (P : List (List Int)) (v : Value) (us : List Value) (b4 : Bool) : Prop where
  below : Below W.heap.size W w'
  rows : b4 = true → OwnRs W.heap.size w' v P us
theorem CmR.call {W w' w'' : World} {P : List (List Int)} {v u : Value} {us vs : List Value} (h : CmR W w' P v us false) (hr : OwnRs w'.heap.size w'' u P vs) (hb : Below w'.heap.size w' w'') : CmR W w'' P u vs true :=
  ⟨h.below.trans (hb.mono h.below.size), fun _ => hr.mono h.below.size⟩

set_option maxRecDepth 100000 in
set_option maxHeartbeats 4000000 in
theorem implComplementOf_any (m q : Value) (M : List (List Int)) (Q : List Int) (s : Int) (w : World) (hG : Glob w) (h1 : PM.Rows w m M) (h2 : Ints w q Q) :
    Calls Tryd.prog 28 #[.agg #[m, q], .int .i64 s] w (OutRN w (cmOut M Q s)) := by
  have hmx : Tryd.prog.follows .mixedOrders = true := by kernel_rfl
  have g1 := fun (w' : World) (h : Below w.heap.size w w') => h1.below h
  have g2 := fun (w' : World) (h : Below w.heap.size w w') => h2.below h
  have hpv := fun (w' : World) (h : Below w.heap.size w w') => implPivotOf_any m q M Q s w' (hG.below h) (h1.below h) (h2.below h)
  clear hG
  obtain ⟨a1, c1, rfl, _⟩ := h1
  obtain ⟨a2, c2, rfl, _⟩ := h2
  obtain ⟨c, hc⟩ : ∃ c, c = setCode M Q s := ⟨_, rfl⟩
  have HC := Lib.hid hc
  have HPV := Lib.hid hpv
  clear hpv
  by_cases hcz : c ≠ 0
  · rw [cmOut_e1 hc.symm hcz]
    clear hc
    go_enter Tryd.func28, Tryd.ntmps28
    go_wp2_with fail
    refine (checkSet_any _ _ M Q s _ (g1 _ (by (repeat' (first | (with_reducible exact Below.refl _ _) | (with_reducible assumption) | (with_reducible refine Below.alloc ?_ ?_ _) | (with_reducible refine Below.drew ?_) | (with_reducible refine below_drewN ?_ _) | (with_reducible refine Below.setCell ?_ ?_ _) | (with_reducible refine Below.trans ?_ (Below.mono (by with_reducible assumption) ?_)) | (with_reducible exact Below.size (by with_reducible assumption)) | go_size)))) (g2 _ (by (repeat' (first | (with_reducible exact Below.refl _ _) | (with_reducible assumption) | (with_reducible refine Below.alloc ?_ ?_ _) | (with_reducible refine Below.drew ?_) | (with_reducible refine below_drewN ?_ _) | (with_reducible refine Below.setCell ?_ ?_ _) | (with_reducible refine Below.trans ?_ (Below.mono (by with_reducible assumption) ?_)) | (with_reducible exact Below.size (by with_reducible assumption)) | go_size))))).mono ?_; rw [← HC.out]; rintro e w1 ⟨rfl, hb1⟩; obtain ⟨hc_hb1, hf_hb1⟩ := bcell hb1; obtain ⟨hcA_hb1, hfA_hb1⟩ := bcellG (W0 := w) hb1 (by (repeat' (first | (with_reducible exact Below.refl _ _) | (with_reducible assumption) | (with_reducible refine Below.alloc ?_ ?_ _) | (with_reducible refine Below.drew ?_) | (with_reducible refine below_drewN ?_ _) | (with_reducible refine Below.setCell ?_ ?_ _) | (with_reducible refine Below.trans ?_ (Below.mono (by with_reducible assumption) ?_)) | (with_reducible exact Below.size (by with_reducible assumption)) | go_size))); have hz_hb1 := hb1.size; (try simp at hz_hb1); (try simp only [Nat.add_one_le_iff] at hz_hb1); have hz0_hb1 : w.heap.size < w1.heap.size := (by omega)
    go_wp2_with fail
    go_ret3
    exact outRN_none (by (repeat' (first | (with_reducible exact Below.refl _ _) | (with_reducible assumption) | (with_reducible refine Below.alloc ?_ ?_ _) | (with_reducible refine Below.drew ?_) | (with_reducible refine below_drewN ?_ _) | (with_reducible refine Below.setCell ?_ ?_ _) | (with_reducible refine Below.trans ?_ (Below.mono (by with_reducible assumption) ?_)) | (with_reducible exact Below.size (by with_reducible assumption)) | go_size)))
  have hc0 : setCode M Q s = 0 := by omega
  obtain ⟨hp, hs0, hs1⟩ : isPB M Q = true ∧ 0 ≤ s ∧ s < 2 ^ M.length := by
    rcases setCode_cases M Q s with h | h | ⟨_, h⟩
    · omega
    · omega
    · exact h
  have HC0 := Lib.hid hc0
  obtain ⟨f1, f2, f3, f4, _⟩ := isPB_facts hp
  have HCZ := Lib.hid (cmpl_zero f2 hs0 hs1)
  have HCI := Lib.hid (cmpl_in f2 hs0 hs1)
  obtain ⟨t, ht⟩ : ∃ t, bits BinOp.andNot IntKind.i64 ((2 : Int) ^ M.length - 1) s = t := ⟨_, rfl⟩
  have hte : cmplI M.length s = t := ht
  rw [hte] at HCZ HCI
  clear hc hcz HC
  by_cases hsw : s = 2 ^ M.length - 1
  · rw [cmOut_e2 hc0 hsw]
    have ht0 : t = 0 := HCZ.out.2 hsw
    rw [ht0] at ht
    clear hp hs0 hs1 hc0 hsw HCZ HCI hte ht0 f3 f4 HPV
    go_enter Tryd.func28, Tryd.ntmps28
    go_wp2_with fail
    refine (checkSet_any _ _ M Q s _ (g1 _ (by (repeat' (first | (with_reducible exact Below.refl _ _) | (with_reducible assumption) | (with_reducible refine Below.alloc ?_ ?_ _) | (with_reducible refine Below.drew ?_) | (with_reducible refine below_drewN ?_ _) | (with_reducible refine Below.setCell ?_ ?_ _) | (with_reducible refine Below.trans ?_ (Below.mono (by with_reducible assumption) ?_)) | (with_reducible exact Below.size (by with_reducible assumption)) | go_size)))) (g2 _ (by (repeat' (first | (with_reducible exact Below.refl _ _) | (with_reducible assumption) | (with_reducible refine Below.alloc ?_ ?_ _) | (with_reducible refine Below.drew ?_) | (with_reducible refine below_drewN ?_ _) | (with_reducible refine Below.setCell ?_ ?_ _) | (with_reducible refine Below.trans ?_ (Below.mono (by with_reducible assumption) ?_)) | (with_reducible exact Below.size (by with_reducible assumption)) | go_size))))).mono ?_; rw [HC0.out]; rintro e w1 ⟨rfl, hb1⟩; obtain ⟨hc_hb1, hf_hb1⟩ := bcell hb1; obtain ⟨hcA_hb1, hfA_hb1⟩ := bcellG (W0 := w) hb1 (by (repeat' (first | (with_reducible exact Below.refl _ _) | (with_reducible assumption) | (with_reducible refine Below.alloc ?_ ?_ _) | (with_reducible refine Below.drew ?_) | (with_reducible refine below_drewN ?_ _) | (with_reducible refine Below.setCell ?_ ?_ _) | (with_reducible refine Below.trans ?_ (Below.mono (by with_reducible assumption) ?_)) | (with_reducible exact Below.size (by with_reducible assumption)) | go_size))); have hz_hb1 := hb1.size; (try simp at hz_hb1); (try simp only [Nat.add_one_le_iff] at hz_hb1); have hz0_hb1 : w.heap.size < w1.heap.size := (by omega)
    go_wp2_with fail
    refine (wholeSet_is M.length f2 _).mono ?_; rintro e w2 ⟨rfl, rfl⟩
    go_wp2_with fail
    go_ret3
    exact outRN_none (by (repeat' (first | (with_reducible exact Below.refl _ _) | (with_reducible assumption) | (with_reducible refine Below.alloc ?_ ?_ _) | (with_reducible refine Below.drew ?_) | (with_reducible refine below_drewN ?_ _) | (with_reducible refine Below.setCell ?_ ?_ _) | (with_reducible refine Below.trans ?_ (Below.mono (by with_reducible assumption) ?_)) | (with_reducible exact Below.size (by with_reducible assumption)) | go_size)))
  have htz : ¬ t = 0 := fun h => hsw (HCZ.out.1 h)
  have htb : (t == 0) = false := by simpa using htz
  by_cases hm : dt M.length (colS M s) = 0
  · rw [cmOut_e5 hc0 hsw hm]
    rw [pvOut_e2 hc0 hm] at HPV
    clear hp hs0 hs1 hc0 hsw HCZ HCI hte hm f3 f4
    go_enter Tryd.func28, Tryd.ntmps28
    go_wp2_with fail
    refine (checkSet_any _ _ M Q s _ (g1 _ (by (repeat' (first | (with_reducible exact Below.refl _ _) | (with_reducible assumption) | (with_reducible refine Below.alloc ?_ ?_ _) | (with_reducible refine Below.drew ?_) | (with_reducible refine below_drewN ?_ _) | (with_reducible refine Below.setCell ?_ ?_ _) | (with_reducible refine Below.trans ?_ (Below.mono (by with_reducible assumption) ?_)) | (with_reducible exact Below.size (by with_reducible assumption)) | go_size)))) (g2 _ (by (repeat' (first | (with_reducible exact Below.refl _ _) | (with_reducible assumption) | (with_reducible refine Below.alloc ?_ ?_ _) | (with_reducible refine Below.drew ?_) | (with_reducible refine below_drewN ?_ _) | (with_reducible refine Below.setCell ?_ ?_ _) | (with_reducible refine Below.trans ?_ (Below.mono (by with_reducible assumption) ?_)) | (with_reducible exact Below.size (by with_reducible assumption)) | go_size))))).mono ?_; rw [HC0.out]; rintro e w1 ⟨rfl, hb1⟩; obtain ⟨hc_hb1, hf_hb1⟩ := bcell hb1; obtain ⟨hcA_hb1, hfA_hb1⟩ := bcellG (W0 := w) hb1 (by (repeat' (first | (with_reducible exact Below.refl _ _) | (with_reducible assumption) | (with_reducible refine Below.alloc ?_ ?_ _) | (with_reducible refine Below.drew ?_) | (with_reducible refine below_drewN ?_ _) | (with_reducible refine Below.setCell ?_ ?_ _) | (with_reducible refine Below.trans ?_ (Below.mono (by with_reducible assumption) ?_)) | (with_reducible exact Below.size (by with_reducible assumption)) | go_size))); have hz_hb1 := hb1.size; (try simp at hz_hb1); (try simp only [Nat.add_one_le_iff] at hz_hb1); have hz0_hb1 : w.heap.size < w1.heap.size := (by omega)
    have hw1 : Below w.heap.size w w1 := by (repeat' (first | (with_reducible exact Below.refl _ _) | (with_reducible assumption) | (with_reducible refine Below.alloc ?_ ?_ _) | (with_reducible refine Below.drew ?_) | (with_reducible refine below_drewN ?_ _) | (with_reducible refine Below.setCell ?_ ?_ _) | (with_reducible refine Below.trans ?_ (Below.mono (by with_reducible assumption) ?_)) | (with_reducible exact Below.size (by with_reducible assumption)) | go_size))
    go_wp2_with fail
    refine (wholeSet_is M.length f2 _).mono ?_; rintro e w2 ⟨rfl, rfl⟩
    go_wp2_with fail
    refine (HPV.out _ hw1).mono ?_; rintro e w3 ⟨a, k, a', k', us, rfl, hM, hb3⟩
    dsimp only
    have hw3 : Below w.heap.size w w3 := hw1.trans (hb3.mono hw1.size)
    clear hM
    go_wp2_with fail
    go_ret3
    exact outRN_none (hw3.alloc hw3.size _)
  · rw [cmOut_ok hc0 hsw hm, hte, ← partL_cmp]
    rw [pvOut_ok hc0 hm] at HPV
    have hRl := tab_length M.length (pvR M s)
    have hRr : ∀ j, j < (tab M.length (pvR M s)).length → ((tab M.length (pvR M s)).getD j []).length = (tab M.length (pvR M s)).length := fun j hj => by rw [tab_length] at hj ⊢; rw [tab_row _ _ _ hj, row_length]
    have hRI := tab_I64 (n := M.length) (g := pvR M s) (B := 1920000000) (by decide) (fun i j _ _ => pvR_bd hp s i j)
    clear hp hs0 hs1 hc0 hsw HCZ hte hm f3 f4
    generalize pvD M s = D at *
    generalize tab M.length (pvR M s) = R at *
    generalize (List.range M.length).map (pvS M Q s) = S at *
    have HPA := Lib.hid (fun (b off cM : Nat) (w' : World) (h : PM.Rows w' (.slice (some ⟨b, off, none⟩) R.length cM) R) => partOf_ok b off cM R t t w' h (by omega) hRr HCI.out.1 (by rw [hRl]; exact HCI.out.2) HCI.out.1 (by rw [hRl]; exact HCI.out.2))
    have HRI := Lib.hid hRI
    have hR1 : 1 ≤ R.length := by omega
    clear hRr hRI HCI hRl
    generalize partL R t t = P at *
    go_enter Tryd.func28, Tryd.ntmps28
    go_wp2_with fail
    refine (checkSet_any _ _ M Q s _ (g1 _ (by (repeat' (first | (with_reducible exact Below.refl _ _) | (with_reducible assumption) | (with_reducible refine Below.alloc ?_ ?_ _) | (with_reducible refine Below.drew ?_) | (with_reducible refine below_drewN ?_ _) | (with_reducible refine Below.setCell ?_ ?_ _) | (with_reducible refine Below.trans ?_ (Below.mono (by with_reducible assumption) ?_)) | (with_reducible exact Below.size (by with_reducible assumption)) | go_size)))) (g2 _ (by (repeat' (first | (with_reducible exact Below.refl _ _) | (with_reducible assumption) | (with_reducible refine Below.alloc ?_ ?_ _) | (with_reducible refine Below.drew ?_) | (with_reducible refine below_drewN ?_ _) | (with_reducible refine Below.setCell ?_ ?_ _) | (with_reducible refine Below.trans ?_ (Below.mono (by with_reducible assumption) ?_)) | (with_reducible exact Below.size (by with_reducible assumption)) | go_size))))).mono ?_; rw [HC0.out]; rintro e w1 ⟨rfl, hb1⟩; obtain ⟨hc_hb1, hf_hb1⟩ := bcell hb1; obtain ⟨hcA_hb1, hfA_hb1⟩ := bcellG (W0 := w) hb1 (by (repeat' (first | (with_reducible exact Below.refl _ _) | (with_reducible assumption) | (with_reducible refine Below.alloc ?_ ?_ _) | (with_reducible refine Below.drew ?_) | (with_reducible refine below_drewN ?_ _) | (with_reducible refine Below.setCell ?_ ?_ _) | (with_reducible refine Below.trans ?_ (Below.mono (by with_reducible assumption) ?_)) | (with_reducible exact Below.size (by with_reducible assumption)) | go_size))); have hz_hb1 := hb1.size; (try simp at hz_hb1); (try simp only [Nat.add_one_le_iff] at hz_hb1); have hz0_hb1 : w.heap.size < w1.heap.size := (by omega)
    have hw1 : Below w.heap.size w w1 := by (repeat' (first | (with_reducible exact Below.refl _ _) | (with_reducible assumption) | (with_reducible refine Below.alloc ?_ ?_ _) | (with_reducible refine Below.drew ?_) | (with_reducible refine below_drewN ?_ _) | (with_reducible refine Below.setCell ?_ ?_ _) | (with_reducible refine Below.trans ?_ (Below.mono (by with_reducible assumption) ?_)) | (with_reducible exact Below.size (by with_reducible assumption)) | go_size))
    go_wp2_with fail
    refine (wholeSet_is M.length f2 _).mono ?_; rintro e w2 ⟨rfl, rfl⟩
    go_wp2_with fail
    refine (HPV.out _ hw1).mono ?_; rintro e w3 ⟨a, k, a', k', us, rfl, hM, hb3⟩
    dsimp only at hM ⊢
    have hw3 : Below w.heap.size w w3 := hw1.trans (hb3.mono hw1.size)
    have hrows := hM.rows.rows.rows' HRI.out
    obtain ⟨gR, rfl⟩ : ∃ g, a = some ⟨g, 0, none⟩ := by
      rcases hM.rows.rows.top.2 with ⟨hv, hn⟩ | ⟨g, cap, cur, hv, _⟩
      · omega
      · simp at hv; exact ⟨g, hv.1⟩
    have HR3 := Lib.hid hrows
    clear hM hb1 hc_hb1 hf_hb1 hcA_hb1 hfA_hb1 hz_hb1 hz0_hb1
    go_wp2_with fail
    obtain ⟨W, hW⟩ : ∃ W, (w3.alloc (.cells #[.int .i64 D, .slice (some ⟨gR, 0, none⟩) R.length k, .slice a' S.length k'] 28)) = W := ⟨_, rfl⟩
    have hB0 : Below w3.heap.size w3 W := by rw [← hW]; exact (Below.refl _ _).alloc (Nat.le_refl _) _
    have hsz : W.heap.size = w3.heap.size + 1 := by rw [← hW]; simp
    have x0 : W.cell? ⟨w3.heap.size, 0, none⟩ = some (.int .i64 D) := by rw [← hW]; simp
    have x1 : W.cell? ⟨w3.heap.size, 1, none⟩ = some (.slice (some ⟨gR, 0, none⟩) R.length k) := by rw [← hW]; simp
    rw [hW]
    clear hW
    rename_i K0 hK0
    refine (wpIn_wide (n := 8)).1 ?_
    refine PR.wpIn_region_inv hmx (by kernel_rfl) (fun listed ac w' =>
        ∃ (b0 b1 b2 b3 b4 b5 b6 b7 b8 b9 : Bool) (v : Value) (vs : List Value), ((b1 = true → b0 = true) ∧ (b4 = true → b1 = true ∧ b2 = true ∧ b3 = true) ∧ (b6 = true → b5 = true) ∧ (b7 = true → b4 = true) ∧ (b8 = true → b6 = true ∧ b7 = true) ∧ (b9 = true → b8 = true)) ∧ listed = #[b0, b1, b2, b3, b4, b5, b6, b7, b8, b9] ∧
          ac = { tmps := #[.agg #[.slice a1 M.length c1, .slice a2 Q.length c2], .int .i64 s, .pointer (some ⟨w.heap.size, 0, none⟩), undef, cond b7 (v) (.slice none 0 0), cond b8 (.int .i64 D) (.int .i64 0), cond b9 (.int .i64 0) (.int .i64 0), .int .i64 0, .int .i64 t, .pointer (some ⟨w3.heap.size, 0, none⟩), .int .i64 0, .agg #[.slice a1 M.length c1, .slice a2 Q.length c2], .int .i64 s, .int .i64 0, .int .i64 0, .bool false, undef, .pointer (some ⟨w.heap.size, 0, none⟩), .slice a1 M.length c1, .int .i64 M.length, .int .i64 (2 ^ M.length - 1), .int .i64 s, .int .i64 t, .int .i64 t, .bool false, .tuple #[.agg #[.int .i64 D, .slice (some ⟨gR, 0, none⟩) R.length k, .slice a' S.length k'], .int .i64 0], .agg #[.slice a1 M.length c1, .slice a2 Q.length c2], .int .i64 s, .tuple #[.agg #[.int .i64 D, .slice (some ⟨gR, 0, none⟩) R.length k, .slice a' S.length k'], .int .i64 0], .agg #[.int .i64 D, .slice (some ⟨gR, 0, none⟩) R.length k, .slice a' S.length k'], .int .i64 0, .int .i64 0, .bool false, undef, cond b0 (.pointer (some ⟨w3.heap.size, 1, none⟩)) undef, cond b1 (.slice (some ⟨gR, 0, none⟩) R.length k) undef, cond b2 (.int .i64 t) undef, cond b3 (.int .i64 t) undef, cond b4 (v) undef, cond b5 (.pointer (some ⟨w3.heap.size, 0, none⟩)) undef, cond b6 (.int .i64 D) undef], defers := [] } ∧ CmR W w' P v vs b4) ?_ ?_ ?_ ?_
    · rintro listed ac w' ⟨b0, b1, b2, b3, b4, b5, b6, b7, b8, b9, v, vs, _, rfl, _⟩
      rfl
    · rintro listed ac w' ⟨b0, b1, b2, b3, b4, b5, b6, b7, b8, b9, v, vs, _, rfl, rfl, hR⟩ hall
      have h0 := hall 0 (by simp)
      have h1 := hall 1 (by simp)
      have h2 := hall 2 (by simp)
      have h3 := hall 3 (by simp)
      have h4 := hall 4 (by simp)
      have h5 := hall 5 (by simp)
      have h6 := hall 6 (by simp)
      have h7 := hall 7 (by simp)
      have h8 := hall 8 (by simp)
      have h9 := hall 9 (by simp)
      simp at h0 h1 h2 h3 h4 h5 h6 h7 h8 h9
      subst h0 h1 h2 h3 h4 h5 h6 h7 h8 h9
      clear hall
      refine hK0 _ _ ?_
      simp only [cond_true]
      have HP := Lib.hid (hR.rows rfl)
      have HW' := Lib.hid (hw3.trans ((hB0.trans (hR.below.mono hB0.size)).mono hw3.size))
      clear hR x0 x1 hB0
      obtain ⟨av, cv, rfl⟩ : ∃ a c, v = .slice a P.length c := by
        rcases HP.out.rows.top.2 with ⟨rfl, hn⟩ | ⟨g, cap, cur, rfl, _⟩
        · exact ⟨none, 0, by rw [hn]⟩
        · exact ⟨_, cap, rfl⟩
      go_wp2_with fail
      go_ret3
      exact ⟨av, cv, vs, rfl, HP.out.mono (by have := hw3.size; omega), HW'.out⟩
    · exact ⟨false, false, false, false, false, false, false, false, false, false, undef, [], by simp, rfl, rfl, ⟨(Below.refl _ _).drew, by simp⟩⟩
    · rintro listed ac w' i oi ⟨b0, b1, b2, b3, b4, b5, b6, b7, b8, b9, v, vs, ⟨e1, e4, e6, e7, e8, e9⟩, rfl, rfl, hR⟩ ho hun hdep
      have hi : i < 10 := by simpa using (Array.getElem?_eq_some_iff.1 ho).1
      obtain rfl | rfl | rfl | rfl | rfl | rfl | rfl | rfl | rfl | rfl : i = 0 ∨ i = 1 ∨ i = 2 ∨ i = 3 ∨ i = 4 ∨ i = 5 ∨ i = 6 ∨ i = 7 ∨ i = 8 ∨ i = 9 := by omega
      · -- 0
        simp only [List.getElem?_toArray, List.getElem?_cons_zero, Option.some.injEq] at ho
        subst ho
        have hbi : b0 = false := by simpa using hun
        subst hbi
        obtain rfl : b1 = false := Bool.eq_false_iff.2 (fun h => Bool.noConfusion (e1 h))
        obtain rfl : b4 = false := Bool.eq_false_iff.2 (fun h => Bool.noConfusion (e4 h).1)
        obtain rfl : b7 = false := Bool.eq_false_iff.2 (fun h => Bool.noConfusion (e7 h))
        obtain rfl : b8 = false := Bool.eq_false_iff.2 (fun h => Bool.noConfusion (e8 h).2)
        obtain rfl : b9 = false := Bool.eq_false_iff.2 (fun h => Bool.noConfusion (e9 h))
        refine wpOpIn_step rfl (fun K hK => ?_)
        clear hun hdep hi
        go_simp
        refine hK _ _ ⟨true, false, b2, b3, false, b5, b6, false, false, false, v, vs, ⟨fun h => Bool.noConfusion h, fun h => Bool.noConfusion h, e6, fun h => Bool.noConfusion h, fun h => Bool.noConfusion h, fun h => Bool.noConfusion h⟩, rfl, rfl, hR⟩
      · -- 1
        simp only [List.getElem?_toArray, List.getElem?_cons_succ, List.getElem?_cons_zero, Option.some.injEq] at ho
        subst ho
        have hbi : b1 = false := by simpa using hun
        subst hbi
        have hd0 : b0 = true := by have := hdep ⟨0, .data⟩ (by simp) rfl; simpa using this
        subst hd0
        obtain rfl : b4 = false := Bool.eq_false_iff.2 (fun h => Bool.noConfusion (e4 h).1)
        obtain rfl : b7 = false := Bool.eq_false_iff.2 (fun h => Bool.noConfusion (e7 h))
        obtain rfl : b8 = false := Bool.eq_false_iff.2 (fun h => Bool.noConfusion (e8 h).2)
        obtain rfl : b9 = false := Bool.eq_false_iff.2 (fun h => Bool.noConfusion (e9 h))
        refine wpOpIn_step rfl (fun K hK => ?_)
        clear hun hdep hi
        have k1 := (hR.below.cell (p := ⟨w3.heap.size, 1, none⟩) (by show w3.heap.size < _; omega)).trans x1
        go_simp
        refine hK _ _ ⟨true, true, b2, b3, false, b5, b6, false, false, false, v, vs, ⟨fun _ => rfl, fun h => Bool.noConfusion h, e6, fun h => Bool.noConfusion h, fun h => Bool.noConfusion h, fun h => Bool.noConfusion h⟩, rfl, rfl, hR⟩
      · -- 2
        simp only [List.getElem?_toArray, List.getElem?_cons_succ, List.getElem?_cons_zero, Option.some.injEq] at ho
        subst ho
        have hbi : b2 = false := by simpa using hun
        subst hbi
        obtain rfl : b4 = false := Bool.eq_false_iff.2 (fun h => Bool.noConfusion (e4 h).2.1)
        obtain rfl : b7 = false := Bool.eq_false_iff.2 (fun h => Bool.noConfusion (e7 h))
        obtain rfl : b8 = false := Bool.eq_false_iff.2 (fun h => Bool.noConfusion (e8 h).2)
        obtain rfl : b9 = false := Bool.eq_false_iff.2 (fun h => Bool.noConfusion (e9 h))
        refine wpOpIn_step rfl (fun K hK => ?_)
        clear hun hdep hi
        go_simp
        refine hK _ _ ⟨b0, b1, true, b3, false, b5, b6, false, false, false, v, vs, ⟨e1, fun h => Bool.noConfusion h, e6, fun h => Bool.noConfusion h, fun h => Bool.noConfusion h, fun h => Bool.noConfusion h⟩, rfl, rfl, hR⟩
      · -- 3
        simp only [List.getElem?_toArray, List.getElem?_cons_succ, List.getElem?_cons_zero, Option.some.injEq] at ho
        subst ho
        have hbi : b3 = false := by simpa using hun
        subst hbi
        obtain rfl : b4 = false := Bool.eq_false_iff.2 (fun h => Bool.noConfusion (e4 h).2.2)
        obtain rfl : b7 = false := Bool.eq_false_iff.2 (fun h => Bool.noConfusion (e7 h))
        obtain rfl : b8 = false := Bool.eq_false_iff.2 (fun h => Bool.noConfusion (e8 h).2)
        obtain rfl : b9 = false := Bool.eq_false_iff.2 (fun h => Bool.noConfusion (e9 h))
        refine wpOpIn_step rfl (fun K hK => ?_)
        clear hun hdep hi
        go_simp
        refine hK _ _ ⟨b0, b1, b2, true, false, b5, b6, false, false, false, v, vs, ⟨e1, fun h => Bool.noConfusion h, e6, fun h => Bool.noConfusion h, fun h => Bool.noConfusion h, fun h => Bool.noConfusion h⟩, rfl, rfl, hR⟩
      · -- 4
        simp only [List.getElem?_toArray, List.getElem?_cons_succ, List.getElem?_cons_zero, Option.some.injEq] at ho
        subst ho
        have hbi : b4 = false := by simpa using hun
        subst hbi
        have hd1 : b1 = true := by have := hdep ⟨1, .data⟩ (by simp) rfl; simpa using this
        have hd2 : b2 = true := by have := hdep ⟨2, .data⟩ (by simp) rfl; simpa using this
        have hd3 : b3 = true := by have := hdep ⟨3, .data⟩ (by simp) rfl; simpa using this
        have hd0 : b0 = true := (e1 hd1)
        subst hd0 hd1 hd2 hd3
        obtain rfl : b7 = false := Bool.eq_false_iff.2 (fun h => Bool.noConfusion (e7 h))
        obtain rfl : b8 = false := Bool.eq_false_iff.2 (fun h => Bool.noConfusion (e8 h).2)
        obtain rfl : b9 = false := Bool.eq_false_iff.2 (fun h => Bool.noConfusion (e9 h))
        refine wpOpIn_step rfl (fun K hK => ?_)
        clear hun hdep hi
        go_simp
        refine ⟨trivial, (callsIn_wide.2 (callsIn_wide.1 (HPA.out gR 0 k w' ((HR3.out.below hB0).below hR.below)))).mono ?_⟩
        rintro e w'' ⟨yv, yus, rfl, hr, hb⟩
        refine hK _ _ ⟨true, true, true, true, true, b5, b6, false, false, false, yv, yus, ⟨fun _ => rfl, fun _ => ⟨rfl, rfl, rfl⟩, e6, fun h => Bool.noConfusion h, fun h => Bool.noConfusion h, fun h => Bool.noConfusion h⟩, rfl, rfl, hR.call hr hb⟩
      · -- 5
        simp only [List.getElem?_toArray, List.getElem?_cons_succ, List.getElem?_cons_zero, Option.some.injEq] at ho
        subst ho
        have hbi : b5 = false := by simpa using hun
        subst hbi
        obtain rfl : b6 = false := Bool.eq_false_iff.2 (fun h => Bool.noConfusion (e6 h))
        obtain rfl : b8 = false := Bool.eq_false_iff.2 (fun h => Bool.noConfusion (e8 h).1)
        obtain rfl : b9 = false := Bool.eq_false_iff.2 (fun h => Bool.noConfusion (e9 h))
        refine wpOpIn_step rfl (fun K hK => ?_)
        clear hun hdep hi
        go_simp
        refine hK _ _ ⟨b0, b1, b2, b3, b4, true, false, b7, false, false, v, vs, ⟨e1, e4, fun h => Bool.noConfusion h, e7, fun h => Bool.noConfusion h, fun h => Bool.noConfusion h⟩, rfl, rfl, hR⟩
      · -- 6
        simp only [List.getElem?_toArray, List.getElem?_cons_succ, List.getElem?_cons_zero, Option.some.injEq] at ho
        subst ho
        have hbi : b6 = false := by simpa using hun
        subst hbi
        have hd5 : b5 = true := by have := hdep ⟨5, .data⟩ (by simp) rfl; simpa using this
        subst hd5
        obtain rfl : b8 = false := Bool.eq_false_iff.2 (fun h => Bool.noConfusion (e8 h).1)
        obtain rfl : b9 = false := Bool.eq_false_iff.2 (fun h => Bool.noConfusion (e9 h))
        refine wpOpIn_step rfl (fun K hK => ?_)
        clear hun hdep hi
        have k0 := (hR.below.cell (p := ⟨w3.heap.size, 0, none⟩) (by show w3.heap.size < _; omega)).trans x0
        go_simp
        refine hK _ _ ⟨b0, b1, b2, b3, b4, true, true, b7, false, false, v, vs, ⟨e1, e4, fun _ => rfl, e7, fun h => Bool.noConfusion h, fun h => Bool.noConfusion h⟩, rfl, rfl, hR⟩
      · -- 7
        simp only [List.getElem?_toArray, List.getElem?_cons_succ, List.getElem?_cons_zero, Option.some.injEq] at ho
        subst ho
        have hbi : b7 = false := by simpa using hun
        subst hbi
        have hd4 : b4 = true := by have := hdep ⟨4, .data⟩ (by simp) rfl; simpa using this
        have hd3 : b3 = true := (e4 hd4).2.2
        have hd2 : b2 = true := (e4 hd4).2.1
        have hd1 : b1 = true := (e4 hd4).1
        have hd0 : b0 = true := (e1 hd1)
        subst hd0 hd1 hd2 hd3 hd4
        obtain rfl : b8 = false := Bool.eq_false_iff.2 (fun h => Bool.noConfusion (e8 h).2)
        obtain rfl : b9 = false := Bool.eq_false_iff.2 (fun h => Bool.noConfusion (e9 h))
        refine wpOpIn_step rfl (fun K hK => ?_)
        clear hun hdep hi
        go_simp
        refine hK _ _ ⟨true, true, true, true, true, b5, b6, true, false, false, v, vs, ⟨fun _ => rfl, fun _ => ⟨rfl, rfl, rfl⟩, e6, fun _ => rfl, fun h => Bool.noConfusion h, fun h => Bool.noConfusion h⟩, rfl, rfl, hR⟩
      · -- 8
        simp only [List.getElem?_toArray, List.getElem?_cons_succ, List.getElem?_cons_zero, Option.some.injEq] at ho
        subst ho
        have hbi : b8 = false := by simpa using hun
        subst hbi
        have hd6 : b6 = true := by have := hdep ⟨6, .data⟩ (by simp) rfl; simpa using this
        have hd7 : b7 = true := by have := hdep ⟨7, .chain⟩ (by simp) rfl; simpa using this
        have hd5 : b5 = true := (e6 hd6)
        have hd4 : b4 = true := (e7 hd7)
        have hd3 : b3 = true := (e4 hd4).2.2
        have hd2 : b2 = true := (e4 hd4).2.1
        have hd1 : b1 = true := (e4 hd4).1
        have hd0 : b0 = true := (e1 hd1)
        subst hd0 hd1 hd2 hd3 hd4 hd5 hd6 hd7
        obtain rfl : b9 = false := Bool.eq_false_iff.2 (fun h => Bool.noConfusion (e9 h))
        refine wpOpIn_step rfl (fun K hK => ?_)
        clear hun hdep hi
        go_simp
        refine hK _ _ ⟨true, true, true, true, true, true, true, true, true, false, v, vs, ⟨fun _ => rfl, fun _ => ⟨rfl, rfl, rfl⟩, fun _ => rfl, fun _ => rfl, fun _ => ⟨rfl, rfl⟩, fun h => Bool.noConfusion h⟩, rfl, rfl, hR⟩
      · -- 9
        simp only [List.getElem?_toArray, List.getElem?_cons_succ, List.getElem?_cons_zero, Option.some.injEq] at ho
        subst ho
        have hbi : b9 = false := by simpa using hun
        subst hbi
        have hd8 : b8 = true := by have := hdep ⟨8, .chain⟩ (by simp) rfl; simpa using this
        have hd7 : b7 = true := (e8 hd8).2
        have hd6 : b6 = true := (e8 hd8).1
        have hd5 : b5 = true := (e6 hd6)
        have hd4 : b4 = true := (e7 hd7)
        have hd3 : b3 = true := (e4 hd4).2.2
        have hd2 : b2 = true := (e4 hd4).2.1
        have hd1 : b1 = true := (e4 hd4).1
        have hd0 : b0 = true := (e1 hd1)
        subst hd0 hd1 hd2 hd3 hd4 hd5 hd6 hd7 hd8
        refine wpOpIn_step rfl (fun K hK => ?_)
        clear hun hdep hi
        go_simp
        refine hK _ _ ⟨true, true, true, true, true, true, true, true, true, true, v, vs, ⟨fun _ => rfl, fun _ => ⟨rfl, rfl, rfl⟩, fun _ => rfl, fun _ => rfl, fun _ => ⟨rfl, rfl⟩, fun _ => rfl⟩, rfl, rfl, hR⟩

/-! ### The model -/
theorem cmpTo_skip {n i k : Nat} {f : Nat → Nat → Int} {t : Int} (h : bit t i = false) : cmpTo n f t (i + 1) k = cmpTo n f t i k := by unfold cmpTo; rw [memTo_no h]
def cmpR (n : Nat) (f : Nat → Nat → Int) (t : Int) (i k : Nat) : List Int := ((memTo n t k).map Fin.val).map (f i)
theorem cmpTo_take {n i k : Nat} {f : Nat → Nat → Int} {t : Int} (hi : i < n) (h : bit t i = true) : cmpTo n f t (i + 1) k = cmpTo n f t i k ++ [cmpR n f t i k] := by unfold cmpTo cmpR; rw [memTo_yes hi h]; simp
theorem cmpR_skip {n i k : Nat} {f : Nat → Nat → Int} {t : Int} (h : bit t k = false) : cmpR n f t i (k + 1) = cmpR n f t i k := by unfold cmpR; rw [memTo_no h]
theorem cmpR_take {n i k : Nat} {f : Nat → Nat → Int} {t : Int} (hk : k < n) (h : bit t k = true) : cmpR n f t i (k + 1) = cmpR n f t i k ++ [f i k] := by unfold cmpR; rw [memTo_yes hk h]; simp
theorem cmpR_len (n : Nat) (f : Nat → Nat → Int) (t : Int) (i k : Nat) : (cmpR n f t i k).length ≤ k := by unfold cmpR; simpa using memTo_length n t k
theorem cmpTo_len (n : Nat) (f : Nat → Nat → Int) (t : Int) (i k : Nat) : (cmpTo n f t i k).length ≤ i := by unfold cmpTo; simpa using memTo_length n t i

set_option maxRecDepth 100000 in
set_option maxHeartbeats 8000000 in
theorem specComplementOf_any (m q : Value) (M : List (List Int)) (Q : List Int) (s : Int) (w : World) (h1 : PM.Rows w m M) (h2 : Ints w q Q) :
    Calls Tryd.prog 27 #[.agg #[m, q], .int .i64 s] w (OutRN w (cmOut M Q s)) := by
  have g1 := fun (w' : World) (h : Below w.heap.size w w') => h1.below h
  have g2 := fun (w' : World) (h : Below w.heap.size w w') => h2.below h
  obtain ⟨a1, c1, rfl, _⟩ := h1
  obtain ⟨a2, c2, rfl, _⟩ := h2
  obtain ⟨c, hc⟩ : ∃ c, c = setCode M Q s := ⟨_, rfl⟩
  have HIS := Lib.hid (fun w' h => (l02Code_any _ _ M Q s w' (g1 w' h) (g2 w' h)))
  rw [← hc] at HIS
  by_cases hcz : c ≠ 0
  · rw [cmOut_e1 hc.symm hcz]
    have hcb : (c == 0) = false := by simpa using hcz
    clear hc
    go_enter Tryd.func27, Tryd.ntmps27
    go_wp2_with fail
    refine (HIS.out _ (by (repeat' (first | (with_reducible exact Below.refl _ _) | (with_reducible assumption) | (with_reducible refine Below.alloc ?_ ?_ _) | (with_reducible refine Below.drew ?_) | (with_reducible refine below_drewN ?_ _) | (with_reducible refine Below.setCell ?_ ?_ _) | (with_reducible refine Below.trans ?_ (Below.mono (by with_reducible assumption) ?_)) | (with_reducible exact Below.size (by with_reducible assumption)) | go_size)))).mono ?_; rintro e w1 ⟨rfl, hb1⟩; obtain ⟨hc_hb1, hf_hb1⟩ := bcell hb1; obtain ⟨hcA_hb1, hfA_hb1⟩ := bcellG (W0 := w) hb1 (by (repeat' (first | (with_reducible exact Below.refl _ _) | (with_reducible assumption) | (with_reducible refine Below.alloc ?_ ?_ _) | (with_reducible refine Below.drew ?_) | (with_reducible refine below_drewN ?_ _) | (with_reducible refine Below.setCell ?_ ?_ _) | (with_reducible refine Below.trans ?_ (Below.mono (by with_reducible assumption) ?_)) | (with_reducible exact Below.size (by with_reducible assumption)) | go_size))); have hz_hb1 := hb1.size; (try simp at hz_hb1); (try simp only [Nat.add_one_le_iff] at hz_hb1); have hz0_hb1 : w.heap.size < w1.heap.size := (by omega)
    go_wp2_with fail
    go_ret3
    exact outRN_none (by (repeat' (first | (with_reducible exact Below.refl _ _) | (with_reducible assumption) | (with_reducible refine Below.alloc ?_ ?_ _) | (with_reducible refine Below.drew ?_) | (with_reducible refine below_drewN ?_ _) | (with_reducible refine Below.setCell ?_ ?_ _) | (with_reducible refine Below.trans ?_ (Below.mono (by with_reducible assumption) ?_)) | (with_reducible exact Below.size (by with_reducible assumption)) | go_size)))
  have hc0 : setCode M Q s = 0 := by omega
  obtain rfl : c = 0 := by omega
  obtain ⟨hp, hs0, hs1⟩ : isPB M Q = true ∧ 0 ≤ s ∧ s < 2 ^ M.length := by
    rcases setCode_cases M Q s with h | h | ⟨_, h⟩
    · omega
    · omega
    · exact h
  obtain ⟨f1, f2, f3, f4, _⟩ := isPB_facts hp
  clear hcz hc
  by_cases hsw : s = 2 ^ M.length - 1
  · rw [cmOut_e2 hc0 hsw]
    clear hp hs0 hs1 hc0 f4 g1 g2
    rw [f3] at HIS ⊢
    obtain ⟨n, hn⟩ : ∃ n, n = M.length := ⟨_, rfl⟩
    rw [← hn] at HIS f1 f2 hsw ⊢
    clear hn f3
    subst hsw
    obtain rfl | rfl | rfl | rfl | rfl : n = 1 ∨ n = 2 ∨ n = 3 ∨ n = 4 ∨ n = 5 := by omega
    all_goals
      simp only [Int.reducePow, Int.reduceSub] at HIS ⊢
      go_enter Tryd.func27, Tryd.ntmps27
      go_wp2_with fail
      refine (HIS.out _ (by (repeat' (first | (with_reducible exact Below.refl _ _) | (with_reducible assumption) | (with_reducible refine Below.alloc ?_ ?_ _) | (with_reducible refine Below.drew ?_) | (with_reducible refine below_drewN ?_ _) | (with_reducible refine Below.setCell ?_ ?_ _) | (with_reducible refine Below.trans ?_ (Below.mono (by with_reducible assumption) ?_)) | (with_reducible exact Below.size (by with_reducible assumption)) | go_size)))).mono ?_; rintro e w1 ⟨rfl, hb1⟩; obtain ⟨hc_hb1, hf_hb1⟩ := bcell hb1; obtain ⟨hcA_hb1, hfA_hb1⟩ := bcellG (W0 := w) hb1 (by (repeat' (first | (with_reducible exact Below.refl _ _) | (with_reducible assumption) | (with_reducible refine Below.alloc ?_ ?_ _) | (with_reducible refine Below.drew ?_) | (with_reducible refine below_drewN ?_ _) | (with_reducible refine Below.setCell ?_ ?_ _) | (with_reducible refine Below.trans ?_ (Below.mono (by with_reducible assumption) ?_)) | (with_reducible exact Below.size (by with_reducible assumption)) | go_size))); have hz_hb1 := hb1.size; (try simp at hz_hb1); (try simp only [Nat.add_one_le_iff] at hz_hb1); have hz0_hb1 : w.heap.size < w1.heap.size := (by omega)
      go_wp2_with fail
      go_ret3
      exact outRN_none (by (repeat' (first | (with_reducible exact Below.refl _ _) | (with_reducible assumption) | (with_reducible refine Below.alloc ?_ ?_ _) | (with_reducible refine Below.drew ?_) | (with_reducible refine below_drewN ?_ _) | (with_reducible refine Below.setCell ?_ ?_ _) | (with_reducible refine Below.trans ?_ (Below.mono (by with_reducible assumption) ?_)) | (with_reducible exact Below.size (by with_reducible assumption)) | go_size)))
  by_cases hm : dt M.length (colS M s) = 0
  · rw [cmOut_e5 hc0 hsw hm]
    have HDO : Hid (∀ w', Below w.heap.size w w' → Calls Tryd.prog 45 #[.agg #[.slice a1 M.length c1, .slice a2 Q.length c2], .int .i64 s] w' fun e w2 => e = .returned (.tuple #[.agg #[.int .i64 0, .slice none 0 0, .slice none 0 0], .bool false]) ∧ Below w'.heap.size w' w2) :=
      Lib.hid (fun w' h => l04Pivot_zero _ _ M Q _ w' (g1 w' h) (g2 w' h) hp hm)
    clear hp hm hs0 hs1 hc0 f4 g1 g2
    rw [f3] at HIS HDO ⊢
    obtain ⟨n, hn⟩ : ∃ n, n = M.length := ⟨_, rfl⟩
    rw [← hn] at HIS HDO f1 f2 hsw ⊢
    clear hn f3
    obtain rfl | rfl | rfl | rfl | rfl : n = 1 ∨ n = 2 ∨ n = 3 ∨ n = 4 ∨ n = 5 := by omega
    all_goals
      simp only [Int.reducePow, Int.reduceSub] at hsw
      go_enter Tryd.func27, Tryd.ntmps27
      go_wp2_with fail
      refine (HIS.out _ (by (repeat' (first | (with_reducible exact Below.refl _ _) | (with_reducible assumption) | (with_reducible refine Below.alloc ?_ ?_ _) | (with_reducible refine Below.drew ?_) | (with_reducible refine below_drewN ?_ _) | (with_reducible refine Below.setCell ?_ ?_ _) | (with_reducible refine Below.trans ?_ (Below.mono (by with_reducible assumption) ?_)) | (with_reducible exact Below.size (by with_reducible assumption)) | go_size)))).mono ?_; rintro e w1 ⟨rfl, hb1⟩; obtain ⟨hc_hb1, hf_hb1⟩ := bcell hb1; obtain ⟨hcA_hb1, hfA_hb1⟩ := bcellG (W0 := w) hb1 (by (repeat' (first | (with_reducible exact Below.refl _ _) | (with_reducible assumption) | (with_reducible refine Below.alloc ?_ ?_ _) | (with_reducible refine Below.drew ?_) | (with_reducible refine below_drewN ?_ _) | (with_reducible refine Below.setCell ?_ ?_ _) | (with_reducible refine Below.trans ?_ (Below.mono (by with_reducible assumption) ?_)) | (with_reducible exact Below.size (by with_reducible assumption)) | go_size))); have hz_hb1 := hb1.size; (try simp at hz_hb1); (try simp only [Nat.add_one_le_iff] at hz_hb1); have hz0_hb1 : w.heap.size < w1.heap.size := (by omega)
      have hw1 : Below w.heap.size w w1 := by (repeat' (first | (with_reducible exact Below.refl _ _) | (with_reducible assumption) | (with_reducible refine Below.alloc ?_ ?_ _) | (with_reducible refine Below.drew ?_) | (with_reducible refine below_drewN ?_ _) | (with_reducible refine Below.setCell ?_ ?_ _) | (with_reducible refine Below.trans ?_ (Below.mono (by with_reducible assumption) ?_)) | (with_reducible exact Below.size (by with_reducible assumption)) | go_size))
      go_wp2_with fail
      refine (HDO.out _ hw1).mono ?_; rintro e w2 ⟨rfl, hb2⟩
      have hw2 : Below w.heap.size w w2 := hw1.trans (hb2.mono hw1.size)
      go_wp2_with fail
      go_ret3
      exact outRN_none (hw2.alloc hw2.size _)
  · rw [cmOut_ok hc0 hsw hm]
    have HDO : Hid (∀ w', Below w.heap.size w w' → Calls Tryd.prog 45 #[.agg #[.slice a1 M.length c1, .slice a2 Q.length c2], .int .i64 s] w' fun e w2 => ∃ a c a' c' us, e = .returned (.tuple #[.agg #[.int .i64 (pvD M s), .slice a (tab M.length (pvR M s)).length c, .slice a' ((List.range M.length).map (pvS M Q s)).length c'], .bool true]) ∧
      PvM w'.heap.size w2 (.slice a (tab M.length (pvR M s)).length c) (.slice a' ((List.range M.length).map (pvS M Q s)).length c') (tab M.length (pvR M s)) ((List.range M.length).map (pvS M Q s)) us ∧ Below w'.heap.size w' w2) :=
      Lib.hid (fun w' h => l04Pivot_ok _ _ M Q _ w' (g1 w' h) (g2 w' h) hp hs0 hs1 hm)
    have HRI := Lib.hid (tab_I64 (n := M.length) (g := pvR M s) (B := 1920000000) (by decide) (fun i j _ _ => pvR_bd hp s i j))
    have HBT := Lib.hid (fun k (hk : k < M.length) => cmpl_bit f2 hs0 hs1 hk)
    have hs32 : s < 32 := Int.lt_of_lt_of_le hs1 (pow_le_32 f2)
    have HBC := Lib.hid (fun k => bit_casesP hs0 hs32 k)
    clear hp hm hs0 hs1 hc0 f4 g1 g2 hs32
    generalize cmplI M.length s = t at *
    generalize pvD M s = D at *
    generalize pvR M s = f at *
    generalize (List.range M.length).map (pvS M Q s) = S at *
    rw [f3] at HIS HDO ⊢
    obtain ⟨n, hn⟩ : ∃ n, n = M.length := ⟨_, rfl⟩
    rw [← hn] at HIS HDO HRI HBT f1 f2 hsw ⊢
    clear hn f3
    unfold cmpL
    obtain ⟨i0, hi, hzz0, hzz1, hzz2⟩ := info_parts info_ints
    obtain ⟨j0, hj, hyy0, hyy1, hyy2⟩ := info_parts info_int
    have HN5 := Lib.hid f2
    have hsb : (s == (2 : Int) ^ n - 1) = false := by simpa using hsw
    have hwr : wrap64 (wrap64 ((2 : Int) ^ n) - 1) = 2 ^ n - 1 := by
      have h5 := HN5.out
      obtain rfl | rfl | rfl | rfl | rfl : n = 1 ∨ n = 2 ∨ n = 3 ∨ n = 4 ∨ n = 5 := by omega
      all_goals decide +kernel
    go_enter Tryd.func27, Tryd.ntmps27
    go_wp2_with fail
    refine (HIS.out _ (by (repeat' (first | (with_reducible exact Below.refl _ _) | (with_reducible assumption) | (with_reducible refine Below.alloc ?_ ?_ _) | (with_reducible refine Below.drew ?_) | (with_reducible refine below_drewN ?_ _) | (with_reducible refine Below.setCell ?_ ?_ _) | (with_reducible refine Below.trans ?_ (Below.mono (by with_reducible assumption) ?_)) | (with_reducible exact Below.size (by with_reducible assumption)) | go_size)))).mono ?_; rintro e w1 ⟨rfl, hb1⟩
    have hw1 : Below w.heap.size w w1 := by (repeat' (first | (with_reducible exact Below.refl _ _) | (with_reducible assumption) | (with_reducible refine Below.alloc ?_ ?_ _) | (with_reducible refine Below.drew ?_) | (with_reducible refine below_drewN ?_ _) | (with_reducible refine Below.setCell ?_ ?_ _) | (with_reducible refine Below.trans ?_ (Below.mono (by with_reducible assumption) ?_)) | (with_reducible exact Below.size (by with_reducible assumption)) | go_size))
    have yq1 : w1.cell? ⟨w.heap.size, 1, none⟩ = some (.slice a2 n c2) := (hb1.cell (p := ⟨w.heap.size, 1, none⟩) (by simp)).trans (by simp)
    have yq0 : w1.cell? ⟨w.heap.size, 0, none⟩ = some (.slice a1 n c1) := (hb1.cell (p := ⟨w.heap.size, 0, none⟩) (by simp)).trans (by simp)
    have hl1 : w.heap.size < w1.heap.size := by have := hb1.size; simp at this; omega
    go_wp2_with fail
    refine (HDO.out _ hw1).mono ?_; rintro e w2 ⟨a, k, a', k', us, rfl, hM, hb2⟩
    have hw2 : Below w.heap.size w w2 := hw1.trans (hb2.mono hw1.size)
    obtain ⟨bR, oR, cR, hv, hbR, hcell⟩ := rowsI_at (hM.rows.rows.rows' HRI.out) f1
    rw [tab_length] at hv
    rw [tab_length]
    simp only [Value.slice.injEq] at hv
    obtain ⟨rfl, _, rfl⟩ := hv
    have HCE := Lib.hid hcell
    have yq2 := (hb2.cell (p := ⟨w.heap.size, 1, none⟩) hl1).trans yq1
    have hl2 : w.heap.size < w2.heap.size := Nat.lt_of_lt_of_le hl1 hb2.size
    clear hM hcell hb1 hb2 yq1 yq0 HDO HIS
    go_wp2_with fail
    obtain ⟨W0, hW0⟩ : ∃ W0, (w2.alloc (.cells #[.int .i64 D, .slice (some ⟨bR, oR, none⟩) n k, .slice a' S.length k'] 28)) = W0 := ⟨_, rfl⟩
    have hB0 : Below w2.heap.size w2 W0 := by rw [← hW0]; exact (Below.refl _ _).alloc (Nat.le_refl _) _
    have hz0 : W0.heap.size = w2.heap.size + 1 := by rw [← hW0]; simp
    have x0 : W0.cell? ⟨w2.heap.size, 0, none⟩ = some (.int .i64 D) := by rw [← hW0]; simp
    have x1 : W0.cell? ⟨w2.heap.size, 1, none⟩ = some (.slice (some ⟨bR, oR, none⟩) n k) := by rw [← hW0]; simp
    have x2 : W0.cell? ⟨w.heap.size, 1, none⟩ = some (.slice a2 n c2) := (hB0.cell (p := ⟨w.heap.size, 1, none⟩) hl2).trans yq2
    rw [hW0]
    clear hW0 yq2
    go_loopw [10, 11, 12, 13] (fun v i _ _ wr => ∃ (k : Nat) (us : List Value), k ≤ n ∧ i = .int .i64 k ∧ FreshR W0.heap.size wr v (cmpTo n f t k n) us ∧ Below W0.heap.size W0 wr) (fun _ i _ _ _ => n - (intOf i).toNat)
    case atStart => exact ⟨0, [], Nat.zero_le _, by go_num, by rw [show w2.heap.size + 1 = W0.heap.size by omega]; exact freshR_nil W0, (Below.refl _ _).alloc (Nat.le_refl _) _⟩
    case round =>
      obtain ⟨i, us, hin, rfl, hF, hB⟩ := hrel
      have y1 := (hB.cell (p := ⟨w2.heap.size, 1, none⟩) (by show w2.heap.size < _; omega)).trans x1
      have y2 := (hB.cell (p := ⟨w.heap.size, 1, none⟩) (by show w.heap.size < _; omega)).trans x2
      by_cases hlt : i < n
      · have HF := Lib.hid hF
        clear hF
        obtain ⟨W1, rfl⟩ : ∃ W1, W1 = wr := ⟨_, rfl⟩
        have HB := Lib.hid hB
        have hzr := hB.size
        have hi5 : i < 5 := by have := HN5.out; omega
        clear hB
        rcases HBC.out i with ⟨hb0, hbf⟩ | ⟨hb1, hbt⟩
        · have htk : bit t i = true := by rw [HBT.out i hlt, hbf]; rfl
          have HTK := Lib.hid htk
          clear hbf htk
          go_wp2_with fail
          go_loopw [12, 13] (fun v c wi => ∃ j : Nat, j ≤ n ∧ c = .int .i64 j ∧ FreshI W1.heap.size wi v (cmpR n f t i j) ∧ Below W1.heap.size W1 wi) (fun _ c _ => n - (intOf c).toNat)
          case atStart => exact ⟨0, Nat.zero_le _, by go_num, freshI_nil W1, (Below.refl _ _).alloc (Nat.le_refl _) _⟩
          case round =>
            obtain ⟨j, hjn, rfl, hI, hBI⟩ := hrel
            have z1 := (hBI.cell (p := ⟨w2.heap.size, 1, none⟩) (by show w2.heap.size < _; omega)).trans y1
            have z2 := (hBI.cell (p := ⟨w.heap.size, 1, none⟩) (by show w.heap.size < _; omega)).trans y2
            have hzi := hBI.size
            by_cases hltj : j < n
            · have hj5 : j < 5 := by have := HN5.out; omega
              rcases HBC.out j with ⟨hc0, hcf⟩ | ⟨hc1, hct⟩
              · obtain ⟨bi, oi, ci, d1, hbi, _, d2⟩ := HCE.out i hlt
                have hWr : Below w2.heap.size w2 wr := hB0.trans ((HB.out.trans (hBI.mono hzr)).mono (by omega))
                have d3 := (hWr.cell (p := ⟨bR, oR + i, none⟩) hbR).trans d1
                have d4 := (hWr.cell (p := ⟨bi, oi + j, none⟩) hbi).trans (d2 j hltj)
                have HTJ := Lib.hid (show bit t j = true by rw [HBT.out j hltj, hcf]; rfl)
                have how := hI.owns
                obtain ⟨L, hL⟩ : ∃ L, L = (cmpR n f t i j).length := ⟨_, rfl⟩
                have hL5 : L ≤ 5 := by have := cmpR_len n f t i j; omega
                rw [← hL] at how
                have HL := Lib.hid hL
                have HOW := Lib.hid how
                have HI := Lib.hid hI
                have HBI := Lib.hid hBI
                clear how hI hBI hcf d1 d2 hWr hL
                generalize hfe : f i j = X at *
                have HFE := Lib.hid hfe
                clear hfe
                go_wp2_with (at_builtin; refine wpList_append_lies _ rfl _ _ 23 rfl 0 2 j0 (.int .i64 0) 1 8 Tryd.underlying23 hj hyy0 hyy1 hyy2 rfl (by decide) u12 L _ rfl ((HOW.out).alloc _) _ 1 _ [.int .i64 X] rfl rfl (cell_one_new _ _ _) (by simp [Value.oneCell']) (by decide) (by unfold maxLen; omega) (by omega) (Nat.zero_le _) _ rfl ?_; intro g cap w3 hown hgrow hat hgl)
                have hpu := HI.out.push (by omega) HL.out hown hat hgl
                have hgr := HI.out.grow HBI.out (by have := HBI.out.size; omega) hgrow
                rw [← HFE.out, ← cmpR_take hltj HTJ.out] at hpu
                have HPU := Lib.hid hpu
                have HGR := Lib.hid hgr
                clear hpu hgr hown hgrow hat hgl
                go_wp2_with fail
                go_roundw
                case rel => exact ⟨j + 1, by omega, by go_num, HPU.out, HGR.out⟩
                case measure => simp [intOf]; omega
              · have hsk : cmpR n f t i (j + 1) = cmpR n f t i j := cmpR_skip (by rw [HBT.out j hltj, hct]; rfl)
                rw [← hsk] at hI
                have HI := Lib.hid hI
                have HBI := Lib.hid hBI
                clear hI hBI hct hsk
                go_wp2_with fail
                go_roundw
                case rel => exact ⟨j + 1, by omega, by go_num, HI.out, HBI.out⟩
                case measure => simp [intOf]; omega
            · obtain rfl : j = n := by omega
              obtain ⟨gu, cu, hgu, hgu1, hgu2, hguo⟩ := id hI
              subst hgu
              have hFw := HF.out.below hBI
              obtain ⟨L, hL⟩ : ∃ L, L = (cmpTo j f t i j).length := ⟨_, rfl⟩
              have hL5 : L ≤ 5 := by have := cmpTo_len j f t i j; omega
              obtain ⟨Lr, hLr⟩ : ∃ Lr, Lr = (cmpR j f t i j).length := ⟨_, rfl⟩
              have how : wr.ownsRow 0 23 1 u10 L us := by
                have := hFw.own.top
                rwa [← hL] at this
              have HI : Hid (FreshI W1.heap.size wr (.slice (some ⟨gu, 0, none⟩) Lr cu) (cmpR j f t i j)) := Lib.hid (by rw [hLr]; exact hI)
              rw [← hLr]
              have HL := Lib.hid hL
              have HOW := Lib.hid how
              have HBI := Lib.hid hBI
              clear hI hBI how hFw hguo hgu1 hgu2 hL hLr
              go_wp2_with (at_builtin; refine wpList_append_lies _ rfl _ _ 22 rfl 0 23 i0 (.slice none 0 0) 1 24 Tryd.underlying22 hi hzz0 hzz1 hzz2 rfl (by decide) u10 L us rfl ((HOW.out).alloc _) _ 1 _ [.slice (some ⟨gu, 0, none⟩) Lr cu] rfl rfl (cell_one_new _ _ _) (by simp [Value.oneCell']) (by decide) (by unfold maxLen; omega) (by omega) (Nat.zero_le _) _ rfl ?_; intro g cap w3 hown hgrow hat hgl)
              have hall : Below wr.heap.size wr (wr.alloc (.cells #[.slice (some ⟨gu, 0, none⟩) Lr cu] 23)) := (Below.refl _ _).alloc (Nat.le_refl _) _
              rw [HL.out] at hown
              have hpu := HF.out.push hzr ((HI.out).below hall) (HBI.out.trans (hall.mono hzi)) hown hgrow hat hgl
              have hgr : Below W0.heap.size W0 w3 := by
                obtain ⟨gv, cv, hv, hv1, hv2⟩ := HF.out.top
                exact ((HB.out.trans (HBI.out.mono hzr)).alloc (by omega) _).grown hgrow (by simp; omega) (fun b hb' => by rw [hv] at hb'; simp [Value.ownBlock] at hb'; omega)
              rw [← cmpTo_take hlt HTK.out, ← HL.out] at hpu
              have HPU := Lib.hid hpu
              have HGR := Lib.hid hgr
              clear hpu hgr hown hgrow hat hgl hall
              go_wp2_with fail
              go_roundw
              case rel => exact ⟨i + 1, _, by omega, by go_num, HPU.out, HGR.out⟩
              case measure => simp [intOf]; omega
        · have hsk : cmpTo n f t (i + 1) n = cmpTo n f t i n := cmpTo_skip (by rw [HBT.out i hlt, hbt]; rfl)
          have HF1 : Hid (FreshR W0.heap.size W1 u10 (cmpTo n f t (i + 1) n) us) := Lib.hid (by rw [hsk]; exact HF.out)
          clear hbt hsk
          go_wp2_with fail
          go_roundw
          case rel => exact ⟨i + 1, us, by omega, by go_num, HF1.out, HB.out⟩
          case measure => simp [intOf]; omega
      · obtain rfl : i = n := by omega
        obtain ⟨gv, cv, hv, hv1, hv2⟩ := id hF.top
        subst hv
        have y0 := (hB.cell (p := ⟨w2.heap.size, 0, none⟩) (by show w2.heap.size < _; omega)).trans x0
        have HF := Lib.hid hF
        have HB := Lib.hid hB
        clear hF hB
        go_wp2_with fail
        go_quiet (fail)
        go_wp2_with fail
        go_ret3
        refine ⟨_, cv, us, rfl, ?_, ?_⟩
        · exact (HF.out.below (below_drewN (Below.refl _ _) _)).ownRs.mono (by omega)
        · exact below_drewN (hw2.trans ((hB0.trans (HB.out.mono (by omega))).mono hw2.size)) _
theorem sum_len_le (m : Nat) : ∀ (xss : List (List Int)), (∀ x ∈ xss, x.length ≤ m) → (xss.map List.length).sum ≤ xss.length * m
  | [], _ => by simp
  | x :: xs, h => by
    have h1 := h x (by simp)
    have h2 := sum_len_le m xs (fun y hy => h y (by simp [hy]))
    rw [List.map_cons, List.sum_cons, List.length_cons, Nat.succ_mul]
    omega
theorem fineR_of {xss : List (List Int)} {n : Nat} (hn : n ≤ 100) (h1 : xss.length ≤ n) (h2 : ∀ x ∈ xss, x.length ≤ n) (h3 : ∀ x ∈ xss, ∀ y ∈ x, I64 y) : FineR xss := by
  refine ⟨fun j hj x hx => ?_, ?_⟩
  · rw [show xss.getD j [] = xss[j] from by simp [hj]] at hx
    exact h3 _ (List.getElem_mem hj) x hx
  · have := sum_len_le n xss h2
    have h4 : xss.length * n ≤ 100 * 100 := Nat.mul_le_mul (by omega) hn
    unfold PM.tot
    omega
theorem cmp_fine {n : Nat} {f : Nat → Nat → Int} {t : Int} (hn : n ≤ 5) (h : ∀ i k, Bd 1920000000 (f i k)) : FineR (cmpL n f t) := by
  refine fineR_of (n := 5) (by omega) (Nat.le_trans (cmpTo_len n f t n n) hn) (fun x hx => ?_) (fun x hx y hy => ?_)
  · unfold cmpL cmpTo at hx
    simp only [List.mem_map] at hx
    obtain ⟨a, _, rfl⟩ := hx
    exact Nat.le_trans (cmpR_len n f t a n) hn
  · unfold cmpL cmpTo at hx
    simp only [List.mem_map] at hx
    obtain ⟨a, _, rfl⟩ := hx
    simp only [List.mem_map] at hy
    obtain ⟨b, _, rfl⟩ := hy
    have := h a b
    unfold Bd at this
    show -9223372036854775808 ≤ _ ∧ _ ≤ 9223372036854775807
    omega
theorem fine_cm (M : List (List Int)) (Q : List Int) (s : Int) : FineR (cmOut M Q s).1 := by
  rcases setCode_cases M Q s with h | h | ⟨h, hp, _⟩
  · rw [cmOut_e1 h (by decide)]; exact fineR_nil
  · rw [cmOut_e1 h (by decide)]; exact fineR_nil
  · by_cases hs : s = 2 ^ M.length - 1
    · rw [cmOut_e2 h hs]; exact fineR_nil
    · by_cases hm : dt M.length (colS M s) = 0
      · rw [cmOut_e5 h hs hm]; exact fineR_nil
      · rw [cmOut_ok h hs hm]; exact cmp_fine (isPB_facts hp).2.1 (fun i k => pvR_bd hp s i k)
set_option maxHeartbeats 4000000 in
theorem law_FnExactComplementOf (m q : Value) (M : List (List Int)) (Q : List Int) (s : Int) (w : World) (hG : Glob w) (h1 : PM.Rows w m M) (h2 : Ints w q Q) :
    Calls Tryd.prog 7 #[.agg #[m, q], .int .i64 s] w fun e w' => e = .returned (.bool true) ∧ Below w.heap.size w w' := by
  have g1 := fun (w' : World) (h : Below w.heap.size w w') => h1.below h
  have gl := fun (w' : World) (h : Below w.heap.size w w') => hG.below h
  clear hG
  have g2 := fun (w' : World) (h : Below w.heap.size w w') => h2.below h
  have I1 := Lib.hid (rows_I64 h1)
  have I2 := Lib.hid (ints_I64 h2)
  obtain ⟨a1, c1, rfl, _⟩ := h1
  obtain ⟨a2, c2, rfl, _⟩ := h2
  by_cases hz : szP M Q 1048576 < 0
  · have e1 := szP_neg hz
    have E1 := Lib.hid e1
    clear hz e1
    go_enter Tryd.func7, Tryd.ntmps7
    go_wp2_with fail
    refine (szProblem_any _ _ M Q _ (g1 _ (by (repeat' (first | (with_reducible exact Below.refl _ _) | (with_reducible assumption) | (with_reducible refine Below.alloc ?_ ?_ _) | (with_reducible refine Below.drew ?_) | (with_reducible refine below_drewN ?_ _) | (with_reducible refine Below.setCell ?_ ?_ _) | (with_reducible refine Below.trans ?_ (Below.mono (by with_reducible assumption) ?_)) | (with_reducible exact Below.size (by with_reducible assumption)) | go_size)))) (g2 _ (by (repeat' (first | (with_reducible exact Below.refl _ _) | (with_reducible assumption) | (with_reducible refine Below.alloc ?_ ?_ _) | (with_reducible refine Below.drew ?_) | (with_reducible refine below_drewN ?_ _) | (with_reducible refine Below.setCell ?_ ?_ _) | (with_reducible refine Below.trans ?_ (Below.mono (by with_reducible assumption) ?_)) | (with_reducible exact Below.size (by with_reducible assumption)) | go_size))))).mono ?_; rw [E1.out]; rintro e w1 ⟨rfl, hb1⟩; obtain ⟨hc_hb1, hf_hb1⟩ := bcell hb1; obtain ⟨hcA_hb1, hfA_hb1⟩ := bcellG (W0 := w) hb1 (by (repeat' (first | (with_reducible exact Below.refl _ _) | (with_reducible assumption) | (with_reducible refine Below.alloc ?_ ?_ _) | (with_reducible refine Below.drew ?_) | (with_reducible refine below_drewN ?_ _) | (with_reducible refine Below.setCell ?_ ?_ _) | (with_reducible refine Below.trans ?_ (Below.mono (by with_reducible assumption) ?_)) | (with_reducible exact Below.size (by with_reducible assumption)) | go_size))); have hz_hb1 := hb1.size; (try simp at hz_hb1); (try simp only [Nat.add_one_le_iff] at hz_hb1); have hz0_hb1 : w.heap.size < w1.heap.size := (by omega)
    go_wp2_with fail
    go_ret
    refine ⟨rfl, ?_⟩
    (repeat' (first | (with_reducible exact Below.refl _ _) | (with_reducible assumption) | (with_reducible refine Below.alloc ?_ ?_ _) | (with_reducible refine Below.drew ?_) | (with_reducible refine below_drewN ?_ _) | (with_reducible refine Below.setCell ?_ ?_ _) | (with_reducible refine Below.trans ?_ (Below.mono (by with_reducible assumption) ?_)) | (with_reducible exact Below.size (by with_reducible assumption)) | go_size))
  obtain ⟨hn1, hn2⟩ := szP_fits hz
  have hle := szP_le M Q
  have HN1 := Lib.hid hn1
  have HN2 := Lib.hid hn2
  clear hn1 hn2
  have hspec := fun (m q : Value) (w : World) (h1 : PM.Rows w m M) (h2 : Ints w q Q) => specComplementOf_any m q M Q s w h1 h2
  have himpl := fun (m q : Value) (w : World) (hg : Glob w) (h1 : PM.Rows w m M) (h2 : Ints w q Q) => implComplementOf_any m q M Q s w hg h1 h2
  have hfine := fine_cm M Q s
  generalize cmOut M Q s = o at *
  obtain ⟨O, dn, code⟩ := o
  have HS := Lib.hid hspec
  have HI := Lib.hid himpl
  have HF : Hid (FineR O) := Lib.hid hfine
  clear hspec himpl hfine
  go_enter Tryd.func7, Tryd.ntmps7
  go_wp2_with fail
  refine (szProblem_any _ _ M Q _ (g1 _ (by (repeat' (first | (with_reducible exact Below.refl _ _) | (with_reducible assumption) | (with_reducible refine Below.alloc ?_ ?_ _) | (with_reducible refine Below.drew ?_) | (with_reducible refine below_drewN ?_ _) | (with_reducible refine Below.setCell ?_ ?_ _) | (with_reducible refine Below.trans ?_ (Below.mono (by with_reducible assumption) ?_)) | (with_reducible exact Below.size (by with_reducible assumption)) | go_size)))) (g2 _ (by (repeat' (first | (with_reducible exact Below.refl _ _) | (with_reducible assumption) | (with_reducible refine Below.alloc ?_ ?_ _) | (with_reducible refine Below.drew ?_) | (with_reducible refine below_drewN ?_ _) | (with_reducible refine Below.setCell ?_ ?_ _) | (with_reducible refine Below.trans ?_ (Below.mono (by with_reducible assumption) ?_)) | (with_reducible exact Below.size (by with_reducible assumption)) | go_size))))).mono ?_; rintro e w1 ⟨rfl, hb1⟩; obtain ⟨hc_hb1, hf_hb1⟩ := bcell hb1; obtain ⟨hcA_hb1, hfA_hb1⟩ := bcellG (W0 := w) hb1 (by (repeat' (first | (with_reducible exact Below.refl _ _) | (with_reducible assumption) | (with_reducible refine Below.alloc ?_ ?_ _) | (with_reducible refine Below.drew ?_) | (with_reducible refine below_drewN ?_ _) | (with_reducible refine Below.setCell ?_ ?_ _) | (with_reducible refine Below.trans ?_ (Below.mono (by with_reducible assumption) ?_)) | (with_reducible exact Below.size (by with_reducible assumption)) | go_size))); have hz_hb1 := hb1.size; (try simp at hz_hb1); (try simp only [Nat.add_one_le_iff] at hz_hb1); have hz0_hb1 : w.heap.size < w1.heap.size := (by omega)
  generalize szP M Q 1048576 = left at *
  have hw1 : Below w.heap.size w w1 := by (repeat' (first | (with_reducible exact Below.refl _ _) | (with_reducible assumption) | (with_reducible refine Below.alloc ?_ ?_ _) | (with_reducible refine Below.drew ?_) | (with_reducible refine below_drewN ?_ _) | (with_reducible refine Below.setCell ?_ ?_ _) | (with_reducible refine Below.trans ?_ (Below.mono (by with_reducible assumption) ?_)) | (with_reducible exact Below.size (by with_reducible assumption)) | go_size))
  go_wp2_with fail
  refine (toProblem_out _ _ M Q _ (g1 _ (by (repeat' (first | (with_reducible exact Below.refl _ _) | (with_reducible assumption) | (with_reducible refine Below.alloc ?_ ?_ _) | (with_reducible refine Below.drew ?_) | (with_reducible refine below_drewN ?_ _) | (with_reducible refine Below.setCell ?_ ?_ _) | (with_reducible refine Below.trans ?_ (Below.mono (by with_reducible assumption) ?_)) | (with_reducible exact Below.size (by with_reducible assumption)) | go_size)))) (g2 _ (by (repeat' (first | (with_reducible exact Below.refl _ _) | (with_reducible assumption) | (with_reducible refine Below.alloc ?_ ?_ _) | (with_reducible refine Below.drew ?_) | (with_reducible refine below_drewN ?_ _) | (with_reducible refine Below.setCell ?_ ?_ _) | (with_reducible refine Below.trans ?_ (Below.mono (by with_reducible assumption) ?_)) | (with_reducible exact Below.size (by with_reducible assumption)) | go_size)))) HN1.out HN2.out).mono ?_; rintro e w2 ⟨gA, gB, us2, rfl, hr2, hb2⟩; obtain ⟨hc_hb2, hf_hb2⟩ := bcell hb2; obtain ⟨hcA_hb2, hfA_hb2⟩ := bcellG (W0 := w1) hb2 (by (repeat' (first | (with_reducible exact Below.refl _ _) | (with_reducible assumption) | (with_reducible refine Below.alloc ?_ ?_ _) | (with_reducible refine Below.drew ?_) | (with_reducible refine below_drewN ?_ _) | (with_reducible refine Below.setCell ?_ ?_ _) | (with_reducible refine Below.trans ?_ (Below.mono (by with_reducible assumption) ?_)) | (with_reducible exact Below.size (by with_reducible assumption)) | go_size))); have hz_hb2 := hb2.size; (try simp at hz_hb2); (try simp only [Nat.add_one_le_iff] at hz_hb2); have hz0_hb2 : w.heap.size < w2.heap.size := (by omega)
  have R2 := Lib.hid (hr2.reads I1.out I2.out)
  clear hr2
  have hw2 : Below w.heap.size w w2 := hw1.trans (hb2.mono hw1.size)
  go_wp2_with fail
  refine (HS.out _ _ _ R2.out.1 R2.out.2).mono ?_; rintro e w3 ho3; obtain ⟨a3, c3, rfl, hr3, hb3⟩ := ho3.out; clear ho3; dsimp only at hr3; dsimp only; obtain ⟨hc_hb3, hf_hb3⟩ := bcell hb3; obtain ⟨hcA_hb3, hfA_hb3⟩ := bcellG (W0 := w2) hb3 (by (repeat' (first | (with_reducible exact Below.refl _ _) | (with_reducible assumption) | (with_reducible refine Below.alloc ?_ ?_ _) | (with_reducible refine Below.drew ?_) | (with_reducible refine below_drewN ?_ _) | (with_reducible refine Below.setCell ?_ ?_ _) | (with_reducible refine Below.trans ?_ (Below.mono (by with_reducible assumption) ?_)) | (with_reducible exact Below.size (by with_reducible assumption)) | go_size))); have hz_hb3 := hb3.size; (try simp at hz_hb3); (try simp only [Nat.add_one_le_iff] at hz_hb3); have hz0_hb3 : w.heap.size < w3.heap.size := (by omega)
  have HR3 := Lib.hid hr3
  clear hr3 R2
  have hw3 : Below w.heap.size w w3 := hw2.trans (hb3.mono hw2.size)
  go_wp2_with fail
  refine (toProblem_out _ _ M Q _ (g1 _ (by (repeat' (first | (with_reducible exact Below.refl _ _) | (with_reducible assumption) | (with_reducible refine Below.alloc ?_ ?_ _) | (with_reducible refine Below.drew ?_) | (with_reducible refine below_drewN ?_ _) | (with_reducible refine Below.setCell ?_ ?_ _) | (with_reducible refine Below.trans ?_ (Below.mono (by with_reducible assumption) ?_)) | (with_reducible exact Below.size (by with_reducible assumption)) | go_size)))) (g2 _ (by (repeat' (first | (with_reducible exact Below.refl _ _) | (with_reducible assumption) | (with_reducible refine Below.alloc ?_ ?_ _) | (with_reducible refine Below.drew ?_) | (with_reducible refine below_drewN ?_ _) | (with_reducible refine Below.setCell ?_ ?_ _) | (with_reducible refine Below.trans ?_ (Below.mono (by with_reducible assumption) ?_)) | (with_reducible exact Below.size (by with_reducible assumption)) | go_size)))) HN1.out HN2.out).mono ?_; rintro e w4 ⟨gC, gD, us4, rfl, hr4, hb4⟩; obtain ⟨hc_hb4, hf_hb4⟩ := bcell hb4; obtain ⟨hcA_hb4, hfA_hb4⟩ := bcellG (W0 := w3) hb4 (by (repeat' (first | (with_reducible exact Below.refl _ _) | (with_reducible assumption) | (with_reducible refine Below.alloc ?_ ?_ _) | (with_reducible refine Below.drew ?_) | (with_reducible refine below_drewN ?_ _) | (with_reducible refine Below.setCell ?_ ?_ _) | (with_reducible refine Below.trans ?_ (Below.mono (by with_reducible assumption) ?_)) | (with_reducible exact Below.size (by with_reducible assumption)) | go_size))); have hz_hb4 := hb4.size; (try simp at hz_hb4); (try simp only [Nat.add_one_le_iff] at hz_hb4); have hz0_hb4 : w.heap.size < w4.heap.size := (by omega)
  have HR4 := Lib.hid hr4
  clear hr4
  have hw4 : Below w.heap.size w w4 := hw3.trans (hb4.mono hw3.size)
  go_wp2_with fail
  have hr4a := HR4.out.below (w' := w4.alloc (.cells #[.slice (some ⟨gC, 0, none⟩) M.length M.length, .slice (some ⟨gD, 0, none⟩) Q.length Q.length] 31)) (B := w4.heap.size) ((Below.refl _ _).alloc (Nat.le_refl _) _) (Nat.le_refl _)
  have R4 := Lib.hid (hr4a.reads I1.out I2.out)
  clear hr4a
  refine (HI.out _ _ _ (gl _ (by (repeat' (first | (with_reducible exact Below.refl _ _) | (with_reducible assumption) | (with_reducible refine Below.alloc ?_ ?_ _) | (with_reducible refine Below.drew ?_) | (with_reducible refine below_drewN ?_ _) | (with_reducible refine Below.setCell ?_ ?_ _) | (with_reducible refine Below.trans ?_ (Below.mono (by with_reducible assumption) ?_)) | (with_reducible exact Below.size (by with_reducible assumption)) | go_size)))) R4.out.1 R4.out.2).mono ?_; rintro e w5 ho5; obtain ⟨a5, c5, rfl, hr5, hb5⟩ := ho5.out; clear ho5; dsimp only at hr5; dsimp only; obtain ⟨hc_hb5, hf_hb5⟩ := bcell hb5; obtain ⟨hcA_hb5, hfA_hb5⟩ := bcellG (W0 := w4) hb5 (by (repeat' (first | (with_reducible exact Below.refl _ _) | (with_reducible assumption) | (with_reducible refine Below.alloc ?_ ?_ _) | (with_reducible refine Below.drew ?_) | (with_reducible refine below_drewN ?_ _) | (with_reducible refine Below.setCell ?_ ?_ _) | (with_reducible refine Below.trans ?_ (Below.mono (by with_reducible assumption) ?_)) | (with_reducible exact Below.size (by with_reducible assumption)) | go_size))); have hz_hb5 := hb5.size; (try simp at hz_hb5); (try simp only [Nat.add_one_le_iff] at hz_hb5); have hz0_hb5 : w.heap.size < w5.heap.size := (by omega)
  have hz45 : w4.heap.size < w5.heap.size := by omega
  have HR5 := Lib.hid hr5
  clear hr5 R4
  have hw45 : Below w4.heap.size w4 w5 := ((Below.refl w4.heap.size w4).alloc (Nat.le_refl _) _).trans (hb5.mono (by simp))
  have x50 : w5.cell? ⟨w4.heap.size, 0, none⟩ = some (.slice (some ⟨gC, 0, none⟩) M.length M.length) := by rw [hc_hb5 _ _ (by simp)]; simp
  have x51 : w5.cell? ⟨w4.heap.size, 1, none⟩ = some (.slice (some ⟨gD, 0, none⟩) Q.length Q.length) := by rw [hc_hb5 _ _ (by simp)]; simp
  have hw13 : Below w1.heap.size w1 w3 := hb2.trans (hb3.mono hb2.size)
  have hw35 : Below w3.heap.size w3 w5 := hb4.trans (hw45.mono hb4.size)
  have hw15 : Below w1.heap.size w1 w5 := hw13.trans (hw35.mono hw13.size)
  have hw5 : Below w.heap.size w w5 := hw3.trans (hw35.mono hw3.size)
  have p10 : w1.cell? ⟨w.heap.size, 0, none⟩ = some (.slice a1 M.length c1) := by rw [hc_hb1 _ _ (by simp)]; simp
  have p11 : w1.cell? ⟨w.heap.size, 1, none⟩ = some (.slice a2 Q.length c2) := by rw [hc_hb1 _ _ (by simp)]; simp
  have hvq : Vq w5 w.heap.size w4.heap.size (.slice a1 M.length c1) (.slice a2 Q.length c2) (.slice (some ⟨gC, 0, none⟩) M.length M.length) (.slice (some ⟨gD, 0, none⟩) Q.length Q.length) :=
    ⟨(hw15.cell (p := ⟨w.heap.size, 0, none⟩) hz0_hb1).trans p10, (hw15.cell (p := ⟨w.heap.size, 1, none⟩) hz0_hb1).trans p11, x50, x51, by omega, hz45⟩
  have hA5 := HR3.out.below hw35 (Nat.le_refl _)
  have hX5 := HR4.out.below hw45 (Nat.le_refl _)
  have hG5 := HR5.out
  rw [show (w4.alloc (.cells #[.slice (some ⟨gC, 0, none⟩) M.length M.length, .slice (some ⟨gD, 0, none⟩) Q.length Q.length] 31)).heap.size = w4.heap.size + 1 by simp] at hG5
  have hPA : w.heap.size < w2.heap.size := by omega
  obtain ⟨P, hP⟩ : ∃ P, P = w.heap.size := ⟨_, rfl⟩
  obtain ⟨A0, hA0⟩ : ∃ A0, A0 = w2.heap.size := ⟨_, rfl⟩
  obtain ⟨A1, hA1⟩ : ∃ A1, A1 = w3.heap.size := ⟨_, rfl⟩
  obtain ⟨V, hV⟩ : ∃ V, V = w4.heap.size := ⟨_, rfl⟩
  have hAV : A0 ≤ A1 ∧ A1 ≤ V := by have := hb3.size; have := hb4.size; omega
  obtain ⟨hAV1, hAV2⟩ := hAV
  obtain ⟨G1, hG1⟩ : ∃ G1, G1 = w5.heap.size := ⟨_, rfl⟩
  have hGz : G1 ≤ w5.heap.size := by omega
  have hVG : V < G1 := by omega
  rw [← hP] at hvq hPA
  rw [← hA0] at hA5 hPA
  rw [← hA1] at hA5 hX5
  rw [← hV] at hX5 hG5 hvq hz45
  rw [← hG1] at hG5
  rw [← hP, ← hV]
  have hPw : P ≤ w.heap.size := by omega
  have hwP : w.heap.size ≤ P := by omega
  clear hP hA0 hA1 hV hG1 hw13 hw15 hw35 hw45 p10 p11 x50 x51 HR3 HR4 HR5 hw1 hw2 hw3 hw4 HS
  clear hc_hb1 hf_hb1 hcA_hb1 hfA_hb1 hz_hb1 hz0_hb1 hb1 hc_hb2 hf_hb2 hcA_hb2 hfA_hb2 hz_hb2 hz0_hb2 hb2 hc_hb3 hf_hb3 hcA_hb3 hfA_hb3 hz_hb3 hz0_hb3 hb3 hc_hb4 hf_hb4 hcA_hb4 hfA_hb4 hz_hb4 hz0_hb4 hb4 hc_hb5 hf_hb5 hcA_hb5 hfA_hb5 hz_hb5 hz0_hb5 hb5
  have HA5 := Lib.hid hA5
  have HX5 := Lib.hid hX5
  have HG5 := Lib.hid hG5
  have HV5 := Lib.hid hvq
  clear hA5 hX5 hG5 hvq
  go_wp2_with fail
  refine (eqR_ans HG5.out HA5.out HF.out).mono ?_; rintro e w6 ⟨rfl, hb6⟩
  have hw6 : Below w.heap.size w w6 := hw5.trans (hb6.mono hw5.size)
  have hz6 := hb6.size
  have HA := Lib.hid (HA5.out.below hb6 (by omega))
  have HX := Lib.hid (HX5.out.below hb6 (by omega))
  have HG := Lib.hid (HG5.out.below hb6 (by omega))
  have hv6 := HV5.out.next hb6
  have HV := Lib.hid hv6
  have hGz6 : G1 ≤ w6.heap.size := by omega
  have RX := Lib.hid (HX.out.reads I1.out I2.out)
  obtain ⟨k1, k2, k3, k4, l1, l2⟩ := hv6
  have r1 : ∀ w', Below w6.heap.size w6 w' → w'.cell? ⟨P, 0, none⟩ = some (.slice a1 M.length c1) := fun w' h => (h.cell (p := ⟨P, 0, none⟩) (by show P < _; omega)).trans k1
  have r2 : ∀ w', Below w6.heap.size w6 w' → w'.cell? ⟨P, 1, none⟩ = some (.slice a2 Q.length c2) := fun w' h => (h.cell (p := ⟨P, 1, none⟩) (by show P < _; omega)).trans k2
  have r3 : ∀ w', Below w6.heap.size w6 w' → w'.cell? ⟨V, 0, none⟩ = some (.slice (some ⟨gC, 0, none⟩) M.length M.length) := fun w' h => (h.cell (p := ⟨V, 0, none⟩) (by show V < _; omega)).trans k3
  have r4 : ∀ w', Below w6.heap.size w6 w' → w'.cell? ⟨V, 1, none⟩ = some (.slice (some ⟨gD, 0, none⟩) Q.length Q.length) := fun w' h => (h.cell (p := ⟨V, 1, none⟩) (by show V < _; omega)).trans k4
  clear HA5 HX5 HG5 HV5 hb6 hw5 hGz hz6 k1 k2 k3 k4 hz45
  go_wp2_with fail
  go_region_held3 (fun w' => Below w6.heap.size w6 w') ((repeat' (first | (with_reducible exact Below.refl _ _) | (with_reducible assumption) | (with_reducible refine Below.alloc ?_ ?_ _) | (with_reducible refine Below.drew ?_) | (with_reducible refine below_drewN ?_ _) | (with_reducible refine Below.setCell ?_ ?_ _) | (with_reducible refine Below.trans ?_ (Below.mono (by with_reducible assumption) ?_)) | (with_reducible exact Below.size (by with_reducible assumption)) | go_size)))
    (first | (go_at_call 13; refine (toProblem_out _ _ M Q _ (g1 _ (hw6.trans (Below.mono (by assumption) hw6.size))) (g2 _ (hw6.trans (Below.mono (by assumption) hw6.size))) HN1.out HN2.out).mono ?_; rintro e w8 ⟨gE, gF, us8, rfl, hr8, hb8⟩; have hS8 : Below w6.heap.size w6 w8 := (by (repeat' (first | (with_reducible exact Below.refl _ _) | (with_reducible assumption) | (with_reducible refine Below.alloc ?_ ?_ _) | (with_reducible refine Below.drew ?_) | (with_reducible refine below_drewN ?_ _) | (with_reducible refine Below.setCell ?_ ?_ _) | (with_reducible refine Below.trans ?_ (Below.mono (by with_reducible assumption) ?_)) | (with_reducible exact Below.size (by with_reducible assumption)) | go_size))); have R8 := Lib.hid (hr8.reads I1.out I2.out); clear hr8) | (go_at_call 16; refine (eqProblem_same _ _ _ _ M Q _ (RX.out.1.below hS8) (RX.out.2.below hS8) R8.out.1 R8.out.2).mono ?_; rintro e w9 ⟨rfl, hb9⟩; have hS9 : Below w6.heap.size w6 w9 := (by (repeat' (first | (with_reducible exact Below.refl _ _) | (with_reducible assumption) | (with_reducible refine Below.alloc ?_ ?_ _) | (with_reducible refine Below.drew ?_) | (with_reducible refine below_drewN ?_ _) | (with_reducible refine Below.setCell ?_ ?_ _) | (with_reducible refine Below.trans ?_ (Below.mono (by with_reducible assumption) ?_)) | (with_reducible exact Below.size (by with_reducible assumption)) | go_size)))))
  have x90 := r3 _ hS9
  have x91 := r4 _ hS9
  have hw9 : Below w.heap.size w w9 := hw6.trans (hS9.mono hw6.size)
  have hz9 := hS9.size
  have HX9 := Lib.hid (HX.out.below hS9 (by omega))
  have HG9 := Lib.hid (HG.out.below hS9 (by omega))
  have HA9 := Lib.hid (HA.out.below hS9 (by omega))
  have HV9 := Lib.hid (HV.out.next hS9)
  have hGz9 : G1 ≤ w9.heap.size := by omega
  have lP9 : P < w9.heap.size := by omega
  have lV9 : V < w9.heap.size := by omega
  clear HX HG HA HV RX R8 r1 r2 r3 r4 hS9 hb9 hS8 hb8 hw6 hGz6 hz9 l1 l2
  have hkb : (1 : Int) + tot M + Q.length ≤ 4611686018427387904 := by have := HN1.out; have := HN2.out; omega
  have hc10 := markProblem_any A1 V _ _ M Q us4 1 _ HX9.out (by omega) (by decide) hkb
  generalize pre M M.length = pM at hc10
  have hp0 : 0 ≤ (1 : Int) + pM + Q.length := by omega
  have HC10 := Lib.hid hc10
  clear hc10 hkb
  go_wp2_with fail
  refine HC10.out.mono ?_; rintro e w10 ⟨rfl, _, hbt10⟩
  have hsz10 := hbt10.size
  have v10 := HV9.out.bet hbt10 (.inl (by omega)) (.inr (by omega))
  have hw10 : Below w.heap.size w w10 := hw9.trans ((hbt10.below (by omega)).mono (by omega))
  have HG10 := Lib.hid (HG9.out.bet hbt10 (.inr (by omega)))
  have HA10 := Lib.hid (HA9.out.bet hbt10 (.inl (by omega)))
  have HV10 := Lib.hid v10
  have hGz10 : G1 ≤ w10.heap.size := by omega
  clear HC10 HX9 HV9 HG9 HA9 v10 hbt10 hw9 x90 x91 hGz9 hsz10 lP9 lV9
  go_wp2_with fail
  refine (eqR_ans HG10.out HA10.out HF.out).mono ?_; rintro e w11 ⟨rfl, hb11⟩
  have hsz11 := hb11.size
  have hw11 : Below w.heap.size w w11 := hw10.trans (hb11.mono hw10.size)
  have HG11 := Lib.hid (HG10.out.below hb11 (by omega))
  have HA11 := Lib.hid (HA10.out.below hb11 (by omega))
  have HV11 := Lib.hid (HV10.out.next hb11)
  have hGz11 : G1 ≤ w11.heap.size := by omega
  clear HG10 HA10 HV10 hb11 hw10 hGz10 hsz11
  have hsl := sizeR_le HF.out
  generalize hsg : sizeR O = sz at hsl
  have HSG := Lib.hid hsg
  clear hsg
  go_wp2_with fail
  refine (markR_ans HG11.out HF.out).mono ?_; rw [HSG.out]; rintro e w12 ⟨rfl, hm12, hbt12⟩
  have hsz12 := hbt12.size
  have hVz := HV11.out.lV
  have hPz := HV11.out.lP
  have hw12 : Below w.heap.size w w12 := hw11.trans ((hbt12.below (by omega)).mono (by omega))
  have HA12 := Lib.hid (HA11.out.bet hbt12 (.inl (by omega)))
  have HV12 := Lib.hid (HV11.out.bet hbt12 (.inl (by omega)) (.inl (by omega)))
  have HM12 := Lib.hid hm12
  have hGz12 : G1 ≤ w12.heap.size := by omega
  clear HG11 HA11 HV11 hm12 hbt12 hw11 hGz11 hsz12 hVz hPz
  go_wp2_with fail
  refine (heldR_ans HM12.out HF.out).mono ?_; rw [HSG.out]; rintro e w13 ⟨rfl, hb13⟩
  have hsz13 := hb13.size
  have hw13 : Below w.heap.size w w13 := hw12.trans (hb13.mono hw12.size)
  have HM13 := Lib.hid (HM12.out.below hb13 (by omega))
  have HA13 := Lib.hid (HA12.out.below hb13 (by omega))
  have v13 := HV12.out.next hb13
  have HV13 := Lib.hid v13
  obtain ⟨q1, q2, q3, q4, l1, l2⟩ := v13
  have hGz13 : G1 ≤ w13.heap.size := by omega
  clear HM12 HA12 HV12 hb13 hw12 hGz12 hsz13 q3 q4 l1 l2
  go_wp2_with fail
  refine (toProblem_out _ _ M Q _ (g1 _ hw13) (g2 _ hw13) HN1.out HN2.out).mono ?_; rintro e w14 ⟨gE, gF, us14, rfl, hr14, hb14⟩
  have hsz14 := hb14.size
  have hw14 : Below w.heap.size w w14 := hw13.trans (hb14.mono hw13.size)
  have R14 := Lib.hid (hr14.reads I1.out I2.out)
  have HM14 := Lib.hid (HM13.out.below hb14 (by omega))
  have HA14 := Lib.hid (HA13.out.below hb14 (by omega))
  have hGz14 : G1 ≤ w14.heap.size := by omega
  clear hr14 HV13 HM13 HA13 hb14 hw13 hGz13 hsz14 q1 q2
  go_wp2_with fail
  refine (HI.out _ _ _ (gl _ (by (repeat' (first | (with_reducible exact Below.refl _ _) | (with_reducible assumption) | (with_reducible refine Below.alloc ?_ ?_ _) | (with_reducible refine Below.drew ?_) | (with_reducible refine below_drewN ?_ _) | (with_reducible refine Below.setCell ?_ ?_ _) | (with_reducible refine Below.trans ?_ (Below.mono (by with_reducible assumption) ?_)) | (with_reducible exact Below.size (by with_reducible assumption)) | go_size)))) R14.out.1 R14.out.2).mono ?_; rintro e w15 ho15; obtain ⟨a15, c15, rfl, hr15, hb15⟩ := ho15.out; clear ho15; dsimp only at hr15; dsimp only
  have hsz15 := hb15.size
  have hw15 : Below w.heap.size w w15 := hw14.trans (hb15.mono hw14.size)
  have HM15 := Lib.hid (HM14.out.below hb15 (by omega))
  have HA15 := Lib.hid (HA14.out.below hb15 (by omega))
  have HH15 := Lib.hid hr15
  have hGz15 : G1 ≤ w15.heap.size := by omega
  clear hr15 HM14 HA14 hb15 hw14 hGz14 hsz15 R14
  go_wp2_with fail
  refine (eqR_ans HH15.out HA15.out HF.out).mono ?_; rintro e w16 ⟨rfl, hb16⟩
  have hw16 : Below w.heap.size w w16 := hw15.trans (hb16.mono hw15.size)
  have HM16 := Lib.hid (HM15.out.below hb16 (by omega))
  clear HM15 HA15 HH15 hb16 hw15
  go_wp2_with fail
  refine (heldR_ans HM16.out HF.out).mono ?_; rw [HSG.out]; rintro e w17 ⟨rfl, hb17⟩
  have hw17 : Below w.heap.size w w17 := hw16.trans (hb17.mono hw16.size)
  go_wp2_with fail
  go_ret
  exact ⟨rfl, hw17⟩
end Go.Proofs.YthnefjllijoobaaDoor.PW
