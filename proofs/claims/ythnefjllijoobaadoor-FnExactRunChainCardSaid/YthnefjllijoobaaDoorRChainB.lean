/-
  The exact law of RunChain: both sides' answers, and the law.
-/
import Derived.Test.YthnefjllijoobaaDoorRChain
namespace Go.Proofs.YthnefjllijoobaaDoor.PW
open Go.RowKit Go.Proofs.YthnefjllijoobaaDoor
open Go.Proofs.YthnefjllijoobaaDoor.PM Go.Proofs.YthnefjllijoobaaDoor.PX

theorem outI_none {w w' : World} {c : Int} (h : Below w.heap.size w w') : OutI w ([], c) (.returned (.tuple #[.slice none 0 0, .int .i64 c])) w' :=
  ⟨_, rfl, ⟨World.ownsRow_nil _ _ _ _, fun b hb => by simp [Value.ownBlock] at hb⟩, h⟩
theorem FreshI.rngOf {B : Nat} {w : World} {v : Value} {xs : List Int} (h : FreshI B w v xs) : RngI B w.heap.size w v xs := by
  obtain ⟨g, cap, rfl, hB, hlt, ho⟩ := h
  exact ⟨ho, fun b hb => by simp [Value.ownBlock] at hb; omega⟩
theorem rcWork_any (Bp Bl : Nat) (m l : Value) (M : List (List Int)) (Q L : List Int) (K : Nat) (w : World) (hG : Glob w) (h1 : PM.Rows w m M) (h3 : Ints w l L) (hp : isPB M Q = true) (hin : ∀ k, k < L.length → 0 ≤ L.getD k 0 ∧ L.getD k 0 < (M.length : Int)) (h20 : L.length ≤ 20)
    (hK : K ≤ L.length) (hok : chOk M L K) (hend : K < L.length → mnr M (st L (K + 1)) = 0) (c0 : w.cell? ⟨Bp, 0, none⟩ = some m) (c1 : w.cell? ⟨Bl, 0, none⟩ = some l) :
    Calls Tryd.prog 68 #[.pointer (some ⟨Bp, 0, none⟩), .pointer (some ⟨Bl, 0, none⟩)] w (ChPost L K w) := by
  have HB := Lib.hid (chainSets_any m l M Q L K w hG h1 h3 hp hin h20 hK hok hend)
  obtain ⟨a1, ca, rfl, _⟩ := h1
  obtain ⟨a3, cb, rfl, _⟩ := h3
  clear hp hin h20 hK hok hend hG
  go_enter Tryd.func68, Tryd.ntmps68
  go_wp2_with fail
  refine HB.out.mono ?_
  rintro e w1 ⟨hb1, ⟨hKL, g, c, rfl, hF⟩ | ⟨hKL, a, rfl⟩⟩
  · have HKL := Lib.hid hKL
    clear hKL
    go_wp2_with fail
    go_ret
    exact ⟨hb1, .inl ⟨HKL.out, g, c, rfl, hF⟩⟩
  · go_wp2_with fail
    exact ⟨rfl, hb1, .inr ⟨hKL, a, rfl⟩⟩
theorem doorI_chain (Bp Bl : Nat) (m l : Value) (M : List (List Int)) (Q L : List Int) (w : World) (hG : Glob w) (h1 : PM.Rows w m M) (h3 : Ints w l L) (hp : isPB M Q = true) (hin : ∀ k, k < L.length → 0 ≤ L.getD k 0 ∧ L.getD k 0 < (M.length : Int)) (h20 : L.length ≤ 20)
    (c0 : w.cell? ⟨Bp, 0, none⟩ = some m) (c1 : w.cell? ⟨Bl, 0, none⟩ = some l) :
    Calls Tryd.prog 67 #[.int .i64 5, .func (.func 68) #[] #[.pointer (some ⟨Bp, 0, none⟩), .pointer (some ⟨Bl, 0, none⟩)]] w (OutI w (if chOk M L L.length then (stL L L.length, 0) else ([], 5))) := by
  have hb := DW1.low 5 w
  have hw := fun K h1' h2' h3' => rcWork_any Bp Bl m l M Q L K (DW1 5 w) (hG.below hb) (h1.below hb) (h3.below hb) hp hin h20 h1' h2' h3' ((hb.cell (p := ⟨Bp, 0, none⟩) (World.block_lt_of_cell? w _ c0)).trans c0) ((hb.cell (p := ⟨Bl, 0, none⟩) (World.block_lt_of_cell? w _ c1)).trans c1)
  rcases ch_cases M L L.length with h | ⟨k, hk, hok, hz⟩
  · rw [if_pos h]
    have hw' := (hw L.length (Nat.le_refl _) h (fun c => absurd c (Nat.lt_irrefl _))).mono (R' := fun e W' => (∃ v, e = .returned v ∧ ∃ g c, v = .slice (some ⟨g, 0, none⟩) (L.length + 1) c ∧ FreshI (w.heap.size + 2) W' v (stL L L.length)) ∧ Below (w.heap.size + 2) (DW1 5 w) W') (by
      rintro e W' ⟨hb1, ⟨_, g, c, rfl, hF⟩ | ⟨hKL, _⟩⟩
      · rw [DW1.size] at hb1 hF
        exact ⟨⟨_, rfl, g, c, rfl, hF⟩, hb1⟩
      · exact absurd hKL (Nat.lt_irrefl _))
    refine (doorI_ok 5 _ w _ hw').mono ?_
    rintro e w' ⟨v, W', rfl, ⟨g, c, rfl, hF⟩, hb', rfl⟩
    have hbb : Below w.heap.size w (W'.setCell ⟨w.heap.size + 1, 0, none⟩ (.int .i64 0)) := (hb.trans (hb'.mono (by omega))).setCell (by simp) _
    have hF2 : FreshI w.heap.size (W'.setCell ⟨w.heap.size + 1, 0, none⟩ (.int .i64 0)) (.slice (some ⟨g, 0, none⟩) (L.length + 1) c) (stL L L.length) := by
      obtain ⟨g', c', hv, h1', h2', ho⟩ := hF
      simp only [Value.slice.injEq, Option.some.injEq, Addr.mk.injEq, and_true] at hv
      refine ⟨g', c', by simp only [Value.slice.injEq, Option.some.injEq, Addr.mk.injEq, and_true]; exact hv, by omega, by simpa using h2', ?_⟩
      refine ho.tch (bs := [w.heap.size + 1]) ((Tch.refl _ _).setCell (by simp) _) (fun b hb'' c'' => ?_)
      simp [Value.ownBlock] at hb'' c''
      omega
    exact ⟨_, rfl, hF2.rngOf, hbb⟩
  · rw [if_neg (fun c => c k hk hz)]
    have hw' := (hw k (Nat.le_of_lt hk) hok (fun _ => hz)).mono (R' := fun e W' => (∃ a, e = .panicked [{ v := .iface 105 (.pointer (some a)), recovered := false }]) ∧ Below (w.heap.size + 2) (DW1 5 w) W') (by
      rintro e W' ⟨hb1, ⟨hKL, _⟩ | ⟨_, a, rfl⟩⟩
      · omega
      · rw [DW1.size] at hb1
        exact ⟨⟨a, rfl⟩, hb1⟩)
    refine (doorI_panic 5 _ w hw').mono ?_
    rintro e w' ⟨rfl, hbb⟩
    exact outI_none hbb

set_option maxRecDepth 100000 in
set_option maxHeartbeats 4000000 in
theorem implRunChain_any (m q l : Value) (M : List (List Int)) (Q L : List Int) (w : World) (hG : Glob w) (h1 : PM.Rows w m M) (h2 : Ints w q Q) (h3 : Ints w l L) :
    Calls Tryd.prog 36 #[.agg #[m, q], l] w (OutI w (rcOut M Q L)) := by
  have hmf : ∀ (fn : Fn) (first cap : Array Value) (w : World), (Instr.makeFunc fn first cap).run Tryd.prog w = .ok (.func fn first cap) w := fun _ _ _ _ => rfl
  have g1 := fun (w' : World) (h : Below w.heap.size w w') => h1.below h
  have g2 := fun (w' : World) (h : Below w.heap.size w w') => h2.below h
  have g3 := fun (w' : World) (h : Below w.heap.size w w') => h3.below h
  have gg := fun (w' : World) (h : Below w.heap.size w w') => hG.below h
  clear hG
  obtain ⟨a1, c1, rfl, _⟩ := h1
  obtain ⟨a2, c2, rfl, _⟩ := h2
  obtain ⟨a3, c3, rfl, hl3, hm3, _⟩ := h3
  have hlm := maxLen_le (Nat.le_trans hl3 hm3)
  clear hl3 hm3
  cases hp : isPB M Q
  · rw [rcOut_e1 hp]
    have HP := Lib.hid hp
    clear hp
    go_enter Tryd.func36, Tryd.ntmps36
    go_wp2_with fail
    refine (implIsProblem_any _ _ M Q _ (g1 _ (by (repeat' (first | (with_reducible exact Below.refl _ _) | (with_reducible assumption) | (with_reducible refine Below.alloc ?_ ?_ _) | (with_reducible refine Below.drew ?_) | (with_reducible refine below_drewN ?_ _) | (with_reducible refine Below.setCell ?_ ?_ _) | (with_reducible refine Below.trans ?_ (Below.mono (by with_reducible assumption) ?_)) | (with_reducible exact Below.size (by with_reducible assumption)) | go_size)))) (g2 _ (by (repeat' (first | (with_reducible exact Below.refl _ _) | (with_reducible assumption) | (with_reducible refine Below.alloc ?_ ?_ _) | (with_reducible refine Below.drew ?_) | (with_reducible refine below_drewN ?_ _) | (with_reducible refine Below.setCell ?_ ?_ _) | (with_reducible refine Below.trans ?_ (Below.mono (by with_reducible assumption) ?_)) | (with_reducible exact Below.size (by with_reducible assumption)) | go_size))))).mono ?_; rw [HP.out]; rintro e w1 ⟨rfl, hb1⟩; obtain ⟨hc_hb1, hf_hb1⟩ := bcell hb1; obtain ⟨hcA_hb1, hfA_hb1⟩ := bcellG (W0 := w) hb1 (by (repeat' (first | (with_reducible exact Below.refl _ _) | (with_reducible assumption) | (with_reducible refine Below.alloc ?_ ?_ _) | (with_reducible refine Below.drew ?_) | (with_reducible refine below_drewN ?_ _) | (with_reducible refine Below.setCell ?_ ?_ _) | (with_reducible refine Below.trans ?_ (Below.mono (by with_reducible assumption) ?_)) | (with_reducible exact Below.size (by with_reducible assumption)) | go_size))); have hz_hb1 := hb1.size; (try simp at hz_hb1); (try simp only [Nat.add_one_le_iff] at hz_hb1); have hz0_hb1 : w.heap.size < w1.heap.size := (by omega)
    go_wp2_with fail
    go_ret2
    exact outI_none (by (repeat' (first | (with_reducible exact Below.refl _ _) | (with_reducible assumption) | (with_reducible refine Below.alloc ?_ ?_ _) | (with_reducible refine Below.drew ?_) | (with_reducible refine below_drewN ?_ _) | (with_reducible refine Below.setCell ?_ ?_ _) | (with_reducible refine Below.trans ?_ (Below.mono (by with_reducible assumption) ?_)) | (with_reducible exact Below.size (by with_reducible assumption)) | go_size)))
  have HP := Lib.hid hp
  by_cases h20 : 20 < L.length
  · rw [rcOut_e2 hp h20]
    have hg : (20 : Int) < L.length := by omega
    clear hp h20
    go_enter Tryd.func36, Tryd.ntmps36
    go_wp2_with fail
    refine (implIsProblem_any _ _ M Q _ (g1 _ (by (repeat' (first | (with_reducible exact Below.refl _ _) | (with_reducible assumption) | (with_reducible refine Below.alloc ?_ ?_ _) | (with_reducible refine Below.drew ?_) | (with_reducible refine below_drewN ?_ _) | (with_reducible refine Below.setCell ?_ ?_ _) | (with_reducible refine Below.trans ?_ (Below.mono (by with_reducible assumption) ?_)) | (with_reducible exact Below.size (by with_reducible assumption)) | go_size)))) (g2 _ (by (repeat' (first | (with_reducible exact Below.refl _ _) | (with_reducible assumption) | (with_reducible refine Below.alloc ?_ ?_ _) | (with_reducible refine Below.drew ?_) | (with_reducible refine below_drewN ?_ _) | (with_reducible refine Below.setCell ?_ ?_ _) | (with_reducible refine Below.trans ?_ (Below.mono (by with_reducible assumption) ?_)) | (with_reducible exact Below.size (by with_reducible assumption)) | go_size))))).mono ?_; rw [HP.out]; rintro e w1 ⟨rfl, hb1⟩; obtain ⟨hc_hb1, hf_hb1⟩ := bcell hb1; obtain ⟨hcA_hb1, hfA_hb1⟩ := bcellG (W0 := w) hb1 (by (repeat' (first | (with_reducible exact Below.refl _ _) | (with_reducible assumption) | (with_reducible refine Below.alloc ?_ ?_ _) | (with_reducible refine Below.drew ?_) | (with_reducible refine below_drewN ?_ _) | (with_reducible refine Below.setCell ?_ ?_ _) | (with_reducible refine Below.trans ?_ (Below.mono (by with_reducible assumption) ?_)) | (with_reducible exact Below.size (by with_reducible assumption)) | go_size))); have hz_hb1 := hb1.size; (try simp at hz_hb1); (try simp only [Nat.add_one_le_iff] at hz_hb1); have hz0_hb1 : w.heap.size < w1.heap.size := (by omega)
    have hw1 : Below w.heap.size w w1 := by (repeat' (first | (with_reducible exact Below.refl _ _) | (with_reducible assumption) | (with_reducible refine Below.alloc ?_ ?_ _) | (with_reducible refine Below.drew ?_) | (with_reducible refine below_drewN ?_ _) | (with_reducible refine Below.setCell ?_ ?_ _) | (with_reducible refine Below.trans ?_ (Below.mono (by with_reducible assumption) ?_)) | (with_reducible exact Below.size (by with_reducible assumption)) | go_size))
    have x1 : w1.cell? ⟨w.heap.size + 1, 0, none⟩ = some (.slice a3 L.length c3) := by rw [hc_hb1 _ _ (by go_size)]; simp
    go_wp2_with fail
    go_ret2
    exact outI_none hw1
  have hng : ¬ (20 : Int) < L.length := by omega
  have HOUT := Lib.hid (fun (h : chIn M.length L = true) => show (if chOk M L L.length then (stL L L.length, 0) else ([], 5)) = rcOut M Q L by
    by_cases e : chOk M L L.length
    · rw [if_pos e, rcOut_ok hp h20 h e]
    · rw [if_neg e, rcOut_e5 hp h20 h e])
  have HNO := Lib.hid (fun (h : chIn M.length L = false) => rcOut_e3 hp h20 h)
  have f2 := (isPB_facts hp).2.1
  have hl20 : L.length ≤ 20 := by omega
  obtain ⟨o, ho⟩ : ∃ o, o = rcOut M Q L := ⟨_, rfl⟩
  rw [← ho] at HOUT HNO ⊢
  clear hp h20 ho
  go_enter Tryd.func36, Tryd.ntmps36
  go_wp2_with fail
  refine (implIsProblem_any _ _ M Q _ (g1 _ (by (repeat' (first | (with_reducible exact Below.refl _ _) | (with_reducible assumption) | (with_reducible refine Below.alloc ?_ ?_ _) | (with_reducible refine Below.drew ?_) | (with_reducible refine below_drewN ?_ _) | (with_reducible refine Below.setCell ?_ ?_ _) | (with_reducible refine Below.trans ?_ (Below.mono (by with_reducible assumption) ?_)) | (with_reducible exact Below.size (by with_reducible assumption)) | go_size)))) (g2 _ (by (repeat' (first | (with_reducible exact Below.refl _ _) | (with_reducible assumption) | (with_reducible refine Below.alloc ?_ ?_ _) | (with_reducible refine Below.drew ?_) | (with_reducible refine below_drewN ?_ _) | (with_reducible refine Below.setCell ?_ ?_ _) | (with_reducible refine Below.trans ?_ (Below.mono (by with_reducible assumption) ?_)) | (with_reducible exact Below.size (by with_reducible assumption)) | go_size))))).mono ?_; rw [HP.out]; rintro e w1 ⟨rfl, hb1⟩; obtain ⟨hc_hb1, hf_hb1⟩ := bcell hb1; obtain ⟨hcA_hb1, hfA_hb1⟩ := bcellG (W0 := w) hb1 (by (repeat' (first | (with_reducible exact Below.refl _ _) | (with_reducible assumption) | (with_reducible refine Below.alloc ?_ ?_ _) | (with_reducible refine Below.drew ?_) | (with_reducible refine below_drewN ?_ _) | (with_reducible refine Below.setCell ?_ ?_ _) | (with_reducible refine Below.trans ?_ (Below.mono (by with_reducible assumption) ?_)) | (with_reducible exact Below.size (by with_reducible assumption)) | go_size))); have hz_hb1 := hb1.size; (try simp at hz_hb1); (try simp only [Nat.add_one_le_iff] at hz_hb1); have hz0_hb1 : w.heap.size < w1.heap.size := (by omega)
  have hw1 : Below w.heap.size w w1 := by (repeat' (first | (with_reducible exact Below.refl _ _) | (with_reducible assumption) | (with_reducible refine Below.alloc ?_ ?_ _) | (with_reducible refine Below.drew ?_) | (with_reducible refine below_drewN ?_ _) | (with_reducible refine Below.setCell ?_ ?_ _) | (with_reducible refine Below.trans ?_ (Below.mono (by with_reducible assumption) ?_)) | (with_reducible exact Below.size (by with_reducible assumption)) | go_size))
  have x0 : w1.cell? ⟨w.heap.size, 0, none⟩ = some (.slice a1 M.length c1) := by rw [hc_hb1 _ _ (by go_size)]; simp
  have x1 : w1.cell? ⟨w.heap.size + 1, 0, none⟩ = some (.slice a3 L.length c3) := by rw [hc_hb1 _ _ (by go_size)]; simp
  have HC := Lib.hid (fun k hk => ints_cell (g3 w1 hw1) (k := k) hk)
  clear hc_hb1 hf_hb1 hcA_hb1 hfA_hb1 hz_hb1 hz0_hb1 hb1
  go_wp2_with fail
  go_loop [7, 16] (fun _ i => ∃ k : Nat, k ≤ L.length ∧ i = .int .i64 k ∧ ∀ j, j < k → 0 ≤ L.getD j 0 ∧ L.getD j 0 < (M.length : Int)) (fun _ i => L.length - (intOf i).toNat)
  case atStart => exact ⟨0, Nat.zero_le _, by go_num, fun j hj => absurd hj (Nat.not_lt_zero j)⟩
  case round =>
    obtain ⟨k, hk, rfl, hall⟩ := hrel
    have HALL := Lib.hid hall
    clear hall
    by_cases hlt : k < L.length
    · obtain ⟨b, off, c, hv, hc⟩ := HC.out k hlt
      simp only [Value.slice.injEq] at hv
      obtain ⟨rfl, _, rfl⟩ := hv
      have hnx : ∀ x, x = L.getD k 0 → 0 ≤ x → x < (M.length : Int) → ∀ j, j < k + 1 → 0 ≤ L.getD j 0 ∧ L.getD j 0 < (M.length : Int) := fun x hx h0 h1 j hj => by
        by_cases e : j = k
        · rw [e, ← hx]; exact ⟨h0, h1⟩
        · exact HALL.out j (by omega)
      have hno : ∀ x, x = L.getD k 0 → ¬ (0 ≤ x ∧ x < (M.length : Int)) → o = ([], 2) := fun x hx h => HNO.out (chIn_no hlt (by rw [← hx]; exact h))
      obtain ⟨x, hx⟩ : ∃ x, x = L.getD k 0 := ⟨_, rfl⟩
      rw [← hx] at hc
      have HNX := Lib.hid (hnx x hx)
      have HNO := Lib.hid (hno x hx)
      clear hnx hno hx
      by_cases hx0 : x < 0
      · have HO := Lib.hid (HNO.out (by omega))
        go_wp2_with fail
        go_ret2
        rw [HO.out]
        exact outI_none hw1
      by_cases hx1 : (M.length : Int) ≤ x
      · have HO := Lib.hid (HNO.out (by omega))
        go_wp2_with fail
        go_ret2
        rw [HO.out]
        exact outI_none hw1
      · go_wp2_with fail
        go_round
        case rel => exact ⟨k + 1, by omega, by go_num, HNX.out (by omega) (by omega)⟩
        case measure => simp [intOf]; omega
    · obtain rfl : k = L.length := by omega
      have hd := doorI_chain (w.heap.size) (w.heap.size + 1) _ _ M Q L w1 (gg _ hw1) (g1 _ hw1) (g3 _ hw1) HP.out HALL.out hl20 x0 x1
      rw [HOUT.out (chIn_yes HALL.out)] at hd
      have HD := Lib.hid hd
      clear hd
      go_wp2_with fail
      refine HD.out.mono ?_
      rintro e w2 ho2
      obtain ⟨a5, c5, rfl, hr, hb2⟩ := ho2.out
      have HR := Lib.hid hr
      clear ho2 hr
      go_wp2_with fail
      go_ret2
      exact ⟨_, rfl, ⟨HR.out.own, fun b hb => by have := HR.out.at_ b hb; have := hw1.size; omega⟩, hw1.trans (hb2.mono hw1.size)⟩

theorem mnr_minorF (M : List (List Int)) (s : Int) : mnr M s = minorF ((memTo M.length s M.length).map Fin.val) (ent M) := by
  unfold mnr minorF
  rw [List.length_map]
  refine dt_congr _ _ _ (fun i j hi hj => ?_)
  show ((partL M s s).getD i []).getD j 0 = ent M _ _
  simp [partL, partTo, rowL, hi, hj]
theorem colS_mnr {M : List (List Int)} {s : Int} (hn : M.length ≤ 5) : dt M.length (colS M s) = 0 ↔ mnr M s = 0 := by
  rw [colS_minor hn, ← mnr_minorF]
  rcases sgn_cases (memTo M.length s M.length).length with h | h
  all_goals rw [h]; omega

set_option maxRecDepth 100000 in
set_option maxHeartbeats 8000000 in
theorem specRunChain_any (m q l : Value) (M : List (List Int)) (Q L : List Int) (w : World) (h1 : PM.Rows w m M) (h2 : Ints w q Q) (h3 : Ints w l L) :
    Calls Tryd.prog 34 #[.agg #[m, q], l] w (OutI w (rcOut M Q L)) := by
  have g1 := fun (w' : World) (h : Below w.heap.size w w') => h1.below h
  have g2 := fun (w' : World) (h : Below w.heap.size w w') => h2.below h
  have g3 := fun (w' : World) (h : Below w.heap.size w w') => h3.below h
  obtain ⟨a1, c1, rfl, _⟩ := h1
  obtain ⟨a2, c2, rfl, _⟩ := h2
  obtain ⟨a3, c3, rfl, hl3, hm3, _⟩ := h3
  have hlm := maxLen_le (Nat.le_trans hl3 hm3)
  clear hl3 hm3
  cases hp : isPB M Q
  · rw [rcOut_e1 hp]
    have HP := Lib.hid hp
    clear hp
    go_enter Tryd.func34, Tryd.ntmps34
    go_wp2_with fail
    refine (l01Is_any _ _ M Q _ (g1 _ (by (repeat' (first | (with_reducible exact Below.refl _ _) | (with_reducible assumption) | (with_reducible refine Below.alloc ?_ ?_ _) | (with_reducible refine Below.drew ?_) | (with_reducible refine below_drewN ?_ _) | (with_reducible refine Below.setCell ?_ ?_ _) | (with_reducible refine Below.trans ?_ (Below.mono (by with_reducible assumption) ?_)) | (with_reducible exact Below.size (by with_reducible assumption)) | go_size)))) (g2 _ (by (repeat' (first | (with_reducible exact Below.refl _ _) | (with_reducible assumption) | (with_reducible refine Below.alloc ?_ ?_ _) | (with_reducible refine Below.drew ?_) | (with_reducible refine below_drewN ?_ _) | (with_reducible refine Below.setCell ?_ ?_ _) | (with_reducible refine Below.trans ?_ (Below.mono (by with_reducible assumption) ?_)) | (with_reducible exact Below.size (by with_reducible assumption)) | go_size))))).mono ?_; rw [HP.out]; rintro e w1 ⟨rfl, hb1⟩; obtain ⟨hc_hb1, hf_hb1⟩ := bcell hb1; obtain ⟨hcA_hb1, hfA_hb1⟩ := bcellG (W0 := w) hb1 (by (repeat' (first | (with_reducible exact Below.refl _ _) | (with_reducible assumption) | (with_reducible refine Below.alloc ?_ ?_ _) | (with_reducible refine Below.drew ?_) | (with_reducible refine below_drewN ?_ _) | (with_reducible refine Below.setCell ?_ ?_ _) | (with_reducible refine Below.trans ?_ (Below.mono (by with_reducible assumption) ?_)) | (with_reducible exact Below.size (by with_reducible assumption)) | go_size))); have hz_hb1 := hb1.size; (try simp at hz_hb1); (try simp only [Nat.add_one_le_iff] at hz_hb1); have hz0_hb1 : w.heap.size < w1.heap.size := (by omega)
    go_wp2_with fail
    go_ret2
    exact outI_none (by (repeat' (first | (with_reducible exact Below.refl _ _) | (with_reducible assumption) | (with_reducible refine Below.alloc ?_ ?_ _) | (with_reducible refine Below.drew ?_) | (with_reducible refine below_drewN ?_ _) | (with_reducible refine Below.setCell ?_ ?_ _) | (with_reducible refine Below.trans ?_ (Below.mono (by with_reducible assumption) ?_)) | (with_reducible exact Below.size (by with_reducible assumption)) | go_size)))
  have HP := Lib.hid hp
  by_cases h20 : 20 < L.length
  · rw [rcOut_e2 hp h20]
    have hg : (20 : Int) < L.length := by omega
    clear hp h20
    go_enter Tryd.func34, Tryd.ntmps34
    go_wp2_with fail
    refine (l01Is_any _ _ M Q _ (g1 _ (by (repeat' (first | (with_reducible exact Below.refl _ _) | (with_reducible assumption) | (with_reducible refine Below.alloc ?_ ?_ _) | (with_reducible refine Below.drew ?_) | (with_reducible refine below_drewN ?_ _) | (with_reducible refine Below.setCell ?_ ?_ _) | (with_reducible refine Below.trans ?_ (Below.mono (by with_reducible assumption) ?_)) | (with_reducible exact Below.size (by with_reducible assumption)) | go_size)))) (g2 _ (by (repeat' (first | (with_reducible exact Below.refl _ _) | (with_reducible assumption) | (with_reducible refine Below.alloc ?_ ?_ _) | (with_reducible refine Below.drew ?_) | (with_reducible refine below_drewN ?_ _) | (with_reducible refine Below.setCell ?_ ?_ _) | (with_reducible refine Below.trans ?_ (Below.mono (by with_reducible assumption) ?_)) | (with_reducible exact Below.size (by with_reducible assumption)) | go_size))))).mono ?_; rw [HP.out]; rintro e w1 ⟨rfl, hb1⟩; obtain ⟨hc_hb1, hf_hb1⟩ := bcell hb1; obtain ⟨hcA_hb1, hfA_hb1⟩ := bcellG (W0 := w) hb1 (by (repeat' (first | (with_reducible exact Below.refl _ _) | (with_reducible assumption) | (with_reducible refine Below.alloc ?_ ?_ _) | (with_reducible refine Below.drew ?_) | (with_reducible refine below_drewN ?_ _) | (with_reducible refine Below.setCell ?_ ?_ _) | (with_reducible refine Below.trans ?_ (Below.mono (by with_reducible assumption) ?_)) | (with_reducible exact Below.size (by with_reducible assumption)) | go_size))); have hz_hb1 := hb1.size; (try simp at hz_hb1); (try simp only [Nat.add_one_le_iff] at hz_hb1); have hz0_hb1 : w.heap.size < w1.heap.size := (by omega)
    have hw1 : Below w.heap.size w w1 := by (repeat' (first | (with_reducible exact Below.refl _ _) | (with_reducible assumption) | (with_reducible refine Below.alloc ?_ ?_ _) | (with_reducible refine Below.drew ?_) | (with_reducible refine below_drewN ?_ _) | (with_reducible refine Below.setCell ?_ ?_ _) | (with_reducible refine Below.trans ?_ (Below.mono (by with_reducible assumption) ?_)) | (with_reducible exact Below.size (by with_reducible assumption)) | go_size))
    go_wp2_with fail
    go_ret2
    exact outI_none hw1
  have hng : ¬ (20 : Int) < L.length := by omega
  obtain ⟨f1, f2, f3, f4, f5⟩ := isPB_facts hp
  have HOK := Lib.hid (fun (h : chIn M.length L = true) (h4 : chOk M L L.length) => rcOut_ok hp h20 h h4)
  have HO5 := Lib.hid (fun (h : chIn M.length L = true) (h4 : ¬ chOk M L L.length) => rcOut_e5 hp h20 h h4)
  have HNO := Lib.hid (fun (h : chIn M.length L = false) => rcOut_e3 hp h20 h)
  have HA := Lib.hid (fun s => colS_all hp s)
  have HLC := Lib.hid (fun s w h => l01Columns_any (.slice a1 M.length c1) M s w h f1 f2 (fun j hj => (f4 j hj).1) (ent_bd hp))
  have HLD := Lib.hid (fun v w e hv hb => l01Det_any M.length f2 v w e hv hb)
  have HZ := Lib.hid (fun s => colS_mnr (M := M) (s := s) f2)
  have HSTI := Lib.hid (fun h => st_in (n := M.length) f2 (L := L) h)
  have hl20 : L.length ≤ 20 := by omega
  obtain ⟨j0, hj, hyy0, hyy1, hyy2⟩ := info_parts info_int
  obtain ⟨o, ho⟩ : ∃ o, o = rcOut M Q L := ⟨_, rfl⟩
  rw [← ho] at HOK HO5 HNO ⊢
  rw [f3] at g2 ⊢
  clear hp h20 ho f3 f4 f5
  go_enter Tryd.func34, Tryd.ntmps34
  go_wp2_with fail
  refine (l01Is_any _ _ M Q _ (g1 _ (by (repeat' (first | (with_reducible exact Below.refl _ _) | (with_reducible assumption) | (with_reducible refine Below.alloc ?_ ?_ _) | (with_reducible refine Below.drew ?_) | (with_reducible refine below_drewN ?_ _) | (with_reducible refine Below.setCell ?_ ?_ _) | (with_reducible refine Below.trans ?_ (Below.mono (by with_reducible assumption) ?_)) | (with_reducible exact Below.size (by with_reducible assumption)) | go_size)))) (g2 _ (by (repeat' (first | (with_reducible exact Below.refl _ _) | (with_reducible assumption) | (with_reducible refine Below.alloc ?_ ?_ _) | (with_reducible refine Below.drew ?_) | (with_reducible refine below_drewN ?_ _) | (with_reducible refine Below.setCell ?_ ?_ _) | (with_reducible refine Below.trans ?_ (Below.mono (by with_reducible assumption) ?_)) | (with_reducible exact Below.size (by with_reducible assumption)) | go_size))))).mono ?_; rw [HP.out]; rintro e w1 ⟨rfl, hb1⟩; obtain ⟨hc_hb1, hf_hb1⟩ := bcell hb1; obtain ⟨hcA_hb1, hfA_hb1⟩ := bcellG (W0 := w) hb1 (by (repeat' (first | (with_reducible exact Below.refl _ _) | (with_reducible assumption) | (with_reducible refine Below.alloc ?_ ?_ _) | (with_reducible refine Below.drew ?_) | (with_reducible refine below_drewN ?_ _) | (with_reducible refine Below.setCell ?_ ?_ _) | (with_reducible refine Below.trans ?_ (Below.mono (by with_reducible assumption) ?_)) | (with_reducible exact Below.size (by with_reducible assumption)) | go_size))); have hz_hb1 := hb1.size; (try simp at hz_hb1); (try simp only [Nat.add_one_le_iff] at hz_hb1); have hz0_hb1 : w.heap.size < w1.heap.size := (by omega)
  have hw1 : Below w.heap.size w w1 := by (repeat' (first | (with_reducible exact Below.refl _ _) | (with_reducible assumption) | (with_reducible refine Below.alloc ?_ ?_ _) | (with_reducible refine Below.drew ?_) | (with_reducible refine below_drewN ?_ _) | (with_reducible refine Below.setCell ?_ ?_ _) | (with_reducible refine Below.trans ?_ (Below.mono (by with_reducible assumption) ?_)) | (with_reducible exact Below.size (by with_reducible assumption)) | go_size))
  have x0 : w1.cell? ⟨w.heap.size, 0, none⟩ = some (.slice a1 M.length c1) := by rw [hc_hb1 _ _ (by go_size)]; simp
  have x1 : w1.cell? ⟨w.heap.size, 1, none⟩ = some (.slice a2 M.length c2) := by rw [hc_hb1 _ _ (by go_size)]; simp
  have HC := Lib.hid (fun (w' : World) (h : Below w.heap.size w w') k hk => ints_cell (g3 w' h) (k := k) hk)
  have hx1 := World.block_lt_of_cell? w1 _ x0
  clear hc_hb1 hf_hb1 hcA_hb1 hfA_hb1 hz_hb1 hz0_hb1 hb1
  go_wp2_with fail
  go_loopw [6] (fun i wr => ∃ k : Nat, k ≤ L.length ∧ i = .int .i64 k ∧ Below w1.heap.size w1 wr ∧ ∀ j, j < k → 0 ≤ L.getD j 0 ∧ L.getD j 0 < (M.length : Int)) (fun i _ => L.length - (intOf i).toNat)
  case atStart => exact ⟨0, Nat.zero_le _, by go_num, Below.refl _ _, fun j hj => absurd hj (Nat.not_lt_zero j)⟩
  case round =>
    obtain ⟨k, hk, rfl, hBr, hall⟩ := hrel
    have HALL := Lib.hid hall
    have HBR := Lib.hid hBr
    have y0 := (hBr.cell (p := ⟨w.heap.size, 0, none⟩) hx1).trans x0
    have y1 := (hBr.cell (p := ⟨w.heap.size, 1, none⟩) hx1).trans x1
    have hwr : Below w.heap.size w wr := hw1.trans (hBr.mono hw1.size)
    have HWR := Lib.hid hwr
    clear hall hBr hwr
    by_cases hlt : k < L.length
    · obtain ⟨b, off, c, hv, hc⟩ := HC.out wr HWR.out k hlt
      simp only [Value.slice.injEq] at hv
      obtain ⟨rfl, _, rfl⟩ := hv
      have hnx : ∀ x, x = L.getD k 0 → 0 ≤ x → x < (M.length : Int) → ∀ j, j < k + 1 → 0 ≤ L.getD j 0 ∧ L.getD j 0 < (M.length : Int) := fun x hx h0 h1 j hj => by
        by_cases e : j = k
        · rw [e, ← hx]; exact ⟨h0, h1⟩
        · exact HALL.out j (by omega)
      have hno : ∀ x, x = L.getD k 0 → ¬ (0 ≤ x ∧ x < (M.length : Int)) → o = ([], 2) := fun x hx h => HNO.out (chIn_no hlt (by rw [← hx]; exact h))
      obtain ⟨x, hx⟩ : ∃ x, x = L.getD k 0 := ⟨_, rfl⟩
      rw [← hx] at hc
      have HNX := Lib.hid (hnx x hx)
      have HNO := Lib.hid (hno x hx)
      clear hnx hno hx
      by_cases hxx : 0 ≤ x ∧ x < (M.length : Int)
      · have HX := Lib.hid hxx
        have HI := Lib.hid (fun w' => (l01In_is x 0 ((M.length : Int) - 1) true w' (decide_eq_true ⟨hxx.1, by omega⟩)).mono (R' := fun e w2 => e = .returned (.bool true) ∧ w2 = w') (fun e w2 h => ⟨h.1, h.2.symm⟩))
        clear hxx
        go_wp2_with fail
        go_quiet ((go_at_call 65; exact Calls.quiet_of_same (HI.out _)))
        go_wp2_with fail
        go_roundw
        case rel => exact ⟨k + 1, by omega, by go_num, HBR.out.trans (by (repeat' (first | (with_reducible exact Below.refl _ _) | (with_reducible assumption) | (with_reducible refine Below.alloc ?_ ?_ _) | (with_reducible refine Below.drew ?_) | (with_reducible refine below_drewN ?_ _) | (with_reducible refine Below.setCell ?_ ?_ _) | (with_reducible refine Below.trans ?_ (Below.mono (by with_reducible assumption) ?_)) | (with_reducible exact Below.size (by with_reducible assumption)) | go_size))), HNX.out HX.out.1 HX.out.2⟩
        case measure => simp [intOf]; omega
      · have HO := Lib.hid (HNO.out hxx)
        have HI := Lib.hid (fun w' => (l01In_is x 0 ((M.length : Int) - 1) false w' (decide_eq_false (fun h => hxx ⟨h.1, by omega⟩))).mono (R' := fun e w2 => e = .returned (.bool false) ∧ w2 = w') (fun e w2 h => ⟨h.1, h.2.symm⟩))
        clear hxx
        go_wp2_with fail
        go_quiet ((go_at_call 65; exact Calls.quiet_of_same (HI.out _)))
        go_wp2_with fail
        go_ret2
        rw [HO.out]
        exact outI_none (HWR.out.trans (Below.mono (by (repeat' (first | (with_reducible exact Below.refl _ _) | (with_reducible assumption) | (with_reducible refine Below.alloc ?_ ?_ _) | (with_reducible refine Below.drew ?_) | (with_reducible refine below_drewN ?_ _) | (with_reducible refine Below.setCell ?_ ?_ _) | (with_reducible refine Below.trans ?_ (Below.mono (by with_reducible assumption) ?_)) | (with_reducible exact Below.size (by with_reducible assumption)) | go_size))) HWR.out.size))
    · obtain rfl : k = L.length := by omega
      obtain ⟨Wr, rfl⟩ : ∃ Wr, Wr = wr := ⟨_, rfl⟩
      have hin := HALL.out
      have HOK := Lib.hid (HOK.out (chIn_yes hin))
      have HO5 := Lib.hid (HO5.out (chIn_yes hin))
      have HST := Lib.hid (HSTI.out hin)
      have HIN := Lib.hid hin
      have hxr := World.block_lt_of_cell? Wr _ y0
      clear hin HSTI HALL HNO
      go_wp2_with fail
      go_loopw [7, 8, 9] (fun v s i wr => ∃ k : Nat, k ≤ L.length ∧ i = .int .i64 k ∧ s = .int .i64 (st L k) ∧ FreshI Wr.heap.size wr v (stL L k) ∧ Below Wr.heap.size Wr wr ∧ chOk M L k) (fun _ _ i _ => L.length - (intOf i).toNat)
      case atStart => exact ⟨0, Nat.zero_le _, by go_num, rfl, by rw [stL_zero]; exact freshI_one Wr 0, (Below.refl _ _).alloc (Nat.le_refl _) _, fun j hj => absurd hj (Nat.not_lt_zero j)⟩
      case round =>
        obtain ⟨k, hk, rfl, rfl, hF, hB, hco⟩ := hrel
        have HF := Lib.hid hF
        have HB := Lib.hid hB
        have HCO := Lib.hid hco
        have hz := hB.size
        have z0 := (hB.cell (p := ⟨w.heap.size, 0, none⟩) hxr).trans y0
        have hwx : Below w.heap.size w wr := HWR.out.trans (hB.mono HWR.out.size)
        have HWX := Lib.hid hwx
        clear hF hB hco hwx
        by_cases hlt : k < L.length
        · obtain ⟨b, off, c, hv, hc⟩ := HC.out wr HWX.out k hlt
          simp only [Value.slice.injEq] at hv
          obtain ⟨rfl, _, rfl⟩ := hv
          have hx := HIN.out k hlt
          have hsN := HST.out (k + 1) hlt
          obtain ⟨S, hS⟩ : ∃ S, S = st L k := ⟨_, rfl⟩
          obtain ⟨N, hN⟩ : ∃ N, N = st L (k + 1) := ⟨_, rfl⟩
          obtain ⟨x, hxe⟩ : ∃ x, x = L.getD k 0 := ⟨_, rfl⟩
          have hNS : N = xorI S (2 ^ x.toNat) := by rw [hN, hS, hxe]; rfl
          have hX := stL_succ L k
          rw [← hxe] at hc hx
          rw [← hN] at hsN hX
          rw [← hS]
          have HN := Lib.hid hN
          have HSN := Lib.hid hsN
          have HXE := Lib.hid hxe
          have HS := Lib.hid hS
          have HX := Lib.hid hX
          have HFL := Lib.hid (stL_length L k)
          clear hN hsN hxe hS hX
          have hx5 : x = 0 ∨ x = 1 ∨ x = 2 ∨ x = 3 ∨ x = 4 := by omega
          have HLCN := Lib.hid (HLC.out N wr (g1 wr HWX.out))
          clear hx
          rcases hx5 with rfl | rfl | rfl | rfl | rfl
          all_goals
            simp only [Int.reduceToNat, Int.reducePow, Int.toNat_zero, Int.pow_zero] at hNS
            have HNS := Lib.hid hNS
            have hcn := HLCN.out
            rw [hNS] at hcn
            have HCN := Lib.hid hcn
            clear hNS hcn
            go_wp2_with fail
            refine HCN.out.mono ?_
            rintro e w2 ⟨g2, cap2, us2, rfl, hf2, hb2⟩
            rw [show bits BinOp.xor IntKind.i64 S _ = N from HNS.out.symm]
            have e2 := HNS.out
            rw [← e2] at hf2
            have hd := HLD.out _ w2 (colS M N) (hf2.own.rows' (tab_I64 (B := 20) (by decide) (fun i j _ _ => HA.out N i j))) (fun i j => (HA.out N i j).mono (by decide))
            have HD := Lib.hid hd
            have HF2 := Lib.hid (HF.out.below hb2)
            have HB2 := Lib.hid (HB.out.trans (hb2.mono hz))
            clear hd hf2 hb2 e2 HNS HCN
            go_wp2_with fail
            refine HD.out.mono ?_
            rintro e w3 ⟨rfl, hb3⟩
            have hF3 := HF2.out.below hb3
            have HF3 := Lib.hid hF3
            have HB3 := Lib.hid (HB2.out.trans (hb3.mono HB2.out.size))
            have how := hF3.owns
            rw [HFL.out] at how
            have HOW := Lib.hid how
            clear hb3 HF2 HB2 HF HB HD hF3 how
            by_cases hD : dt M.length (colS M N) = 0
            · have hbad : ¬ chOk M L L.length := fun h => h k hlt (by rw [← HN.out]; exact (HZ.out N).1 hD)
              have HO := Lib.hid (HO5.out hbad)
              rw [hD]
              clear hD hbad
              go_wp2_with fail
              go_ret2
              rw [HO.out]
              exact outI_none (HWR.out.trans (HB3.out.mono HWR.out.size))
            · have hnx : chOk M L (k + 1) := fun j hj => by
                by_cases e : j = k
                · rw [e, ← HN.out]; exact fun h => hD ((HZ.out N).2 h)
                · exact HCO.out j (by omega)
              have HNXT := Lib.hid hnx
              clear hnx
              generalize dt M.length (colS M N) = D at *
              go_wp2_with (at_builtin; refine wpList_append_lies _ rfl _ _ 23 rfl 0 2 j0 (.int .i64 0) 1 8 Tryd.underlying23 hj hyy0 hyy1 hyy2 rfl (by decide) u7 (k + 1) _ rfl ((HOW.out).alloc _) _ 1 _ [.int .i64 N] rfl rfl (cell_one_new _ _ _) (by simp [Value.oneCell']) (by decide) (by unfold maxLen; omega) (by omega) (Nat.zero_le _) _ rfl ?_; intro g5 cap5 w4 hown hgrow hat hgl)
              have hpu := HF3.out.push HB3.out.size HFL.out.symm hown hat hgl
              have hgr := HF3.out.grow HB3.out HB3.out.size hgrow
              rw [← HX.out] at hpu
              have HPU := Lib.hid hpu
              have HGR := Lib.hid hgr
              clear hpu hgr hown hgrow hat hgl
              go_wp2_with fail
              go_roundw
              case rel => exact ⟨k + 1, by omega, by go_num, by rw [HN.out], HPU.out, HGR.out, HNXT.out⟩
              case measure => simp [intOf]; omega
        · obtain rfl : k = L.length := by omega
          have HO := Lib.hid (HOK.out HCO.out)
          go_wp2_with fail
          go_ret2
          rw [HO.out]
          exact ⟨_, rfl, (HF.out.mono HWR.out.size).rngOf, HWR.out.trans (HB.out.mono HWR.out.size)⟩
end Go.Proofs.YthnefjllijoobaaDoor.PW
