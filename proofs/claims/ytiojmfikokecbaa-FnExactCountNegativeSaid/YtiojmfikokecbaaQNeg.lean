/-
  The exact law of CountNegative: both sides' answers, and the law.
-/
import Derived.Test.YtiojmfikokecbaaQMinB
namespace Go.Proofs.Ytiojmfikokecbaa.PW
open Go.RowKit Go.Proofs.Ytiojmfikokecbaa
open Go.Proofs.Ytiojmfikokecbaa.PM Go.Proofs.Ytiojmfikokecbaa.PX

def dtP (M : List (List Int)) (r c : Int) : Int := dt (memTo M.length r M.length).length (ent (partL M r c))
def negI (M : List (List Int)) (r c : Int) : Int := if onesTo r 5 = onesTo c 5 ∧ dtP M r c < 0 then 1 else 0
def negR (M : List (List Int)) (r : Nat) (k : Nat) : Int := sumTo (fun c => negI M r c) k
def negS (M : List (List Int)) (T i : Nat) : Int := sumTo (fun r => negR M r T) i
theorem negI_bd (M : List (List Int)) (r c : Int) : 0 ≤ negI M r c ∧ negI M r c ≤ 1 := by unfold negI; split <;> omega
theorem negR_succ (M : List (List Int)) (r k : Nat) : negR M r (k + 1) = negR M r k + negI M r k := rfl
theorem negS_succ (M : List (List Int)) (T i : Nat) : negS M T (i + 1) = negS M T i + negR M i T := rfl
theorem negR_bd (M : List (List Int)) (r k : Nat) : 0 ≤ negR M r k ∧ negR M r k ≤ k := by
  induction k with
  | zero => simp [negR, sumTo]
  | succ k ih => have := negI_bd M r k; rw [negR_succ]; omega
theorem negS_bd (M : List (List Int)) (T i : Nat) (hT : T ≤ 32) : 0 ≤ negS M T i ∧ negS M T i ≤ 32 * i := by
  induction i with
  | zero => simp [negS, sumTo]
  | succ i ih => have := negR_bd M i T; rw [negS_succ]; omega
def cntOut (M : List (List Int)) : Int × Int := if matB M = false then (0, 1) else (negS M (2 ^ M.length) (2 ^ M.length), 0)
theorem cntOut_no {M : List (List Int)} (h : matB M = false) : cntOut M = (0, 1) := by unfold cntOut; rw [if_pos h]
theorem cntOut_ok {M : List (List Int)} {T : Nat} (h : matB M = true) (hT : T = 2 ^ M.length) : cntOut M = (negS M T T, 0) := by unfold cntOut; rw [if_neg (by simp [h]), hT]
theorem set_of {T n r : Nat} (hT : T = 2 ^ n) (h : r < T) : 0 ≤ (r : Int) ∧ (r : Int) < (2 : Int) ^ n := by
  subst hT
  exact ⟨by omega, by exact_mod_cast h⟩
theorem T_le {T n : Nat} (hT : T = 2 ^ n) (hn : n ≤ 5) : T ≤ 32 := by
  rw [hT]
  have := Nat.pow_le_pow_right (show 0 < 2 by omega) hn
  simpa using this

/-- A minor, in the program. -/
theorem partFact (m : Value) (M : List (List Int)) (T : Nat) (w : World) (h1 : PM.Rows w m M) (hM : matB M = true) (hT : T = 2 ^ M.length) (r c : Nat) (hr : r < T) (hc : c < T) (h3 : onesTo r 5 = onesTo c 5) :
    Calls Try.prog 93 #[m, .int .i64 r, .int .i64 c] w fun e w' => ∃ v, e = .returned v ∧ Below w.heap.size w w' ∧ Calls Try.prog 68 #[v] w' fun e w'' => e = .returned (.int .i64 (dtP M r c)) ∧ Below w'.heap.size w' w'' := by
  obtain ⟨f1, f2, f3, f4⟩ := matB_facts hM
  have hma := matB_all hM
  have sr := set_of hT hr
  have sc := set_of hT hc
  have h1' := h1
  obtain ⟨a1, c1, rfl, _, _, hx⟩ := h1
  obtain ⟨b, off, rfl⟩ : ∃ b off, a1 = some ⟨b, off, none⟩ := by
    rcases hx with hx | ⟨b, off, rfl, _⟩
    · rw [hx] at f1; simp at f1
    · exact ⟨b, off, rfl⟩
  refine (callsIn_wide.1 (partOf_ok b off c1 M r c w h1' f2 f3 sr.1 sr.2 sc.1 sc.2)).mono ?_
  rintro e w' ⟨v, us, rfl, ho, hb⟩
  exact ⟨v, rfl, hb, partDet v M r c w' (ho.rows.rows' (partL_I64 hma r c)) f2 hma (cnt_of f2 sr sc h3)⟩
/-- A minor, in the model. -/
theorem byFact (m : Value) (M : List (List Int)) (T : Nat) (w : World) (h1 : PM.Rows w m M) (hM : matB M = true) (hT : T = 2 ^ M.length) (r c : Nat) (hr : r < T) (hc : c < T) (h3 : onesTo r 5 = onesTo c 5) :
    Calls Try.prog 89 #[m, .int .i64 r, .int .i64 c] w fun e w' => e = .returned (.int .i64 (dtP M r c)) ∧ Below w.heap.size w w' := by
  obtain ⟨f1, f2, f3, f4⟩ := matB_facts hM
  have hp := pow_le32 f2
  have sr := set_of hT hr
  have sc := set_of hT hc
  exact l03By_any m M r c w h1 f1 f2 f3 (matB_all hM) sr.1 (by omega) sc.1 (by omega) (cnt_of f2 sr sc h3)

set_option maxRecDepth 100000 in
set_option maxHeartbeats 4000000 in
theorem specCountNegative_any (m : Value) (M : List (List Int)) (w : World) (h1 : PM.Rows w m M) : Calls Try.prog 53 #[m] w (OutN w (cntOut M)) := by
  have hmat := l01Matrix_any m M w h1
  cases hM : matB M
  · rw [cntOut_no hM]
    rw [hM] at hmat
    have HS := Lib.hid hmat
    obtain ⟨a1, c1, rfl, _⟩ := h1
    clear hM hmat
    go_enter Try.func53, Try.ntmps53
    go_wp2_with fail
    refine HS.out.mono ?_; rintro e w1 ⟨rfl, rfl⟩
    go_wp2_with fail
    go_ret2
    exact ⟨rfl, by (repeat' (first | (with_reducible exact Below.refl _ _) | (with_reducible assumption) | (with_reducible refine Below.alloc ?_ ?_ _) | (with_reducible refine Below.drew ?_) | (with_reducible refine below_drewN ?_ _) | (with_reducible refine Below.setCell ?_ ?_ _) | (with_reducible refine Below.trans ?_ (Below.mono (by with_reducible assumption) ?_)) | (with_reducible exact Below.size (by with_reducible assumption)) | go_size))⟩
  rw [hM] at hmat
  obtain ⟨f1, f2, _, _⟩ := matB_facts hM
  obtain ⟨T, hT⟩ : ∃ T, T = 2 ^ M.length := ⟨_, rfl⟩
  have HO := Lib.hid (cntOut_ok hM hT)
  have hT32 := T_le hT f2
  have hby := fun (w' : World) (hb : Below w.heap.size w w') (r c : Nat) hr hc h3 => byFact m M T w' (h1.below hb) hM hT r c hr hc h3
  have HON := Lib.hid (fun (r : Nat) (hr : r < T) (w : World) => l01Ones_any r (by omega) (by omega) w)
  have HSB := Lib.hid (fun i => negS_bd M T i hT32)
  obtain ⟨a1, c1, rfl, _⟩ := h1
  rw [HO.out]
  clear hM HO
  generalize M.length = n at *
  have HBY := Lib.hid hby
  have HMAT := Lib.hid hmat
  clear hby hmat
  obtain rfl | rfl | rfl | rfl | rfl : n = 1 ∨ n = 2 ∨ n = 3 ∨ n = 4 ∨ n = 5 := by omega
  all_goals
    clear f1 f2
    simp only [Nat.reducePow] at hT
    go_enter Try.func53, Try.ntmps53
    go_wp2_with fail
    refine HMAT.out.mono ?_; rintro e w1 ⟨rfl, rfl⟩
    go_wp2_with fail
    go_loopw [4, 6, 7] (fun x i _ wr => ∃ r : Nat, r ≤ T ∧ i = .int .i64 r ∧ x = .int .i64 (negS M T r) ∧ Below w.heap.size w wr) (fun _ i _ _ => T - (intOf i).toNat)
    case atStart => exact ⟨0, Nat.zero_le _, rfl, rfl, by (repeat' (first | (with_reducible exact Below.refl _ _) | (with_reducible assumption) | (with_reducible refine Below.alloc ?_ ?_ _) | (with_reducible refine Below.drew ?_) | (with_reducible refine below_drewN ?_ _) | (with_reducible refine Below.setCell ?_ ?_ _) | (with_reducible refine Below.trans ?_ (Below.mono (by with_reducible assumption) ?_)) | (with_reducible exact Below.size (by with_reducible assumption)) | go_size))⟩
    case round =>
      obtain ⟨r, hr, rfl, rfl, hB⟩ := hrel
      have HB := Lib.hid hB
      obtain ⟨b1, b2⟩ := HSB.out r
      clear hB
      by_cases hlt : r < T
      · have HSS := Lib.hid (negS_succ M T r)
        obtain ⟨S, hS⟩ : ∃ S, S = negS M T r := ⟨_, rfl⟩
        rw [← hS] at b1 b2 HSS ⊢
        have htt : ∀ q : Int, (r : Int) < q → decide ((r : Int) < q) = true := fun q h => decide_eq_true h
        clear hS
        go_wp2_with fail
        rw [htt]
        rotate_left
        · omega
        go_loopw [4, 7] (fun x i wr => ∃ c : Nat, c ≤ T ∧ i = .int .i64 c ∧ x = .int .i64 (S + negR M r c) ∧ Below w.heap.size w wr) (fun _ i _ => T - (intOf i).toNat)
        case atStart => exact ⟨0, Nat.zero_le _, rfl, by simp [negR, sumTo], HB.out⟩
        case round =>
          obtain ⟨c, hc, rfl, rfl, hB⟩ := hrel
          obtain ⟨b3, b4⟩ := negR_bd M r c
          by_cases hltc : c < T
          · have HRS := Lib.hid (negR_succ M r c)
            have HN1 := Lib.hid (HON.out r hlt)
            have HN2 := Lib.hid (HON.out c hltc)
            have HBC := Lib.hid (HBY.out wr hB r c hlt hltc)
            have HB := Lib.hid hB
            obtain ⟨R, hR⟩ : ∃ R, R = negR M r c := ⟨_, rfl⟩
            rw [← hR] at b3 b4 HRS ⊢
            clear hR hB
            by_cases h3 : onesTo r 5 = onesTo c 5
            · have HCC := Lib.hid (HBC.out h3)
              by_cases hD : dtP M r c < 0
              · have e1 : negI M r c = 1 := by unfold negI; rw [if_pos ⟨h3, hD⟩]
                rw [e1] at HRS
                rw [h3] at HN1
                clear h3 e1 HBC
                generalize dtP M r c = D at *
                generalize onesTo c 5 = y at *
                go_wp2_with fail
                refine (HN1.out _).mono ?_; rintro e w2 ⟨rfl, rfl⟩
                go_wp2_with fail
                refine (HN2.out _).mono ?_; rintro e w3 ⟨rfl, rfl⟩
                go_wp2_with fail
                refine HCC.out.mono ?_; rintro e w4 ⟨rfl, hb4⟩
                have HB4 := Lib.hid (HB.out.trans (hb4.mono HB.out.size))
                clear hb4
                go_wp2_with fail
                go_roundw
                case rel => exact ⟨c + 1, by omega, by go_num, by rw [HRS.out, Int.add_assoc], HB4.out⟩
                case measure => simp [intOf]; omega
              · have e1 : negI M r c = 0 := by unfold negI; rw [if_neg (fun h => hD h.2)]
                rw [e1] at HRS
                rw [h3] at HN1
                clear h3 e1 HBC
                generalize dtP M r c = D at *
                generalize onesTo c 5 = y at *
                go_wp2_with fail
                refine (HN1.out _).mono ?_; rintro e w2 ⟨rfl, rfl⟩
                go_wp2_with fail
                refine (HN2.out _).mono ?_; rintro e w3 ⟨rfl, rfl⟩
                go_wp2_with fail
                refine HCC.out.mono ?_; rintro e w4 ⟨rfl, hb4⟩
                have HB4 := Lib.hid (HB.out.trans (hb4.mono HB.out.size))
                clear hb4
                go_wp2_with fail
                go_roundw
                case rel => exact ⟨c + 1, by omega, by go_num, by rw [HRS.out, Int.add_zero], HB4.out⟩
                case measure => simp [intOf]; omega
            · have e1 : negI M r c = 0 := by unfold negI; rw [if_neg (fun h => h3 h.1)]
              rw [e1] at HRS
              clear e1 HBC
              generalize onesTo c 5 = y at *
              generalize onesTo r 5 = x at *
              go_wp2_with fail
              refine (HN1.out _).mono ?_; rintro e w2 ⟨rfl, rfl⟩
              go_wp2_with fail
              refine (HN2.out _).mono ?_; rintro e w3 ⟨rfl, rfl⟩
              go_wp2_with fail
              go_roundw
              case rel => exact ⟨c + 1, by omega, by go_num, by rw [HRS.out, Int.add_zero], HB.out⟩
              case measure => simp [intOf]; omega
          · obtain rfl : c = T := by omega
            have HB := Lib.hid hB
            rw [← HSS.out]
            obtain ⟨S2, hS2⟩ : ∃ S2, S2 = negS M c (r + 1) := ⟨_, rfl⟩
            rw [← hS2]
            have HS2 := Lib.hid hS2
            clear hB b3 b4 hS2
            go_wp2_with fail
            go_roundw
            case rel => exact ⟨r + 1, by omega, by go_num, by rw [HS2.out], HB.out⟩
            case measure => simp [intOf]; omega
      · obtain rfl : r = T := by omega
        generalize negS M r r = S at *
        go_wp2_with fail
        go_ret2
        exact ⟨rfl, HB.out⟩

set_option maxRecDepth 100000 in
set_option maxHeartbeats 4000000 in
theorem implCountNegative_any (m : Value) (M : List (List Int)) (w : World) (h1 : PM.Rows w m M) : Calls Try.prog 54 #[m] w (OutN w (cntOut M)) := by
  have hmat := implIsMatrix_any m M w h1
  cases hM : matB M
  · rw [cntOut_no hM]
    rw [hM] at hmat
    have HS := Lib.hid hmat
    obtain ⟨a1, c1, rfl, _⟩ := h1
    clear hM hmat
    go_enter Try.func54, Try.ntmps54
    go_wp2_with fail
    refine HS.out.mono ?_; rintro e w1 ⟨rfl, rfl⟩
    go_wp2_with fail
    go_ret2
    exact ⟨rfl, by (repeat' (first | (with_reducible exact Below.refl _ _) | (with_reducible assumption) | (with_reducible refine Below.alloc ?_ ?_ _) | (with_reducible refine Below.drew ?_) | (with_reducible refine below_drewN ?_ _) | (with_reducible refine Below.setCell ?_ ?_ _) | (with_reducible refine Below.trans ?_ (Below.mono (by with_reducible assumption) ?_)) | (with_reducible exact Below.size (by with_reducible assumption)) | go_size))⟩
  rw [hM] at hmat
  obtain ⟨f1, f2, _, _⟩ := matB_facts hM
  obtain ⟨T, hT⟩ : ∃ T, T = 2 ^ M.length := ⟨_, rfl⟩
  have HO := Lib.hid (cntOut_ok hM hT)
  have hT32 := T_le hT f2
  have hby := fun (w' : World) (hb : Below w.heap.size w w') (r c : Nat) hr hc h3 => partFact m M T w' (h1.below hb) hM hT r c hr hc h3
  have HON := Lib.hid (fun (r c : Nat) (hr : r < T) (hc : c < T) (w : World) => haveAsMany_any r c (by omega) (by omega) (by omega) (by omega) w)
  have HSB := Lib.hid (fun i => negS_bd M T i hT32)
  obtain ⟨a1, c1, rfl, _⟩ := h1
  rw [HO.out]
  clear hM HO
  generalize M.length = n at *
  have HBY := Lib.hid hby
  have HMAT := Lib.hid hmat
  clear hby hmat
  obtain rfl | rfl | rfl | rfl | rfl : n = 1 ∨ n = 2 ∨ n = 3 ∨ n = 4 ∨ n = 5 := by omega
  all_goals
    clear f1 f2
    simp only [Nat.reducePow] at hT
    go_enter Try.func54, Try.ntmps54
    go_wp2_with fail
    refine HMAT.out.mono ?_; rintro e w1 ⟨rfl, rfl⟩
    go_wp2_with fail
    go_loopw [4, 5, 6, 13] (fun x _ _ i wr => ∃ r : Nat, r ≤ T ∧ i = .int .i64 r ∧ x = .int .i64 (negS M T r) ∧ Below w.heap.size w wr) (fun _ _ _ i _ => T - (intOf i).toNat)
    case atStart => exact ⟨0, Nat.zero_le _, rfl, rfl, by (repeat' (first | (with_reducible exact Below.refl _ _) | (with_reducible assumption) | (with_reducible refine Below.alloc ?_ ?_ _) | (with_reducible refine Below.drew ?_) | (with_reducible refine below_drewN ?_ _) | (with_reducible refine Below.setCell ?_ ?_ _) | (with_reducible refine Below.trans ?_ (Below.mono (by with_reducible assumption) ?_)) | (with_reducible exact Below.size (by with_reducible assumption)) | go_size))⟩
    case round =>
      obtain ⟨r, hr, rfl, rfl, hB⟩ := hrel
      have HB := Lib.hid hB
      obtain ⟨b1, b2⟩ := HSB.out r
      clear hB
      by_cases hlt : r < T
      · have HSS := Lib.hid (negS_succ M T r)
        obtain ⟨S, hS⟩ : ∃ S, S = negS M T r := ⟨_, rfl⟩
        rw [← hS] at b1 b2 HSS ⊢
        have htt : ∀ q : Int, (r : Int) < q → decide ((r : Int) < q) = true := fun q h => decide_eq_true h
        clear hS
        go_wp2_with fail
        rw [htt]
        rotate_left
        · omega
        go_loopw [4, 6, 19] (fun x _ i wr => ∃ c : Nat, c ≤ T ∧ i = .int .i64 c ∧ x = .int .i64 (S + negR M r c) ∧ Below w.heap.size w wr) (fun _ _ i _ => T - (intOf i).toNat)
        case atStart => exact ⟨0, Nat.zero_le _, rfl, by simp [negR, sumTo], HB.out⟩
        case round =>
          obtain ⟨c, hc, rfl, rfl, hB⟩ := hrel
          obtain ⟨b3, b4⟩ := negR_bd M r c
          by_cases hltc : c < T
          · have HRS := Lib.hid (negR_succ M r c)
            have hn := HON.out r c hlt hltc
            have HBC := Lib.hid (HBY.out wr hB r c hlt hltc)
            have HB := Lib.hid hB
            obtain ⟨R, hR⟩ : ∃ R, R = negR M r c := ⟨_, rfl⟩
            rw [← hR] at b3 b4 HRS ⊢
            clear hR hB
            by_cases h3 : onesTo r 5 = onesTo c 5
            · rw [decide_eq_true h3] at hn
              have HN := Lib.hid hn
              have HCC := Lib.hid (HBC.out h3)
              clear hn
              by_cases hD : dtP M r c < 0
              · have e1 : negI M r c = 1 := by unfold negI; rw [if_pos ⟨h3, hD⟩]
                rw [e1] at HRS
                clear h3 e1 HBC
                generalize dtP M r c = D at *
                go_wp2_with fail
                refine (HN.out _).mono ?_; rintro e w2 ⟨rfl, rfl⟩
                go_wp2_with fail
                refine HCC.out.mono ?_; rintro e w4 ⟨v, rfl, hb4, hd⟩
                have HB4 := Lib.hid (HB.out.trans (hb4.mono HB.out.size))
                have HD := Lib.hid hd
                clear hb4 hd
                go_wp2_with fail
                refine HD.out.mono ?_; rintro e w5 ⟨rfl, hb5⟩
                have HB5 := Lib.hid (HB4.out.trans (hb5.mono HB4.out.size))
                clear hb5
                go_wp2_with fail
                go_roundw
                case rel => exact ⟨c + 1, by omega, by go_num, by rw [HRS.out, Int.add_assoc], HB5.out⟩
                case measure => simp [intOf]; omega
              · have e1 : negI M r c = 0 := by unfold negI; rw [if_neg (fun h => hD h.2)]
                rw [e1] at HRS
                clear h3 e1 HBC
                generalize dtP M r c = D at *
                go_wp2_with fail
                refine (HN.out _).mono ?_; rintro e w2 ⟨rfl, rfl⟩
                go_wp2_with fail
                refine HCC.out.mono ?_; rintro e w4 ⟨v, rfl, hb4, hd⟩
                have HB4 := Lib.hid (HB.out.trans (hb4.mono HB.out.size))
                have HD := Lib.hid hd
                clear hb4 hd
                go_wp2_with fail
                refine HD.out.mono ?_; rintro e w5 ⟨rfl, hb5⟩
                have HB5 := Lib.hid (HB4.out.trans (hb5.mono HB4.out.size))
                clear hb5
                go_wp2_with fail
                go_roundw
                case rel => exact ⟨c + 1, by omega, by go_num, by rw [HRS.out, Int.add_zero], HB5.out⟩
                case measure => simp [intOf]; omega
            · have e1 : negI M r c = 0 := by unfold negI; rw [if_neg (fun h => h3 h.1)]
              rw [e1] at HRS
              rw [decide_eq_false h3] at hn
              have HN := Lib.hid hn
              clear e1 HBC hn h3
              go_wp2_with fail
              refine (HN.out _).mono ?_; rintro e w2 ⟨rfl, rfl⟩
              go_wp2_with fail
              go_roundw
              case rel => exact ⟨c + 1, by omega, by go_num, by rw [HRS.out, Int.add_zero], HB.out⟩
              case measure => simp [intOf]; omega
          · obtain rfl : c = T := by omega
            have HB := Lib.hid hB
            rw [← HSS.out]
            obtain ⟨S2, hS2⟩ : ∃ S2, S2 = negS M c (r + 1) := ⟨_, rfl⟩
            rw [← hS2]
            have HS2 := Lib.hid hS2
            clear hB b3 b4 hS2
            go_wp2_with fail
            go_roundw
            case rel => exact ⟨r + 1, by omega, by go_num, by rw [HS2.out], HB.out⟩
            case measure => simp [intOf]; omega
      · obtain rfl : r = T := by omega
        generalize negS M r r = S at *
        go_wp2_with fail
        go_ret2
        exact ⟨rfl, HB.out⟩
set_option maxHeartbeats 4000000 in
theorem law_FnExactCountNegative (m : Value) (M : List (List Int)) (w : World) (h1 : PM.Rows w m M) :
    Calls Try.prog 14 #[m] w fun e w' => e = .returned (.bool true) ∧ Below w.heap.size w w' := by
  have g1 := fun (w' : World) (h : Below w.heap.size w w') => h1.below h
  have I1 := Lib.hid (rows_I64 h1)
  obtain ⟨a1, c1, rfl, _⟩ := h1
  by_cases hz : szR M 1048576 < 0
  · have e1 := szR_neg hz
    have E1 := Lib.hid e1
    clear hz e1
    go_enter Try.func14, Try.ntmps14
    go_wp2_with fail
    refine (szInt64SS_any _ M _ _ (g1 _ (by (repeat' (first | (with_reducible exact Below.refl _ _) | (with_reducible assumption) | (with_reducible refine Below.alloc ?_ ?_ _) | (with_reducible refine Below.drew ?_) | (with_reducible refine below_drewN ?_ _) | (with_reducible refine Below.setCell ?_ ?_ _) | (with_reducible refine Below.trans ?_ (Below.mono (by with_reducible assumption) ?_)) | (with_reducible exact Below.size (by with_reducible assumption)) | go_size)))) (by omega) (by omega)).mono ?_; rw [E1.out]; rintro e w1 ⟨rfl, rfl⟩
    go_wp2_with fail
    go_ret
    exact ⟨rfl, by (repeat' (first | (with_reducible exact Below.refl _ _) | (with_reducible assumption) | (with_reducible refine Below.alloc ?_ ?_ _) | (with_reducible refine Below.drew ?_) | (with_reducible refine below_drewN ?_ _) | (with_reducible refine Below.setCell ?_ ?_ _) | (with_reducible refine Below.trans ?_ (Below.mono (by with_reducible assumption) ?_)) | (with_reducible exact Below.size (by with_reducible assumption)) | go_size))⟩
  have hle := szR_le M
  have HN1 := Lib.hid (szR_fits hz)
  have hspec := fun (m : Value) (w : World) (h1 : PM.Rows w m M) => specCountNegative_any m M w h1
  have himpl := fun (m : Value) (w : World) (h1 : PM.Rows w m M) => implCountNegative_any m M w h1
  generalize cntOut M = o at *
  obtain ⟨O, code⟩ := o
  have HS := Lib.hid hspec
  have HI := Lib.hid himpl
  clear hspec himpl
  go_enter Try.func14, Try.ntmps14
  go_wp2_with fail
  refine (szInt64SS_any _ M _ _ (g1 _ (by (repeat' (first | (with_reducible exact Below.refl _ _) | (with_reducible assumption) | (with_reducible refine Below.alloc ?_ ?_ _) | (with_reducible refine Below.drew ?_) | (with_reducible refine below_drewN ?_ _) | (with_reducible refine Below.setCell ?_ ?_ _) | (with_reducible refine Below.trans ?_ (Below.mono (by with_reducible assumption) ?_)) | (with_reducible exact Below.size (by with_reducible assumption)) | go_size)))) (by omega) (by omega)).mono ?_; rintro e w1 ⟨rfl, rfl⟩
  generalize szR M 1048576 = left at *
  go_wp2_with fail
  refine (toRows_out _ M _ (g1 _ (by (repeat' (first | (with_reducible exact Below.refl _ _) | (with_reducible assumption) | (with_reducible refine Below.alloc ?_ ?_ _) | (with_reducible refine Below.drew ?_) | (with_reducible refine below_drewN ?_ _) | (with_reducible refine Below.setCell ?_ ?_ _) | (with_reducible refine Below.trans ?_ (Below.mono (by with_reducible assumption) ?_)) | (with_reducible exact Below.size (by with_reducible assumption)) | go_size)))) HN1.out).mono ?_; rintro e w2 ⟨gA, rfl, hr2, hb2⟩
  have R2 := Lib.hid (hr2.rows I1.out)
  clear hr2

  go_wp2_with fail
  refine (HS.out _ _ R2.out).mono ?_; rintro e w3 ⟨rfl, hb3⟩; dsimp only
  have hw3 : Below w.heap.size w w3 := hb2.trans (hb3.mono hb2.size)
  clear R2 HS
  go_wp2_with fail
  refine (toRows_out _ M _ (g1 _ hw3) HN1.out).mono ?_; rintro e w4 ⟨gC, rfl, hr4, hb4⟩
  have R4 := Lib.hid (hr4.rows I1.out)
  have hw4 : Below w.heap.size w w4 := hw3.trans (hb4.mono hw3.size)
  clear hr4
  go_wp2_with fail
  refine (HI.out _ _ R4.out).mono ?_; rintro e w5 ⟨rfl, hb5⟩; dsimp only
  have R5 := Lib.hid (R4.out.below hb5)
  have hw5 : Below w.heap.size w w5 := hw4.trans (hb5.mono hw4.size)
  clear R4 HI
  go_wp2_with fail
  refine (toRows_out _ M _ (g1 _ hw5) HN1.out).mono ?_; rintro e w6 ⟨gE, rfl, hr6, hb6⟩
  have R6 := Lib.hid (hr6.rows I1.out)
  have hw6 : Below w.heap.size w w6 := hw5.trans (hb6.mono hw5.size)
  clear hr6
  go_wp2_with fail
  refine (eqInt64SS_same _ _ M _ (R5.out.below hb6) R6.out).mono ?_; rintro e w7 ⟨rfl, hb7⟩
  have hw7 : Below w.heap.size w w7 := hw6.trans (hb7.mono hw6.size)
  go_wp2_with fail
  go_ret
  exact ⟨rfl, hw7⟩
end Go.Proofs.Ytiojmfikokecbaa.PW
