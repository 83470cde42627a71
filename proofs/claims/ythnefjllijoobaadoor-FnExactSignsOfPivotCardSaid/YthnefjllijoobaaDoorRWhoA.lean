/-
  Walks: is a pivot whole? Both sides.
  The exact law of IsWholePivot: both sides' answers, and the law.
-/
import Derived.Test.YthnefjllijoobaaDoorRPivA
namespace Go.Proofs.YthnefjllijoobaaDoor.PW
open Go.RowKit Go.Proofs.YthnefjllijoobaaDoor
open Go.Proofs.YthnefjllijoobaaDoor.PM Go.Proofs.YthnefjllijoobaaDoor.PX

def mulB (n : Nat) (g : Nat → Int) (d : Int) : Bool := decide (∀ k, k < n → (g k).tmod d = 0)
def whB (n : Nat) (f : Nat → Nat → Int) (g : Nat → Int) (d : Int) : Bool := decide ((∀ k, k < n → (g k).tmod d = 0) ∧ ∀ i, i < n → ∀ k, k < n → (f i k).tmod d = 0)
theorem tmod_bd {x d : Int} (h : Bd 1920000000 x) : Bd 1920000000 (x.tmod d) := by
  have h1 := Int.natAbs_tmod x d
  have h2 := Nat.mod_le x.natAbs d.natAbs
  unfold Bd at *
  omega

set_option maxHeartbeats 1000000 in
theorem areMultiples_any (v : Value) (n : Nat) (g : Nat → Int) (d : Int) (w : World) (hv : Ints w v ((List.range n).map g)) (hn1 : 1 ≤ n) (hn5 : n ≤ 5) (hd : d ≠ 0) (hg : ∀ k, Bd 1920000000 (g k)) :
    Calls Tryd.prog 77 #[v, .int .i64 d] w fun e w' => e = .returned (.bool (mulB n g d)) ∧ w' = w := by
  obtain ⟨b, off, c, rfl, hb, hc⟩ := ints_at hv (row_length _ _) hn1
  have HC := Lib.hid (fun k (hk : k < n) => show w.cell? ⟨b, off + k, none⟩ = some (.int .i64 (g k)) by have := hc k (by rw [row_length]; exact hk); rwa [row_getD _ _ _ hk] at this)
  have HG := Lib.hid (fun k => tmod_bd (d := d) (hg k))
  have HD := Lib.hid (fun k => hg k)
  clear hc hv hg
  go_enter Tryd.func77, Tryd.ntmps77
  go_wp2_with fail
  go_loop [6, 9] (fun _ i => ∃ k : Nat, k ≤ n ∧ i = .int .i64 k ∧ Hid (∀ j, j < k → (g j).tmod d = 0)) (fun _ i => n - (intOf i).toNat)
  case atStart => exact ⟨0, Nat.zero_le _, rfl, fun j hj => absurd hj (Nat.not_lt_zero _)⟩
  case round =>
    obtain ⟨k, hk, rfl, hrng⟩ := hrel
    by_cases hlt : k < n
    · have h1 := HC.out k hlt
      have hb1 := HG.out k
      have hb2 := HD.out k
      unfold Bd at hb1 hb2
      obtain ⟨hb11, hb12⟩ := hb1
      obtain ⟨hb21, hb22⟩ := hb2
      have hwr : IntKind.i64.wrap ((g k).tmod d) = (g k).tmod d := IntWalk.i64_in _ (by omega)
      by_cases hin : (g k).tmod d = 0
      · have hnext : Hid (∀ j, j < k + 1 → (g j).tmod d = 0) := fun j hj => by
          by_cases e : j = k
          · subst e; exact hin
          · exact hrng.out j (by omega)
        generalize g k = x at *
        go_wp2_with fail
        go_round
        case rel => exact ⟨k + 1, by omega, by go_num, hnext⟩
        case measure => simp [intOf]; omega
      · have hno : Hid (mulB n g d = false) := Lib.hid (decide_eq_false (fun h => hin (h k hlt)))
        obtain ⟨x, hx⟩ : ∃ x, x = g k := ⟨_, rfl⟩
        rw [← hx] at *
        obtain ⟨r, hr⟩ : ∃ r, r = x.tmod d := ⟨_, rfl⟩
        rw [← hr] at *
        have hr' := hr.symm
        clear hr hx
        go_wp2_with fail
        go_ret
        exact ⟨by rw [hno.out]; rfl, rfl⟩
    · obtain rfl : k = n := by omega
      have hyes : Hid (mulB k g d = true) := Lib.hid (decide_eq_true hrng.out)
      go_wp2_with fail
      go_ret
      exact ⟨by rw [hyes.out]; rfl, rfl⟩
theorem rowsI_at {w : World} {v : Value} {n : Nat} {e : Nat → Nat → Int} (hv : PM.Rows w v (tab n e)) (hn1 : 1 ≤ n) : ∃ b off c, v = .slice (some ⟨b, off, none⟩) n c ∧ b < w.heap.size ∧
    ∀ i, i < n → ∃ bi oi ci, w.cell? ⟨b, off + i, none⟩ = some (.slice (some ⟨bi, oi, none⟩) n ci) ∧ bi < w.heap.size ∧ Ints w (.slice (some ⟨bi, oi, none⟩) n ci) ((List.range n).map (e i)) ∧ ∀ k, k < n → w.cell? ⟨bi, oi + k, none⟩ = some (.int .i64 (e i k)) := by
  obtain ⟨a1, c1, rfl, _, _, hx⟩ := hv
  have htl := tab_length n e
  obtain ⟨b, off, rfl, hblt, hcell⟩ : ∃ b off, a1 = some ⟨b, off, none⟩ ∧ b < w.heap.size ∧ ∀ i, i < n → ∃ u, w.cell? ⟨b, off + i, none⟩ = some u ∧ Ints w u ((List.range n).map (e i)) := by
    rcases hx with hx | ⟨b, off, h1, h2, h3⟩
    · rw [hx] at htl; simp at htl; omega
    · exact ⟨b, off, h1, h2, fun i hi => by rw [← tab_row _ _ _ hi]; exact h3 i (by omega)⟩
  refine ⟨b, off, c1, by rw [htl], hblt, fun i hi => ?_⟩
  obtain ⟨u, hu, hI⟩ := hcell i hi
  obtain ⟨bi, oi, ci, rfl, hbi, hc⟩ := ints_at hI (row_length _ _) hn1
  exact ⟨bi, oi, ci, hu, hbi, hI, fun k hk => by have := hc k (by rw [row_length]; exact hk); rwa [row_getD _ _ _ hk] at this⟩

set_option maxHeartbeats 2000000 in
theorem isWhole_any (v q : Value) (n : Nat) (f : Nat → Nat → Int) (g : Nat → Int) (d : Int) (w : World) (h1 : PM.Rows w v (tab n f)) (h2 : Ints w q ((List.range n).map g)) (hn1 : 1 ≤ n) (hn5 : n ≤ 5) (hd : d ≠ 0) (hf : ∀ i k, Bd 1920000000 (f i k)) (hg : ∀ k, Bd 1920000000 (g k)) :
    Calls Tryd.prog 52 #[.agg #[.int .i64 d, v, q]] w fun e w' => e = .returned (.bool (whB n f g d)) ∧ Below w.heap.size w w' := by
  have hb0 : Below w.heap.size w (w.alloc (.cells #[.int .i64 d, v, q] 28)) := (Below.refl _ _).alloc (Nat.le_refl _) _
  have r1 := h1.below hb0
  have r2 := h2.below hb0
  obtain ⟨bv, ov, cv, rfl, _, hr⟩ := rowsI_at r1 hn1
  obtain ⟨bq, oq, cq, rfl, _, _⟩ := ints_at h2 (row_length _ _) hn1
  have HR := Lib.hid hr
  have HA := Lib.hid (fun i u w (h : Ints w u ((List.range n).map (f i))) => areMultiples_any u n (f i) d w h hn1 hn5 hd (hf i))
  have HQ := Lib.hid (areMultiples_any _ n g d _ r2 hn1 hn5 hd hg)
  have HB0 := Lib.hid hb0
  clear r1 r2 h1 h2 hr hf hg hb0
  go_enter Tryd.func52, Tryd.ntmps52
  go_wp2_with fail
  go_loop [4, 8] (fun _ i => ∃ k : Nat, k ≤ n ∧ i = .int .i64 k ∧ Hid (∀ j, j < k → ∀ l, l < n → (f j l).tmod d = 0)) (fun _ i => n - (intOf i).toNat)
  case atStart => exact ⟨0, Nat.zero_le _, by go_num, fun j hj => absurd hj (Nat.not_lt_zero _)⟩
  case round =>
    obtain ⟨k, hk, rfl, hrng⟩ := hrel
    by_cases hlt : k < n
    · obtain ⟨bi, oi, ci, c3, _, hI, _⟩ := HR.out k hlt
      have HAK := Lib.hid (HA.out k _ _ hI)
      clear hI
      by_cases hin : mulB n (f k) d = true
      · have hnext : Hid (∀ j, j < k + 1 → ∀ l, l < n → (f j l).tmod d = 0) := fun j hj => by
          by_cases e : j = k
          · subst e; exact of_decide_eq_true hin
          · exact hrng.out j (by omega)
        have HIN := Lib.hid hin
        clear hin
        go_wp2_with fail
        refine HAK.out.mono ?_; rw [HIN.out]; rintro e w1 ⟨rfl, rfl⟩
        go_wp2_with fail
        go_round
        case rel => exact ⟨k + 1, by omega, by go_num, hnext⟩
        case measure => simp [intOf]; omega
      · have hin' : mulB n (f k) d = false := by simpa using hin
        have hno : Hid (whB n f g d = false) := Lib.hid (decide_eq_false (fun h => of_decide_eq_false hin' (h.2 k hlt)))
        have HIN := Lib.hid hin'
        clear hin hin'
        go_wp2_with fail
        refine HAK.out.mono ?_; rw [HIN.out]; rintro e w1 ⟨rfl, rfl⟩
        go_wp2_with fail
        go_ret
        exact ⟨by rw [hno.out]; rfl, HB0.out⟩
    · obtain rfl : k = n := by omega
      have hyes : Hid (whB k f g d = mulB k g d) := Lib.hid (by
        unfold whB mulB
        by_cases c : ∀ l, l < k → (g l).tmod d = 0
        · rw [decide_eq_true c, decide_eq_true ⟨c, hrng.out⟩]
        · rw [decide_eq_false c, decide_eq_false (fun h => c h.1)])
      go_wp2_with fail
      refine HQ.out.mono ?_; rintro e w1 ⟨rfl, rfl⟩
      go_wp2_with fail
      go_ret
      exact ⟨by rw [hyes.out]; rfl, HB0.out⟩

set_option maxRecDepth 100000 in
set_option maxHeartbeats 4000000 in
theorem l04Whole_any (v q : Value) (n : Nat) (f : Nat → Nat → Int) (g : Nat → Int) (d : Int) (w : World) (h1 : PM.Rows w v (tab n f)) (h2 : Ints w q ((List.range n).map g)) (hn1 : 1 ≤ n) (hn5 : n ≤ 5) (hd : d ≠ 0) (hf : ∀ i k, Bd 1920000000 (f i k)) (hg : ∀ k, Bd 1920000000 (g k)) :
    Calls Tryd.prog 51 #[.agg #[.int .i64 d, v, q]] w fun e w' => e = .returned (.bool (whB n f g d)) ∧ Below w.heap.size w w' := by
  obtain ⟨W0, hW0⟩ : ∃ W0, W0 = w.alloc (.cells #[.int .i64 d, v, q] 28) := ⟨_, rfl⟩
  have hb0 : Below w.heap.size w W0 := by rw [hW0]; exact (Below.refl _ _).alloc (Nat.le_refl _) _
  have hz0 : W0.heap.size = w.heap.size + 1 := by rw [hW0]; simp
  have r1 := h1.below hb0
  have r2 := h2.below hb0
  obtain ⟨bv, ov, cv, rfl, hbv, hr⟩ := rowsI_at r1 hn1
  obtain ⟨bq, oq, cq, rfl, hbq, hcq⟩ := ints_at r2 (row_length _ _) hn1
  have HK := Lib.hid (fun wr (h : Below W0.heap.size W0 wr) => show wr.cell? ⟨w.heap.size, 0, none⟩ = some (.int .i64 d) ∧ wr.cell? ⟨w.heap.size, 1, none⟩ = some (.slice (some ⟨bv, ov, none⟩) n cv) ∧ wr.cell? ⟨w.heap.size, 2, none⟩ = some (.slice (some ⟨bq, oq, none⟩) n cq) by
    refine ⟨(h.cell (p := ⟨w.heap.size, 0, none⟩) (by show w.heap.size < _; omega)).trans ?_, (h.cell (p := ⟨w.heap.size, 1, none⟩) (by show w.heap.size < _; omega)).trans ?_, (h.cell (p := ⟨w.heap.size, 2, none⟩) (by show w.heap.size < _; omega)).trans ?_⟩
    all_goals (rw [hW0]; simp [go_sem]))
  have HR := Lib.hid (fun wr (h : Below W0.heap.size W0 wr) i (hi : i < n) => show ∃ bi oi ci, wr.cell? ⟨bv, ov + i, none⟩ = some (.slice (some ⟨bi, oi, none⟩) n ci) ∧ ∀ k, k < n → wr.cell? ⟨bi, oi + k, none⟩ = some (.int .i64 (f i k)) by
    obtain ⟨bi, oi, ci, c3, hbi, _, hc⟩ := hr i hi
    exact ⟨bi, oi, ci, (h.cell (p := ⟨bv, ov + i, none⟩) hbv).trans c3, fun k hk => (h.cell (p := ⟨bi, oi + k, none⟩) hbi).trans (hc k hk)⟩)
  have HCQ := Lib.hid (fun wr (h : Below W0.heap.size W0 wr) k (hk : k < n) => show wr.cell? ⟨bq, oq + k, none⟩ = some (.int .i64 (g k)) by
    have := hcq k (by rw [row_length]; exact hk)
    rw [row_getD _ _ _ hk] at this
    exact (h.cell (p := ⟨bq, oq + k, none⟩) hbq).trans this)
  have HF := Lib.hid (fun i k => And.intro (hf i k) (tmod_bd (d := d) (hf i k)))
  have HG := Lib.hid (fun k => And.intro (hg k) (tmod_bd (d := d) (hg k)))
  have HB0 := Lib.hid hb0
  clear r1 r2 h1 h2 hr hcq hf hg hz0
  go_enter Tryd.func51, Tryd.ntmps51
  go_wp2_with fail
  rw [← hW0]
  clear hW0 hb0
  go_loopw [3, 4] (fun i _ wr => ∃ k : Nat, k ≤ n ∧ i = .int .i64 k ∧ Hid (∀ j, j < k → (g j).tmod d = 0 ∧ ∀ l, l < n → (f j l).tmod d = 0) ∧ Below W0.heap.size W0 wr) (fun i _ _ => n - (intOf i).toNat)
  case atStart => exact ⟨0, Nat.zero_le _, rfl, fun j hj => absurd hj (Nat.not_lt_zero _), Below.refl _ _⟩
  case round =>
    obtain ⟨k, hk, rfl, hrng, hB⟩ := hrel
    obtain ⟨e0, e1, e2⟩ := HK.out wr hB
    by_cases hlt : k < n
    · have t1 := HCQ.out wr hB k hlt
      obtain ⟨hb1, hb2⟩ := HG.out k
      unfold Bd at hb1 hb2
      obtain ⟨hb11, hb12⟩ := hb1
      obtain ⟨hb21, hb22⟩ := hb2
      obtain ⟨x, hx⟩ : ∃ x, x = g k := ⟨_, rfl⟩
      rw [← hx] at t1 hb11 hb12 hb21 hb22
      obtain ⟨r, hr⟩ : ∃ r, r = x.tmod d := ⟨_, rfl⟩
      rw [← hr] at hb21 hb22
      have hwr : IntKind.i64.wrap r = r := IntWalk.i64_in _ (by omega)
      have hr' := hr.symm
      by_cases hin : r = 0
      · have HG0 := Lib.hid (show (g k).tmod d = 0 by rw [← hx, hr', hin])
        rw [hin] at hr'
        have HBd := Lib.hid (fun n => below_drewN hB n)
        clear hb21 hb22 hwr hr hin hx hB
        go_wp2_with fail
        go_quiet (fail)
        go_wp2_with fail
        go_loopw [4] (fun i wr => ∃ l : Nat, l ≤ n ∧ i = .int .i64 l ∧ Hid (∀ j, j < l → (f k j).tmod d = 0) ∧ Below W0.heap.size W0 wr) (fun i _ => n - (intOf i).toNat)
        case atStart => exact ⟨0, Nat.zero_le _, rfl, fun j hj => absurd hj (Nat.not_lt_zero _), HBd.out _⟩
        case round =>
          clear e0 e1 e2 t1
          obtain ⟨l, hl, rfl, hrn2, hB2⟩ := hrel
          obtain ⟨e0, e1, e2⟩ := HK.out wr hB2
          by_cases hltl : l < n
          · obtain ⟨bi, oi, ci, c3, hcr⟩ := HR.out wr hB2 k hlt
            have t2 := hcr l hltl
            clear hcr
            obtain ⟨hb1, hb2⟩ := HF.out k l
            unfold Bd at hb1 hb2
            obtain ⟨hb31, hb32⟩ := hb1
            obtain ⟨hb41, hb42⟩ := hb2
            obtain ⟨y, hy⟩ : ∃ y, y = f k l := ⟨_, rfl⟩
            rw [← hy] at t2 hb31 hb32 hb41 hb42
            obtain ⟨z, hz⟩ : ∃ z, z = y.tmod d := ⟨_, rfl⟩
            rw [← hz] at hb41 hb42
            have hwz : IntKind.i64.wrap z = z := IntWalk.i64_in _ (by omega)
            have hz' := hz.symm
            by_cases hin2 : z = 0
            · have hnext : Hid (∀ j, j < l + 1 → (f k j).tmod d = 0) := fun j hj => by
                by_cases e : j = l
                · subst e; rw [← hy, hz', hin2]
                · exact hrn2.out j (by omega)
              rw [hin2] at hz'
              have HBd2 := Lib.hid (fun n => below_drewN hB2 n)
              clear hb41 hb42 hwz hz hin2 hy hB2
              go_wp2_with fail
              go_quiet (fail)
              go_wp2_with fail
              go_roundw
              case rel => exact ⟨l + 1, by omega, by go_num, hnext, HBd2.out _⟩
              case measure => simp [intOf]; omega
            · have hno : Hid (whB n f g d = false) := Lib.hid (decide_eq_false (fun h => hin2 (by rw [hz, hy]; exact h.2 k hlt l hltl)))
              have HBd2 := Lib.hid (fun n => below_drewN hB2 n)
              clear hz hy hB2
              go_wp2_with fail
              go_quiet (fail)
              go_wp2_with fail
              go_ret
              exact ⟨by rw [hno.out]; rfl, HB0.out.trans ((HBd2.out _).mono HB0.out.size)⟩
          · obtain rfl : l = n := by omega
            have hnext : Hid (∀ j, j < k + 1 → (g j).tmod d = 0 ∧ ∀ a, a < l → (f j a).tmod d = 0) := fun j hj => by
              by_cases e : j = k
              · subst e; exact ⟨HG0.out, hrn2.out⟩
              · exact hrng.out j (by omega)
            have HB2 := Lib.hid hB2
            clear hB2
            go_wp2_with fail
            go_roundw
            case rel => exact ⟨k + 1, by omega, by go_num, hnext, HB2.out⟩
            case measure => simp [intOf]; omega
      · have hno : Hid (whB n f g d = false) := Lib.hid (decide_eq_false (fun h => hin (by rw [hr, hx]; exact h.1 k hlt)))
        have HBd := Lib.hid (fun n => below_drewN hB n)
        clear hr hx hB
        go_wp2_with fail
        go_quiet (fail)
        go_wp2_with fail
        go_ret
        exact ⟨by rw [hno.out]; rfl, HB0.out.trans ((HBd.out _).mono HB0.out.size)⟩
    · obtain rfl : k = n := by omega
      have hyes : Hid (whB k f g d = true) := Lib.hid (decide_eq_true ⟨fun j hj => (hrng.out j hj).1, fun j hj => (hrng.out j hj).2⟩)
      have HB := Lib.hid hB
      clear hB
      go_wp2_with fail
      go_ret
      exact ⟨by rw [hyes.out]; rfl, HB0.out.trans (HB.out.mono HB0.out.size)⟩
end Go.Proofs.YthnefjllijoobaaDoor.PW
namespace Go.Proofs.YthnefjllijoobaaDoor.PW
open Go.RowKit Go.Proofs.YthnefjllijoobaaDoor
open Go.Proofs.YthnefjllijoobaaDoor.PM Go.Proofs.YthnefjllijoobaaDoor.PX

def iwOut (M : List (List Int)) (Q : List Int) (s : Int) : Bool × Int :=
  if (pvOut M Q s).c = 0 then (whB M.length (pvR M s) (pvS M Q s) (pvD M s), 0) else (false, (pvOut M Q s).c)
theorem iwOut_ok {M : List (List Int)} {Q : List Int} {s : Int} (h : (pvOut M Q s).c = 0) : iwOut M Q s = (whB M.length (pvR M s) (pvS M Q s) (pvD M s), 0) := by unfold iwOut; rw [if_pos h]
theorem iwOut_no {M : List (List Int)} {Q : List Int} {s : Int} (h : (pvOut M Q s).c ≠ 0) : iwOut M Q s = (false, (pvOut M Q s).c) := by unfold iwOut; rw [if_neg h]
/-- What is known of a pivot that was found. -/
theorem pvOut_facts {M : List (List Int)} {Q : List Int} {s : Int} (h : (pvOut M Q s).c = 0) : isPB M Q = true ∧ 0 ≤ s ∧ s < 2 ^ M.length ∧ pvD M s ≠ 0 ∧ pvOut M Q s = ⟨pvD M s, tab M.length (pvR M s), (List.range M.length).map (pvS M Q s), 0⟩ := by
  by_cases h0 : setCode M Q s = 0
  · by_cases hm : dt M.length (colS M s) = 0
    · rw [pvOut_e2 h0 hm] at h; simp at h
    · obtain ⟨hp, hs0, hs1⟩ : isPB M Q = true ∧ 0 ≤ s ∧ s < 2 ^ M.length := by
        rcases setCode_cases M Q s with h | h | ⟨_, h⟩
        · omega
        · omega
        · exact h
      refine ⟨hp, hs0, hs1, ?_, pvOut_ok h0 hm⟩
      unfold pvD
      rcases sgD_cases (dt M.length (colS M s)) with ⟨_, e⟩ | ⟨_, e⟩ <;> rw [e] <;> omega
  · rw [pvOut_e1 rfl h0] at h; exact absurd h h0
theorem tabP_I64 {M : List (List Int)} {Q : List Int} (hp : isPB M Q = true) (s : Int) : ∀ i, i < (tab M.length (pvR M s)).length → ∀ x ∈ (tab M.length (pvR M s)).getD i [], I64 x := tab_I64 (B := 1920000000) (by decide) (fun i j _ _ => pvR_bd hp s i j)
theorem sideP_I64 {M : List (List Int)} {Q : List Int} (hp : isPB M Q = true) (s : Int) : ∀ x ∈ (List.range M.length).map (pvS M Q s), I64 x := by
  intro x hx
  obtain ⟨k, _, rfl⟩ := List.mem_map.1 hx
  have := pvS_bd hp s k
  unfold Bd at this
  unfold I64
  omega

set_option maxHeartbeats 4000000 in
theorem specIsWholePivot_any (m q : Value) (M : List (List Int)) (Q : List Int) (s : Int) (w : World) (h1 : PM.Rows w m M) (h2 : Ints w q Q) :
    Calls Tryd.prog 20 #[.agg #[m, q], .int .i64 s] w (OutB w (iwOut M Q s)) := by
  have hpv := fun (w' : World) (h : Below w.heap.size w w') => specPivotOf_any m q M Q s w' (h1.below h) (h2.below h)
  obtain ⟨a1, c1, rfl, _⟩ := h1
  obtain ⟨a2, c2, rfl, _⟩ := h2
  by_cases hc : (pvOut M Q s).c = 0
  · obtain ⟨hp, hs0, hs1, hD, ho⟩ := pvOut_facts hc
    rw [iwOut_ok hc]
    rw [ho] at hpv
    have HP := Lib.hid hpv
    have HW := Lib.hid (fun v q w h1 h2 => l04Whole_any v q M.length (pvR M s) (pvS M Q s) (pvD M s) w h1 h2 (isPB_facts hp).1 (isPB_facts hp).2.1 hD (fun i k => pvR_bd hp s i k) (fun k => pvS_bd hp s k))
    have HI := Lib.hid (And.intro (tabP_I64 hp s) (sideP_I64 hp s))
    clear hc hp hs0 hs1 ho hpv hD
    generalize whB M.length (pvR M s) (pvS M Q s) (pvD M s) = B at *
    generalize pvD M s = D at *
    generalize tab M.length (pvR M s) = R at *
    generalize (List.range M.length).map (pvS M Q s) = S at *
    go_enter Tryd.func20, Tryd.ntmps20
    go_wp2_with fail
    refine (HP.out _ (by (repeat' (first | (with_reducible exact Below.refl _ _) | (with_reducible assumption) | (with_reducible refine Below.alloc ?_ ?_ _) | (with_reducible refine Below.drew ?_) | (with_reducible refine below_drewN ?_ _) | (with_reducible refine Below.setCell ?_ ?_ _) | (with_reducible refine Below.trans ?_ (Below.mono (by with_reducible assumption) ?_)) | (with_reducible exact Below.size (by with_reducible assumption)) | go_size)))).mono ?_; rintro e w1 ⟨a, c, a', c', us, rfl, hM, hb1⟩
    dsimp only at hM ⊢
    have hw1 : Below w.heap.size w w1 := by (repeat' (first | (with_reducible exact Below.refl _ _) | (with_reducible assumption) | (with_reducible refine Below.alloc ?_ ?_ _) | (with_reducible refine Below.drew ?_) | (with_reducible refine below_drewN ?_ _) | (with_reducible refine Below.setCell ?_ ?_ _) | (with_reducible refine Below.trans ?_ (Below.mono (by with_reducible assumption) ?_)) | (with_reducible exact Below.size (by with_reducible assumption)) | go_size))
    have hR := hM.rows.rows.rows' HI.out.1
    have hS := hM.side.ints HI.out.2
    have hal : Below w1.heap.size w1 (w1.alloc (.cells #[.int .i64 D, .slice a R.length c, .slice a' S.length c'] 28)) := (Below.refl _ _).alloc (Nat.le_refl _) _
    have HWW := Lib.hid (HW.out _ _ _ (hR.below hal) (hS.below hal))
    have HW1 := Lib.hid (hw1.trans (hal.mono hw1.size))
    clear hM hR hS hal hb1 hw1
    go_wp2_with fail
    refine HWW.out.mono ?_; rintro e w2 ⟨rfl, hb2⟩
    go_wp2_with fail
    go_ret2
    exact ⟨rfl, HW1.out.trans (hb2.mono HW1.out.size)⟩
  · rw [iwOut_no hc]
    have HP := Lib.hid hpv
    clear hpv
    generalize pvOut M Q s = o at *
    obtain ⟨D, R, S, c0⟩ := o
    dsimp only at hc ⊢
    go_enter Tryd.func20, Tryd.ntmps20
    go_wp2_with fail
    refine (HP.out _ (by (repeat' (first | (with_reducible exact Below.refl _ _) | (with_reducible assumption) | (with_reducible refine Below.alloc ?_ ?_ _) | (with_reducible refine Below.drew ?_) | (with_reducible refine below_drewN ?_ _) | (with_reducible refine Below.setCell ?_ ?_ _) | (with_reducible refine Below.trans ?_ (Below.mono (by with_reducible assumption) ?_)) | (with_reducible exact Below.size (by with_reducible assumption)) | go_size)))).mono ?_; rintro e w1 ⟨a, c, a', c', us, rfl, hM, hb1⟩
    dsimp only
    have hw1 : Below w.heap.size w w1 := by (repeat' (first | (with_reducible exact Below.refl _ _) | (with_reducible assumption) | (with_reducible refine Below.alloc ?_ ?_ _) | (with_reducible refine Below.drew ?_) | (with_reducible refine below_drewN ?_ _) | (with_reducible refine Below.setCell ?_ ?_ _) | (with_reducible refine Below.trans ?_ (Below.mono (by with_reducible assumption) ?_)) | (with_reducible exact Below.size (by with_reducible assumption)) | go_size))
    clear hM hb1
    go_wp2_with fail
    go_ret2
    exact ⟨rfl, by (repeat' (first | (with_reducible exact Below.refl _ _) | (with_reducible assumption) | (with_reducible refine Below.alloc ?_ ?_ _) | (with_reducible refine Below.drew ?_) | (with_reducible refine below_drewN ?_ _) | (with_reducible refine Below.setCell ?_ ?_ _) | (with_reducible refine Below.trans ?_ (Below.mono (by with_reducible assumption) ?_)) | (with_reducible exact Below.size (by with_reducible assumption)) | go_size))⟩

set_option maxHeartbeats 4000000 in
theorem implIsWholePivot_any (m q : Value) (M : List (List Int)) (Q : List Int) (s : Int) (w : World) (hG : Glob w) (h1 : PM.Rows w m M) (h2 : Ints w q Q) :
    Calls Tryd.prog 21 #[.agg #[m, q], .int .i64 s] w (OutB w (iwOut M Q s)) := by
  have hpv := fun (w' : World) (h : Below w.heap.size w w') => implPivotOf_any m q M Q s w' (hG.below h) (h1.below h) (h2.below h)
  obtain ⟨a1, c1, rfl, _⟩ := h1
  obtain ⟨a2, c2, rfl, _⟩ := h2
  clear hG
  by_cases hc : (pvOut M Q s).c = 0
  · obtain ⟨hp, hs0, hs1, hD, ho⟩ := pvOut_facts hc
    rw [iwOut_ok hc]
    rw [ho] at hpv
    have HP := Lib.hid hpv
    have HW := Lib.hid (fun v q w h1 h2 => isWhole_any v q M.length (pvR M s) (pvS M Q s) (pvD M s) w h1 h2 (isPB_facts hp).1 (isPB_facts hp).2.1 hD (fun i k => pvR_bd hp s i k) (fun k => pvS_bd hp s k))
    have HI := Lib.hid (And.intro (tabP_I64 hp s) (sideP_I64 hp s))
    clear hc hp hs0 hs1 ho hpv hD
    generalize whB M.length (pvR M s) (pvS M Q s) (pvD M s) = B at *
    generalize pvD M s = D at *
    generalize tab M.length (pvR M s) = R at *
    generalize (List.range M.length).map (pvS M Q s) = S at *
    go_enter Tryd.func21, Tryd.ntmps21
    go_wp2_with fail
    refine (HP.out _ (by (repeat' (first | (with_reducible exact Below.refl _ _) | (with_reducible assumption) | (with_reducible refine Below.alloc ?_ ?_ _) | (with_reducible refine Below.drew ?_) | (with_reducible refine below_drewN ?_ _) | (with_reducible refine Below.setCell ?_ ?_ _) | (with_reducible refine Below.trans ?_ (Below.mono (by with_reducible assumption) ?_)) | (with_reducible exact Below.size (by with_reducible assumption)) | go_size)))).mono ?_; rintro e w1 ⟨a, c, a', c', us, rfl, hM, hb1⟩
    dsimp only at hM ⊢
    have hw1 : Below w.heap.size w w1 := by (repeat' (first | (with_reducible exact Below.refl _ _) | (with_reducible assumption) | (with_reducible refine Below.alloc ?_ ?_ _) | (with_reducible refine Below.drew ?_) | (with_reducible refine below_drewN ?_ _) | (with_reducible refine Below.setCell ?_ ?_ _) | (with_reducible refine Below.trans ?_ (Below.mono (by with_reducible assumption) ?_)) | (with_reducible exact Below.size (by with_reducible assumption)) | go_size))
    have hR := hM.rows.rows.rows' HI.out.1
    have hS := hM.side.ints HI.out.2
    have hal : Below w1.heap.size w1 (w1.alloc (.cells #[.int .i64 D, .slice a R.length c, .slice a' S.length c'] 28)) := (Below.refl _ _).alloc (Nat.le_refl _) _
    have HWW := Lib.hid (HW.out _ _ _ (hR.below hal) (hS.below hal))
    have HW1 := Lib.hid (hw1.trans (hal.mono hw1.size))
    clear hM hR hS hal hb1 hw1
    go_wp2_with fail
    refine HWW.out.mono ?_; rintro e w2 ⟨rfl, hb2⟩
    go_wp2_with fail
    go_ret2
    exact ⟨rfl, HW1.out.trans (hb2.mono HW1.out.size)⟩
  · rw [iwOut_no hc]
    have HP := Lib.hid hpv
    clear hpv
    generalize pvOut M Q s = o at *
    obtain ⟨D, R, S, c0⟩ := o
    dsimp only at hc ⊢
    have hcb : (c0 == 0) = false := by simpa using hc
    go_enter Tryd.func21, Tryd.ntmps21
    go_wp2_with fail
    refine (HP.out _ (by (repeat' (first | (with_reducible exact Below.refl _ _) | (with_reducible assumption) | (with_reducible refine Below.alloc ?_ ?_ _) | (with_reducible refine Below.drew ?_) | (with_reducible refine below_drewN ?_ _) | (with_reducible refine Below.setCell ?_ ?_ _) | (with_reducible refine Below.trans ?_ (Below.mono (by with_reducible assumption) ?_)) | (with_reducible exact Below.size (by with_reducible assumption)) | go_size)))).mono ?_; rintro e w1 ⟨a, c, a', c', us, rfl, hM, hb1⟩
    dsimp only
    have hw1 : Below w.heap.size w w1 := by (repeat' (first | (with_reducible exact Below.refl _ _) | (with_reducible assumption) | (with_reducible refine Below.alloc ?_ ?_ _) | (with_reducible refine Below.drew ?_) | (with_reducible refine below_drewN ?_ _) | (with_reducible refine Below.setCell ?_ ?_ _) | (with_reducible refine Below.trans ?_ (Below.mono (by with_reducible assumption) ?_)) | (with_reducible exact Below.size (by with_reducible assumption)) | go_size))
    clear hM hb1
    go_wp2_with fail
    go_ret2
    exact ⟨rfl, by (repeat' (first | (with_reducible exact Below.refl _ _) | (with_reducible assumption) | (with_reducible refine Below.alloc ?_ ?_ _) | (with_reducible refine Below.drew ?_) | (with_reducible refine below_drewN ?_ _) | (with_reducible refine Below.setCell ?_ ?_ _) | (with_reducible refine Below.trans ?_ (Below.mono (by with_reducible assumption) ?_)) | (with_reducible exact Below.size (by with_reducible assumption)) | go_size))⟩
set_option maxHeartbeats 4000000 in
theorem law_FnExactIsWholePivot (m q : Value) (M : List (List Int)) (Q : List Int) (s : Int) (w : World) (hG : Glob w) (h1 : PM.Rows w m M) (h2 : Ints w q Q) :
    Calls Tryd.prog 4 #[.agg #[m, q], .int .i64 s] w fun e w' => e = .returned (.bool true) ∧ Below w.heap.size w w' := by
  have g1 := fun (w' : World) (h : Below w.heap.size w w') => h1.below h
  have gl := fun (w' : World) (h : Below w.heap.size w w') => hG.below h
  clear hG
  have g2 := fun (w' : World) (h : Below w.heap.size w w') => h2.below h
  have I1 := Lib.hid (rows_I64 h1)
  have I2 := Lib.hid (ints_I64 h2)
  obtain ⟨a1, c1, rfl, _⟩ := h1
  obtain ⟨a2, c2, rfl, _⟩ := h2
  by_cases hz : szP M Q 1048576 < 0
  · have e1 := szP_neg hz
    have E1 := Lib.hid e1
    clear hz e1
    go_enter Tryd.func4, Tryd.ntmps4
    go_wp2_with fail
    refine (szProblem_any _ _ M Q _ (g1 _ (by (repeat' (first | (with_reducible exact Below.refl _ _) | (with_reducible assumption) | (with_reducible refine Below.alloc ?_ ?_ _) | (with_reducible refine Below.drew ?_) | (with_reducible refine below_drewN ?_ _) | (with_reducible refine Below.setCell ?_ ?_ _) | (with_reducible refine Below.trans ?_ (Below.mono (by with_reducible assumption) ?_)) | (with_reducible exact Below.size (by with_reducible assumption)) | go_size)))) (g2 _ (by (repeat' (first | (with_reducible exact Below.refl _ _) | (with_reducible assumption) | (with_reducible refine Below.alloc ?_ ?_ _) | (with_reducible refine Below.drew ?_) | (with_reducible refine below_drewN ?_ _) | (with_reducible refine Below.setCell ?_ ?_ _) | (with_reducible refine Below.trans ?_ (Below.mono (by with_reducible assumption) ?_)) | (with_reducible exact Below.size (by with_reducible assumption)) | go_size))))).mono ?_; rw [E1.out]; rintro e w1 ⟨rfl, hb1⟩; obtain ⟨hc_hb1, hf_hb1⟩ := bcell hb1; obtain ⟨hcA_hb1, hfA_hb1⟩ := bcellG (W0 := w) hb1 (by (repeat' (first | (with_reducible exact Below.refl _ _) | (with_reducible assumption) | (with_reducible refine Below.alloc ?_ ?_ _) | (with_reducible refine Below.drew ?_) | (with_reducible refine below_drewN ?_ _) | (with_reducible refine Below.setCell ?_ ?_ _) | (with_reducible refine Below.trans ?_ (Below.mono (by with_reducible assumption) ?_)) | (with_reducible exact Below.size (by with_reducible assumption)) | go_size))); have hz_hb1 := hb1.size; (try simp at hz_hb1); (try simp only [Nat.add_one_le_iff] at hz_hb1); have hz0_hb1 : w.heap.size < w1.heap.size := (by omega)
    go_wp2_with fail
    go_ret
    refine ⟨rfl, ?_⟩
    (repeat' (first | (with_reducible exact Below.refl _ _) | (with_reducible assumption) | (with_reducible refine Below.alloc ?_ ?_ _) | (with_reducible refine Below.drew ?_) | (with_reducible refine below_drewN ?_ _) | (with_reducible refine Below.setCell ?_ ?_ _) | (with_reducible refine Below.trans ?_ (Below.mono (by with_reducible assumption) ?_)) | (with_reducible exact Below.size (by with_reducible assumption)) | go_size))
  obtain ⟨hn1, hn2⟩ := szP_fits hz
  have hle := szP_le M Q
  have HN1 := Lib.hid hn1
  have HN2 := Lib.hid hn2
  clear hn1 hn2
  have hspec := fun (m q : Value) (w : World) (h1 : PM.Rows w m M) (h2 : Ints w q Q) => specIsWholePivot_any m q M Q s w h1 h2
  have himpl := fun (m q : Value) (w : World) (hg : Glob w) (h1 : PM.Rows w m M) (h2 : Ints w q Q) => implIsWholePivot_any m q M Q s w hg h1 h2
  generalize iwOut M Q s = o at *
  obtain ⟨O, code⟩ := o
  have HS := Lib.hid hspec
  have HI := Lib.hid himpl
  clear hspec himpl
  go_enter Tryd.func4, Tryd.ntmps4
  go_wp2_with fail
  refine (szProblem_any _ _ M Q _ (g1 _ (by (repeat' (first | (with_reducible exact Below.refl _ _) | (with_reducible assumption) | (with_reducible refine Below.alloc ?_ ?_ _) | (with_reducible refine Below.drew ?_) | (with_reducible refine below_drewN ?_ _) | (with_reducible refine Below.setCell ?_ ?_ _) | (with_reducible refine Below.trans ?_ (Below.mono (by with_reducible assumption) ?_)) | (with_reducible exact Below.size (by with_reducible assumption)) | go_size)))) (g2 _ (by (repeat' (first | (with_reducible exact Below.refl _ _) | (with_reducible assumption) | (with_reducible refine Below.alloc ?_ ?_ _) | (with_reducible refine Below.drew ?_) | (with_reducible refine below_drewN ?_ _) | (with_reducible refine Below.setCell ?_ ?_ _) | (with_reducible refine Below.trans ?_ (Below.mono (by with_reducible assumption) ?_)) | (with_reducible exact Below.size (by with_reducible assumption)) | go_size))))).mono ?_; rintro e w1 ⟨rfl, hb1⟩; obtain ⟨hc_hb1, hf_hb1⟩ := bcell hb1; obtain ⟨hcA_hb1, hfA_hb1⟩ := bcellG (W0 := w) hb1 (by (repeat' (first | (with_reducible exact Below.refl _ _) | (with_reducible assumption) | (with_reducible refine Below.alloc ?_ ?_ _) | (with_reducible refine Below.drew ?_) | (with_reducible refine below_drewN ?_ _) | (with_reducible refine Below.setCell ?_ ?_ _) | (with_reducible refine Below.trans ?_ (Below.mono (by with_reducible assumption) ?_)) | (with_reducible exact Below.size (by with_reducible assumption)) | go_size))); have hz_hb1 := hb1.size; (try simp at hz_hb1); (try simp only [Nat.add_one_le_iff] at hz_hb1); have hz0_hb1 : w.heap.size < w1.heap.size := (by omega)
  generalize szP M Q 1048576 = left at *
  have hw1 : Below w.heap.size w w1 := by (repeat' (first | (with_reducible exact Below.refl _ _) | (with_reducible assumption) | (with_reducible refine Below.alloc ?_ ?_ _) | (with_reducible refine Below.drew ?_) | (with_reducible refine below_drewN ?_ _) | (with_reducible refine Below.setCell ?_ ?_ _) | (with_reducible refine Below.trans ?_ (Below.mono (by with_reducible assumption) ?_)) | (with_reducible exact Below.size (by with_reducible assumption)) | go_size))
  go_wp2_with fail
  refine (toProblem_out _ _ M Q _ (g1 _ (by (repeat' (first | (with_reducible exact Below.refl _ _) | (with_reducible assumption) | (with_reducible refine Below.alloc ?_ ?_ _) | (with_reducible refine Below.drew ?_) | (with_reducible refine below_drewN ?_ _) | (with_reducible refine Below.setCell ?_ ?_ _) | (with_reducible refine Below.trans ?_ (Below.mono (by with_reducible assumption) ?_)) | (with_reducible exact Below.size (by with_reducible assumption)) | go_size)))) (g2 _ (by (repeat' (first | (with_reducible exact Below.refl _ _) | (with_reducible assumption) | (with_reducible refine Below.alloc ?_ ?_ _) | (with_reducible refine Below.drew ?_) | (with_reducible refine below_drewN ?_ _) | (with_reducible refine Below.setCell ?_ ?_ _) | (with_reducible refine Below.trans ?_ (Below.mono (by with_reducible assumption) ?_)) | (with_reducible exact Below.size (by with_reducible assumption)) | go_size)))) HN1.out HN2.out).mono ?_; rintro e w2 ⟨gA, gB, us2, rfl, hr2, hb2⟩; obtain ⟨hc_hb2, hf_hb2⟩ := bcell hb2; obtain ⟨hcA_hb2, hfA_hb2⟩ := bcellG (W0 := w1) hb2 (by (repeat' (first | (with_reducible exact Below.refl _ _) | (with_reducible assumption) | (with_reducible refine Below.alloc ?_ ?_ _) | (with_reducible refine Below.drew ?_) | (with_reducible refine below_drewN ?_ _) | (with_reducible refine Below.setCell ?_ ?_ _) | (with_reducible refine Below.trans ?_ (Below.mono (by with_reducible assumption) ?_)) | (with_reducible exact Below.size (by with_reducible assumption)) | go_size))); have hz_hb2 := hb2.size; (try simp at hz_hb2); (try simp only [Nat.add_one_le_iff] at hz_hb2); have hz0_hb2 : w.heap.size < w2.heap.size := (by omega)
  have R2 := Lib.hid (hr2.reads I1.out I2.out)
  clear hr2
  have hw2 : Below w.heap.size w w2 := hw1.trans (hb2.mono hw1.size)
  go_wp2_with fail
  refine (HS.out _ _ _ R2.out.1 R2.out.2).mono ?_; rintro e w3 ⟨rfl, hb3⟩; dsimp only; obtain ⟨hc_hb3, hf_hb3⟩ := bcell hb3; obtain ⟨hcA_hb3, hfA_hb3⟩ := bcellG (W0 := w2) hb3 (by (repeat' (first | (with_reducible exact Below.refl _ _) | (with_reducible assumption) | (with_reducible refine Below.alloc ?_ ?_ _) | (with_reducible refine Below.drew ?_) | (with_reducible refine below_drewN ?_ _) | (with_reducible refine Below.setCell ?_ ?_ _) | (with_reducible refine Below.trans ?_ (Below.mono (by with_reducible assumption) ?_)) | (with_reducible exact Below.size (by with_reducible assumption)) | go_size))); have hz_hb3 := hb3.size; (try simp at hz_hb3); (try simp only [Nat.add_one_le_iff] at hz_hb3); have hz0_hb3 : w.heap.size < w3.heap.size := (by omega)
  clear R2
  have hw3 : Below w.heap.size w w3 := hw2.trans (hb3.mono hw2.size)
  go_wp2_with fail
  refine (toProblem_out _ _ M Q _ (g1 _ (by (repeat' (first | (with_reducible exact Below.refl _ _) | (with_reducible assumption) | (with_reducible refine Below.alloc ?_ ?_ _) | (with_reducible refine Below.drew ?_) | (with_reducible refine below_drewN ?_ _) | (with_reducible refine Below.setCell ?_ ?_ _) | (with_reducible refine Below.trans ?_ (Below.mono (by with_reducible assumption) ?_)) | (with_reducible exact Below.size (by with_reducible assumption)) | go_size)))) (g2 _ (by (repeat' (first | (with_reducible exact Below.refl _ _) | (with_reducible assumption) | (with_reducible refine Below.alloc ?_ ?_ _) | (with_reducible refine Below.drew ?_) | (with_reducible refine below_drewN ?_ _) | (with_reducible refine Below.setCell ?_ ?_ _) | (with_reducible refine Below.trans ?_ (Below.mono (by with_reducible assumption) ?_)) | (with_reducible exact Below.size (by with_reducible assumption)) | go_size)))) HN1.out HN2.out).mono ?_; rintro e w4 ⟨gC, gD, us4, rfl, hr4, hb4⟩; obtain ⟨hc_hb4, hf_hb4⟩ := bcell hb4; obtain ⟨hcA_hb4, hfA_hb4⟩ := bcellG (W0 := w3) hb4 (by (repeat' (first | (with_reducible exact Below.refl _ _) | (with_reducible assumption) | (with_reducible refine Below.alloc ?_ ?_ _) | (with_reducible refine Below.drew ?_) | (with_reducible refine below_drewN ?_ _) | (with_reducible refine Below.setCell ?_ ?_ _) | (with_reducible refine Below.trans ?_ (Below.mono (by with_reducible assumption) ?_)) | (with_reducible exact Below.size (by with_reducible assumption)) | go_size))); have hz_hb4 := hb4.size; (try simp at hz_hb4); (try simp only [Nat.add_one_le_iff] at hz_hb4); have hz0_hb4 : w.heap.size < w4.heap.size := (by omega)
  have HR4 := Lib.hid hr4
  clear hr4
  have hw4 : Below w.heap.size w w4 := hw3.trans (hb4.mono hw3.size)
  go_wp2_with fail
  have hr4a := HR4.out.below (w' := w4.alloc (.cells #[.slice (some ⟨gC, 0, none⟩) M.length M.length, .slice (some ⟨gD, 0, none⟩) Q.length Q.length] 31)) (B := w4.heap.size) ((Below.refl _ _).alloc (Nat.le_refl _) _) (Nat.le_refl _)
  have R4 := Lib.hid (hr4a.reads I1.out I2.out)
  clear hr4a
  refine (HI.out _ _ _ (gl _ (by (repeat' (first | (with_reducible exact Below.refl _ _) | (with_reducible assumption) | (with_reducible refine Below.alloc ?_ ?_ _) | (with_reducible refine Below.drew ?_) | (with_reducible refine below_drewN ?_ _) | (with_reducible refine Below.setCell ?_ ?_ _) | (with_reducible refine Below.trans ?_ (Below.mono (by with_reducible assumption) ?_)) | (with_reducible exact Below.size (by with_reducible assumption)) | go_size)))) R4.out.1 R4.out.2).mono ?_; rintro e w5 ⟨rfl, hb5⟩; dsimp only; obtain ⟨hc_hb5, hf_hb5⟩ := bcell hb5; obtain ⟨hcA_hb5, hfA_hb5⟩ := bcellG (W0 := w4) hb5 (by (repeat' (first | (with_reducible exact Below.refl _ _) | (with_reducible assumption) | (with_reducible refine Below.alloc ?_ ?_ _) | (with_reducible refine Below.drew ?_) | (with_reducible refine below_drewN ?_ _) | (with_reducible refine Below.setCell ?_ ?_ _) | (with_reducible refine Below.trans ?_ (Below.mono (by with_reducible assumption) ?_)) | (with_reducible exact Below.size (by with_reducible assumption)) | go_size))); have hz_hb5 := hb5.size; (try simp at hz_hb5); (try simp only [Nat.add_one_le_iff] at hz_hb5); have hz0_hb5 : w.heap.size < w5.heap.size := (by omega)
  have hz45 : w4.heap.size < w5.heap.size := by omega
  clear R4
  have hw45 : Below w4.heap.size w4 w5 := ((Below.refl w4.heap.size w4).alloc (Nat.le_refl _) _).trans (hb5.mono (by simp))
  have x50 : w5.cell? ⟨w4.heap.size, 0, none⟩ = some (.slice (some ⟨gC, 0, none⟩) M.length M.length) := by rw [hc_hb5 _ _ (by simp)]; simp
  have x51 : w5.cell? ⟨w4.heap.size, 1, none⟩ = some (.slice (some ⟨gD, 0, none⟩) Q.length Q.length) := by rw [hc_hb5 _ _ (by simp)]; simp
  have hw13 : Below w1.heap.size w1 w3 := hb2.trans (hb3.mono hb2.size)
  have hw35 : Below w3.heap.size w3 w5 := hb4.trans (hw45.mono hb4.size)
  have hw15 : Below w1.heap.size w1 w5 := hw13.trans (hw35.mono hw13.size)
  have hw5 : Below w.heap.size w w5 := hw3.trans (hw35.mono hw3.size)
  have p10 : w1.cell? ⟨w.heap.size, 0, none⟩ = some (.slice a1 M.length c1) := by rw [hc_hb1 _ _ (by simp)]; simp
  have p11 : w1.cell? ⟨w.heap.size, 1, none⟩ = some (.slice a2 Q.length c2) := by rw [hc_hb1 _ _ (by simp)]; simp
  have hvq : Vq w5 w.heap.size w4.heap.size (.slice a1 M.length c1) (.slice a2 Q.length c2) (.slice (some ⟨gC, 0, none⟩) M.length M.length) (.slice (some ⟨gD, 0, none⟩) Q.length Q.length) :=
    ⟨(hw15.cell (p := ⟨w.heap.size, 0, none⟩) hz0_hb1).trans p10, (hw15.cell (p := ⟨w.heap.size, 1, none⟩) hz0_hb1).trans p11, x50, x51, by omega, hz45⟩
  have hX5 := HR4.out.below hw45 (Nat.le_refl _)
  obtain ⟨P, hP⟩ : ∃ P, P = w.heap.size := ⟨_, rfl⟩
  obtain ⟨A1, hA1⟩ : ∃ A1, A1 = w3.heap.size := ⟨_, rfl⟩
  obtain ⟨V, hV⟩ : ∃ V, V = w4.heap.size := ⟨_, rfl⟩
  rw [← hP] at hvq
  rw [← hA1] at hX5
  rw [← hV] at hX5 hvq hz45
  rw [← hP, ← hV]
  clear hP hA1 hV hw13 hw15 hw35 hw45 p10 p11 x50 x51 HR4 hw1 hw2 hw3 hw4 HS
  clear hc_hb1 hf_hb1 hcA_hb1 hfA_hb1 hz_hb1 hz0_hb1 hb1 hc_hb2 hf_hb2 hcA_hb2 hfA_hb2 hz_hb2 hz0_hb2 hb2 hc_hb3 hf_hb3 hcA_hb3 hfA_hb3 hz_hb3 hz0_hb3 hb3 hc_hb4 hf_hb4 hcA_hb4 hfA_hb4 hz_hb4 hz0_hb4 hb4 hc_hb5 hf_hb5 hcA_hb5 hfA_hb5 hz_hb5 hz0_hb5 hb5
  have RX := Lib.hid (hX5.reads I1.out I2.out)
  obtain ⟨k1, k2, k3, k4, l1, l2⟩ := hvq
  have r1 : ∀ w', Below w5.heap.size w5 w' → w'.cell? ⟨P, 0, none⟩ = some (.slice a1 M.length c1) := fun w' h => (h.cell (p := ⟨P, 0, none⟩) (by show P < _; omega)).trans k1
  have r2 : ∀ w', Below w5.heap.size w5 w' → w'.cell? ⟨P, 1, none⟩ = some (.slice a2 Q.length c2) := fun w' h => (h.cell (p := ⟨P, 1, none⟩) (by show P < _; omega)).trans k2
  have r3 : ∀ w', Below w5.heap.size w5 w' → w'.cell? ⟨V, 0, none⟩ = some (.slice (some ⟨gC, 0, none⟩) M.length M.length) := fun w' h => (h.cell (p := ⟨V, 0, none⟩) (by show V < _; omega)).trans k3
  have r4 : ∀ w', Below w5.heap.size w5 w' → w'.cell? ⟨V, 1, none⟩ = some (.slice (some ⟨gD, 0, none⟩) Q.length Q.length) := fun w' h => (h.cell (p := ⟨V, 1, none⟩) (by show V < _; omega)).trans k4
  clear hX5 k1 k2 k3 k4 hz45
  go_wp2_with fail
  go_region_held3 (fun w' => Below w5.heap.size w5 w') ((repeat' (first | (with_reducible exact Below.refl _ _) | (with_reducible assumption) | (with_reducible refine Below.alloc ?_ ?_ _) | (with_reducible refine Below.drew ?_) | (with_reducible refine below_drewN ?_ _) | (with_reducible refine Below.setCell ?_ ?_ _) | (with_reducible refine Below.trans ?_ (Below.mono (by with_reducible assumption) ?_)) | (with_reducible exact Below.size (by with_reducible assumption)) | go_size)))
    (first | (go_at_call 13; refine (toProblem_out _ _ M Q _ (g1 _ (hw5.trans (Below.mono (by assumption) hw5.size))) (g2 _ (hw5.trans (Below.mono (by assumption) hw5.size))) HN1.out HN2.out).mono ?_; rintro e w8 ⟨gE, gF, us8, rfl, hr8, hb8⟩; have hS8 : Below w5.heap.size w5 w8 := (by (repeat' (first | (with_reducible exact Below.refl _ _) | (with_reducible assumption) | (with_reducible refine Below.alloc ?_ ?_ _) | (with_reducible refine Below.drew ?_) | (with_reducible refine below_drewN ?_ _) | (with_reducible refine Below.setCell ?_ ?_ _) | (with_reducible refine Below.trans ?_ (Below.mono (by with_reducible assumption) ?_)) | (with_reducible exact Below.size (by with_reducible assumption)) | go_size))); have R8 := Lib.hid (hr8.reads I1.out I2.out); clear hr8) | (go_at_call 16; refine (eqProblem_same _ _ _ _ M Q _ (RX.out.1.below hS8) (RX.out.2.below hS8) R8.out.1 R8.out.2).mono ?_; rintro e w9 ⟨rfl, hb9⟩; have hS9 : Below w5.heap.size w5 w9 := (by (repeat' (first | (with_reducible exact Below.refl _ _) | (with_reducible assumption) | (with_reducible refine Below.alloc ?_ ?_ _) | (with_reducible refine Below.drew ?_) | (with_reducible refine below_drewN ?_ _) | (with_reducible refine Below.setCell ?_ ?_ _) | (with_reducible refine Below.trans ?_ (Below.mono (by with_reducible assumption) ?_)) | (with_reducible exact Below.size (by with_reducible assumption)) | go_size)))))
  have hw9 : Below w.heap.size w w9 := hw5.trans (hS9.mono hw5.size)
  go_wp2_with fail
  go_ret
  exact ⟨rfl, hw9⟩
end Go.Proofs.YthnefjllijoobaaDoor.PW
