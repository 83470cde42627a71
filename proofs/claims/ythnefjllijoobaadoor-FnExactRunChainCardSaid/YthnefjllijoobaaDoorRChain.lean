/-
  Walks: chains of single pivots: the model's answer, the sets on the way, in the program.
-/
import Derived.Test.YthnefjllijoobaaDoorRPivM
import Derived.Test.YthnefjllijoobaaDoorPMin
namespace Go.Proofs.YthnefjllijoobaaDoor.PW
open Go.RowKit Go.Proofs.YthnefjllijoobaaDoor
open Go.Proofs.YthnefjllijoobaaDoor.PM Go.Proofs.YthnefjllijoobaaDoor.PX

/-- The set after k steps of a chain. -/
def st (L : List Int) : Nat → Int
  | 0 => 0
  | k + 1 => xorI (st L k) ((2 : Int) ^ (L.getD k 0).toNat)
def stL (L : List Int) (k : Nat) : List Int := (List.range (k + 1)).map (st L)
theorem stL_zero (L : List Int) : stL L 0 = [0] := rfl
theorem stL_succ (L : List Int) (k : Nat) : stL L (k + 1) = stL L k ++ [st L (k + 1)] := by unfold stL; rw [List.range_succ (n := k + 1), List.map_append]; rfl
theorem stL_length (L : List Int) (k : Nat) : (stL L k).length = k + 1 := by simp [stL]
/-- All of them are indices. -/
def chIn (n : Nat) (L : List Int) : Bool := L.all fun x => decide (0 ≤ x ∧ x < (n : Int))
theorem chIn_at {n : Nat} {L : List Int} (h : chIn n L = true) {k : Nat} (hk : k < L.length) : 0 ≤ L.getD k 0 ∧ L.getD k 0 < (n : Int) := by
  unfold chIn at h
  rw [List.all_eq_true] at h
  have := h (L.getD k 0) (by rw [List.getD_eq_getElem?_getD, List.getElem?_eq_getElem hk]; exact List.getElem_mem hk)
  simpa using this
theorem chIn_no {n : Nat} {L : List Int} {k : Nat} (hk : k < L.length) (h : ¬ (0 ≤ L.getD k 0 ∧ L.getD k 0 < (n : Int))) : chIn n L = false := by
  cases e : chIn n L
  · rfl
  · exact absurd (chIn_at e hk) h
theorem chIn_yes {n : Nat} {L : List Int} (h : ∀ k, k < L.length → 0 ≤ L.getD k 0 ∧ L.getD k 0 < (n : Int)) : chIn n L = true := by
  unfold chIn
  rw [List.all_eq_true]
  intro x hx
  obtain ⟨k, hk, rfl⟩ := List.getElem_of_mem hx
  have := h k hk
  rw [List.getD_eq_getElem?_getD, List.getElem?_eq_getElem hk] at this
  simpa using this
theorem pow_lt {n x : Nat} (h : x < n) : (2 : Int) ^ x < 2 ^ n := by
  have := Nat.pow_lt_pow_right (show 1 < 2 by decide) h
  exact_mod_cast this
theorem st_in {n : Nat} (hn : n ≤ 5) {L : List Int} (h : ∀ k, k < L.length → 0 ≤ L.getD k 0 ∧ L.getD k 0 < (n : Int)) : ∀ k, k ≤ L.length → 0 ≤ st L k ∧ st L k < 2 ^ n := by
  intro k
  induction k with
  | zero => intro _; exact ⟨Int.le_refl _, Int.pow_pos (by decide)⟩
  | succ k ih =>
    intro hk
    have hx := h k (by omega)
    have hi := ih (by omega)
    exact xor_in hn hi.1 hi.2 (Int.le_of_lt (Int.pow_pos (by decide))) (pow_lt (by omega))
/-- All sets up to the k-th one are basic. -/
def chOk (M : List (List Int)) (L : List Int) (k : Nat) : Prop := ∀ j, j < k → mnr M (st L (j + 1)) ≠ 0
instance (M : List (List Int)) (L : List Int) (k : Nat) : Decidable (chOk M L k) := by unfold chOk; exact inferInstance
theorem ch_cases (M : List (List Int)) (L : List Int) : ∀ n, chOk M L n ∨ ∃ k, k < n ∧ chOk M L k ∧ mnr M (st L (k + 1)) = 0 := by
  intro n
  induction n with
  | zero => exact .inl (fun j hj => absurd hj (Nat.not_lt_zero j))
  | succ n ih =>
    rcases ih with h | ⟨k, hk, h1, h2⟩
    · by_cases e : mnr M (st L (n + 1)) = 0
      · exact .inr ⟨n, by omega, h, e⟩
      · refine .inl (fun j hj => ?_)
        by_cases ej : j = n
        · subst ej; exact e
        · exact h j (by omega)
    · exact .inr ⟨k, by omega, h1, h2⟩
def rcOut (M : List (List Int)) (Q L : List Int) : List Int × Int :=
  if isPB M Q = false then ([], 1) else if 20 < L.length then ([], 2) else if chIn M.length L = false then ([], 2) else if chOk M L L.length then (stL L L.length, 0) else ([], 5)
theorem rcOut_e1 {M : List (List Int)} {Q L : List Int} (h : isPB M Q = false) : rcOut M Q L = ([], 1) := by unfold rcOut; rw [if_pos h]
theorem rcOut_e2 {M : List (List Int)} {Q L : List Int} (h : isPB M Q = true) (h2 : 20 < L.length) : rcOut M Q L = ([], 2) := by unfold rcOut; rw [if_neg (by simp [h]), if_pos h2]
theorem rcOut_e3 {M : List (List Int)} {Q L : List Int} (h : isPB M Q = true) (h2 : ¬ 20 < L.length) (h3 : chIn M.length L = false) : rcOut M Q L = ([], 2) := by unfold rcOut; rw [if_neg (by simp [h]), if_neg h2, if_pos h3]
theorem rcOut_e5 {M : List (List Int)} {Q L : List Int} (h : isPB M Q = true) (h2 : ¬ 20 < L.length) (h3 : chIn M.length L = true) (h4 : ¬ chOk M L L.length) : rcOut M Q L = ([], 5) := by unfold rcOut; rw [if_neg (by simp [h]), if_neg h2, if_neg (by simp [h3]), if_neg h4]
theorem rcOut_ok {M : List (List Int)} {Q L : List Int} (h : isPB M Q = true) (h2 : ¬ 20 < L.length) (h3 : chIn M.length L = true) (h4 : chOk M L L.length) : rcOut M Q L = (stL L L.length, 0) := by unfold rcOut; rw [if_neg (by simp [h]), if_neg h2, if_neg (by simp [h3]), if_pos h4]
theorem fine_rc (M : List (List Int)) (Q L : List Int) : FineI (rcOut M Q L).1 := by
  unfold rcOut
  split
  · exact fineI_nil
  split
  · exact fineI_nil
  rename_i hp h20
  split
  · exact fineI_nil
  rename_i hin
  split
  · refine ⟨fun x hx => ?_, by rw [stL_length]; omega⟩
    obtain ⟨k, hk, rfl⟩ := List.mem_map.1 hx
    have f2 := (isPB_facts (show isPB M Q = true by cases e : isPB M Q <;> simp_all)).2.1
    have := st_in f2 (fun k hk => chIn_at (show chIn M.length L = true by cases e : chIn M.length L <;> simp_all) hk) k (by simp at hk; omega)
    have hp32 := pow_32 f2
    unfold I64
    omega
  · exact fineI_nil

/-- The cells of a list. -/
theorem ints_cell {w : World} {v : Value} {L : List Int} (h : Ints w v L) {k : Nat} (hk : k < L.length) : ∃ b off c, v = .slice (some ⟨b, off, none⟩) L.length c ∧ w.cell? ⟨b, off + k, none⟩ = some (.int .i64 (L.getD k 0)) := by
  obtain ⟨a, c, rfl, _, _, _, hx⟩ := h
  rcases hx with hx | ⟨b, off, rfl, _, hc⟩
  · rw [hx] at hk; simp at hk
  · exact ⟨b, off, c, rfl, hc k hk⟩

/-- What the walk along a chain leaves: the sets, or a panic at the set K + 1. -/
def ChPost (L : List Int) (K : Nat) (w : World) (e : Ending) (w' : World) : Prop :=
  Below w.heap.size w w' ∧ ((K = L.length ∧ ∃ g c, e = .returned (.slice (some ⟨g, 0, none⟩) (K + 1) c) ∧ FreshI w.heap.size w' (.slice (some ⟨g, 0, none⟩) (K + 1) c) (stL L K)) ∨
    (K < L.length ∧ ∃ a, e = .panicked [{ v := .iface 105 (.pointer (some a)), recovered := false }]))
theorem freshI_one (w : World) (x : Int) : FreshI w.heap.size (w.alloc (.cells #[.int .i64 x] 2)) (.slice (some ⟨w.heap.size, 0, none⟩) 1 1) [x] := by
  have hb : IntBlk (w.alloc (.cells #[.int .i64 x] 2)) w.heap.size [x] := ⟨#[.int .i64 x], heap_alloc_new w _, rfl, fun i hi => by
    obtain rfl : i = 0 := by simp at hi; omega
    rfl⟩
  have ho := hb.own (by simp [maxLen])
  exact ⟨w.heap.size, 1, by simp, Nat.le_refl _, by simp, ho⟩
set_option maxRecDepth 100000 in
set_option maxHeartbeats 4000000 in
theorem chainSets_any (m l : Value) (M : List (List Int)) (Q L : List Int) (K : Nat) (w : World) (hG : Glob w) (h1 : PM.Rows w m M) (h3 : Ints w l L) (hp : isPB M Q = true) (hin : ∀ k, k < L.length → 0 ≤ L.getD k 0 ∧ L.getD k 0 < (M.length : Int)) (h20 : L.length ≤ 20)
    (hK : K ≤ L.length) (hok : chOk M L K) (hend : K < L.length → mnr M (st L (K + 1)) = 0) :
    Calls Tryd.prog 69 #[m, l] w (ChPost L K w) := by
  have f2 := (isPB_facts hp).2.1
  have gG := Lib.hid (fun (w' : World) (h : Below w.heap.size w w') => hG.below h)
  have g1 := Lib.hid (fun (w' : World) (h : Below w.heap.size w w') => h1.below h)
  have g3 := Lib.hid (fun (w' : World) (h : Below w.heap.size w w') => h3.below h)
  have HP := Lib.hid hp
  have HIN := Lib.hid hin
  have HST := Lib.hid (st_in f2 hin)
  have HOK := Lib.hid hok
  have HEND := Lib.hid hend
  obtain ⟨j0, hj, hyy0, hyy1, hyy2⟩ := info_parts info_int
  obtain ⟨a1, c1, rfl, _⟩ := h1
  obtain ⟨a3, c3, rfl, _⟩ := h3
  clear hp hin hok hend hG
  go_enter Tryd.func69, Tryd.ntmps69
  go_wp2_with fail
  go_loopw [5, 6, 8, 13] (fun s v _ i wr => ∃ k : Nat, k ≤ K ∧ i = .int .i64 k ∧ s = .int .i64 (st L k) ∧ FreshI w.heap.size wr v (stL L k) ∧ Below w.heap.size w wr) (fun _ _ _ i _ => L.length - (intOf i).toNat)
  case atStart => exact ⟨0, Nat.zero_le _, by go_num, rfl, by rw [stL_zero]; exact freshI_one w 0, (Below.refl _ _).alloc (Nat.le_refl _) _⟩
  case round =>
    obtain ⟨k, hk, rfl, rfl, hF, hB⟩ := hrel
    have HF := Lib.hid hF
    have HB := Lib.hid hB
    have hz := hB.size
    clear hF hB
    by_cases hlt : k < L.length
    · obtain ⟨b, off, c, hv, hc⟩ := ints_cell (g3.out wr HB.out) hlt
      simp only [Value.slice.injEq] at hv
      obtain ⟨rfl, _, rfl⟩ := hv
      have hx := HIN.out k hlt
      have hsN := HST.out (k + 1) hlt
      obtain ⟨S, hS⟩ : ∃ S, S = st L k := ⟨_, rfl⟩
      obtain ⟨N, hN⟩ : ∃ N, N = st L (k + 1) := ⟨_, rfl⟩
      obtain ⟨x, hxe⟩ : ∃ x, x = L.getD k 0 := ⟨_, rfl⟩
      have hNS : N = xorI S (2 ^ x.toNat) := by rw [hN, hS, hxe]; rfl
      rw [← hxe] at hc hx
      rw [← hN] at hsN
      rw [← hS]
      have HN := Lib.hid hN
      have HSN := Lib.hid hsN
      have HXE := Lib.hid hxe
      have HS := Lib.hid hS
      clear hN hsN hxe hS
      have hx5 : x = 0 ∨ x = 1 ∨ x = 2 ∨ x = 3 ∨ x = 4 := by omega
      by_cases hkK : k < K
      · have hm : mnr M N ≠ 0 := by rw [HN.out]; exact HOK.out k hkK
        have HBM := Lib.hid (basicMinor_ok (.slice a1 M.length c1) M Q N wr (g1.out wr HB.out) HP.out HSN.out.1 HSN.out.2 hm)
        have hX := stL_succ L k
        rw [← HN.out] at hX
        have HX := Lib.hid hX
        have hFL := stL_length L k
        have HFL := Lib.hid hFL
        clear hm hX hFL hx
        rcases hx5 with rfl | rfl | rfl | rfl | rfl
        all_goals
          simp only [Int.reduceToNat, Int.reducePow, Int.toNat_zero, Int.pow_zero] at hNS
          have HNS := Lib.hid hNS
          have HBM' := HBM.out
          rw [hNS] at HBM'
          have HBM := Lib.hid HBM'
          clear hNS HBM'
          go_wp2_with fail
          refine HBM.out.mono ?_
          rintro e w2 ⟨rfl, hb2⟩
          have hF2 := HF.out.below hb2
          have HB2 := Lib.hid (HB.out.trans (hb2.mono hz))
          have hz2 := hb2.size
          have how := hF2.owns
          rw [HFL.out] at how
          have HF2 := Lib.hid hF2
          have HOW := Lib.hid how
          clear hF2 how hb2
          rw [show bits BinOp.xor IntKind.i64 S _ = N from HNS.out.symm]
          have hNS' := HNS.out
          clear hNS' HNS HBM
          go_wp2_with (at_builtin; refine wpList_append_lies _ rfl _ _ 23 rfl 0 2 j0 (.int .i64 0) 1 8 Tryd.underlying23 hj hyy0 hyy1 hyy2 rfl (by decide) u6 (k + 1) _ rfl ((HOW.out).alloc _) _ 1 _ [.int .i64 N] rfl rfl (cell_one_new _ _ _) (by simp [Value.oneCell']) (by decide) (by unfold maxLen; omega) (by omega) (Nat.zero_le _) _ rfl ?_; intro g5 cap5 w4 hown hgrow hat hgl)
          have hpu := HF2.out.push HB2.out.size HFL.out.symm hown hat hgl
          have hgr := HF2.out.grow HB2.out HB2.out.size hgrow
          rw [← HX.out] at hpu
          have HPU := Lib.hid hpu
          have HGR := Lib.hid hgr
          clear hpu hgr hown hgrow hat hgl
          go_wp2_with fail
          go_roundw
          case rel => exact ⟨k + 1, by omega, by go_num, by rw [HN.out], HPU.out, HGR.out⟩
          case measure => simp [intOf]; omega
      · obtain rfl : k = K := by omega
        have hm : mnr M N = 0 := by rw [HN.out]; exact HEND.out hlt
        have HBM := Lib.hid (fun w' (h : Below w.heap.size w w') => basicMinor_no (.slice a1 M.length c1) M Q N w' (gG.out w' h) (g1.out w' h) HP.out HSN.out.1 HSN.out.2 hm)
        clear hm hx
        rcases hx5 with rfl | rfl | rfl | rfl | rfl
        all_goals
          simp only [Int.reduceToNat, Int.reducePow, Int.toNat_zero, Int.pow_zero] at hNS
          have HNS := Lib.hid hNS
          have HBM' := HBM.out wr HB.out
          rw [hNS] at HBM'
          have HBM := Lib.hid HBM'
          clear hNS HBM'
          go_wp2_with fail
          refine HBM.out.mono ?_
          rintro e w2 ⟨⟨a, rfl⟩, hb2⟩
          go_wp2_with fail
          exact ⟨rfl, HB.out.trans (hb2.mono hz), .inr ⟨hlt, a, rfl⟩⟩
    · obtain rfl : k = L.length := by omega
      obtain rfl : K = L.length := by omega
      have hl := stL_length L L.length
      obtain ⟨g, c, hv, _, _, _⟩ := HF.out
      rw [hl] at hv
      subst hv
      go_wp2_with fail
      go_ret
      exact ⟨HB.out, .inl ⟨rfl, g, c, rfl, HF.out⟩⟩
end Go.Proofs.YthnefjllijoobaaDoor.PW
