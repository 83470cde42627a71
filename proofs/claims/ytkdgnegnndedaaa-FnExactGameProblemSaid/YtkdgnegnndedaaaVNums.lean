/-
  Walks: numbers out of a map in the order of a list; sums of numbers.
-/
import Derived.Test.YtkdgnegnndedaaaVCmn
import Derived.Test.YtkdgnegnndedaaaPUnit
import Derived.Maps.OwnSet
namespace Go.Proofs.Ytkdgnegnndedaaa.PW
open Go.RowKit Go.Proofs.Ytkdgnegnndedaaa
open Go.Proofs.Ytkdgnegnndedaaa.PM

/-- The first k of n numbers are written, the others 0. -/
def filN (n k : Nat) (F : Nat → Int) : List Int := (List.range n).map fun j => if j < k then F j else 0
theorem filN_zero (n : Nat) (F : Nat → Int) : filN n 0 F = List.replicate n 0 := by
  unfold filN
  apply List.ext_getElem
  · simp
  · intro i h1 h2; simp [List.getElem_replicate]
theorem filN_all (n : Nat) (F : Nat → Int) : filN n n F = (List.range n).map F := by
  unfold filN
  apply List.map_congr_left
  intro j hj
  rw [if_pos (by simpa using hj)]
theorem filN_set (n k : Nat) (F : Nat → Int) : (filN n k F).set k (F k) = filN n (k + 1) F := by
  unfold filN
  apply List.ext_getElem
  · simp
  · intro i h1 h2
    rw [List.getElem_set]
    simp only [List.getElem_map, List.getElem_range]
    by_cases e : k = i
    · subst e; rw [if_pos rfl, if_pos (by omega)]
    · rw [if_neg e]
      by_cases hl : i < k
      · rw [if_pos hl, if_pos (by omega)]
      · rw [if_neg hl, if_neg (by omega)]
theorem filN_length (n k : Nat) (F : Nat → Int) : (filN n k F).length = n := by simp [filN]
theorem FreshI.setN {B n g cap : Nat} {w : World} {xs : List Int} (h : FreshI B w (.slice (some ⟨g, 0, none⟩) n cap) xs) (k : Nat) (x : Int) : FreshI B (w.setCell ⟨g, k, none⟩ (.int .i64 x)) (.slice (some ⟨g, 0, none⟩) n cap) (xs.set k x) := by
  obtain ⟨g', cap', hv, hB, hlt, ho⟩ := h
  simp only [Value.slice.injEq, Option.some.injEq, Addr.mk.injEq, and_true] at hv
  obtain ⟨rfl, rfl, rfl⟩ := hv
  refine ⟨g, cap, by simp, hB, by simpa using hlt, ?_⟩
  exact own_set ho k x
/-- What a look-up gives at each fraction of a list, in whatever later world. -/
def Looks (w : World) (mv : Value) (xs : List (Int × Int)) (N : Int × Int → Int) : Prop :=
  ∀ w', Below w.heap.size w w' → ∀ x ∈ xs, (Instr.lookup 153 mv (.agg #[.int .i64 x.1, .int .i64 x.2]) false).run Try.prog w' = .ok (.int .i64 (N x)) w'
theorem Looks.below {w w1 : World} {mv : Value} {xs : List (Int × Int)} {N : Int × Int → Int} (h : Looks w mv xs N) (hb : Below w.heap.size w w1) : Looks w1 mv xs N := fun w' h' x hx => h w' (hb.trans (h'.mono hb.size)) x hx
theorem looks_map {w : World} {B n : Nat} {xs : List (Int × Int)} {N : Int × Int → Int} (h : MapN w B n xs N) (hx : ∀ x ∈ xs, I64 x.1 ∧ I64 x.2) : Looks w (.map (some B)) xs N :=
  fun _ hw x hxx => (h.below hw h.lt).look hxx (hx x hxx).1 (hx x hxx).2
theorem looks_nil (w : World) {xs : List (Int × Int)} (hx : ∀ x ∈ xs, I64 x.1 ∧ I64 x.2) : Looks w (.map none) xs (fun _ => 0) :=
  fun w' _ x hxx => by
    have := Maps.look_nil (w := w') false fr_keyed Try.underlying153 (fr_zero w') (fr_key (hx x hxx).1 (hx x hxx).2)
    simpa using this

set_option maxRecDepth 100000 in
set_option maxHeartbeats 2000000 in
theorem numsInOrder_any (v : Value) (mo : Option Nat) (xs : List (Int × Int)) (N : Int × Int → Int) (w : World) (hv : Frs w v xs) (hl : Looks w (.map mo) xs N) (hn1 : 1 ≤ xs.length) (hn : xs.length ≤ 1000) :
    Calls Try.prog 124 #[v, .map mo] w fun e w' => ∃ g, e = .returned (.slice (some ⟨g, 0, none⟩) xs.length xs.length) ∧ FreshI w.heap.size w' (.slice (some ⟨g, 0, none⟩) xs.length xs.length) (xs.map N) ∧ Below w.heap.size w w' := by
  have hmk := run_make_row' (P := Try.prog) 23 2 (.int .i64 0) 8 Try.underlying23 info_int rfl .i64 .i64 xs.length (by omega) (by omega)
  obtain ⟨b, off, c, rfl, hb, hcell⟩ := hv.at_ hn1
  have HC := Lib.hid hcell
  have HL := Lib.hid hl
  have HZ := Lib.hid (zeros_fresh w xs.length (by unfold maxLen; omega))
  have hA0 : Below w.heap.size w (w.alloc (.cells (madeCells #[.int .i64 0] xs.length) 2)) := (Below.refl _ _).alloc (Nat.le_refl _) _
  obtain ⟨F, hF⟩ : ∃ F : Nat → Int, F = fun j => N (xs.getD j (0, 0)) := ⟨_, rfl⟩
  have hall : (List.range xs.length).map F = xs.map N := by
    rw [hF]
    apply List.ext_getElem
    · simp
    · intro i h1 h2
      have : i < xs.length := by simpa using h1
      simp [this]
  have HALL := Lib.hid hall
  have HF := Lib.hid hF
  clear hv hcell hl hF hall
  obtain ⟨g, hg⟩ : ∃ g, g = w.heap.size := ⟨_, rfl⟩
  go_enter Try.func124, Try.ntmps124
  go_wp2_with fail
  rw [← hg]
  rw [← hg] at HZ
  have hgw : w.heap.size ≤ g := by omega
  clear hg
  go_loopw [6, 7, 13] (fun _ _ i wr => ∃ k : Nat, k ≤ xs.length ∧ i = .int .i64 k ∧ FreshI g wr (.slice (some ⟨g, 0, none⟩) xs.length xs.length) (filN xs.length k F) ∧ Below w.heap.size w wr) (fun _ _ i _ => xs.length - (intOf i).toNat)
  case atStart => exact ⟨0, Nat.zero_le _, rfl, by rw [filN_zero]; exact HZ.out, hA0⟩
  case round =>
    obtain ⟨k, hk, rfl, hO, hB⟩ := hrel
    clear hmk
    by_cases hlt : k < xs.length
    · obtain ⟨c1, c2⟩ := HC.out wr hB k hlt
      obtain ⟨X, hX⟩ : ∃ X, X = xs.getD k (0, 0) := ⟨_, rfl⟩
      have hFk : F k = N X := by rw [HF.out, hX]
      have hmem : X ∈ xs := by rw [hX]; exact getD_mem2 hlt
      rw [← hX] at c1 c2
      obtain ⟨_, _, hvv, _, hz4, hoo⟩ := id hO
      have hgz : g < wr.heap.size := by simp at hvv; omega
      clear hvv hz4
      have hll : xs.length = (filN xs.length k F).length := by simp [filN]
      have c6 := own_cellN hoo hll hlt
      have c7 := own_frozenN hoo hll k
      have hal : Below wr.heap.size wr (wr.alloc (.cells #[.int .i64 X.1, .int .i64 X.2] 61)) := (Below.refl _ _).alloc (Nat.le_refl _) _
      have hlk := HL.out _ (hB.trans (hal.mono hB.size)) X hmem
      have hst := (hO.below hal).setN k (F k)
      have hbl := (hB.trans (hal.mono hB.size)).setCell (p := ⟨g, k, none⟩) (by show _ ≤ g; omega) (.int .i64 (F k))
      rw [filN_set, World.setCell_alloc_past _ _ _ _ hgz] at hst
      rw [World.setCell_alloc_past _ _ _ _ hgz] at hbl
      rw [hFk] at hst hbl
      have HST := Lib.hid hst
      have HBL := Lib.hid hbl
      obtain ⟨x, z⟩ := X
      simp only at c1 c2 hlk
      clear hst hbl hal hll hoo hO hB hFk hX hmem
      generalize N (x, z) = nx at *
      generalize (filN xs.length k F).getD k 0 = y at *
      go_wp2_with fail
      go_roundw
      case rel => exact ⟨k + 1, by omega, by go_num, HST.out, HBL.out⟩
      case measure => simp [intOf]; omega
    · obtain rfl : k = xs.length := by omega
      rw [filN_all, HALL.out] at hO
      have HO := Lib.hid (hO.mono (show w.heap.size ≤ g by omega))
      have HB := Lib.hid hB
      clear hO hB
      go_wp2_with fail
      go_ret
      exact ⟨g, rfl, HO.out, HB.out⟩
/-- The sum of the first k numbers. -/
def sumNk (L : List Int) (k : Nat) : Int := (L.take k).foldl (· + ·) 0
theorem sumNk_zero (L : List Int) : sumNk L 0 = 0 := rfl
theorem sumNk_succ (L : List Int) (k : Nat) (h : k < L.length) : sumNk L (k + 1) = sumNk L k + L.getD k 0 := by
  unfold sumNk
  rw [List.take_succ_eq_append_getElem h, List.foldl_append]
  simp [h]
theorem sumNk_bd {L : List Int} {C : Int} (_h0 : 0 ≤ C) (h : ∀ i, i < L.length → -C ≤ L.getD i 0 ∧ L.getD i 0 ≤ C) : ∀ k, k ≤ L.length → -(C * k) ≤ sumNk L k ∧ sumNk L k ≤ C * k := by
  intro k
  induction k with
  | zero => intro _; simp [sumNk_zero]
  | succ k ih =>
    intro hk
    have := ih (by omega)
    have := h k (by omega)
    rw [sumNk_succ L k (by omega)]
    have e : C * ((k + 1 : Nat) : Int) = C * k + C := by rw [show ((k + 1 : Nat) : Int) = (k : Int) + 1 by omega, Int.mul_add, Int.mul_one]
    rw [e]
    omega
theorem sumOf_any (v : Value) (L : List Int) (w : World) (hv : Ints w v L) (hn : L.length ≤ 1000) (hb : ∀ i, i < L.length → -4000000000000000 ≤ L.getD i 0 ∧ L.getD i 0 ≤ 4000000000000000) :
    Calls Try.prog 93 #[v] w fun e w' => e = .returned (.int .i64 (sumNk L L.length)) ∧ w = w' := by
  have HBD := Lib.hid (fun k (hk : k ≤ L.length) => sumNk_bd (by decide) hb k hk)
  obtain ⟨a, cap, rfl, _, _, _, hx⟩ := hv
  by_cases h0 : L.length = 0
  · have hL : L = [] := List.length_eq_zero_iff.1 h0
    subst hL
    show Calls _ _ #[.slice a 0 cap] _ _
    go_enter Try.func93, Try.ntmps93
    go_wp2
    go_rounds 1
    all_goals go_ret
    all_goals exact ⟨rfl, rfl⟩
  obtain ⟨b, off, rfl, _, hc⟩ : ∃ b off, a = some ⟨b, off, none⟩ ∧ b < w.heap.size ∧ CellsAt w b off L := by
    rcases hx with hx | hx
    · rw [hx] at h0; simp at h0
    · exact hx
  have HC := Lib.hid hc
  have HS := Lib.hid (sumNk_succ L)
  clear hc hx hb h0
  go_enter Try.func93, Try.ntmps93
  go_wp2_with fail
  go_loop [3, 5, 8] (fun s _ i => ∃ (k : Nat) (S : Int), k ≤ L.length ∧ i = .int .i64 k ∧ s = .int .i64 S ∧ Hid (S = sumNk L k)) (fun _ _ i => L.length - (intOf i).toNat)
  case atStart => exact ⟨0, 0, Nat.zero_le _, rfl, rfl, rfl⟩
  case round =>
    obtain ⟨k, S, hk, rfl, rfl, hS⟩ := hrel
    by_cases hlt : k < L.length
    · have c1 := HC.out k hlt
      have h1 := HBD.out (k + 1) (by omega)
      have h2 := HS.out k hlt
      rw [← hS.out] at h2
      have hnx : Hid (S + L.getD k 0 = sumNk L (k + 1)) := h2.symm
      rw [h2] at h1
      obtain ⟨x, hx⟩ : ∃ x, x = L.getD k 0 := ⟨_, rfl⟩
      rw [← hx] at c1 h1 hnx
      obtain ⟨T, hT⟩ : ∃ T, T = S + x := ⟨_, rfl⟩
      rw [← hT] at h1 hnx
      have hw : wrap64 T = T := IntWalk.wrap64_in _ (by omega)
      have hT' := hT.symm
      clear h1 h2 hx hT hS
      go_wp2_with fail
      go_round
      case rel => exact ⟨k + 1, T, by omega, by go_num, (by first | rfl | rw [hw]), hnx⟩
      case measure => simp [intOf]; omega
    · obtain rfl : k = L.length := by omega
      go_wp2_with fail
      go_ret
      exact ⟨by rw [hS.out]; rfl, rfl⟩
end Go.Proofs.Ytkdgnegnndedaaa.PW
