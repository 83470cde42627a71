/-
  Walks: the remainder of a problem in whole numbers, on both sides.
-/
import Derived.Test.YtgncaploccbfnaaVRem
import Derived.Deep.RegionWith
namespace Go.Proofs.Ytgncaploccbfnaa.PW
open Go.RowKit Go.Proofs.Ytgncaploccbfnaa
open Go.Proofs.Ytgncaploccbfnaa.PM

/-- The remainder's numerator i, with the first t products. -/
def remTo (M : List (List Int)) (Q L : List Int) (d : Int) (i : Nat) : Nat → Int
  | 0 => Q.getD i 0 * d
  | t + 1 => remTo M Q L d i t + ent M i t * L.getD t 0
def remL (M : List (List Int)) (Q L : List Int) (d : Int) : List Int := (List.range M.length).map fun i => remTo M Q L d i M.length
theorem remTo_bd {M : List (List Int)} {Q L : List Int} {d : Int} (hp : isPB M Q = true) (hd : 0 ≤ d ∧ d ≤ 1000000000) (hL : ∀ t, t < M.length → -1000000000000 ≤ L.getD t 0 ∧ L.getD t 0 ≤ 1000000000000) {i : Nat} (hi : i < M.length) :
    ∀ t, t ≤ M.length → -(100000000000 + 20000000000000 * t) ≤ remTo M Q L d i t ∧ remTo M Q L d i t ≤ 100000000000 + 20000000000000 * t := by
  obtain ⟨f1, f2, f3, f4, f5⟩ := isPB_facts hp
  intro t
  induction t with
  | zero =>
    intro _
    have := f5 i (by omega)
    have := PM.mul_bd (A := 100) (B := 1000000000) this.1 this.2 (by omega) hd.2
    simp only [remTo]
    omega
  | succ t ih =>
    intro ht
    have h1 := ih (by omega)
    have h2 := (f4 i hi).2 t (by omega)
    have h3 := hL t (by omega)
    have := PM.mul_bd (A := 20) (B := 1000000000000) h2.1 h2.2 h3.1 h3.2
    simp only [remTo]
    have e : ent M i t = (M.getD i []).getD t 0 := rfl
    rw [← e] at this
    rw [show ((t + 1 : Nat) : Int) = (t : Int) + 1 by omega]
    omega

/-- The first i of n are full, the others 0. -/
def fil1 (n m : Nat) (F : Nat → Nat → Int) (i : Nat) : List Int := (List.range n).map fun o => if o < i then F o m else 0
/-- The first i of n are full, the one at i has t. -/
def fil2 (n m : Nat) (F : Nat → Nat → Int) (i t : Nat) : List Int := (List.range n).map fun o => if o < i then F o m else if o = i then F o t else 0
theorem fil1_length (n m : Nat) (F : Nat → Nat → Int) (i : Nat) : (fil1 n m F i).length = n := by simp [fil1]
theorem fil2_length (n m : Nat) (F : Nat → Nat → Int) (i t : Nat) : (fil2 n m F i t).length = n := by simp [fil2]
theorem fil1_zero (n m : Nat) (F : Nat → Nat → Int) : fil1 n m F 0 = List.replicate n 0 := by
  unfold fil1
  apply List.ext_getElem
  · simp
  · intro i h1 h2; simp [List.getElem_replicate]
theorem fil1_all (n m : Nat) (F : Nat → Nat → Int) : fil1 n m F n = (List.range n).map fun o => F o m := by
  unfold fil1
  apply List.map_congr_left
  intro o ho
  rw [if_pos (by simpa using ho)]
theorem fil2_all (n m : Nat) (F : Nat → Nat → Int) (i : Nat) : fil2 n m F i m = fil1 n m F (i + 1) := by
  unfold fil2 fil1
  apply List.map_congr_left
  intro o _
  by_cases h : o < i
  · rw [if_pos h, if_pos (by omega)]
  · rw [if_neg h]
    by_cases e : o = i
    · subst e; rw [if_pos rfl, if_pos (by omega)]
    · rw [if_neg e, if_neg (by omega)]
theorem fil1_set (n m : Nat) (F : Nat → Nat → Int) (i : Nat) : (fil1 n m F i).set i (F i 0) = fil2 n m F i 0 := by
  unfold fil1 fil2
  apply List.ext_getElem
  · simp
  · intro o h1 h2
    rw [List.getElem_set]
    simp only [List.getElem_map, List.getElem_range]
    by_cases e : i = o
    · subst e; rw [if_pos rfl, if_neg (by omega), if_pos rfl]
    · rw [if_neg e]
      by_cases h : o < i
      · rw [if_pos h, if_pos h]
      · rw [if_neg h, if_neg h, if_neg (fun c => e c.symm)]
theorem fil2_set (n m : Nat) (F : Nat → Nat → Int) (i t : Nat) : (fil2 n m F i t).set i (F i (t + 1)) = fil2 n m F i (t + 1) := by
  unfold fil2
  apply List.ext_getElem
  · simp
  · intro o h1 h2
    rw [List.getElem_set]
    simp only [List.getElem_map, List.getElem_range]
    by_cases e : i = o
    · subst e; rw [if_pos rfl, if_neg (by omega), if_pos rfl]
    · rw [if_neg e]
      by_cases h : o < i
      · rw [if_pos h, if_pos h]
      · rw [if_neg h, if_neg h, if_neg (fun c => e c.symm), if_neg (fun c => e c.symm)]
theorem fil2_at (n m : Nat) (F : Nat → Nat → Int) (i t : Nat) (hi : i < n) : (fil2 n m F i t).getD i 0 = F i t := by simp [fil2, hi]

/-- A matrix as it lies in whatever later world. -/
theorem mat_at {w : World} {v : Value} {M : List (List Int)} (h : PM.Rows w v M) (hn : 1 ≤ M.length) (hl : ∀ i, i < M.length → (M.getD i []).length = M.length) :
    ∃ b off c, v = .slice (some ⟨b, off, none⟩) M.length c ∧ ∀ i, i < M.length → ∃ r o d, ∀ wr, Below w.heap.size w wr → wr.cell? ⟨b, off + i, none⟩ = some (.slice (some ⟨r, o, none⟩) M.length d) ∧ ∀ j, j < M.length → wr.cell? ⟨r, o + j, none⟩ = some (.int .i64 (ent M i j)) := by
  obtain ⟨a, c, rfl, h1, h2, hx⟩ := h
  rcases hx with hx | ⟨b, off, rfl, hb, hcell⟩
  · rw [hx] at hn; simp at hn
  refine ⟨b, off, c, rfl, fun i hi => ?_⟩
  obtain ⟨u, hu, ra, rc, rfl, _, _, _, hrx⟩ := hcell i hi
  rcases hrx with hrx | ⟨r, o, rfl, hr, hc⟩
  · have := hl i hi
    rw [hrx] at this
    simp at this
    omega
  · exact ⟨r, o, rc, fun wr hw => ⟨(hw.cell (p := ⟨b, off + i, none⟩) hb).trans (by rw [hu, hl i hi]), fun j hj => (hw.cell (p := ⟨r, o + j, none⟩) hr).trans (hc j (by rw [hl i hi]; exact hj))⟩⟩
theorem list_at {w : World} {v : Value} {Q : List Int} (h : Ints w v Q) (hn : 1 ≤ Q.length) : ∃ b off c, v = .slice (some ⟨b, off, none⟩) Q.length c ∧ b < w.heap.size ∧ ∀ wr, Below w.heap.size w wr → ∀ i, i < Q.length → wr.cell? ⟨b, off + i, none⟩ = some (.int .i64 (Q.getD i 0)) := by
  obtain ⟨a, c, rfl, _, _, _, hx⟩ := h
  rcases hx with hx | ⟨b, off, rfl, hb, hc⟩
  · rw [hx] at hn; simp at hn
  · exact ⟨b, off, c, rfl, hb, fun wr hw i hi => (hw.cell (p := ⟨b, off + i, none⟩) hb).trans (hc i hi)⟩

set_option maxRecDepth 100000 in
set_option maxHeartbeats 4000000 in
theorem remainderNums_any (m q z : Value) (mo : Nat) (M : List (List Int)) (Q : List Int) (Z : List (Int × Int)) (N : Int × Int → Int) (d : Int) (w : World) (h1 : PM.Rows w m M) (h2 : Ints w q Q) (h3 : Frs w z Z) (hp : isPB M Q = true) (hzl : Z.length = M.length)
    (hlk : Looks w (.map (some mo)) Z N) (hd : 0 ≤ d ∧ d ≤ 1000000000) (hN : ∀ x ∈ Z, -1000000000000 ≤ N x ∧ N x ≤ 1000000000000) :
    Calls Try.prog 88 #[.agg #[m, q], z, .map (some mo), .int .i64 d] w fun e w' => ∃ g, e = .returned (.slice (some ⟨g, 0, none⟩) M.length M.length) ∧ FreshI w.heap.size w' (.slice (some ⟨g, 0, none⟩) M.length M.length) (remL M Q (Z.map N) d) ∧ Below w.heap.size w w' := by
  obtain ⟨f1, f2, f3, f4, f5⟩ := isPB_facts hp
  have hmk := run_make_row' (P := Try.prog) 23 2 (.int .i64 0) 8 Try.underlying23 info_int rfl .i64 .i64 M.length (by omega) (by omega)
  obtain ⟨b, off, c, rfl, hM⟩ := mat_at h1 f1 (fun i hi => (f4 i hi).1)
  obtain ⟨qb, qo, qc, rfl, _, hQ⟩ := list_at h2 (by omega)
  obtain ⟨zb, zo, zc, rfl, _, hZ⟩ := h3.at_ (by omega)
  have hbd := fun i (hi : i < M.length) => remTo_bd (L := Z.map N) hp hd (fun t ht => by
    have ht' : t < Z.length := by omega
    rw [show (Z.map N).getD t 0 = N (Z.getD t (0, 0)) by simp [ht']]
    exact hN _ (getD_mem2 ht')) hi
  have hentN : ∀ t, t < M.length → (Z.map N).getD t 0 = N (Z.getD t (0, 0)) := fun t ht => by
    have ht' : t < Z.length := by omega
    simp [ht']
  have hprod : ∀ i t, i < M.length → t < M.length → -20000000000000 ≤ ent M i t * N (Z.getD t (0, 0)) ∧ ent M i t * N (Z.getD t (0, 0)) ≤ 20000000000000 := fun i t hi ht => by
    have ht' : t < Z.length := by omega
    have a := (f4 i hi).2 t ht
    have b := hN _ (getD_mem2 ht')
    exact PM.mul_bd (A := 20) (B := 1000000000000) a.1 a.2 b.1 b.2
  rw [f3]
  rw [hzl]
  obtain ⟨F, hF⟩ : ∃ F : Nat → Nat → Int, F = remTo M Q (Z.map N) d := ⟨_, rfl⟩
  have hres : (List.range M.length).map (fun o => F o M.length) = remL M Q (Z.map N) d := by rw [hF]; rfl
  have hF0 : ∀ i, F i 0 = Q.getD i 0 * d := fun i => by rw [hF]; rfl
  have hF1 : ∀ i t, t < M.length → F i (t + 1) = F i t + ent M i t * N (Z.getD t (0, 0)) := fun i t ht => by rw [hF]; simp only [remTo]; rw [hentN t ht]
  rw [← hF] at hbd
  have HM := Lib.hid hM
  have HQ := Lib.hid (fun wr hw i (hi : i < M.length) => hQ wr hw i (by omega))
  have HZ := Lib.hid (fun wr hw i (hi : i < M.length) => hZ wr hw i (by omega))
  have HBD := Lib.hid hbd
  have HPR := Lib.hid hprod
  have HF0 := Lib.hid hF0
  have HF1 := Lib.hid hF1
  have HRES := Lib.hid hres
  have HLK := Lib.hid (fun w' h t (ht : t < M.length) => hlk w' h (Z.getD t (0, 0)) (getD_mem2 (by omega)))
  have HZF := Lib.hid (zeros_fresh (w.alloc (.cells #[.slice (some ⟨b, off, none⟩) M.length c, .slice (some ⟨qb, qo, none⟩) M.length qc] 27)) M.length (by unfold maxLen; omega))
  clear h1 h2 h3 hM hQ hZ hlk hbd hprod hF hF0 hF1 hres hentN f3 f4 f5 hN hzl hp
  obtain ⟨W0, hW0⟩ : ∃ W0, W0 = w.alloc (.cells #[.slice (some ⟨b, off, none⟩) M.length c, .slice (some ⟨qb, qo, none⟩) M.length qc] 27) := ⟨_, rfl⟩
  have hb0 : Below w.heap.size w W0 := by rw [hW0]; exact (Below.refl _ _).alloc (Nat.le_refl _) _
  have hz0 : W0.heap.size = w.heap.size + 1 := by rw [hW0]; simp
  have x0 : W0.cell? ⟨w.heap.size, 0, none⟩ = some (.slice (some ⟨b, off, none⟩) M.length c) := by rw [hW0]; simp
  have x1 : W0.cell? ⟨w.heap.size, 1, none⟩ = some (.slice (some ⟨qb, qo, none⟩) M.length qc) := by rw [hW0]; simp
  rw [← hW0] at HZF
  have hA0 : Below W0.heap.size W0 (W0.alloc (.cells (madeCells #[.int .i64 0] M.length) 2)) := (Below.refl _ _).alloc (Nat.le_refl _) _
  obtain ⟨W1, hW1⟩ : ∃ W1, W1 = W0.alloc (.cells (madeCells #[.int .i64 0] M.length) 2) := ⟨_, rfl⟩
  have hb1 : Below w.heap.size w W1 := by rw [hW1]; exact hb0.alloc hb0.size _
  have hz1 : W1.heap.size = w.heap.size + 1 + 1 := by rw [hW1]; simp [hz0]
  have y0 : W1.cell? ⟨w.heap.size, 0, none⟩ = some (.slice (some ⟨b, off, none⟩) M.length c) := (by rw [hW1]; exact (hA0.cell (p := ⟨w.heap.size, 0, none⟩) (by show w.heap.size < _; omega)).trans x0)
  have y1 : W1.cell? ⟨w.heap.size, 1, none⟩ = some (.slice (some ⟨qb, qo, none⟩) M.length qc) := (by rw [hW1]; exact (hA0.cell (p := ⟨w.heap.size, 1, none⟩) (by show w.heap.size < _; omega)).trans x1)
  rw [← hW1] at HZF
  obtain ⟨g, hg⟩ : ∃ g, g = W0.heap.size := ⟨_, rfl⟩
  rw [← hg] at HZF
  have hgP : g = w.heap.size + 1 := by omega
  have HW0 := Lib.hid hW0
  have HW1 := Lib.hid hW1
  have HG := Lib.hid hg
  clear hW0 hW1 hg hA0 x0 x1
  have HKb := Lib.hid (fun wr (h : Below W1.heap.size W1 wr) => show wr.cell? ⟨w.heap.size, 0, none⟩ = some (.slice (some ⟨b, off, none⟩) M.length c) ∧ wr.cell? ⟨w.heap.size, 1, none⟩ = some (.slice (some ⟨qb, qo, none⟩) M.length qc) from
    ⟨(h.cell (p := ⟨w.heap.size, 0, none⟩) (by show w.heap.size < _; omega)).trans y0, (h.cell (p := ⟨w.heap.size, 1, none⟩) (by show w.heap.size < _; omega)).trans y1⟩)
  go_enter Try.func88, Try.ntmps88
  go_wp2_with fail
  rw [← HW0.out, ← HW1.out, ← hgP]
  have hgw : w.heap.size < g := by omega
  have hgw1 : g < W1.heap.size := by omega
  have HB1 := Lib.hid hb1
  clear hgP hz0 hz1 hb0 hb1 hmk HW0 HW1 HG y0 y1
  go_loopw [10, 11, 12, 13, 20, 37] (fun _ _ _ _ i _ wr => ∃ o : Nat, o ≤ M.length ∧ i = .int .i64 o ∧ FreshI g wr (.slice (some ⟨g, 0, none⟩) M.length M.length) (fil1 M.length M.length F o) ∧ Below g W1 wr) (fun _ _ _ _ i _ _ => M.length - (intOf i).toNat)
  case atStart => exact ⟨0, Nat.zero_le _, rfl, by rw [fil1_zero]; exact HZF.out, Below.refl _ _⟩
  case round =>
    obtain ⟨o, ho, rfl, hO, hB⟩ := hrel
    have hK := fun (wr' : World) (h : Below g W1 wr') => show wr'.cell? ⟨w.heap.size, 0, none⟩ = some (.slice (some ⟨b, off, none⟩) M.length c) ∧ wr'.cell? ⟨w.heap.size, 1, none⟩ = some (.slice (some ⟨qb, qo, none⟩) M.length qc) from
      ⟨(h.cell (p := ⟨w.heap.size, 0, none⟩) hgw).trans (HKb.out W1 (Below.refl _ _)).1, (h.cell (p := ⟨w.heap.size, 1, none⟩) hgw).trans (HKb.out W1 (Below.refl _ _)).2⟩
    have hLow := fun (wr' : World) (h : Below g W1 wr') => show Below w.heap.size w wr' from HB1.out.trans (h.mono (Nat.le_of_lt hgw))
    by_cases hlt : o < M.length
    · obtain ⟨e0, e1⟩ := hK wr hB
      obtain ⟨r, ro, rd, hrow⟩ := HM.out o hlt
      obtain ⟨t0, _⟩ := hrow wr (hLow wr hB)
      have q0 := HQ.out wr (hLow wr hB) o hlt
      obtain ⟨_, _, hvv, _, hz4, hoo⟩ := id hO
      have hgz : g < wr.heap.size := by simp at hvv; omega
      clear hvv hz4
      have hll := fil1_length M.length M.length F o
      have c6 := own_cellN hoo hll.symm hlt
      have c7 := own_frozenN hoo hll.symm o
      have hst := hO.setN o (F o 0)
      rw [fil1_set] at hst
      have hbl := hB.setCell (p := ⟨g, o, none⟩) (Nat.le_refl _) (.int .i64 (F o 0))
      have hbd := HBD.out o hlt 0 (Nat.zero_le _)
      have hf0 := HF0.out o
      have HROW := Lib.hid (fun (wr' : World) (h : Below g W1 wr') => (hrow wr' (hLow wr' h)).2)
      have HK := Lib.hid hK
      have HLow := Lib.hid hLow
      obtain ⟨q, hq⟩ : ∃ q, q = Q.getD o 0 := ⟨_, rfl⟩
      obtain ⟨f, hf⟩ : ∃ f, f = F o 0 := ⟨_, rfl⟩
      rw [← hq] at q0 hf0
      rw [← hf] at hst hbl hbd hf0
      have hw1 : wrap64 f = f := IntWalk.wrap64_in _ (by omega)
      have hf0' := hf0.symm
      have HFF := Lib.hid hf
      have HST := Lib.hid hst
      have HBL := Lib.hid hbl
      generalize (fil1 M.length M.length F o).getD o 0 = y at *
      clear hst hbl hbd hf0 hoo hll hO hB hK hLow hq hf hrow
      go_wp2_with fail
      simp only [hw1]
      clear hw1 hf0' e0 e1 t0 q0 c6 c7
      go_loopw [12, 13, 37] (fun _ _ i wi => ∃ t : Nat, t ≤ M.length ∧ i = .int .i64 t ∧ FreshI g wi (.slice (some ⟨g, 0, none⟩) M.length M.length) (fil2 M.length M.length F o t) ∧ Below g W1 wi) (fun _ _ i _ => M.length - (intOf i).toNat)
      case atStart => exact ⟨0, Nat.zero_le _, rfl, HST.out, HBL.out⟩
      case round =>
        obtain ⟨t, ht, rfl, hO, hB⟩ := hrel
        by_cases hltt : t < M.length
        · obtain ⟨z0, z1⟩ := HZ.out wr (HLow.out wr hB) t hltt
          have r0 := HROW.out wr hB t hltt
          have hrlt : r < wr.heap.size := World.block_lt_of_cell? wr _ r0
          obtain ⟨X, hX⟩ : ∃ X, X = Z.getD t (0, 0) := ⟨_, rfl⟩
          have hzr := hB.size
          obtain ⟨_, _, hvv, _, hz4, hoo⟩ := id hO
          have hgz : g < wr.heap.size := by simp at hvv; omega
          clear hvv hz4
          have hal : Below wr.heap.size wr (wr.alloc (.cells #[.int .i64 X.1, .int .i64 X.2] 98)) := (Below.refl _ _).alloc (Nat.le_refl _) _
          have hbal := hB.trans (hal.mono (Nat.le_of_lt hgz))
          have hlk := HLK.out (wr.alloc (.cells #[.int .i64 X.1, .int .i64 X.2] 98)).drew (HLow.out _ hbal).drew t hltt
          have hll := fil2_length M.length M.length F o t
          have c6 := own_cellN hoo hll.symm hlt
          rw [fil2_at M.length M.length F o t hlt] at c6
          have c7 := own_frozenN hoo hll.symm o
          have hst := (hO.below hal).setN o (F o (t + 1))
          rw [fil2_set, World.setCell_alloc_past _ _ _ _ hgz] at hst
          have hbl := hbal.setCell (p := ⟨g, o, none⟩) (Nat.le_refl _) (.int .i64 (F o (t + 1)))
          rw [World.setCell_alloc_past _ _ _ _ hgz] at hbl
          have hbd1 := HBD.out o hlt (t + 1) (by omega)
          have hpr := HPR.out o t hlt hltt
          have hstep := HF1.out o t hltt
          rw [← hX] at z0 z1 hlk hpr hstep
          obtain ⟨x, y⟩ := X
          simp only at z0 z1 hlk
          obtain ⟨nx, hnx⟩ : ∃ nx, nx = N (x, y) := ⟨_, rfl⟩
          rw [← hnx] at hlk hpr hstep
          obtain ⟨a, ha⟩ : ∃ a, a = ent M o t := ⟨_, rfl⟩
          rw [← ha] at r0 hpr hstep
          obtain ⟨p, hp⟩ : ∃ p, p = a * nx := ⟨_, rfl⟩
          rw [← hp] at hpr hstep
          obtain ⟨s, hs⟩ : ∃ s, s = F o t := ⟨_, rfl⟩
          rw [← hs] at c6 hstep
          obtain ⟨f1', hf1⟩ : ∃ f1', f1' = F o (t + 1) := ⟨_, rfl⟩
          rw [← hf1] at hst hbl hbd1 hstep
          have hw1 : IntKind.i64.wrap p = p := IntWalk.i64_in _ (by omega)
          have hw2 : IntKind.i64.wrap f1' = f1' := IntWalk.i64_in _ (by omega)
          have hp' := hp.symm
          have hstep' := hstep.symm
          have HST2 := Lib.hid hst
          have HBL2 := Lib.hid hbl
          clear hst hbl hbd1 hpr hstep hp hs hf1 ha hnx hX hll hoo hal hbal hO hB hzr
          go_wp2_with fail
          go_region
          all_goals
            go_wp2_with fail
            go_roundw
            case rel => exact ⟨t + 1, by omega, by go_num, HST2.out, HBL2.out.drew⟩
            case measure => simp [intOf]; omega
        · obtain rfl : t = M.length := by omega
          rw [fil2_all] at hO
          have HO2 := Lib.hid hO
          have HB2 := Lib.hid hB
          clear hO hB
          go_wp2_with fail
          go_roundw
          case rel => exact ⟨o + 1, by omega, by go_num, HO2.out, HB2.out⟩
          case measure => simp [intOf]; omega
    · obtain rfl : o = M.length := by omega
      rw [fil1_all, HRES.out] at hO
      have HO := Lib.hid (hO.mono (Nat.le_of_lt hgw))
      have HB := Lib.hid (hLow wr hB)
      clear hO hB hK hLow
      go_wp2_with fail
      go_ret
      exact ⟨g, rfl, HO.out, HB.out⟩
end Go.Proofs.Ytgncaploccbfnaa.PW
