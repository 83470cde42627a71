/-
  Walks: payoffs of a player against the other's shares, in the program: the two players behind the interface.
-/
import Derived.Test.YtimcokealhnfhaaGTab
import Derived.Test.YtimcokealhnfhaaVNum
import Derived.Deep.RegionWith
namespace Go.Proofs.Ytimcokealhnfhaa.PW
open Go.RowKit Go.Proofs.Ytimcokealhnfhaa
open Go.Proofs.Ytimcokealhnfhaa.PM

/-- What a choice gets against the first t shares of the other player. -/
def payTo (G : Nat → Nat → Int) (S : List Int) (o : Nat) : Nat → Int
  | 0 => 0
  | t + 1 => payTo G S o t + S.getD t 0 * G o t
theorem payTo_bd {G : Nat → Nat → Int} {S : List Int} {o m : Nat} (hG : ∀ t, t < m → 1 ≤ G o t ∧ G o t ≤ 20) (hS : ∀ t, t < m → 0 ≤ S.getD t 0 ∧ S.getD t 0 ≤ 1000000000) : ∀ t, t ≤ m → 0 ≤ payTo G S o t ∧ payTo G S o t ≤ 20000000000 * t := by
  intro t
  induction t with
  | zero => intro _; simp [payTo]
  | succ t ih =>
    intro ht
    have h1 := ih (by omega)
    have h2 := hG t (by omega)
    have h3 := hS t (by omega)
    have h4 : 0 * 1 ≤ S.getD t 0 * G o t := Int.mul_le_mul h3.1 h2.1 (by omega) (by omega)
    have h5 : S.getD t 0 * G o t ≤ 1000000000 * 20 := Int.mul_le_mul h3.2 h2.2 (by omega) (by omega)
    simp only [payTo]
    rw [show ((t + 1 : Nat) : Int) = (t : Int) + 1 by omega]
    omega
/-- The first i choices are reckoned, and the choice i against the first t shares. -/
def payFill (G : Nat → Nat → Int) (S : List Int) (n m i t : Nat) : List Int := (List.range n).map fun o => if o < i then payTo G S o m else if o = i then payTo G S o t else 0
theorem payFill_length (G : Nat → Nat → Int) (S : List Int) (n m i t : Nat) : (payFill G S n m i t).length = n := by simp [payFill]
theorem payFill_zero (G : Nat → Nat → Int) (S : List Int) (n m : Nat) : payFill G S n m 0 0 = List.replicate n 0 := by
  unfold payFill
  apply List.ext_getElem
  · simp
  · intro i h1 h2
    simp only [List.getElem_map, List.getElem_range, List.getElem_replicate]
    rw [if_neg (by omega)]
    split <;> simp [payTo]
theorem payFill_next (G : Nat → Nat → Int) (S : List Int) (n m i : Nat) : payFill G S n m i m = payFill G S n m (i + 1) 0 := by
  unfold payFill
  apply List.map_congr_left
  intro o _
  by_cases h : o < i
  · rw [if_pos h, if_pos (by omega)]
  · rw [if_neg h]
    by_cases e : o = i
    · subst e; rw [if_pos rfl, if_pos (by omega)]
    · rw [if_neg e, if_neg (by omega)]
      split <;> simp [payTo]
theorem payFill_set (G : Nat → Nat → Int) (S : List Int) (n m i t : Nat) : (payFill G S n m i t).set i (payTo G S i t + S.getD t 0 * G i t) = payFill G S n m i (t + 1) := by
  unfold payFill
  apply List.ext_getElem
  · simp
  · intro o h1 h2
    rw [List.getElem_set]
    simp only [List.getElem_map, List.getElem_range]
    by_cases e : i = o
    · subst e; rw [if_pos rfl, if_neg (by omega), if_pos rfl]; rfl
    · rw [if_neg e]
      by_cases h : o < i
      · rw [if_pos h, if_pos h]
      · rw [if_neg h, if_neg h, if_neg (fun c => e c.symm), if_neg (fun c => e c.symm)]
theorem payFill_at (G : Nat → Nat → Int) (S : List Int) (n m i t : Nat) (hi : i < n) : (payFill G S n m i t).getD i 0 = payTo G S i t := by
  simp [payFill, hi]
def payL (G : Nat → Nat → Int) (S : List Int) (n m : Nat) : List Int := (List.range n).map fun o => payTo G S o m
theorem payFill_all (G : Nat → Nat → Int) (S : List Int) (n m : Nat) : payFill G S n m n 0 = payL G S n m := by
  unfold payFill payL
  apply List.map_congr_left
  intro o ho
  rw [if_pos (by simpa using ho)]

theorem choices_row (v : Value) (A : List (List Int)) (w : World) (hv : PM.Rows w v A) : Calls Try.prog 166 #[v] w fun e w' => e = .returned (.int .i64 A.length) ∧ w = w' := by
  obtain ⟨a, c, rfl, _⟩ := hv
  go_enter Try.func166, Try.ntmps166
  go_wp2
  go_ret
  exact ⟨rfl, rfl⟩
theorem choices_col (v : Value) (A : List (List Int)) (l : Nat) (w : World) (hv : PM.Rows w v A) (h1 : 1 ≤ A.length) (h0 : (A.getD 0 []).length = l) : Calls Try.prog 168 #[v] w fun e w' => e = .returned (.int .i64 l) ∧ w = w' := by
  obtain ⟨b, off, c, rfl, hb, hm, hcell⟩ := grows_at hv h1
  obtain ⟨u, hu, a, d, rfl, _⟩ := hcell 0 (by omega)
  rw [h0] at hu
  simp only [Nat.add_zero] at hu
  clear hcell hv
  go_enter Try.func168, Try.ntmps168
  go_wp2
  go_ret
  exact ⟨rfl, rfl⟩
/-- A table as it lies in whatever later world. -/
def TabAt (w : World) (b off : Nat) (M : List (List Int)) (k l : Nat) : Prop := ∀ wr, Below w.heap.size w wr → ∀ i, i < k → ∃ r o d, wr.cell? ⟨b, off + i, none⟩ = some (.slice (some ⟨r, o, none⟩) l d) ∧ ∀ j, j < l → wr.cell? ⟨r, o + j, none⟩ = some (.int .i64 (gE M i j))
theorem TabAt.next {w w1 : World} {b off k l : Nat} {M : List (List Int)} (h : TabAt w b off M k l) (hb : Below w.heap.size w w1) : TabAt w1 b off M k l := fun wr hw => h wr (hb.trans (hw.mono hb.size))
theorem gets_row (b off c k l : Nat) (A : List (List Int)) (i j : Nat) (w : World) (hv : TabAt w b off A k l) (hi : i < k) (hj : j < l) (_hk : k ≤ 5) (_hl : l ≤ 5) :
    Calls Try.prog 167 #[.slice (some ⟨b, off, none⟩) k c, .int .i64 i, .int .i64 j] w fun e w' => e = .returned (.int .i64 (gE A i j)) ∧ w = w' := by
  obtain ⟨r, o, d, t1, y1⟩ := hv w (Below.refl _ _) i hi
  have z1 := y1 j hj
  clear y1 hv
  generalize gE A i j = x at *
  go_enter Try.func167, Try.ntmps167
  go_wp2
  go_ret
  exact ⟨rfl, rfl⟩
theorem gets_col (b off c k l : Nat) (A : List (List Int)) (i j : Nat) (w : World) (hv : TabAt w b off A k l) (hi : i < k) (hj : j < l) (_hk : k ≤ 5) (_hl : l ≤ 5) :
    Calls Try.prog 169 #[.slice (some ⟨b, off, none⟩) k c, .int .i64 j, .int .i64 i] w fun e w' => e = .returned (.int .i64 (gE A i j)) ∧ w = w' := by
  obtain ⟨r, o, d, t1, y1⟩ := hv w (Below.refl _ _) i hi
  have z1 := y1 j hj
  clear y1 hv
  generalize gE A i j = x at *
  go_enter Try.func169, Try.ntmps169
  go_wp2
  go_ret
  exact ⟨rfl, rfl⟩

set_option maxRecDepth 100000 in
set_option maxHeartbeats 4000000 in
theorem payoffsAgainst_row (b off c n m : Nat) (G : Nat → Nat → Int) (sv : Value) (S : List Int) (w : World) (hch : ∀ w', Below w.heap.size w w' → Calls Try.prog 166 #[.slice (some ⟨b, off, none⟩) n c] w' fun e w'' => e = .returned (.int .i64 n) ∧ w' = w'')
    (hge : ∀ w', Below w.heap.size w w' → ∀ o t, o < n → t < m → Calls Try.prog 167 #[.slice (some ⟨b, off, none⟩) n c, .int .i64 o, .int .i64 t] w' fun e w'' => e = .returned (.int .i64 (G o t)) ∧ w' = w'')
    (hs : Ints w sv S) (hsl : S.length = m) (hn1 : 1 ≤ n) (hn5 : n ≤ 5) (hm1 : 1 ≤ m) (hm5 : m ≤ 5) (hG : ∀ o t, o < n → t < m → 1 ≤ G o t ∧ G o t ≤ 20) (hS : ∀ t, t < m → 0 ≤ S.getD t 0 ∧ S.getD t 0 ≤ 1000000000) :
    Calls Try.prog 94 #[.iface 151 (.slice (some ⟨b, off, none⟩) n c), sv] w fun e w' => ∃ g, e = .returned (.slice (some ⟨g, 0, none⟩) n n) ∧ FreshI w.heap.size w' (.slice (some ⟨g, 0, none⟩) n n) (payL G S n m) ∧ Below w.heap.size w w' := by
  have hmk := run_make_row' (P := Try.prog) 23 2 (.int .i64 0) 8 Try.underlying23 info_int rfl .i64 .i64 n (by omega) (by omega)
  obtain ⟨sb, so, sc, rfl, hsb, hsc⟩ := ints_row hs (by omega)
  rw [hsl]
  have HSC := Lib.hid (fun t (ht : t < m) => hsc t (by omega))
  have HCH := Lib.hid hch
  have HGE := Lib.hid hge
  have HPB := Lib.hid (fun o (ho : o < n) => payTo_bd (o := o) (fun t ht => hG o t ho ht) hS)
  have HGB := Lib.hid hG
  have HSB := Lib.hid hS
  have HZ := Lib.hid (zeros_fresh w n (by unfold maxLen; omega))
  have hA0 : Below w.heap.size w (w.alloc (.cells (madeCells #[.int .i64 0] n) 2)) := (Below.refl _ _).alloc (Nat.le_refl _) _
  obtain ⟨g, hg⟩ : ∃ g, g = w.heap.size := ⟨_, rfl⟩
  clear hs hsl hsc hch hge hG hS
  go_enter Try.func94, Try.ntmps94
  go_wp2_with fail
  refine (HCH.out _ (Below.refl _ _)).mono ?_; rintro e w1 ⟨rfl, rfl⟩
  go_wp2_with fail
  rw [← hg]
  rw [← hg] at HZ
  have hgw : w.heap.size ≤ g := by omega
  clear hg
  go_loopw [6, 7, 8, 14, 19] (fun _ _ _ i _ wr => ∃ o : Nat, o ≤ n ∧ i = .int .i64 o ∧ FreshI g wr (.slice (some ⟨g, 0, none⟩) n n) (payFill G S n m o 0) ∧ Below w.heap.size w wr) (fun _ _ _ i _ _ => n - (intOf i).toNat)
  case atStart => exact ⟨0, Nat.zero_le _, rfl, by rw [payFill_zero]; exact HZ.out, hA0⟩
  case round =>
    obtain ⟨o, ho, rfl, hO, hB⟩ := hrel
    clear hmk
    by_cases hlt : o < n
    · have HO := Lib.hid hO
      have HB := Lib.hid hB
      clear hO hB
      go_wp2_with fail
      go_loopw [7, 8, 19] (fun _ _ i wi => ∃ t : Nat, t ≤ m ∧ i = .int .i64 t ∧ FreshI g wi (.slice (some ⟨g, 0, none⟩) n n) (payFill G S n m o t) ∧ Below w.heap.size w wi) (fun _ _ i _ => m - (intOf i).toNat)
      case atStart => exact ⟨0, Nat.zero_le _, rfl, HO.out, HB.out⟩
      case round =>
        obtain ⟨t, ht, rfl, hO, hB⟩ := hrel
        by_cases hltt : t < m
        · have c1 := (hB.cell (p := ⟨sb, so + t, none⟩) hsb).trans (HSC.out t hltt)
          have hb1 := HPB.out o hlt t ht
          have hb2 := HPB.out o hlt (t + 1) (by omega)
          have hstep : payTo G S o (t + 1) = payTo G S o t + S.getD t 0 * G o t := rfl
          have h2 := HGB.out o t hlt hltt
          have h3 := HSB.out t hltt
          have h4 : 0 * 1 ≤ S.getD t 0 * G o t := Int.mul_le_mul h3.1 h2.1 (by omega) (by omega)
          have h5 : S.getD t 0 * G o t ≤ 1000000000 * 20 := Int.mul_le_mul h3.2 h2.2 (by omega) (by omega)
          have hst := fun (w2 : World) (h : Below wr.heap.size wr w2) => (hO.below h).setN o (payTo G S o t + S.getD t 0 * G o t)
          simp only [payFill_set] at hst
          have hlf := payFill_length G S n m o t
          have hcl := fun (w2 : World) (h : Below wr.heap.size wr w2) => show w2.cell? ⟨g, o, none⟩ = some (.int .i64 (payTo G S o t)) ∧ w2.frozen? ⟨g, o, none⟩ = false from by
            have hO2 := hO.below h
            obtain ⟨_, _, _, _, _, hoo⟩ := id hO2
            have e1 := own_cellN hoo hlf.symm hlt
            rw [payFill_at G S n m o t hlt] at e1
            exact ⟨e1, own_frozenN hoo hlf.symm o⟩
          have hgz : w.heap.size ≤ g := by omega
          have hbl := fun (w2 : World) (h : Below wr.heap.size wr w2) => ((hB.trans (h.mono hB.size)).setCell (p := ⟨g, o, none⟩) (show w.heap.size ≤ g from hgz) (.int .i64 (payTo G S o (t + 1))))
          have hcall := fun (w2 : World) (h : Below wr.heap.size wr w2) => HGE.out w2 (hB.trans (h.mono hB.size)) o t hlt hltt
          obtain ⟨s, hs⟩ : ∃ s, s = S.getD t 0 := ⟨_, rfl⟩
          obtain ⟨x, hx⟩ : ∃ x, x = G o t := ⟨_, rfl⟩
          obtain ⟨p, hp⟩ : ∃ p, p = payTo G S o t := ⟨_, rfl⟩
          rw [← hs, ← hx, ← hp] at hstep
          obtain ⟨y, hy⟩ : ∃ y, y = s * x := ⟨_, rfl⟩
          rw [← hs, ← hx, ← hy] at h4 h5
          rw [← hy] at hstep
          rw [hstep] at hb2
          simp only [← hs, ← hx, ← hp, ← hy] at hst
          simp only [← hp] at hcl
          simp only [hstep] at hbl
          simp only [← hx] at hcall
          rw [← hs] at c1
          rw [← hp] at hb1
          have hw1 : IntKind.i64.wrap y = y := IntWalk.i64_in _ (by omega)
          have hw2 : IntKind.i64.wrap (p + y) = p + y := IntWalk.i64_in _ (by omega)
          have hy' := hy.symm
          have HST := Lib.hid hst
          have HBL := Lib.hid hbl
          have HCL := Lib.hid hcl
          have HCA := Lib.hid hcall
          have hzr := hB.size
          clear hst hbl hcl hcall hs hx hp hy hstep h2 h3 h4 h5 hb1 hb2 hO hB
          go_wp2_with fail
          obtain ⟨c6, c7⟩ := HCL.out wr (Below.refl _ _)
          go_region_with (go_at_call 167; refine (HCA.out _ (by (repeat' (first | (with_reducible exact Below.refl _ _) | (with_reducible assumption) | (with_reducible refine Below.alloc ?_ ?_ _) | (with_reducible refine Below.drew ?_) | (with_reducible refine below_drewN ?_ _) | (with_reducible refine Below.setCell ?_ ?_ _) | (with_reducible refine Below.trans ?_ (Below.mono (by with_reducible assumption) ?_)) | (with_reducible exact Below.size (by with_reducible assumption)) | go_size)))).mono ?_; rintro e w2 ⟨rfl, rfl⟩)
          all_goals
            go_wp2_with fail
            go_roundw
            case rel => exact ⟨t + 1, by omega, by go_num, HST.out wr (Below.refl _ _), (HBL.out wr (Below.refl _ _)).drew⟩
            case measure => simp [intOf]; omega
        · obtain rfl : t = m := by omega
          rw [payFill_next] at hO
          have HO2 := Lib.hid hO
          have HB2 := Lib.hid hB
          clear hO hB
          go_wp2_with fail
          go_roundw
          case rel => exact ⟨o + 1, by omega, by go_num, HO2.out, HB2.out⟩
          case measure => simp [intOf]; omega
    · obtain rfl : o = n := by omega
      rw [payFill_all] at hO
      have HO := Lib.hid (hO.mono (show w.heap.size ≤ g by omega))
      have HB := Lib.hid hB
      clear hO hB
      go_wp2_with fail
      go_ret
      exact ⟨g, rfl, HO.out, HB.out⟩

set_option maxRecDepth 100000 in
set_option maxHeartbeats 4000000 in
theorem payoffsAgainst_col (b off c n m : Nat) (G : Nat → Nat → Int) (sv : Value) (S : List Int) (w : World) (hch : ∀ w', Below w.heap.size w w' → Calls Try.prog 168 #[.slice (some ⟨b, off, none⟩) m c] w' fun e w'' => e = .returned (.int .i64 n) ∧ w' = w'')
    (hge : ∀ w', Below w.heap.size w w' → ∀ o t, o < n → t < m → Calls Try.prog 169 #[.slice (some ⟨b, off, none⟩) m c, .int .i64 o, .int .i64 t] w' fun e w'' => e = .returned (.int .i64 (G o t)) ∧ w' = w'')
    (hs : Ints w sv S) (hsl : S.length = m) (hn1 : 1 ≤ n) (hn5 : n ≤ 5) (hm1 : 1 ≤ m) (hm5 : m ≤ 5) (hG : ∀ o t, o < n → t < m → 1 ≤ G o t ∧ G o t ≤ 20) (hS : ∀ t, t < m → 0 ≤ S.getD t 0 ∧ S.getD t 0 ≤ 1000000000) :
    Calls Try.prog 94 #[.iface 152 (.slice (some ⟨b, off, none⟩) m c), sv] w fun e w' => ∃ g, e = .returned (.slice (some ⟨g, 0, none⟩) n n) ∧ FreshI w.heap.size w' (.slice (some ⟨g, 0, none⟩) n n) (payL G S n m) ∧ Below w.heap.size w w' := by
  have hmk := run_make_row' (P := Try.prog) 23 2 (.int .i64 0) 8 Try.underlying23 info_int rfl .i64 .i64 n (by omega) (by omega)
  obtain ⟨sb, so, sc, rfl, hsb, hsc⟩ := ints_row hs (by omega)
  rw [hsl]
  have HSC := Lib.hid (fun t (ht : t < m) => hsc t (by omega))
  have HCH := Lib.hid hch
  have HGE := Lib.hid hge
  have HPB := Lib.hid (fun o (ho : o < n) => payTo_bd (o := o) (fun t ht => hG o t ho ht) hS)
  have HGB := Lib.hid hG
  have HSB := Lib.hid hS
  have HZ := Lib.hid (zeros_fresh w n (by unfold maxLen; omega))
  have hA0 : Below w.heap.size w (w.alloc (.cells (madeCells #[.int .i64 0] n) 2)) := (Below.refl _ _).alloc (Nat.le_refl _) _
  obtain ⟨g, hg⟩ : ∃ g, g = w.heap.size := ⟨_, rfl⟩
  clear hs hsl hsc hch hge hG hS
  go_enter Try.func94, Try.ntmps94
  go_wp2_with fail
  refine (HCH.out _ (Below.refl _ _)).mono ?_; rintro e w1 ⟨rfl, rfl⟩
  go_wp2_with fail
  rw [← hg]
  rw [← hg] at HZ
  have hgw : w.heap.size ≤ g := by omega
  clear hg
  go_loopw [6, 7, 8, 14, 19] (fun _ _ _ i _ wr => ∃ o : Nat, o ≤ n ∧ i = .int .i64 o ∧ FreshI g wr (.slice (some ⟨g, 0, none⟩) n n) (payFill G S n m o 0) ∧ Below w.heap.size w wr) (fun _ _ _ i _ _ => n - (intOf i).toNat)
  case atStart => exact ⟨0, Nat.zero_le _, rfl, by rw [payFill_zero]; exact HZ.out, hA0⟩
  case round =>
    obtain ⟨o, ho, rfl, hO, hB⟩ := hrel
    clear hmk
    by_cases hlt : o < n
    · have HO := Lib.hid hO
      have HB := Lib.hid hB
      clear hO hB
      go_wp2_with fail
      go_loopw [7, 8, 19] (fun _ _ i wi => ∃ t : Nat, t ≤ m ∧ i = .int .i64 t ∧ FreshI g wi (.slice (some ⟨g, 0, none⟩) n n) (payFill G S n m o t) ∧ Below w.heap.size w wi) (fun _ _ i _ => m - (intOf i).toNat)
      case atStart => exact ⟨0, Nat.zero_le _, rfl, HO.out, HB.out⟩
      case round =>
        obtain ⟨t, ht, rfl, hO, hB⟩ := hrel
        by_cases hltt : t < m
        · have c1 := (hB.cell (p := ⟨sb, so + t, none⟩) hsb).trans (HSC.out t hltt)
          have hb1 := HPB.out o hlt t ht
          have hb2 := HPB.out o hlt (t + 1) (by omega)
          have hstep : payTo G S o (t + 1) = payTo G S o t + S.getD t 0 * G o t := rfl
          have h2 := HGB.out o t hlt hltt
          have h3 := HSB.out t hltt
          have h4 : 0 * 1 ≤ S.getD t 0 * G o t := Int.mul_le_mul h3.1 h2.1 (by omega) (by omega)
          have h5 : S.getD t 0 * G o t ≤ 1000000000 * 20 := Int.mul_le_mul h3.2 h2.2 (by omega) (by omega)
          have hst := fun (w2 : World) (h : Below wr.heap.size wr w2) => (hO.below h).setN o (payTo G S o t + S.getD t 0 * G o t)
          simp only [payFill_set] at hst
          have hlf := payFill_length G S n m o t
          have hcl := fun (w2 : World) (h : Below wr.heap.size wr w2) => show w2.cell? ⟨g, o, none⟩ = some (.int .i64 (payTo G S o t)) ∧ w2.frozen? ⟨g, o, none⟩ = false from by
            have hO2 := hO.below h
            obtain ⟨_, _, _, _, _, hoo⟩ := id hO2
            have e1 := own_cellN hoo hlf.symm hlt
            rw [payFill_at G S n m o t hlt] at e1
            exact ⟨e1, own_frozenN hoo hlf.symm o⟩
          have hgz : w.heap.size ≤ g := by omega
          have hbl := fun (w2 : World) (h : Below wr.heap.size wr w2) => ((hB.trans (h.mono hB.size)).setCell (p := ⟨g, o, none⟩) (show w.heap.size ≤ g from hgz) (.int .i64 (payTo G S o (t + 1))))
          have hcall := fun (w2 : World) (h : Below wr.heap.size wr w2) => HGE.out w2 (hB.trans (h.mono hB.size)) o t hlt hltt
          obtain ⟨s, hs⟩ : ∃ s, s = S.getD t 0 := ⟨_, rfl⟩
          obtain ⟨x, hx⟩ : ∃ x, x = G o t := ⟨_, rfl⟩
          obtain ⟨p, hp⟩ : ∃ p, p = payTo G S o t := ⟨_, rfl⟩
          rw [← hs, ← hx, ← hp] at hstep
          obtain ⟨y, hy⟩ : ∃ y, y = s * x := ⟨_, rfl⟩
          rw [← hs, ← hx, ← hy] at h4 h5
          rw [← hy] at hstep
          rw [hstep] at hb2
          simp only [← hs, ← hx, ← hp, ← hy] at hst
          simp only [← hp] at hcl
          simp only [hstep] at hbl
          simp only [← hx] at hcall
          rw [← hs] at c1
          rw [← hp] at hb1
          have hw1 : IntKind.i64.wrap y = y := IntWalk.i64_in _ (by omega)
          have hw2 : IntKind.i64.wrap (p + y) = p + y := IntWalk.i64_in _ (by omega)
          have hy' := hy.symm
          have HST := Lib.hid hst
          have HBL := Lib.hid hbl
          have HCL := Lib.hid hcl
          have HCA := Lib.hid hcall
          have hzr := hB.size
          clear hst hbl hcl hcall hs hx hp hy hstep h2 h3 h4 h5 hb1 hb2 hO hB
          go_wp2_with fail
          obtain ⟨c6, c7⟩ := HCL.out wr (Below.refl _ _)
          go_region_with (go_at_call 169; refine (HCA.out _ (by (repeat' (first | (with_reducible exact Below.refl _ _) | (with_reducible assumption) | (with_reducible refine Below.alloc ?_ ?_ _) | (with_reducible refine Below.drew ?_) | (with_reducible refine below_drewN ?_ _) | (with_reducible refine Below.setCell ?_ ?_ _) | (with_reducible refine Below.trans ?_ (Below.mono (by with_reducible assumption) ?_)) | (with_reducible exact Below.size (by with_reducible assumption)) | go_size)))).mono ?_; rintro e w2 ⟨rfl, rfl⟩)
          all_goals
            go_wp2_with fail
            go_roundw
            case rel => exact ⟨t + 1, by omega, by go_num, HST.out wr (Below.refl _ _), (HBL.out wr (Below.refl _ _)).drew⟩
            case measure => simp [intOf]; omega
        · obtain rfl : t = m := by omega
          rw [payFill_next] at hO
          have HO2 := Lib.hid hO
          have HB2 := Lib.hid hB
          clear hO hB
          go_wp2_with fail
          go_roundw
          case rel => exact ⟨o + 1, by omega, by go_num, HO2.out, HB2.out⟩
          case measure => simp [intOf]; omega
    · obtain rfl : o = n := by omega
      rw [payFill_all] at hO
      have HO := Lib.hid (hO.mono (show w.heap.size ≤ g by omega))
      have HB := Lib.hid hB
      clear hO hB
      go_wp2_with fail
      go_ret
      exact ⟨g, rfl, HO.out, HB.out⟩
end Go.Proofs.Ytimcokealhnfhaa.PW
