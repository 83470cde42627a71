/-
  Walks: twice the value of a program, by closures; ValueAt in the program.
-/
import Derived.Test.YtbfpneonmefndaaWSl2
namespace Go.Proofs.Ytbfpneonmefndaa.PW
open Go.RowKit Go.Proofs.Ytbfpneonmefndaa
open Go.Proofs.Ytbfpneonmefndaa.PM Go.Proofs.Ytbfpneonmefndaa.PX

/-- The sum of the first k numbers times products of rows. -/
def forTo (D : List (List Int)) (L : List Int) (n : Nat) : Nat → Int
  | 0 => 0
  | k + 1 => forTo D L n k + L.getD k 0 * proTo (D.getD k []) L n
theorem forTo_bd {D : List (List Int)} {L : List Int} {n : Nat} {P : Int} (h : ∀ k, k < n → -P ≤ L.getD k 0 * proTo (D.getD k []) L n ∧ L.getD k 0 * proTo (D.getD k []) L n ≤ P) : ∀ k, k ≤ n → -(P * k) ≤ forTo D L n k ∧ forTo D L n k ≤ P * k := by
  intro k
  induction k with
  | zero => intro _; simp [forTo]
  | succ k ih =>
    intro hk
    have h1 := ih (by omega)
    have h2 := h k (by omega)
    simp only [forTo]
    rw [show P * ((k + 1 : Nat) : Int) = P * k + P by rw [Int.natCast_add]; simp [Int.mul_add]]
    omega
def tvE (D : List (List Int)) (C L : List Int) (d : Int) (n : Nat) : Int := forTo D L n n + 2 * d * proTo C L n
theorem rows_ints {w : World} {v : Value} {D : List (List Int)} {n : Nat} (h1 : PM.Rows w v D) (hn : D.length = n) (hn1 : 1 ≤ n) (hl : ∀ i, i < n → (D.getD i []).length = n) :
    ∃ b off c, v = .slice (some ⟨b, off, none⟩) n c ∧ ∀ k, k < n → ∃ r o cc, (∀ wr, Below w.heap.size w wr → wr.cell? ⟨b, off + k, none⟩ = some (.slice (some ⟨r, o, none⟩) n cc)) ∧ ∀ wr, Below w.heap.size w wr → Ints wr (.slice (some ⟨r, o, none⟩) n cc) (D.getD k []) := by
  obtain ⟨a, c, rfl, _, _, hx⟩ := h1
  rcases hx with hx | ⟨b, off, rfl, hlt, hc⟩
  · rw [hx] at hn; simp at hn; omega
  refine ⟨b, off, c, by rw [hn], fun k hk => ?_⟩
  obtain ⟨u, hu, hU⟩ := hc k (by omega)
  have hlk := hl k hk
  obtain ⟨r, o, cc, rfl, _, _⟩ := list_at hU (by omega)
  refine ⟨r, o, cc, fun wr h => by rw [(h.cell (p := ⟨b, off + k, none⟩) hlt).trans hu, hlk], fun wr h => ?_⟩
  have := hU.below h
  rwa [hlk] at this

set_option maxHeartbeats 1000000 in
theorem clo2_any (Bn r o n c i : Nat) (rv : Value) (R L : List Int) (x : Int) (w : World) (h0 : w.cell? ⟨Bn, 0, none⟩ = some (.slice (some ⟨r, o, none⟩) n c)) (hi : i < n) (hn : n ≤ 1000) (h1 : w.cell? ⟨r, o + i, none⟩ = some (.int .i64 x))
    (hr : Ints w rv R) (hl : Ints w (.slice (some ⟨r, o, none⟩) n c) L) (hR : R.length = n) (hL : L.length = n) (hb : ∀ t, t < n → -1000000000000000 ≤ R.getD t 0 * L.getD t 0 ∧ R.getD t 0 * L.getD t 0 ≤ 1000000000000000) (hm : -1000000000000000000 ≤ x * proTo R L n ∧ x * proTo R L n ≤ 1000000000000000000) :
    Calls Try.prog 129 #[.int .i64 i, rv, .pointer (some ⟨Bn, 0, none⟩)] w fun e w' => e = .returned (.int .i64 (x * proTo R L n)) ∧ Below w.heap.size w w' := by
  have HP := Lib.hid (fun (w' : World) (h : Below w.heap.size w w') => productOf_any rv (.slice (some ⟨r, o, none⟩) n c) R L n w' (hr.below h) (hl.below h) hR hL (by omega) hn hb)
  have HK := Lib.hid (fun (w' : World) (h : Below w.heap.size w w') => And.intro ((h.cell (p := ⟨Bn, 0, none⟩) (World.block_lt_of_cell? w _ h0)).trans h0) ((h.cell (p := ⟨r, o + i, none⟩) (World.block_lt_of_cell? w _ h1)).trans h1))
  obtain ⟨ra, rc, rfl, _⟩ := hr
  rw [hR] at HP ⊢
  generalize proTo R L n = p at *
  have hwr : IntKind.i64.wrap (x * p) = x * p := IntWalk.i64_in _ (by omega)
  clear hl hR hL hb
  go_enter Try.func129, Try.ntmps129
  go_wp2_with fail
  go_region_with (go_at_call 99; refine (HP.out _ (by (repeat' (first | (with_reducible exact Below.refl _ _) | (with_reducible assumption) | (with_reducible refine Below.alloc ?_ ?_ _) | (with_reducible refine Below.drew ?_) | (with_reducible refine below_drewN ?_ _) | (with_reducible refine Below.setCell ?_ ?_ _) | (with_reducible refine Below.trans ?_ (Below.mono (by with_reducible assumption) ?_)) | (with_reducible exact Below.size (by with_reducible assumption)) | go_size)))).mono ?_; rintro e w2 ⟨rfl, hb2⟩; have hk2 : Below w.heap.size w w2 := (by (repeat' (first | (with_reducible exact Below.refl _ _) | (with_reducible assumption) | (with_reducible refine Below.alloc ?_ ?_ _) | (with_reducible refine Below.drew ?_) | (with_reducible refine below_drewN ?_ _) | (with_reducible refine Below.setCell ?_ ?_ _) | (with_reducible refine Below.trans ?_ (Below.mono (by with_reducible assumption) ?_)) | (with_reducible exact Below.size (by with_reducible assumption)) | go_size))); obtain ⟨c8, c9⟩ := HK.out _ hk2)
  all_goals
    go_wp2_with fail
    go_ret
    exact ⟨rfl, by (repeat' (first | (with_reducible exact Below.refl _ _) | (with_reducible assumption) | (with_reducible refine Below.alloc ?_ ?_ _) | (with_reducible refine Below.drew ?_) | (with_reducible refine below_drewN ?_ _) | (with_reducible refine Below.setCell ?_ ?_ _) | (with_reducible refine Below.trans ?_ (Below.mono (by with_reducible assumption) ?_)) | (with_reducible exact Below.size (by with_reducible assumption)) | go_size))⟩

set_option maxHeartbeats 1000000 in
theorem sumBy_for (v : Value) (D : List (List Int)) (L : List Int) (Bn r o n c : Nat) (w : World) (hv : PM.Rows w v D) (hD : D.length = n) (hr : ∀ i, i < n → (D.getD i []).length = n) (hn1 : 1 ≤ n) (hn : n ≤ 5) (h0 : w.cell? ⟨Bn, 0, none⟩ = some (.slice (some ⟨r, o, none⟩) n c)) (hl : Ints w (.slice (some ⟨r, o, none⟩) n c) L) (hL : L.length = n)
    (hb : ∀ i t, i < n → t < n → -1000000000000000 ≤ (D.getD i []).getD t 0 * L.getD t 0 ∧ (D.getD i []).getD t 0 * L.getD t 0 ≤ 1000000000000000) (hm : ∀ i, i < n → -1000000000000000000 ≤ L.getD i 0 * proTo (D.getD i []) L n ∧ L.getD i 0 * proTo (D.getD i []) L n ≤ 1000000000000000000) :
    Calls Try.prog 128 #[v, .func (.func 129) #[] #[.pointer (some ⟨Bn, 0, none⟩)]] w fun e w' => e = .returned (.int .i64 (forTo D L n n)) ∧ Below w.heap.size w w' := by
  obtain ⟨bd, od, cd, rfl, hrow⟩ := rows_ints hv hD hn1 hr
  obtain ⟨_, _, _, hle, _, hLc⟩ := list_at hl (by omega)
  simp only [Value.slice.injEq, Option.some.injEq, Addr.mk.injEq, and_true] at hle
  obtain ⟨⟨rfl, rfl⟩, -, -⟩ := hle
  have HROW := Lib.hid hrow
  have HC := Lib.hid (fun i (hi : i < n) (rv : Value) (w' : World) (h : Below w.heap.size w w') (hrv : Ints w' rv (D.getD i [])) => clo2_any Bn r o n c i rv (D.getD i []) L (L.getD i 0) w' ((h.cell (p := ⟨Bn, 0, none⟩) (World.block_lt_of_cell? w _ h0)).trans h0) hi (by omega) (hLc w' h i (by omega)) hrv (hl.below h) (hr i hi) hL (fun t ht => hb i t hi ht) (hm i hi))
  have HB := Lib.hid (forTo_bd hm)
  have HM := Lib.hid hm
  clear hv hD hr h0 hl hL hb hm hrow hLc
  go_enter Try.func128, Try.ntmps128
  go_wp2_with fail
  go_loopw [5, 6, 7, 10] (fun s _ _ i wr => ∃ k : Nat, k ≤ n ∧ i = .int .i64 k ∧ s = .int .i64 (forTo D L n k) ∧ Below w.heap.size w wr) (fun _ _ _ i _ => n - (intOf i).toNat)
  case atStart => exact ⟨0, Nat.zero_le _, rfl, rfl, Below.refl _ _⟩
  case round =>
    obtain ⟨k, hk, rfl, rfl, hB⟩ := hrel
    by_cases hlt : k < n
    · obtain ⟨r2, o2, cc, hcell, hints⟩ := HROW.out k hlt
      have c1 := hcell wr hB
      have HK := Lib.hid (HC.out k hlt _ wr hB (hints wr hB))
      have hs := HB.out k hk
      have hp := HM.out k hlt
      have he : Hid (forTo D L n (k + 1) = forTo D L n k + L.getD k 0 * proTo (D.getD k []) L n) := rfl
      have HBB := Lib.hid hB
      have hk5 : (k : Int) ≤ 5 := by omega
      generalize forTo D L n k = s at *
      generalize L.getD k 0 * proTo (D.getD k []) L n = z at *
      have hz : -9000000000000000000 ≤ s + z ∧ s + z ≤ 9000000000000000000 := by
        have : 1000000000000000000 * (k : Int) ≤ 1000000000000000000 * 5 := by omega
        omega
      clear hs hp hk5 hB hcell hints
      go_wp2_with fail
      refine HK.out.mono ?_; rintro e w2 ⟨rfl, hb2⟩
      have HB2 := Lib.hid (HBB.out.trans (hb2.mono HBB.out.size))
      clear hb2
      go_wp2_with fail
      go_roundw
      case rel => exact ⟨k + 1, by omega, by go_num, by rw [he.out], HB2.out⟩
      case measure => simp [intOf]; omega
    · obtain rfl : k = n := by omega
      have HB2 := Lib.hid hB
      clear hB
      go_wp2_with fail
      go_ret
      exact ⟨rfl, HB2.out⟩

/-- The bounds of what twice the value is made of. -/
structure TvB (D : List (List Int)) (C L : List Int) (d : Int) (n : Nat) : Prop where
  rl : ∀ i t, i < n → t < n → -1000000000000000 ≤ (D.getD i []).getD t 0 * L.getD t 0 ∧ (D.getD i []).getD t 0 * L.getD t 0 ≤ 1000000000000000
  lp : ∀ i, i < n → -10000000000000000 ≤ L.getD i 0 * proTo (D.getD i []) L n ∧ L.getD i 0 * proTo (D.getD i []) L n ≤ 10000000000000000
  cl : ∀ i, i < n → -1000000000000000 ≤ C.getD i 0 * L.getD i 0 ∧ C.getD i 0 * L.getD i 0 ≤ 1000000000000000
  dp : -100000000000000 ≤ 2 * d * proTo C L n ∧ 2 * d * proTo C L n ≤ 100000000000000
  fr : -50000000000000000 ≤ forTo D L n n ∧ forTo D L n n ≤ 50000000000000000
theorem tvB_of {D : List (List Int)} {C L : List Int} {d : Int} {n : Nat} (hp : isPB D C = true) (hn : D.length = n) (hd : 0 ≤ d ∧ d ≤ 10000) (hL : ∀ t, t < n → -10000000 ≤ L.getD t 0 ∧ L.getD t 0 ≤ 10000000) : TvB D C L d n := by
  obtain ⟨f1, f2, f3, f4, f5⟩ := isPB_facts hp
  have hn5 : (n : Int) ≤ 5 := by omega
  have h1 : ∀ i t, i < n → t < n → -200000000 ≤ (D.getD i []).getD t 0 * L.getD t 0 ∧ (D.getD i []).getD t 0 * L.getD t 0 ≤ 200000000 := fun i t hi ht => by
    have x := (f4 i (by omega)).2 t (by omega)
    have y := hL t ht
    exact PM.mul_bd (A := 20) (B := 10000000) x.1 x.2 y.1 y.2
  have h2 : ∀ i, i < n → -1000000000 ≤ proTo (D.getD i []) L n ∧ proTo (D.getD i []) L n ≤ 1000000000 := fun i hi => by
    have := proTo_bd (n := n) (fun t ht => h1 i t hi ht) n (Nat.le_refl _)
    omega
  have h3 : ∀ i, i < n → -10000000000000000 ≤ L.getD i 0 * proTo (D.getD i []) L n ∧ L.getD i 0 * proTo (D.getD i []) L n ≤ 10000000000000000 := fun i hi => by
    have x := hL i hi
    have y := h2 i hi
    exact PM.mul_bd (A := 10000000) (B := 1000000000) x.1 x.2 y.1 y.2
  have h4 : ∀ i, i < n → -1000000000 ≤ C.getD i 0 * L.getD i 0 ∧ C.getD i 0 * L.getD i 0 ≤ 1000000000 := fun i hi => by
    have x := f5 i (by omega)
    have y := hL i hi
    exact PM.mul_bd (A := 100) (B := 10000000) x.1 x.2 y.1 y.2
  have h5 := proTo_bd (n := n) h4 n (Nat.le_refl _)
  have h6 := PM.mul_bd (A := 20000) (B := 5000000000) (a := 2 * d) (b := proTo C L n) (by omega) (by omega) (by omega) (by omega)
  have h7 := forTo_bd (n := n) h3 n (Nat.le_refl _)
  exact ⟨fun i t hi ht => by have := h1 i t hi ht; omega, h3, fun i hi => by have := h4 i hi; omega, by omega, by omega⟩

set_option maxRecDepth 100000 in
set_option maxHeartbeats 4000000 in
theorem tv_any (Bp bd od cd : Nat) (cv lv : Value) (D : List (List Int)) (C L : List Int) (d : Int) (n : Nat) (w : World) (p0 : w.cell? ⟨Bp, 0, none⟩ = some (.slice (some ⟨bd, od, none⟩) n cd)) (p1 : w.cell? ⟨Bp, 1, none⟩ = some cv) (h1 : PM.Rows w (.slice (some ⟨bd, od, none⟩) n cd) D) (h2 : Ints w cv C) (h3 : Ints w lv L)
    (hD : D.length = n) (hr : ∀ i, i < n → (D.getD i []).length = n) (hC : C.length = n) (hL : L.length = n) (hn1 : 1 ≤ n) (hn : n ≤ 5) (hd : 0 ≤ d ∧ d ≤ 10000) (hb : TvB D C L d n) :
    Calls Try.prog 127 #[lv, .int .i64 d, .pointer (some ⟨Bp, 0, none⟩)] w fun e w' => e = .returned (.int .i64 (tvE D C L d n)) ∧ Below w.heap.size w w' := by
  obtain ⟨r, o, c, rfl, _, _⟩ := list_at h3 (by omega)
  rw [hL] at h3 ⊢
  obtain ⟨x2, y2, hcv, _⟩ := id h2
  rw [hC] at hcv
  subst hcv
  obtain ⟨W0, hW0⟩ : ∃ W0, W0 = w.alloc (.cells #[.slice (some ⟨r, o, none⟩) n c] 23) := ⟨_, rfl⟩
  have hb0 : Below w.heap.size w W0 := by rw [hW0]; exact (Below.refl _ _).alloc (Nat.le_refl _) _
  have h0 : W0.cell? ⟨w.heap.size, 0, none⟩ = some (.slice (some ⟨r, o, none⟩) n c) := by rw [hW0]; simp
  have HS := Lib.hid (sumBy_for _ D L w.heap.size r o n c W0 (h1.below hb0) hD hr hn1 hn h0 (h3.below hb0) hL hb.rl (fun i hi => by have := hb.lp i hi; omega))
  have HP := Lib.hid (fun (w' : World) (h : Below w.heap.size w w') => productOf_any (.slice x2 n y2) (.slice (some ⟨r, o, none⟩) n c) C L n w' (h2.below h) (h3.below h) hC hL hn1 (by omega) hb.cl)
  have hlp := World.block_lt_of_cell? w _ p0
  have q0 := (hb0.cell (p := ⟨Bp, 0, none⟩) hlp).trans p0
  have q1 := (hb0.cell (p := ⟨Bp, 1, none⟩) hlp).trans p1
  have hlq : Bp < W0.heap.size := Nat.lt_of_lt_of_le hlp hb0.size
  have hlw : w.heap.size < W0.heap.size := by rw [hW0]; simp
  have hdp := hb.dp
  have hfr := hb.fr
  have HW0 := Lib.hid hW0
  have HB0 := Lib.hid hb0
  have HTV : Hid (tvE D C L d n = forTo D L n n + 2 * d * proTo C L n) := rfl
  generalize tvE D C L d n = TV at *
  generalize forTo D L n n = F at *
  generalize proTo C L n = P at *
  clear hD hr hC hL h1 h2 h3 hb hW0 hb0 p1
  obtain ⟨d0, d1⟩ := hd
  generalize hz : 2 * d * P = z at *
  have HZ := Lib.hid hz
  clear hz
  go_enter Try.func127, Try.ntmps127
  go_wp2_with fail
  rw [← HW0.out]
  refine HS.out.mono ?_; rintro e w1 ⟨rfl, hb1⟩
  have HB1 := Lib.hid (HB0.out.trans (hb1.mono HB0.out.size))
  have h0 := (hb1.cell (p := ⟨w.heap.size, 0, none⟩) hlw).trans h0
  have q1 := (hb1.cell (p := ⟨Bp, 1, none⟩) hlq).trans q1
  clear hb1 q0 hlq hlw HW0 HS p0 hlp
  go_wp2_with fail
  refine (HP.out _ HB1.out).mono ?_; rintro e w2 ⟨rfl, hb2⟩
  have HB2 := Lib.hid (HB1.out.trans (hb2.mono HB1.out.size))
  clear hb2 h0 q1
  have hzz := HZ.out
  have hw1 : IntKind.i64.wrap (2 * d * P) = z := by rw [hzz]; exact IntWalk.i64_in _ (by omega)
  go_wp2_with fail
  go_ret
  exact ⟨by rw [HTV.out]; rfl, HB2.out⟩
end Go.Proofs.Ytbfpneonmefndaa.PW
