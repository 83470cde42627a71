/-
  Walks: the shares of two mixes in the program (for IsEquilibrium and PayoffsAt).
-/
import Derived.Test.YtimcokealhnfhaaGBesX
import Derived.Test.YtimcokealhnfhaaGTwo
namespace Go.Proofs.Ytimcokealhnfhaa.PW
open Go.RowKit Go.Proofs.Ytimcokealhnfhaa
open Go.Proofs.Ytimcokealhnfhaa.PM

theorem freshI_keep {B : Nat} {W W' : World} {v : Value} {xs : List Int} (h : FreshI B W v xs) (hz : W.heap.size ≤ W'.heap.size) (hh : ∀ b, B ≤ b → b < W.heap.size → W'.heap[b]? = W.heap[b]?) : FreshI B W' v xs := by
  obtain ⟨g, cap, hv, h1, h2, ho⟩ := h
  exact ⟨g, cap, hv, h1, by omega, own_keep ho (fun b hb => by rw [hv] at hb; simp [Value.ownBlock] at hb; exact hh b (by omega) (by omega))⟩
def notAgg : Option TypeDesc → Bool
  | some (.struct _) => false
  | some (.array _ _) => false
  | some _ => true
  | none => false
theorem run_index2_0 {P : Program} (t e : TypeId) (h : P.underlying t = some (.array 2 e)) (hs : (P.info? e).map (·.size) = some 1) (hu : notAgg (P.underlying e) = true) (a b : Value) (w : World) : (Instr.index t (.agg #[a, b]) (.int .i64 0)).run P w = .ok a w := by
  cases hq : P.info? e with
  | none => simp [hq] at hs
  | some i =>
    have hi : i.size = 1 := by simpa [hq] using hs
    cases hd : P.underlying e with
    | none => rw [hd] at hu; simp [notAgg] at hu
    | some d =>
      rw [hd] at hu
      cases d <;> first | (simp [notAgg] at hu; done) | simp [Instr.index, run_underlying h, run_underlying hd, asIntOf, sizeOf, typeInfo, isAgg, hq, hi, go_sem]
theorem run_index2_1 {P : Program} (t e : TypeId) (h : P.underlying t = some (.array 2 e)) (hs : (P.info? e).map (·.size) = some 1) (hu : notAgg (P.underlying e) = true) (a b : Value) (w : World) : (Instr.index t (.agg #[a, b]) (.int .i64 1)).run P w = .ok b w := by
  cases hq : P.info? e with
  | none => simp [hq] at hs
  | some i =>
    have hi : i.size = 1 := by simpa [hq] using hs
    cases hd : P.underlying e with
    | none => rw [hd] at hu; simp [notAgg] at hu
    | some d =>
      rw [hd] at hu
      cases d <;> first | (simp [notAgg] at hu; done) | simp [Instr.index, run_underlying h, run_underlying hd, asIntOf, sizeOf, typeInfo, isAgg, hq, hi, go_sem]
/-- The two lists of a call's own that stand after i rounds. -/
def ChkTo (B : Nat) (wr : World) (X Y : List (Int × Int)) (n l i : Nat) (r0 r1 : Value) : Prop :=
  (i = 0 → r0 = .slice none 0 0) ∧ (i ≤ 1 → r1 = .slice none 0 0) ∧
  (1 ≤ i → ∃ L d g, mixOut X n = some (L, d) ∧ r0 = .slice (some ⟨g, 0, none⟩) n n ∧ FreshI B wr r0 L) ∧
  (2 ≤ i → ∃ L d g, mixOut Y l = some (L, d) ∧ r1 = .slice (some ⟨g, 0, none⟩) l l ∧ FreshI B wr r1 L ∧ r0.ownBlock ≠ some g)
theorem ChkTo.keep {B : Nat} {W W' : World} {X Y : List (Int × Int)} {n l i : Nat} {r0 r1 : Value} (h : ChkTo B W X Y n l i r0 r1) (hz : W.heap.size ≤ W'.heap.size) (hh : ∀ b, B ≤ b → b < W.heap.size → W'.heap[b]? = W.heap[b]?) : ChkTo B W' X Y n l i r0 r1 := by
  obtain ⟨h1, h2, h3, h4⟩ := h
  refine ⟨h1, h2, fun hi => ?_, fun hi => ?_⟩
  · obtain ⟨L, d, g, e1, e2, e3⟩ := h3 hi
    exact ⟨L, d, g, e1, e2, freshI_keep e3 hz hh⟩
  · obtain ⟨L, d, g, e1, e2, e3, e4⟩ := h4 hi
    exact ⟨L, d, g, e1, e2, freshI_keep e3 hz hh, e4⟩
def chkCode (A B : List (List Int)) (X Y : List (Int × Int)) : Int := if isGB A B = true then (if mixOut X A.length = none ∨ mixOut Y (gcols A) = none then 2 else 0) else 1
theorem chk_no {A B : List (List Int)} {X Y : List (Int × Int)} (h : isGB A B = false) : chkCode A B X Y = 1 := by unfold chkCode; rw [if_neg (by simp [h])]
theorem chk_x {A B : List (List Int)} {X Y : List (Int × Int)} (h : isGB A B = true) (h1 : mixOut X A.length = none) : chkCode A B X Y = 2 := by unfold chkCode; rw [if_pos h, if_pos (.inl h1)]
theorem chk_y {A B : List (List Int)} {X Y : List (Int × Int)} (h : isGB A B = true) (h1 : mixOut Y (gcols A) = none) : chkCode A B X Y = 2 := by unfold chkCode; rw [if_pos h, if_pos (.inr h1)]
theorem chk_ok {A B : List (List Int)} {X Y : List (Int × Int)} {a b : List Int × Int} (h : isGB A B = true) (h1 : mixOut X A.length = some a) (h2 : mixOut Y (gcols A) = some b) : chkCode A B X Y = 0 := by unfold chkCode; rw [if_pos h, if_neg (by rw [h1, h2]; simp)]

/-- What checkMixes leaves. -/
def ChkOut (w : World) (A B : List (List Int)) (X Y : List (Int × Int)) (e : Ending) (w' : World) : Prop :=
  (chkCode A B X Y ≠ 0 ∧ e = .returned (.tuple #[.agg #[.slice none 0 0, .slice none 0 0], .int .i64 (chkCode A B X Y)]) ∧ Below w.heap.size w w') ∨
  (isGB A B = true ∧ ∃ r0 r1, e = .returned (.tuple #[.agg #[r0, r1], .int .i64 0]) ∧ ChkTo w.heap.size w' X Y A.length (gcols A) 2 r0 r1 ∧ Below w.heap.size w w')

/-- What stands ahead of the rounds: the two boxes, the answer's and the array that is filled. -/
structure Ck (w wr : World) (N : Nat) (x y r0 r1 : Value) : Prop where
  b : Below w.heap.size w wr
  k0 : wr.cell? ⟨w.heap.size + 1, 0, none⟩ = some x
  k1 : wr.cell? ⟨w.heap.size + 1, 1, none⟩ = some y
  t0 : wr.cell? ⟨w.heap.size + 2, 0, none⟩ = some (.slice none 0 0)
  t1 : wr.cell? ⟨w.heap.size + 2, 1, none⟩ = some (.slice none 0 0)
  tf : ∀ o, wr.frozen? ⟨w.heap.size + 2, o, none⟩ = false
  q0 : wr.cell? ⟨N, 0, none⟩ = some r0
  q1 : wr.cell? ⟨N, 1, none⟩ = some r1
  qf : ∀ o, wr.frozen? ⟨N, o, none⟩ = false
  z : N < wr.heap.size
  zn : w.heap.size + 2 < N
theorem Ck.next {w wr wq : World} {N : Nat} {x y r0 r1 : Value} (h : Ck w wr N x y r0 r1) (hb : Below wr.heap.size wr wq) : Ck w wq N x y r0 r1 :=
  have hz := h.z
  have hn := h.zn
  have c := fun (b o : Nat) (hb' : b < wr.heap.size) => hb.cell (p := ⟨b, o, none⟩) hb'
  have f := fun (b o : Nat) (hb' : b < wr.heap.size) => hb.frozen (p := ⟨b, o, none⟩) hb'
  ⟨h.b.trans (hb.mono h.b.size), (c _ _ (by omega)).trans h.k0, (c _ _ (by omega)).trans h.k1, (c _ _ (by omega)).trans h.t0, (c _ _ (by omega)).trans h.t1, fun o => (f _ _ (by omega)).trans (h.tf o),
    (c _ _ hz).trans h.q0, (c _ _ hz).trans h.q1, fun o => (f _ _ hz).trans (h.qf o), Nat.lt_of_lt_of_le hz hb.size, hn⟩
theorem Ck.set0 {w wr : World} {N : Nat} {x y r0 r1 : Value} (h : Ck w wr N x y r0 r1) (v : Value) : Ck w (wr.setCell ⟨N, 0, none⟩ v) N x y v r1 := by
  have hn := h.zn
  have o := fun (b o : Nat) (hb : b ≠ N) => World.cell?_setCell_other wr ⟨N, 0, none⟩ ⟨b, o, none⟩ v (by simp)
  refine ⟨h.b.setCell (p := ⟨N, 0, none⟩) (by show w.heap.size ≤ N; omega) v, (o _ _ (by omega)).trans h.k0, (o _ _ (by omega)).trans h.k1, (o _ _ (by omega)).trans h.t0, (o _ _ (by omega)).trans h.t1, fun o => by simpa using h.tf o, World.cell?_setCell_same _ _ _ h.q0, ?_, fun o => by simpa using h.qf o, by simpa using h.z, hn⟩
  rw [World.cell?_setCell_other _ _ _ _ (by simp)]; exact h.q1
theorem Ck.set1 {w wr : World} {N : Nat} {x y r0 r1 : Value} (h : Ck w wr N x y r0 r1) (v : Value) : Ck w (wr.setCell ⟨N, 1, none⟩ v) N x y r0 v := by
  have hn := h.zn
  have o := fun (b o : Nat) (hb : b ≠ N) => World.cell?_setCell_other wr ⟨N, 1, none⟩ ⟨b, o, none⟩ v (by simp)
  refine ⟨h.b.setCell (p := ⟨N, 1, none⟩) (by show w.heap.size ≤ N; omega) v, (o _ _ (by omega)).trans h.k0, (o _ _ (by omega)).trans h.k1, (o _ _ (by omega)).trans h.t0, (o _ _ (by omega)).trans h.t1, fun o => by simpa using h.tf o, ?_, World.cell?_setCell_same _ _ _ h.q1, fun o => by simpa using h.qf o, by simpa using h.z, hn⟩
  rw [World.cell?_setCell_other _ _ _ _ (by simp)]; exact h.q0

theorem shares_none {v : Value} {xs : List (Int × Int)} {n : Nat} {w : World} (hv : Frs w v xs) (hn1 : 1 ≤ n) (hn5 : n ≤ 5) (h : mixOut xs n = none) :
    Calls Try.prog 87 #[v, .int .i64 n] w fun e w' => ∃ u, e = .returned (.tuple #[u, .bool false]) ∧ Below w.heap.size w w' :=
  (sharesOf_any v xs n w hv hn1 hn5).mono (by
    rintro e w' (⟨_, h2⟩ | ⟨L, d, h2, _⟩)
    · exact h2
    · rw [h] at h2; cases h2)
theorem shares_some {v : Value} {xs : List (Int × Int)} {n : Nat} {w : World} {L : List Int} {d : Int} (hv : Frs w v xs) (hn1 : 1 ≤ n) (hn5 : n ≤ 5) (h : mixOut xs n = some (L, d)) :
    Calls Try.prog 87 #[v, .int .i64 n] w fun e w' => ∃ g, e = .returned (.tuple #[.slice (some ⟨g, 0, none⟩) n n, .bool true]) ∧ FreshI w.heap.size w' (.slice (some ⟨g, 0, none⟩) n n) L ∧ Below w.heap.size w w' :=
  (sharesOf_any v xs n w hv hn1 hn5).mono (by
    rintro e w' (⟨h2, _⟩ | ⟨L', d', h2, h3⟩)
    · rw [h] at h2; cases h2
    · rw [h] at h2; cases h2; exact h3)

set_option maxRecDepth 100000 in
set_option maxHeartbeats 8000000 in
theorem checkMixes_any (m q x y : Value) (A B : List (List Int)) (X Y : List (Int × Int)) (w : World) (h1 : PM.Rows w m A) (h2 : PM.Rows w q B) (h3 : Frs w x X) (h4 : Frs w y Y) (hs : tot A ≤ 1048576) :
    Calls Try.prog 92 #[.agg #[m, q], .agg #[x, y]] w (ChkOut w A B X Y) := by
  have HIS := Lib.hid (fun (w' : World) (h : Below w.heap.size w w') => implIsGame_any m q A B w' (h1.below h) (h2.below h) hs)
  have H1 := Lib.hid h1
  have H2 := Lib.hid h2
  have H3 := Lib.hid h3
  have H4 := Lib.hid h4
  obtain ⟨a1, c1, rfl, _⟩ := h1
  obtain ⟨a2, c2, rfl, _⟩ := h2
  obtain ⟨a3, c3, rfl, _⟩ := h3
  obtain ⟨a4, c4, rfl, _⟩ := h4
  obtain ⟨W0, hW0⟩ : ∃ W0, W0 = ((w.alloc (.cells #[.slice a1 A.length c1, .slice a2 B.length c2] 43)).alloc (.cells #[.slice a3 X.length c3, .slice a4 Y.length c4] 121)).alloc (.cells #[.slice none 0 0, .slice none 0 0] 117) := ⟨_, rfl⟩
  have hw0 : Below w.heap.size w W0 := by rw [hW0]; (repeat' (first | (with_reducible exact Below.refl _ _) | (with_reducible assumption) | (with_reducible refine Below.alloc ?_ ?_ _) | (with_reducible refine Below.drew ?_) | (with_reducible refine below_drewN ?_ _) | (with_reducible refine Below.setCell ?_ ?_ _) | (with_reducible refine Below.trans ?_ (Below.mono (by with_reducible assumption) ?_)) | (with_reducible exact Below.size (by with_reducible assumption)) | go_size))
  have hs0 : W0.heap.size = w.heap.size + 3 := by rw [hW0]; simp
  have e0 : W0.cell? ⟨w.heap.size, 0, none⟩ = some (.slice a1 A.length c1) := by rw [hW0]; simp [go_sem]
  have e1 : W0.cell? ⟨w.heap.size, 1, none⟩ = some (.slice a2 B.length c2) := by rw [hW0]; simp [go_sem]
  have k0 : W0.cell? ⟨w.heap.size + 1, 0, none⟩ = some (.slice a3 X.length c3) := by rw [hW0]; simp [go_sem]
  have k1 : W0.cell? ⟨w.heap.size + 1, 1, none⟩ = some (.slice a4 Y.length c4) := by rw [hW0]; simp [go_sem]
  have t0 : W0.cell? ⟨w.heap.size + 2, 0, none⟩ = some (.slice none 0 0) := by rw [hW0]; simp [go_sem]
  have t1 : W0.cell? ⟨w.heap.size + 2, 1, none⟩ = some (.slice none 0 0) := by rw [hW0]; simp [go_sem]
  have tf : ∀ o, W0.frozen? ⟨w.heap.size + 2, o, none⟩ = false := fun o => by rw [hW0]; simp [go_sem]
  have HW0 := Lib.hid hW0
  have HB0 := Lib.hid hw0
  clear hW0 hw0
  cases hc : isGB A B
  · have HO := Lib.hid (chk_no (X := X) (Y := Y) hc)
    rw [hc] at HIS
    go_enter Try.func92, Try.ntmps92
    go_wp2_with fail
    rw [← HW0.out]
    refine (HIS.out _ HB0.out).mono ?_; rintro e w1 ⟨rfl, hb1⟩
    have hw1 := HB0.out.trans (hb1.mono HB0.out.size)
    have t0 := (hb1.cell (p := ⟨w.heap.size + 2, 0, none⟩) (by show w.heap.size + 2 < _; omega)).trans t0
    have t1 := (hb1.cell (p := ⟨w.heap.size + 2, 1, none⟩) (by show w.heap.size + 2 < _; omega)).trans t1
    have tf0 := (hb1.frozen (p := ⟨w.heap.size + 2, 0, none⟩) (by show w.heap.size + 2 < _; omega)).trans (tf 0)
    have tf1 := (hb1.frozen (p := ⟨w.heap.size + 2, 1, none⟩) (by show w.heap.size + 2 < _; omega)).trans (tf 1)
    clear hb1 tf e0 e1 k0 k1
    go_wp2_with fail
    refine bodyPost_ret (v := .tuple #[.agg #[.slice none 0 0, .slice none 0 0], .int .i64 1]) (by simp [*, results, Try.results92, go_sem]) rfl ?_
    exact .inl ⟨by rw [HO.out]; decide, by rw [HO.out], by (repeat' (first | (with_reducible exact Below.refl _ _) | (with_reducible assumption) | (with_reducible refine Below.alloc ?_ ?_ _) | (with_reducible refine Below.drew ?_) | (with_reducible refine below_drewN ?_ _) | (with_reducible refine Below.setCell ?_ ?_ _) | (with_reducible refine Below.trans ?_ (Below.mono (by with_reducible assumption) ?_)) | (with_reducible exact Below.size (by with_reducible assumption)) | go_size))⟩
  obtain ⟨f1, f2, n5, bk, al, bl, _, _⟩ := (isGB_iff A B).1 hc
  rw [hc] at HIS
  have hk5 : A.length ≤ 5 := by omega
  have hl5 : gcols A ≤ 5 := by omega
  have HCR := Lib.hid (fun (w' : World) (h : Below w.heap.size w w') => choices_row _ A w' (H1.out.below h))
  have HCC := Lib.hid (fun (w' : World) (h : Below w.heap.size w w') => choices_col _ B (gcols A) w' (H2.out.below h) (by omega) (bl 0 (by omega)))
  have HXC := Lib.hid (fun h => chk_x (X := X) (Y := Y) hc h)
  have HYC := Lib.hid (fun h => chk_y (X := X) (Y := Y) hc h)
  have HGB := Lib.hid hc
  rw [bk] at HCC HIS HW0 e1 ⊢
  clear bk al bl hc n5
  go_enter Try.func92, Try.ntmps92
  go_wp2_with fail
  rw [← HW0.out]
  refine (HIS.out _ HB0.out).mono ?_; rintro e w1 ⟨rfl, hb1⟩
  have hw1 := HB0.out.trans (hb1.mono HB0.out.size)
  have hz1 : w.heap.size + 3 ≤ w1.heap.size := by have := hb1.size; omega
  have k0 := (hb1.cell (p := ⟨w.heap.size + 1, 0, none⟩) (by show w.heap.size + 1 < _; omega)).trans k0
  have k1 := (hb1.cell (p := ⟨w.heap.size + 1, 1, none⟩) (by show w.heap.size + 1 < _; omega)).trans k1
  have t0 := (hb1.cell (p := ⟨w.heap.size + 2, 0, none⟩) (by show w.heap.size + 2 < _; omega)).trans t0
  have t1 := (hb1.cell (p := ⟨w.heap.size + 2, 1, none⟩) (by show w.heap.size + 2 < _; omega)).trans t1
  have tf := fun o => (hb1.frozen (p := ⟨w.heap.size + 2, o, none⟩) (by show w.heap.size + 2 < _; omega)).trans (tf o)
  have e0 := (hb1.cell (p := ⟨w.heap.size, 0, none⟩) (by show w.heap.size < _; omega)).trans e0
  have e1 := (hb1.cell (p := ⟨w.heap.size, 1, none⟩) (by show w.heap.size < _; omega)).trans e1
  have hne : w.heap.size ≠ w1.heap.size := by omega
  have hz0 : w.heap.size < w1.heap.size := by omega
  clear hs0
  have hA : Below w1.heap.size w1 (w1.alloc (.cells #[.slice none 0 0, .slice none 0 0] 117)) := (Below.refl _ _).alloc (Nat.le_refl _) _
  have HCK := Lib.hid (show Ck w (w1.alloc (.cells #[.slice none 0 0, .slice none 0 0] 117)) w1.heap.size (.slice a3 X.length c3) (.slice a4 Y.length c4) (.slice none 0 0) (.slice none 0 0) from
    ⟨hw1.trans (hA.mono hw1.size), (hA.cell (p := ⟨w.heap.size + 1, 0, none⟩) (by show w.heap.size + 1 < _; omega)).trans k0, (hA.cell (p := ⟨w.heap.size + 1, 1, none⟩) (by show w.heap.size + 1 < _; omega)).trans k1,
      (hA.cell (p := ⟨w.heap.size + 2, 0, none⟩) (by show w.heap.size + 2 < _; omega)).trans t0, (hA.cell (p := ⟨w.heap.size + 2, 1, none⟩) (by show w.heap.size + 2 < _; omega)).trans t1,
      fun o => (hA.frozen (p := ⟨w.heap.size + 2, o, none⟩) (by show w.heap.size + 2 < _; omega)).trans (tf o), by simp, by simp, fun o => by simp, by simp, by omega⟩)
  have HN := Lib.hid hz1
  clear hb1 k0 k1 t0 t1 tf hA HIS HW0 HB0 hw1
  go_wp2_with fail
  refine (playersOf_any _ _ _ _ _ _ _).mono ?_
  rintro e w2 ⟨rfl, hb2⟩
  have HK2 := Lib.hid (HCK.out.next hb2)
  clear HCK hb2 e0 e1 hne
  go_wp2_with fail
  obtain ⟨N, hN⟩ : ∃ N, N = w1.heap.size := ⟨_, rfl⟩
  rw [← hN] at HK2 HN ⊢
  clear hN hz1
  have hx0 := run_index2_0 (P := Try.prog) 105 104 (by kernel_rfl) (by kernel_rfl) (by kernel_rfl)
  have hx1 := run_index2_1 (P := Try.prog) 105 104 (by kernel_rfl) (by kernel_rfl) (by kernel_rfl)
  go_loopw [7, 8, 9, 10, 17] (fun _ _ _ _ c wr => ∃ (i : Nat) (r0 r1 : Value), i ≤ 2 ∧ c = .int .i64 i ∧ Ck w wr N (.slice a3 X.length c3) (.slice a4 Y.length c4) r0 r1 ∧ ChkTo (N + 1) wr X Y A.length (gcols A) i r0 r1) (fun _ _ _ _ c _ => 2 - (intOf c).toNat)
  case atStart => exact ⟨0, _, _, by omega, rfl, HK2.out, ⟨fun _ => rfl, fun _ => rfl, fun h => absurd h (by omega), fun h => absurd h (by omega)⟩⟩
  case round =>
    obtain ⟨i, r0, r1, hi, rfl, hC, hT⟩ := hrel
    obtain ⟨Wr, rfl⟩ : ∃ W, W = wr := ⟨_, rfl⟩
    have HC := Lib.hid hC
    have HT := Lib.hid hT
    clear hT
    obtain ⟨hw, k0, k1, t0, t1, tf, q0, q1, qf, hz, hzn⟩ := hC
    have HCRr := Lib.hid (fun (w' : World) (h : Below Wr.heap.size Wr w') => HCR.out w' (hw.trans (h.mono hw.size)))
    have HCCr := Lib.hid (fun (w' : World) (h : Below Wr.heap.size Wr w') => HCC.out w' (hw.trans (h.mono hw.size)))
    have H3r := Lib.hid (fun (w' : World) (h : Below Wr.heap.size Wr w') => H3.out.below (hw.trans (h.mono hw.size)))
    have H4r := Lib.hid (fun (w' : World) (h : Below Wr.heap.size Wr w') => H4.out.below (hw.trans (h.mono hw.size)))
    have hcase : i = 0 ∨ i = 1 ∨ i = 2 := by omega
    rcases hcase with rfl | rfl | rfl
    · cases hmx : mixOut X A.length with
      | none =>
        have HSH := Lib.hid (fun (w' : World) (h : Below Wr.heap.size Wr w') => shares_none (H3r.out w' h) f1 hk5 hmx)
        have HCO := Lib.hid (HXC.out hmx)
        clear hw t0 t1 tf
        go_wp2_with fail
        go_region_with (first | (go_at_call 166; refine (HCRr.out _ (by (repeat' (first | (with_reducible exact Below.refl _ _) | (with_reducible assumption) | (with_reducible refine Below.alloc ?_ ?_ _) | (with_reducible refine Below.drew ?_) | (with_reducible refine below_drewN ?_ _) | (with_reducible refine Below.setCell ?_ ?_ _) | (with_reducible refine Below.trans ?_ (Below.mono (by with_reducible assumption) ?_)) | (with_reducible exact Below.size (by with_reducible assumption)) | go_size)))).mono ?_; rintro e w5 ⟨rfl, rfl⟩) | (go_at_call 87; refine (HSH.out _ (by (repeat' (first | (with_reducible exact Below.refl _ _) | (with_reducible assumption) | (with_reducible refine Below.alloc ?_ ?_ _) | (with_reducible refine Below.drew ?_) | (with_reducible refine below_drewN ?_ _) | (with_reducible refine Below.setCell ?_ ?_ _) | (with_reducible refine Below.trans ?_ (Below.mono (by with_reducible assumption) ?_)) | (with_reducible exact Below.size (by with_reducible assumption)) | go_size)))).mono ?_; rintro e w6 ⟨u, rfl, hb6⟩))
        all_goals
          have hb : Below Wr.heap.size Wr w6 := by (repeat' (first | (with_reducible exact Below.refl _ _) | (with_reducible assumption) | (with_reducible refine Below.alloc ?_ ?_ _) | (with_reducible refine Below.drew ?_) | (with_reducible refine below_drewN ?_ _) | (with_reducible refine Below.setCell ?_ ?_ _) | (with_reducible refine Below.trans ?_ (Below.mono (by with_reducible assumption) ?_)) | (with_reducible exact Below.size (by with_reducible assumption)) | go_size))
          obtain ⟨hw6, _, _, t0, t1, tf, _, _, _, hz6, _⟩ := HC.out.next hb
          have tf0 := tf 0
          have tf1 := tf 1
          clear hb6 hb tf
          go_wp2_with fail
          refine bodyPost_ret (v := .tuple #[.agg #[.slice none 0 0, .slice none 0 0], .int .i64 2]) (by simp [*, results, Try.results92, go_sem]) rfl ?_
          exact .inl ⟨by rw [HCO.out]; decide, by rw [HCO.out], by (repeat' (first | (with_reducible exact Below.refl _ _) | (with_reducible assumption) | (with_reducible refine Below.alloc ?_ ?_ _) | (with_reducible refine Below.drew ?_) | (with_reducible refine below_drewN ?_ _) | (with_reducible refine Below.setCell ?_ ?_ _) | (with_reducible refine Below.trans ?_ (Below.mono (by with_reducible assumption) ?_)) | (with_reducible exact Below.size (by with_reducible assumption)) | go_size))⟩
      | some a =>
        obtain ⟨L, d⟩ := a
        have HSH := Lib.hid (fun (w' : World) (h : Below Wr.heap.size Wr w') => shares_some (H3r.out w' h) f1 hk5 hmx)
        have HMX := Lib.hid hmx
        clear hw t0 t1 tf
        go_wp2_with fail
        go_region_with (first | (go_at_call 166; refine (HCRr.out _ (by (repeat' (first | (with_reducible exact Below.refl _ _) | (with_reducible assumption) | (with_reducible refine Below.alloc ?_ ?_ _) | (with_reducible refine Below.drew ?_) | (with_reducible refine below_drewN ?_ _) | (with_reducible refine Below.setCell ?_ ?_ _) | (with_reducible refine Below.trans ?_ (Below.mono (by with_reducible assumption) ?_)) | (with_reducible exact Below.size (by with_reducible assumption)) | go_size)))).mono ?_; rintro e w5 ⟨rfl, rfl⟩) | (go_at_call 87; refine (HSH.out _ (by (repeat' (first | (with_reducible exact Below.refl _ _) | (with_reducible assumption) | (with_reducible refine Below.alloc ?_ ?_ _) | (with_reducible refine Below.drew ?_) | (with_reducible refine below_drewN ?_ _) | (with_reducible refine Below.setCell ?_ ?_ _) | (with_reducible refine Below.trans ?_ (Below.mono (by with_reducible assumption) ?_)) | (with_reducible exact Below.size (by with_reducible assumption)) | go_size)))).mono ?_; rintro e w6 ⟨g, rfl, hF6, hb6⟩))
        all_goals
          have hb : Below Wr.heap.size Wr w6 := by (repeat' (first | (with_reducible exact Below.refl _ _) | (with_reducible assumption) | (with_reducible refine Below.alloc ?_ ?_ _) | (with_reducible refine Below.drew ?_) | (with_reducible refine below_drewN ?_ _) | (with_reducible refine Below.setCell ?_ ?_ _) | (with_reducible refine Below.trans ?_ (Below.mono (by with_reducible assumption) ?_)) | (with_reducible exact Below.size (by with_reducible assumption)) | go_size))
          have hc6 := HC.out.next hb
          have HC6 := Lib.hid (hc6.set0 (.slice (some ⟨g, 0, none⟩) A.length A.length))
          have HFS := Lib.hid (freshI_keep (W' := w6.setCell ⟨N, 0, none⟩ (.slice (some ⟨g, 0, none⟩) A.length A.length)) (hF6.mono (C := N + 1) (by simp; omega)) (by simp) (fun b hb' _ => Below.heap_setCell _ _ _ _ (by show b ≠ N; omega)))
          obtain ⟨hw6, _, _, _, _, _, q0, q1, qf, hz6, hzn6⟩ := hc6
          have qf0 := qf 0
          have qf1 := qf 1
          have HT6 := Lib.hid ((HT.out.keep (W' := w6) hb.size (fun b _ h => hb.block b h)).keep (W' := w6.setCell ⟨N, 0, none⟩ (.slice (some ⟨g, 0, none⟩) A.length A.length)) (by simp) (fun b hb' _ => Below.heap_setCell _ _ _ _ (by show b ≠ N; omega)))
          have HGZ := Lib.hid (show Wr.heap.size ≤ g by obtain ⟨g', c', hv, hg1, _⟩ := hF6; simp at hv; simp at hg1; omega)
          clear hb6 hb hF6 qf hw6
          go_wp2_with fail
          go_roundw
          case rel => exact ⟨1, _, _, by omega, by go_num, HC6.out, fun h => absurd h (by omega), fun _ => HT6.out.2.1 (by omega), fun _ => ⟨L, d, g, HMX.out, rfl, HFS.out⟩, fun h => absurd h (by omega)⟩
          case measure => simp [intOf]
    · cases hmx : mixOut Y (gcols A) with
      | none =>
        have HSH := Lib.hid (fun (w' : World) (h : Below Wr.heap.size Wr w') => shares_none (H4r.out w' h) f2 hl5 hmx)
        have HCO := Lib.hid (HYC.out hmx)
        clear hw t0 t1 tf
        go_wp2_with fail
        go_region_with (first | (go_at_call 168; refine (HCCr.out _ (by (repeat' (first | (with_reducible exact Below.refl _ _) | (with_reducible assumption) | (with_reducible refine Below.alloc ?_ ?_ _) | (with_reducible refine Below.drew ?_) | (with_reducible refine below_drewN ?_ _) | (with_reducible refine Below.setCell ?_ ?_ _) | (with_reducible refine Below.trans ?_ (Below.mono (by with_reducible assumption) ?_)) | (with_reducible exact Below.size (by with_reducible assumption)) | go_size)))).mono ?_; rintro e w5 ⟨rfl, rfl⟩) | (go_at_call 87; refine (HSH.out _ (by (repeat' (first | (with_reducible exact Below.refl _ _) | (with_reducible assumption) | (with_reducible refine Below.alloc ?_ ?_ _) | (with_reducible refine Below.drew ?_) | (with_reducible refine below_drewN ?_ _) | (with_reducible refine Below.setCell ?_ ?_ _) | (with_reducible refine Below.trans ?_ (Below.mono (by with_reducible assumption) ?_)) | (with_reducible exact Below.size (by with_reducible assumption)) | go_size)))).mono ?_; rintro e w6 ⟨u, rfl, hb6⟩))
        all_goals
          have hb : Below Wr.heap.size Wr w6 := by (repeat' (first | (with_reducible exact Below.refl _ _) | (with_reducible assumption) | (with_reducible refine Below.alloc ?_ ?_ _) | (with_reducible refine Below.drew ?_) | (with_reducible refine below_drewN ?_ _) | (with_reducible refine Below.setCell ?_ ?_ _) | (with_reducible refine Below.trans ?_ (Below.mono (by with_reducible assumption) ?_)) | (with_reducible exact Below.size (by with_reducible assumption)) | go_size))
          obtain ⟨hw6, _, _, t0, t1, tf, _, _, _, hz6, _⟩ := HC.out.next hb
          have tf0 := tf 0
          have tf1 := tf 1
          clear hb6 hb tf
          go_wp2_with fail
          refine bodyPost_ret (v := .tuple #[.agg #[.slice none 0 0, .slice none 0 0], .int .i64 2]) (by simp [*, results, Try.results92, go_sem]) rfl ?_
          exact .inl ⟨by rw [HCO.out]; decide, by rw [HCO.out], by (repeat' (first | (with_reducible exact Below.refl _ _) | (with_reducible assumption) | (with_reducible refine Below.alloc ?_ ?_ _) | (with_reducible refine Below.drew ?_) | (with_reducible refine below_drewN ?_ _) | (with_reducible refine Below.setCell ?_ ?_ _) | (with_reducible refine Below.trans ?_ (Below.mono (by with_reducible assumption) ?_)) | (with_reducible exact Below.size (by with_reducible assumption)) | go_size))⟩
      | some a =>
        obtain ⟨L, d⟩ := a
        have HSH := Lib.hid (fun (w' : World) (h : Below Wr.heap.size Wr w') => shares_some (H4r.out w' h) f2 hl5 hmx)
        have HMX := Lib.hid hmx
        clear hw t0 t1 tf
        go_wp2_with fail
        go_region_with (first | (go_at_call 168; refine (HCCr.out _ (by (repeat' (first | (with_reducible exact Below.refl _ _) | (with_reducible assumption) | (with_reducible refine Below.alloc ?_ ?_ _) | (with_reducible refine Below.drew ?_) | (with_reducible refine below_drewN ?_ _) | (with_reducible refine Below.setCell ?_ ?_ _) | (with_reducible refine Below.trans ?_ (Below.mono (by with_reducible assumption) ?_)) | (with_reducible exact Below.size (by with_reducible assumption)) | go_size)))).mono ?_; rintro e w5 ⟨rfl, rfl⟩) | (go_at_call 87; refine (HSH.out _ (by (repeat' (first | (with_reducible exact Below.refl _ _) | (with_reducible assumption) | (with_reducible refine Below.alloc ?_ ?_ _) | (with_reducible refine Below.drew ?_) | (with_reducible refine below_drewN ?_ _) | (with_reducible refine Below.setCell ?_ ?_ _) | (with_reducible refine Below.trans ?_ (Below.mono (by with_reducible assumption) ?_)) | (with_reducible exact Below.size (by with_reducible assumption)) | go_size)))).mono ?_; rintro e w6 ⟨g, rfl, hF6, hb6⟩))
        all_goals
          have hb : Below Wr.heap.size Wr w6 := by (repeat' (first | (with_reducible exact Below.refl _ _) | (with_reducible assumption) | (with_reducible refine Below.alloc ?_ ?_ _) | (with_reducible refine Below.drew ?_) | (with_reducible refine below_drewN ?_ _) | (with_reducible refine Below.setCell ?_ ?_ _) | (with_reducible refine Below.trans ?_ (Below.mono (by with_reducible assumption) ?_)) | (with_reducible exact Below.size (by with_reducible assumption)) | go_size))
          have hc6 := HC.out.next hb
          have HC6 := Lib.hid (hc6.set1 (.slice (some ⟨g, 0, none⟩) (gcols A) (gcols A)))
          have HFS := Lib.hid (freshI_keep (W' := w6.setCell ⟨N, 1, none⟩ (.slice (some ⟨g, 0, none⟩) (gcols A) (gcols A))) (hF6.mono (C := N + 1) (by simp; omega)) (by simp) (fun b hb' _ => Below.heap_setCell _ _ _ _ (by show b ≠ N; omega)))
          obtain ⟨hw6, _, _, _, _, _, q0, q1, qf, hz6, hzn6⟩ := hc6
          have qf0 := qf 0
          have qf1 := qf 1
          have HT6 := Lib.hid ((HT.out.keep (W' := w6) hb.size (fun b _ h => hb.block b h)).keep (W' := w6.setCell ⟨N, 1, none⟩ (.slice (some ⟨g, 0, none⟩) (gcols A) (gcols A))) (by simp) (fun b hb' _ => Below.heap_setCell _ _ _ _ (by show b ≠ N; omega)))
          have HGZ := Lib.hid (show Wr.heap.size ≤ g by obtain ⟨g', c', hv, hg1, _⟩ := hF6; simp at hv; simp at hg1; omega)
          clear hb6 hb hF6 qf hw6
          go_wp2_with fail
          go_roundw
          case rel => exact ⟨2, _, _, by omega, by go_num, HC6.out, fun h => absurd h (by omega), fun h => absurd h (by omega), fun _ => HT6.out.2.2.1 (by omega), fun _ => ⟨L, d, g, HMX.out, rfl, HFS.out, fun c => by
              obtain ⟨L0, d0, g0, _, hr0, hF0⟩ := HT.out.2.2.1 (by omega)
              obtain ⟨g', c', hv, _, hg2, _⟩ := hF0
              rw [hv] at c
              simp [Value.ownBlock] at c
              have := HGZ.out
              omega⟩⟩
          case measure => simp [intOf]
    · have tf0 := tf 0
      have tf1 := tf 1
      obtain ⟨_, _, h3, h4⟩ := HT.out
      obtain ⟨L0, d0, g0, hm0, rfl, hF0⟩ := h3 (by omega)
      obtain ⟨L1, d1, g1, hm1, rfl, hF1, hap⟩ := h4 (by omega)
      have HFIN := Lib.hid (show ChkTo w.heap.size ((Wr.setCell ⟨w.heap.size + 2, 0, none⟩ (.slice (some ⟨g0, 0, none⟩) A.length A.length)).setCell ⟨w.heap.size + 2, 1, none⟩ (.slice (some ⟨g1, 0, none⟩) (gcols A) (gcols A))) X Y A.length (gcols A) 2 (.slice (some ⟨g0, 0, none⟩) A.length A.length) (.slice (some ⟨g1, 0, none⟩) (gcols A) (gcols A)) from by
        have hk := HT.out.keep (W' := (Wr.setCell ⟨w.heap.size + 2, 0, none⟩ (.slice (some ⟨g0, 0, none⟩) A.length A.length)).setCell ⟨w.heap.size + 2, 1, none⟩ (.slice (some ⟨g1, 0, none⟩) (gcols A) (gcols A))) (by simp) (fun b hb' _ => by rw [Below.heap_setCell _ _ _ _ (by show b ≠ w.heap.size + 2; omega), Below.heap_setCell _ _ _ _ (by show b ≠ w.heap.size + 2; omega)])
        obtain ⟨e1, e2, e3, e4⟩ := hk
        refine ⟨e1, e2, fun h => ?_, fun h => ?_⟩
        · obtain ⟨L, d, g, x1, x2, x3⟩ := e3 h
          exact ⟨L, d, g, x1, x2, x3.mono (by omega)⟩
        · obtain ⟨L, d, g, x1, x2, x3, x4⟩ := e4 h
          exact ⟨L, d, g, x1, x2, x3.mono (by omega), x4⟩)
      have HBW := Lib.hid ((hw.setCell (p := ⟨w.heap.size + 2, 0, none⟩) (by show w.heap.size ≤ w.heap.size + 2; omega) (.slice (some ⟨g0, 0, none⟩) A.length A.length)).setCell (p := ⟨w.heap.size + 2, 1, none⟩) (by show w.heap.size ≤ w.heap.size + 2; omega) (.slice (some ⟨g1, 0, none⟩) (gcols A) (gcols A)))
      clear HC HT hF0 hF1 hw tf qf HCRr HCCr H3r H4r h3 h4
      go_wp2_with fail
      refine bodyPost_ret (v := .tuple #[.agg #[.slice (some ⟨g0, 0, none⟩) A.length A.length, .slice (some ⟨g1, 0, none⟩) (gcols A) (gcols A)], .int .i64 0]) (by simp [*, results, Try.results92, go_sem]) rfl ?_
      exact .inr ⟨HGB.out, _, _, rfl, HFIN.out, HBW.out⟩
end Go.Proofs.Ytimcokealhnfhaa.PW
