/-
  Walks: what is a program, in the program and in the model.
-/
import Derived.Test.YtgncaploccbfnaaPProb
import Derived.Test.YtgncaploccbfnaaPCol
import Derived.BigQuiet
namespace Go.Proofs.Ytgncaploccbfnaa.PW
open Go.RowKit Go.Proofs.Ytgncaploccbfnaa
open Go.Proofs.Ytgncaploccbfnaa.PM

def wE (D : List (List Int)) (i k : Nat) : Int := (D.getD i []).getD k 0
def symB (D : List (List Int)) : Bool := decide (∀ i, i < D.length → ∀ k, k < D.length → wE D i k = wE D k i)
theorem symB_iff (D : List (List Int)) : symB D = true ↔ ∀ i, i < D.length → ∀ k, k < D.length → wE D i k = wE D k i := by unfold symB; simp
def rowsB (n : Nat) (A : List (List Int)) : Bool := A.all fun r => decide (r.length = n) && wit 20 r
theorem rowsB_iff (n : Nat) (A : List (List Int)) : rowsB n A = true ↔ ∀ j, j < A.length → (A.getD j []).length = n ∧ wit 20 (A.getD j []) = true := by
  unfold rowsB
  rw [List.all_eq_true]
  constructor
  · intro h j hj
    have := h (A.getD j []) (by rw [getD_at _ _ hj]; exact List.getElem_mem hj)
    rw [Bool.and_eq_true] at this
    exact ⟨of_decide_eq_true this.1, this.2⟩
  · intro h r hr
    obtain ⟨j, hj, rfl⟩ := List.mem_iff_getElem.1 hr
    have := h j hj
    rw [getD_at _ _ hj] at this
    rw [Bool.and_eq_true]
    exact ⟨decide_eq_true this.1, this.2⟩
/-- What is a program. -/
def isWB (D : List (List Int)) (C : List Int) (A : List (List Int)) (B : List Int) : Bool :=
  decide (C.length + A.length ≤ 5 ∧ D.length = C.length ∧ B.length = A.length) && (matB D && (symB D && (rowsB C.length A && (wit 100 C && wit 100 B))))
theorem isWB_iff (D : List (List Int)) (C : List Int) (A : List (List Int)) (B : List Int) : isWB D C A B = true ↔
    (C.length + A.length ≤ 5 ∧ D.length = C.length ∧ B.length = A.length) ∧ matB D = true ∧ symB D = true ∧ rowsB C.length A = true ∧ wit 100 C = true ∧ wit 100 B = true := by
  unfold isWB
  simp only [Bool.and_eq_true, decide_eq_true_eq]
structure IsW (D : List (List Int)) (C : List Int) (A : List (List Int)) (B : List Int) : Prop where
  n1 : 1 ≤ C.length
  n5 : C.length + B.length ≤ 5
  d : D.length = C.length
  a : A.length = B.length
  dr : ∀ i, i < C.length → (D.getD i []).length = C.length
  c : ∀ i, i < C.length → -100 ≤ C.getD i 0 ∧ C.getD i 0 ≤ 100
  dk : ∀ i, i < C.length → ∀ k, k < C.length → -20 ≤ wE D i k ∧ wE D i k ≤ 20
  sym : ∀ i, i < C.length → ∀ k, k < i → wE D i k = wE D k i
  ar : ∀ j, j < B.length → (A.getD j []).length = C.length
  b : ∀ j, j < B.length → -100 ≤ B.getD j 0 ∧ B.getD j 0 ≤ 100
  ak : ∀ j, j < B.length → ∀ k, k < C.length → -20 ≤ wE A j k ∧ wE A j k ≤ 20
theorem isWB_is (D : List (List Int)) (C : List Int) (A : List (List Int)) (B : List Int) : isWB D C A B = true ↔ IsW D C A B := by
  rw [isWB_iff]
  constructor
  · rintro ⟨⟨h1, h2, h3⟩, hm, hs, hr, hc, hb⟩
    obtain ⟨⟨m1, _⟩, hmr⟩ := (matB_iff D).1 hm
    have hs := (symB_iff D).1 hs
    have hr := (rowsB_iff _ _).1 hr
    have hc := (wit_iff _ _).1 hc
    have hb := (wit_iff _ _).1 hb
    refine ⟨by omega, by omega, h2, h3.symm, fun i hi => by have := (hmr i (by omega)).1; omega, hc, fun i hi k hk => ?_, fun i hi k hk => hs i (by omega) k (by omega), fun j hj => (hr j (by omega)).1, hb, fun j hj k hk => ?_⟩
    · exact (wit_iff _ _).1 (hmr i (by omega)).2 k (by have := (hmr i (by omega)).1; omega)
    · exact (wit_iff _ _).1 (hr j (by omega)).2 k (by have := (hr j (by omega)).1; omega)
  · rintro ⟨n1, n5, d, a, dr, c, dk, sym, ar, b, ak⟩
    refine ⟨⟨by omega, d, by omega⟩, (matB_iff D).2 ⟨⟨by omega, by omega⟩, fun j hj => ⟨by have := dr j (by omega); omega, (wit_iff _ _).2 fun k hk => dk j (by omega) k (by have := dr j (by omega); omega)⟩⟩, (symB_iff D).2 fun i hi k hk => ?_, (rowsB_iff _ _).2 fun j hj => ⟨ar j (by omega), (wit_iff _ _).2 fun k hk => ak j (by omega) k (by have := ar j (by omega); omega)⟩, (wit_iff _ _).2 c, (wit_iff _ _).2 b⟩
    rcases Nat.lt_trichotomy i k with h | h | h
    · exact (sym k (by omega) i h).symm
    · rw [h]
    · exact sym i (by omega) k h
theorem isWB_no {D : List (List Int)} {C : List Int} {A : List (List Int)} {B : List Int} (h : ¬ IsW D C A B) : isWB D C A B = false := by
  cases e : isWB D C A B
  · rfl
  · exact absurd ((isWB_is D C A B).1 e) h
theorem wrows_at {w : World} {v : Value} {M : List (List Int)} (h : PM.Rows w v M) (hn : 1 ≤ M.length) : ∃ b off c, v = .slice (some ⟨b, off, none⟩) M.length c ∧ b < w.heap.size ∧ M.length ≤ 9223372036854775807 ∧
    ∀ i, i < M.length → ∃ u, w.cell? ⟨b, off + i, none⟩ = some u ∧ Ints w u (M.getD i []) := by
  obtain ⟨a, c, rfl, h1, h2, hx⟩ := h
  have := maxLen_le (Nat.le_trans h1 h2)
  rcases hx with hx | ⟨b, off, rfl, hb, hc⟩
  · rw [hx] at hn; simp at hn
  · exact ⟨b, off, c, rfl, hb, this, hc⟩
theorem wints_row {w : World} {v : Value} {r : List Int} (h : Ints w v r) (hn : 1 ≤ r.length) : ∃ b off c, v = .slice (some ⟨b, off, none⟩) r.length c ∧ b < w.heap.size ∧ CellsAt w b off r := by
  obtain ⟨a, c, rfl, h1, h2, _, hx⟩ := h
  rcases hx with hx | ⟨b, off, rfl, hb, hc⟩
  · rw [hx] at hn; simp at hn
  · exact ⟨b, off, c, rfl, hb, hc⟩
theorem wints_len {w : World} {v : Value} {O : List Int} (h : Ints w v O) : O.length ≤ 9223372036854775807 := by
  obtain ⟨a, cap, _, h1, h2, _⟩ := h
  exact maxLen_le (Nat.le_trans h1 h2)
theorem wrows_len {w : World} {v : Value} {O : List (List Int)} (h : PM.Rows w v O) : O.length ≤ 9223372036854775807 := by
  obtain ⟨a, cap, _, h1, h2, _⟩ := h
  exact maxLen_le (Nat.le_trans h1 h2)

/-! ### The program -/
theorem isSymmetric_any (v : Value) (D : List (List Int)) (w : World) (hv : PM.Rows w v D) (hn : 1 ≤ D.length) (hr : ∀ i, i < D.length → (D.getD i []).length = D.length) :
    Calls Try.prog 93 #[v] w fun e w' => e = .returned (.bool (symB D)) ∧ w = w' := by
  obtain ⟨b, off, c, rfl, hb, hm, hcell⟩ := wrows_at hv hn
  obtain ⟨n, hN⟩ : ∃ n, n = D.length := ⟨_, rfl⟩
  have HI := Lib.hid (symB_iff D)
  obtain ⟨A, hA⟩ : ∃ A, A = symB D := ⟨_, rfl⟩
  rw [← hA] at HI ⊢
  have HC : Hid (∀ i, i < n → ∃ r o c, w.cell? ⟨b, off + i, none⟩ = some (.slice (some ⟨r, o, none⟩) n c) ∧ ∀ k, k < n → w.cell? ⟨r, o + k, none⟩ = some (.int .i64 (wE D i k))) := fun i hi => by
    obtain ⟨u, hu, hU⟩ := hcell i (by omega)
    have hl := hr i (by omega)
    obtain ⟨r, o, c, rfl, _, hce⟩ := wints_row hU (by omega)
    exact ⟨r, o, c, by rw [hu, hl, ← hN], fun k hk => hce k (by omega)⟩
  rw [← hN] at HI hm hn ⊢
  clear hcell hv hr hN hA hb
  go_enter Try.func93, Try.ntmps93
  go_wp2_with fail
  go_loop [3, 4, 5, 6, 9, 14, 15, 16] (fun _ _ _ _ i _ _ _ => ∃ k : Nat, k ≤ n ∧ i = .int .i64 k ∧ Hid (∀ i, i < k → ∀ j, j < n → wE D i j = wE D j i)) (fun _ _ _ _ i _ _ _ => n - (intOf i).toNat)
  case atStart => exact ⟨0, Nat.zero_le _, rfl, fun j hj => absurd hj (Nat.not_lt_zero _)⟩
  case round =>
    obtain ⟨k, hk, rfl, hgood⟩ := hrel
    by_cases hlt : k < n
    · obtain ⟨r, o, c1, hu, hce⟩ := HC.out k hlt
      have HE := Lib.hid hce
      clear hce
      go_wp2_with fail
      go_loop [5, 6, 16] (fun _ _ i => ∃ m : Nat, m ≤ n ∧ i = .int .i64 m ∧ Hid (∀ j, j < m → wE D k j = wE D j k)) (fun _ _ i => n - (intOf i).toNat)
      case atStart => exact ⟨0, Nat.zero_le _, rfl, fun j hj => absurd hj (Nat.not_lt_zero _)⟩
      case round =>
        obtain ⟨m, hm2, rfl, hin⟩ := hrel
        by_cases hlt2 : m < n
        · obtain ⟨r2, o2, c2, hu2, hce2⟩ := HC.out m hlt2
          have e1 := HE.out m hlt2
          have e2 := hce2 k hlt
          have hnx : Hid (wE D k m = wE D m k → ∀ j, j < m + 1 → wE D k j = wE D j k) := fun h j hj => by
            by_cases e : j = m
            · subst e; exact h
            · exact hin.out j (by omega)
          have hno : Hid (wE D k m ≠ wE D m k → A = false) := fun h => by
            show A = false
            cases A
            · rfl
            · exact absurd (HI.out.1 rfl k hlt m hlt2) h
          generalize wE D k m = x at *
          generalize wE D m k = y at *
          clear hce2
          by_cases hxy : x = y
          · have HX := Lib.hid (hnx.out hxy)
            have hb2 : (x != y) = false := by simp [hxy]
            clear hnx hno hxy hin
            go_wp2_with fail
            go_round
            case rel => exact ⟨m + 1, by omega, by go_num, HX⟩
            case measure => simp [intOf]; omega
          · have HO := Lib.hid (hno.out hxy)
            have hb2 : (x != y) = true := by simp [hxy]
            clear hnx hno hxy
            go_wp2_with fail
            go_ret
            exact ⟨by rw [HO.out]; rfl, rfl⟩
        · obtain rfl : m = n := by omega
          have HX : Hid (∀ i, i < k + 1 → ∀ j, j < m → wE D i j = wE D j i) := fun i hi => by
            by_cases e : i = k
            · subst e; exact hin.out
            · exact hgood.out i (by omega)
          clear hin hgood
          go_wp2_with fail
          go_round
          case rel => exact ⟨k + 1, by omega, by go_num, HX⟩
          case measure => simp [intOf]; omega
    · obtain rfl : k = n := by omega
      have HO : Hid (A = true) := HI.out.2 hgood.out
      clear hgood
      go_wp2_with fail
      go_ret
      exact ⟨by rw [HO.out]; rfl, rfl⟩

theorem areRowsOf_any (v : Value) (A : List (List Int)) (n : Nat) (w : World) (hv : PM.Rows w v A) :
    Calls Try.prog 94 #[.int .i64 n, v] w fun e w' => e = .returned (.bool (rowsB n A)) ∧ w = w' := by
  by_cases h0 : A.length = 0
  · obtain rfl : A = [] := List.length_eq_zero_iff.1 h0
    obtain ⟨a, c, rfl, _⟩ := hv
    show Calls _ _ #[.int .i64 n, .slice a 0 c] _ _
    go_enter Try.func94, Try.ntmps94
    go_wp2
    go_rounds 1
    all_goals go_ret
    all_goals exact ⟨rfl, rfl⟩
  obtain ⟨b, off, c, rfl, hb, hm, hcell⟩ := wrows_at hv (by omega)
  have HC := Lib.hid hcell
  have HI := Lib.hid (rowsB_iff n A)
  obtain ⟨R, hR⟩ : ∃ R, R = rowsB n A := ⟨_, rfl⟩
  rw [← hR] at HI ⊢
  clear hcell hR h0 hv hb
  go_enter Try.func94, Try.ntmps94
  go_wp2_with fail
  go_loop [6, 9] (fun _ i => ∃ k : Nat, k ≤ A.length ∧ i = .int .i64 k ∧ Hid (∀ j, j < k → (A.getD j []).length = n ∧ wit 20 (A.getD j []) = true)) (fun _ i => A.length - (intOf i).toNat)
  case atStart => exact ⟨0, Nat.zero_le _, rfl, fun j hj => absurd hj (Nat.not_lt_zero _)⟩
  case round =>
    obtain ⟨k, hk, rfl, hgood⟩ := hrel
    by_cases hlt : k < A.length
    · obtain ⟨u, hu, hU⟩ := HC.out k hlt
      have hl63 := wints_len hU
      have HAW := Lib.hid (areWithin_any u (A.getD k []) 20 w hU (by decide) (by decide))
      have hnx : Hid ((A.getD k []).length = n → wit 20 (A.getD k []) = true → ∀ j, j < k + 1 → (A.getD j []).length = n ∧ wit 20 (A.getD j []) = true) := fun h h' j hj => by
        by_cases e : j = k
        · subst e; exact ⟨h, h'⟩
        · exact hgood.out j (by omega)
      have hno : Hid (¬ ((A.getD k []).length = n ∧ wit 20 (A.getD k []) = true) → R = false) := fun h => by
        show R = false
        cases R
        · rfl
        · exact absurd (HI.out.1 rfl k hlt) h
      obtain ⟨ra, rc, rfl, _⟩ := hU
      generalize A.getD k [] = row at *
      by_cases hl : row.length = n
      · have hne : ((row.length : Int) != (n : Int)) = false := by simp [hl]
        cases hw : wit 20 row
        · have HO := Lib.hid (hno.out (by rw [hw]; simp))
          rw [hw] at HAW
          clear hnx hno hw hl hgood
          generalize row.length = q at *
          go_wp2_with (go_at_call 95; refine HAW.out.mono ?_; rintro e w' ⟨rfl, rfl⟩)
          go_ret
          exact ⟨by rw [HO.out]; rfl, rfl⟩
        · have HX := Lib.hid (hnx.out hl hw)
          rw [hw] at HAW
          clear hnx hno hw hl hgood
          generalize row.length = q at *
          go_wp2_with (go_at_call 95; refine HAW.out.mono ?_; rintro e w' ⟨rfl, rfl⟩)
          go_round
          case rel => exact ⟨k + 1, by omega, by go_num, HX⟩
          case measure => simp [intOf]; omega
      · have HO := Lib.hid (hno.out (fun c => hl c.1))
        have hne : ((row.length : Int) != (n : Int)) = true := by simp; omega
        clear hnx hno hl hgood HAW
        generalize row.length = q at *
        go_wp2_with fail
        go_ret
        exact ⟨by rw [HO.out]; rfl, rfl⟩
    · obtain rfl : k = A.length := by omega
      have HO : Hid (R = true) := HI.out.2 hgood.out
      clear hgood
      go_wp2_with fail
      go_ret
      exact ⟨by rw [HO.out]; rfl, rfl⟩
end Go.Proofs.Ytgncaploccbfnaa.PW
