/-
  LeastAlong: the boxes of both sides, bounds of the sums, the answer.
-/
import Derived.Test.YtbfpneonmefndaaWLeM
import Derived.Test.YtbfpneonmefndaaWVa3
namespace Go.Proofs.Ytbfpneonmefndaa.PW
open Go.RowKit Go.Proofs.Ytbfpneonmefndaa
open Go.Proofs.Ytbfpneonmefndaa.PM Go.Proofs.Ytbfpneonmefndaa.PX

structure Wl (w W : World) (v0 v1 v2 v3 : Value) : Prop where
  b : Below w.heap.size w W
  k0 : W.cell? ⟨w.heap.size, 0, none⟩ = some v0
  k1 : W.cell? ⟨w.heap.size, 1, none⟩ = some v1
  k2 : W.cell? ⟨w.heap.size, 2, none⟩ = some v2
  k3 : W.cell? ⟨w.heap.size, 3, none⟩ = some v3
  r0 : W.cell? ⟨w.heap.size + 1, 0, none⟩ = some (.int .i64 0)
  r1 : W.cell? ⟨w.heap.size + 1, 1, none⟩ = some (.int .i64 0)
  r2 : W.cell? ⟨w.heap.size + 1 + 1, 0, none⟩ = some (.int .i64 0)
  r3 : W.cell? ⟨w.heap.size + 1 + 1, 1, none⟩ = some (.int .i64 0)
  f0 : W.frozen? ⟨w.heap.size + 1, 0, none⟩ = false
  f1 : W.frozen? ⟨w.heap.size + 1, 1, none⟩ = false
  f2 : W.frozen? ⟨w.heap.size + 1 + 1, 0, none⟩ = false
  f3 : W.frozen? ⟨w.heap.size + 1 + 1, 1, none⟩ = false
  z : w.heap.size + 1 + 1 < W.heap.size
theorem Wl.next {w W W' : World} {v0 v1 v2 v3 : Value} (h : Wl w W v0 v1 v2 v3) (hb : Below W.heap.size W W') : Wl w W' v0 v1 v2 v3 := by
  obtain ⟨b, k0, k1, k2, k3, r0, r1, r2, r3, f0, f1, f2, f3, z⟩ := h
  have z0 : w.heap.size < W.heap.size := by omega
  have z1 : w.heap.size + 1 < W.heap.size := by omega
  exact ⟨b.trans (hb.mono b.size), (hb.cell (p := ⟨w.heap.size, 0, none⟩) z0).trans k0, (hb.cell (p := ⟨w.heap.size, 1, none⟩) z0).trans k1, (hb.cell (p := ⟨w.heap.size, 2, none⟩) z0).trans k2, (hb.cell (p := ⟨w.heap.size, 3, none⟩) z0).trans k3,
    (hb.cell (p := ⟨w.heap.size + 1, 0, none⟩) z1).trans r0, (hb.cell (p := ⟨w.heap.size + 1, 1, none⟩) z1).trans r1, (hb.cell (p := ⟨w.heap.size + 1 + 1, 0, none⟩) z).trans r2, (hb.cell (p := ⟨w.heap.size + 1 + 1, 1, none⟩) z).trans r3,
    (hb.frozen (p := ⟨w.heap.size + 1, 0, none⟩) z1).trans f0, (hb.frozen (p := ⟨w.heap.size + 1, 1, none⟩) z1).trans f1, (hb.frozen (p := ⟨w.heap.size + 1 + 1, 0, none⟩) z).trans f2, (hb.frozen (p := ⟨w.heap.size + 1 + 1, 1, none⟩) z).trans f3, Nat.lt_of_lt_of_le z hb.size⟩
theorem wl_new (w : World) (v0 v1 v2 v3 : Value) : Wl w (((w.alloc (.cells #[v0, v1, v2, v3] 54)).alloc (.cells #[.int .i64 0, .int .i64 0] 62)).alloc (.cells #[.int .i64 0, .int .i64 0] 62)) v0 v1 v2 v3 := by
  refine ⟨(((Below.refl _ _).alloc (Nat.le_refl _) _).alloc (by simp) _).alloc (by simp; omega) _, ?_, ?_, ?_, ?_, ?_, ?_, ?_, ?_, ?_, ?_, ?_, ?_, ?_⟩ <;> simp [go_sem]

/-- Bounds of a double sum. -/
structure LaB (e : Nat → Int) (D : List (List Int)) (a b : List Int) (n : Nat) : Prop where
  p1 : ∀ i t, i < n → t < n → -2000 ≤ a.getD i 0 * wE D i t ∧ a.getD i 0 * wE D i t ≤ 2000
  p2 : ∀ i t, i < n → t < n → -200000 ≤ a.getD i 0 * wE D i t * b.getD t 0 ∧ a.getD i 0 * wE D i t * b.getD t 0 ≤ 200000
  row : ∀ i t, i < n → t ≤ n → -1000000 ≤ laR D a b i t ∧ laR D a b i t ≤ 1000000
  all : ∀ i, i ≤ n → -6000000 ≤ laS e D a b n i ∧ laS e D a b n i ≤ 6000000
theorem laB_of {e : Nat → Int} {D : List (List Int)} {a b : List Int} {n : Nat} (hn : n ≤ 5) (ha : ∀ t, t < n → -100 ≤ a.getD t 0 ∧ a.getD t 0 ≤ 100) (hb : ∀ t, t < n → -100 ≤ b.getD t 0 ∧ b.getD t 0 ≤ 100) (hD : ∀ i t, i < n → t < n → -20 ≤ wE D i t ∧ wE D i t ≤ 20) (he : ∀ i, i < n → -20000 ≤ e i ∧ e i ≤ 20000) : LaB e D a b n := by
  have p1 : ∀ i t, i < n → t < n → -2000 ≤ a.getD i 0 * wE D i t ∧ a.getD i 0 * wE D i t ≤ 2000 := fun i t hi ht => by
    have x := hD i t hi ht
    have y := ha i hi
    exact PM.mul_bd (A := 100) (B := 20) y.1 y.2 x.1 x.2
  have p2 : ∀ i t, i < n → t < n → -200000 ≤ a.getD i 0 * wE D i t * b.getD t 0 ∧ a.getD i 0 * wE D i t * b.getD t 0 ≤ 200000 := fun i t hi ht => by
    have x := p1 i t hi ht
    have y := hb t ht
    exact PM.mul_bd (A := 2000) (B := 100) x.1 x.2 y.1 y.2
  have hrow : ∀ i, i < n → ∀ t, t ≤ n → -(200000 * (t : Int)) ≤ laR D a b i t ∧ laR D a b i t ≤ 200000 * t := fun i hi t => by
    induction t with
    | zero => intro _; simp [laR]
    | succ t ih =>
      intro ht
      have x := ih (by omega)
      have y := p2 i t hi (by omega)
      simp only [laR]
      omega
  have hall : ∀ i, i ≤ n → -(1200000 * (i : Int)) ≤ laS e D a b n i ∧ laS e D a b n i ≤ 1200000 * i := fun i => by
    induction i with
    | zero => intro _; simp [laS]
    | succ i ih =>
      intro hi
      have x := ih (by omega)
      have y := hrow i (by omega) n (Nat.le_refl _)
      have z := he i (by omega)
      simp only [laS]
      omega
  exact ⟨p1, p2, fun i t hi ht => by have := hrow i hi t ht; omega, fun i hi => by have := hall i hi; omega⟩
/-- The model's answer. -/
def laOut (D : List (List Int)) (C : List Int) (A : List (List Int)) (B X U : List Int) : (Int × Int) × (Int × Int) × Int :=
  if isWB D C A B = true then (if (X.length = C.length ∧ U.length = C.length) ∧ wit 100 X = true ∧ wit 100 U = true then
    laF (laS (fun i => 2 * C.getD i 0 * X.getD i 0) D X X C.length C.length) (laS (fun i => C.getD i 0 * U.getD i 0) D U X C.length C.length) (laS (fun _ => 0) D U U C.length C.length) else ((0, 0), (0, 0), 2)) else ((0, 0), (0, 0), 1)
theorem laOut_no {D : List (List Int)} {C : List Int} {A : List (List Int)} {B X U : List Int} (h : isWB D C A B = false) : laOut D C A B X U = ((0, 0), (0, 0), 1) := by unfold laOut; rw [if_neg (by simp [h])]
theorem laOut_bad {D : List (List Int)} {C : List Int} {A : List (List Int)} {B X U : List Int} (h : isWB D C A B = true) (h2 : ¬ ((X.length = C.length ∧ U.length = C.length) ∧ wit 100 X = true ∧ wit 100 U = true)) : laOut D C A B X U = ((0, 0), (0, 0), 2) := by unfold laOut; rw [if_pos h, if_neg h2]
theorem laOut_ok {D : List (List Int)} {C : List Int} {A : List (List Int)} {B X U : List Int} (h : isWB D C A B = true) (h1 : X.length = C.length) (h2 : U.length = C.length) (h3 : wit 100 X = true) (h4 : wit 100 U = true) :
    laOut D C A B X U = laF (laS (fun i => 2 * C.getD i 0 * X.getD i 0) D X X C.length C.length) (laS (fun i => C.getD i 0 * U.getD i 0) D U X C.length C.length) (laS (fun _ => 0) D U U C.length C.length) := by unfold laOut; rw [if_pos h, if_pos ⟨⟨h1, h2⟩, h3, h4⟩]
theorem laF_told (f g h : Int) (hh : 0 < h) : ((FM.toldC (-g) h = 0 ∧ FM.toldC (f * h - g * g) (2 * h) = 0) → laF f g h = ((FM.toldN (-g) h, FM.toldD (-g) h), (FM.toldN (f * h - g * g) (2 * h), FM.toldD (f * h - g * g) (2 * h)), 0)) ∧ (¬ (FM.toldC (-g) h = 0 ∧ FM.toldC (f * h - g * g) (2 * h) = 0) → laF f g h = ((0, 0), (0, 0), 3)) := by
  have hh' : ¬ h ≤ 0 := by omega
  unfold laF FM.toldC FM.toldN FM.toldD
  simp only [if_neg hh']
  by_cases h1 : FM.isF (FM.redN (-g) h) (FM.redD (-g) h) = true <;> by_cases h2 : FM.isF (FM.redN (f * h - g * g) (2 * h)) (FM.redD (f * h - g * g) (2 * h)) = true <;> simp [h1, h2]
theorem laF_low {f g h : Int} (hh : h ≤ 0) : laF f g h = ((0, 0), (0, 0), 5) := by unfold laF; rw [if_pos hh]

end Go.Proofs.Ytbfpneonmefndaa.PW
