/-
  PayoffsAt: double sums; and the walk in the model.
-/
import Derived.Test.YtimcokealhnfhaaGBoth
import Derived.Test.YtimcokealhnfhaaVLim
namespace Go.Proofs.Ytimcokealhnfhaa.PW
open Go.RowKit Go.Proofs.Ytimcokealhnfhaa
open Go.Proofs.Ytimcokealhnfhaa.PM Go.Proofs.Ytimcokealhnfhaa.PX

def rowS (f : Nat → Nat → Int) (i : Nat) : Nat → Int
  | 0 => 0
  | j + 1 => rowS f i j + f i j
def allS (f : Nat → Nat → Int) (l : Nat) : Nat → Int
  | 0 => 0
  | i + 1 => allS f l i + rowS f i l
theorem allS_col (g : Nat → Nat → Int) (k : Nat) : ∀ l, allS g (k + 1) l = allS g k l + rowS (fun a b => g b a) k l := by
  intro l
  induction l with
  | zero => simp [allS, rowS]
  | succ l ih => simp only [allS, rowS]; rw [ih]; omega
theorem allS_swap (f : Nat → Nat → Int) (l : Nat) : ∀ k, allS f l k = allS (fun a b => f b a) k l := by
  intro k
  induction k with
  | zero =>
    have : ∀ l, allS (fun a b => f b a) 0 l = 0 := fun l => by
      induction l with
      | zero => rfl
      | succ l ih => simp [allS, rowS, ih]
    rw [this l]
    rfl
  | succ k ih => rw [allS_col, ← ih]; rfl
theorem rowS_congr {f g : Nat → Nat → Int} (h : ∀ i j, f i j = g i j) (i : Nat) : ∀ j, rowS f i j = rowS g i j := by
  intro j
  induction j with
  | zero => rfl
  | succ j ih => simp only [rowS]; rw [ih, h]
theorem allS_congr {f g : Nat → Nat → Int} (h : ∀ i j, f i j = g i j) (l : Nat) : ∀ k, allS f l k = allS g l k := by
  intro k
  induction k with
  | zero => rfl
  | succ k ih => simp only [allS]; rw [ih, rowS_congr h]
/-- The program's sum: shares times payoffs. -/
def ownS (S P : List Int) : Nat → Int
  | 0 => 0
  | k + 1 => ownS S P k + S.getD k 0 * P.getD k 0
theorem rowS_pay (S T : List Int) (G : Nat → Nat → Int) (i : Nat) : ∀ j, rowS (fun a b => S.getD a 0 * T.getD b 0 * G a b) i j = S.getD i 0 * payTo G T i j := by
  intro j
  induction j with
  | zero => simp [rowS, payTo]
  | succ j ih => simp only [rowS, payTo]; rw [ih, Int.mul_add, Int.mul_assoc]
theorem ownS_all (S T : List Int) (G : Nat → Nat → Int) (n m : Nat) : ∀ k, k ≤ n → ownS S (payL G T n m) k = allS (fun a b => S.getD a 0 * T.getD b 0 * G a b) m k := by
  intro k
  induction k with
  | zero => intro _; rfl
  | succ k ih =>
    intro hk
    simp only [ownS, allS]
    have hk' : k < n := by omega
    have hp : (payL G T n m).getD k 0 = payTo G T k m := by simp [payL, hk']
    rw [ih (by omega), rowS_pay, hp]
/-- Both players' sums. -/
def paE (A : List (List Int)) (S T : List Int) (k l : Nat) : Int := allS (fun i j => S.getD i 0 * T.getD j 0 * gE A i j) l k
theorem own_one (A : List (List Int)) (S T : List Int) (k l : Nat) : ownS S (payL (fun o t => gE A o t) T k l) k = paE A S T k l := ownS_all S T (fun o t => gE A o t) k l k (Nat.le_refl _)
theorem own_two (B : List (List Int)) (S T : List Int) (k l : Nat) : ownS T (payL (fun o t => gE B t o) S l k) l = paE B S T k l := by
  rw [ownS_all T S (fun o t => gE B t o) l k l (Nat.le_refl _)]
  unfold paE
  rw [allS_swap (fun i j => S.getD i 0 * T.getD j 0 * gE B i j)]
  exact allS_congr (fun i j => by rw [Int.mul_comm (T.getD i 0)]) _ _
theorem sumNk_part {L : List Int} {n : Nat} (hl : L.length = n) (h : ∀ t, t < n → 0 ≤ L.getD t 0) : ∀ k, k ≤ n → 0 ≤ sumNk L k ∧ ∀ t, t < k → L.getD t 0 ≤ sumNk L k := by
  intro k
  induction k with
  | zero => intro _; exact ⟨by rw [sumNk_zero]; omega, fun t ht => absurd ht (Nat.not_lt_zero _)⟩
  | succ k ih =>
    intro hk
    obtain ⟨a, b⟩ := ih (by omega)
    rw [sumNk_succ L k (by omega)]
    have := h k (by omega)
    refine ⟨by omega, fun t ht => ?_⟩
    by_cases e : t = k
    · subst e; omega
    · have := b t (by omega); omega
theorem mix_sum {xs : List (Int × Int)} {n : Nat} {L : List Int} {d : Int} (h : mixOut xs n = some (L, d)) : sumNk L n = d ∧ 1 ≤ d ∧ ∀ t, t < n → 0 ≤ L.getD t 0 ∧ L.getD t 0 ≤ d := by
  have h0 := h
  obtain ⟨f1, f2, _, _⟩ := mix_facts h
  have hs : sumNk L n = d ∧ 1 ≤ d := by
    unfold mixOut at h
    split at h
    case isFalse => cases h
    rename_i hc
    have hok := (mixOk_iff xs).1 hc.2
    have hfr := fracs_of (fun i hi => (hok i hi).1)
    cases ho : comOut xs with
    | none => rw [ho] at h; cases h
    | some e =>
      rw [ho] at h
      dsimp only at h
      split at h
      case isFalse => cases h
      rename_i hsum
      simp only [Option.some.injEq, Prod.mk.injEq] at h
      obtain ⟨rfl, rfl⟩ := h
      have hd : 1 ≤ e := by
        unfold comOut at ho
        cases hcd : comD 1 xs with
        | none => rw [hcd] at ho; cases ho
        | some e' =>
          rw [hcd] at ho
          dsimp only at ho
          split at ho
          · have := comD_bd xs 1 e' (by omega) hfr hcd
            have he := Option.some.inj ho
            omega
          · cases ho
      rw [← hc.1]
      exact ⟨hsum, hd⟩
  obtain ⟨_, hp⟩ := sumNk_part f1 (fun t ht => (f2 t ht).1) n (Nat.le_refl _)
  exact ⟨hs.1, hs.2, fun t ht => ⟨(f2 t ht).1, by have := hp t ht; omega⟩⟩
def paF (P Q d : Int) : (Int × Int) × (Int × Int) × Int :=
  if FM.isF (FM.redN P d) (FM.redD P d) = true ∧ FM.isF (FM.redN Q d) (FM.redD Q d) = true then ((FM.redN P d, FM.redD P d), (FM.redN Q d, FM.redD Q d), 0) else ((0, 0), (0, 0), 3)
def paOut (A B : List (List Int)) (X Y : List (Int × Int)) : (Int × Int) × (Int × Int) × Int :=
  if bothCode A B X Y 30000 = 0 then (match mixOut X A.length with
    | none => ((0, 0), (0, 0), 0)
    | some a => match mixOut Y (gcols A) with
      | none => ((0, 0), (0, 0), 0)
      | some b => paF (paE A a.1 b.1 A.length (gcols A)) (paE B a.1 b.1 A.length (gcols A)) (a.2 * b.2)) else ((0, 0), (0, 0), bothCode A B X Y 30000)
theorem paOut_err {A B : List (List Int)} {X Y : List (Int × Int)} (h : bothCode A B X Y 30000 ≠ 0) : paOut A B X Y = ((0, 0), (0, 0), bothCode A B X Y 30000) := by unfold paOut; rw [if_neg h]
theorem paOut_ok {A B : List (List Int)} {X Y : List (Int × Int)} {L1 L2 : List Int} {d1 d2 : Int} (h : bothCode A B X Y 30000 = 0) (h1 : mixOut X A.length = some (L1, d1)) (h2 : mixOut Y (gcols A) = some (L2, d2)) :
    paOut A B X Y = paF (paE A L1 L2 A.length (gcols A)) (paE B L1 L2 A.length (gcols A)) (d1 * d2) := by
  unfold paOut; rw [if_pos h, h1, h2]
structure PaB (A : List (List Int)) (S T : List Int) (k l : Nat) : Prop where
  p1 : ∀ i j, i < k → j < l → 0 ≤ S.getD i 0 * T.getD j 0 ∧ S.getD i 0 * T.getD j 0 ≤ 900000000
  p2 : ∀ i j, i < k → j < l → 0 ≤ S.getD i 0 * T.getD j 0 * gE A i j ∧ S.getD i 0 * T.getD j 0 * gE A i j ≤ 18000000000
  row : ∀ i j, i < k → j ≤ l → 0 ≤ rowS (fun i j => S.getD i 0 * T.getD j 0 * gE A i j) i j ∧ rowS (fun i j => S.getD i 0 * T.getD j 0 * gE A i j) i j ≤ 18000000000 * j
  all : ∀ i, i ≤ k → 0 ≤ allS (fun i j => S.getD i 0 * T.getD j 0 * gE A i j) l i ∧ allS (fun i j => S.getD i 0 * T.getD j 0 * gE A i j) l i ≤ 90000000000 * i
theorem paB_of {A : List (List Int)} {S T : List Int} {k l : Nat} (hl5 : l ≤ 5) (hS : ∀ t, t < k → 0 ≤ S.getD t 0 ∧ S.getD t 0 ≤ 30000) (hT : ∀ t, t < l → 0 ≤ T.getD t 0 ∧ T.getD t 0 ≤ 30000) (hA : ∀ i j, i < k → j < l → 1 ≤ gE A i j ∧ gE A i j ≤ 20) : PaB A S T k l := by
  have q1 : ∀ i j, i < k → j < l → 0 ≤ S.getD i 0 * T.getD j 0 ∧ S.getD i 0 * T.getD j 0 ≤ 900000000 := fun i j hi hj => by
    have x := hS i hi
    have y := hT j hj
    have h := Int.mul_nonneg x.1 y.1
    have h2 := Int.mul_le_mul x.2 y.2 y.1 (by decide)
    omega
  have q2 : ∀ i j, i < k → j < l → 0 ≤ S.getD i 0 * T.getD j 0 * gE A i j ∧ S.getD i 0 * T.getD j 0 * gE A i j ≤ 18000000000 := fun i j hi hj => by
    have x := q1 i j hi hj
    have y := hA i j hi hj
    have h := Int.mul_nonneg x.1 (show 0 ≤ gE A i j by omega)
    have h2 := Int.mul_le_mul x.2 y.2 (by omega) (by decide)
    omega
  have q3 : ∀ i, i < k → ∀ j, j ≤ l → 0 ≤ rowS (fun i j => S.getD i 0 * T.getD j 0 * gE A i j) i j ∧ rowS (fun i j => S.getD i 0 * T.getD j 0 * gE A i j) i j ≤ 18000000000 * j := fun i hi j => by
    induction j with
    | zero => intro _; simp [rowS]
    | succ j ih =>
      intro hj
      have a := ih (by omega)
      have b := q2 i j hi (by omega)
      simp only [rowS]
      omega
  have q4 : ∀ i, i ≤ k → 0 ≤ allS (fun i j => S.getD i 0 * T.getD j 0 * gE A i j) l i ∧ allS (fun i j => S.getD i 0 * T.getD j 0 * gE A i j) l i ≤ 90000000000 * i := fun i => by
    induction i with
    | zero => intro _; simp [allS]
    | succ i ih =>
      intro hi
      have a := ih (by omega)
      have b := q3 i (by omega) l (Nat.le_refl _)
      simp only [allS]
      omega
  exact ⟨q1, q2, fun i j hi hj => q3 i hi j hj, q4⟩

/-- The box of a game, and the boxes of two fractions that are told. -/
structure Pb (w W : World) (v0 v1 : Value) : Prop where
  b : Below w.heap.size w W
  k0 : W.cell? ⟨w.heap.size, 0, none⟩ = some v0
  k1 : W.cell? ⟨w.heap.size, 1, none⟩ = some v1
  r0 : W.cell? ⟨w.heap.size + 1, 0, none⟩ = some (.int .i64 0)
  r1 : W.cell? ⟨w.heap.size + 1, 1, none⟩ = some (.int .i64 0)
  r2 : W.cell? ⟨w.heap.size + 1 + 1, 0, none⟩ = some (.int .i64 0)
  r3 : W.cell? ⟨w.heap.size + 1 + 1, 1, none⟩ = some (.int .i64 0)
  f0 : W.frozen? ⟨w.heap.size + 1, 0, none⟩ = false
  f1 : W.frozen? ⟨w.heap.size + 1, 1, none⟩ = false
  f2 : W.frozen? ⟨w.heap.size + 1 + 1, 0, none⟩ = false
  f3 : W.frozen? ⟨w.heap.size + 1 + 1, 1, none⟩ = false
  z : w.heap.size + 1 + 1 < W.heap.size
theorem Pb.next {w W W' : World} {v0 v1 : Value} (h : Pb w W v0 v1) (hb : Below W.heap.size W W') : Pb w W' v0 v1 := by
  obtain ⟨b, k0, k1, r0, r1, r2, r3, f0, f1, f2, f3, z⟩ := h
  have z0 : w.heap.size < W.heap.size := by omega
  have z1 : w.heap.size + 1 < W.heap.size := by omega
  exact ⟨b.trans (hb.mono b.size), (hb.cell (p := ⟨w.heap.size, 0, none⟩) z0).trans k0, (hb.cell (p := ⟨w.heap.size, 1, none⟩) z0).trans k1,
    (hb.cell (p := ⟨w.heap.size + 1, 0, none⟩) z1).trans r0, (hb.cell (p := ⟨w.heap.size + 1, 1, none⟩) z1).trans r1, (hb.cell (p := ⟨w.heap.size + 1 + 1, 0, none⟩) z).trans r2, (hb.cell (p := ⟨w.heap.size + 1 + 1, 1, none⟩) z).trans r3,
    (hb.frozen (p := ⟨w.heap.size + 1, 0, none⟩) z1).trans f0, (hb.frozen (p := ⟨w.heap.size + 1, 1, none⟩) z1).trans f1, (hb.frozen (p := ⟨w.heap.size + 1 + 1, 0, none⟩) z).trans f2, (hb.frozen (p := ⟨w.heap.size + 1 + 1, 1, none⟩) z).trans f3, Nat.lt_of_lt_of_le z hb.size⟩
theorem pb_new (w : World) (v0 v1 : Value) : Pb w (((w.alloc (.cells #[v0, v1] 43)).alloc (.cells #[.int .i64 0, .int .i64 0] 61)).alloc (.cells #[.int .i64 0, .int .i64 0] 61)) v0 v1 := by
  refine ⟨(((Below.refl _ _).alloc (Nat.le_refl _) _).alloc (by simp) _).alloc (by simp; omega) _, ?_, ?_, ?_, ?_, ?_, ?_, ?_, ?_, ?_, ?_, ?_⟩ <;> simp [go_sem]
theorem paF_told (P Q d : Int) : ((FM.toldC P d = 0 ∧ FM.toldC Q d = 0) → paF P Q d = ((FM.toldN P d, FM.toldD P d), (FM.toldN Q d, FM.toldD Q d), 0)) ∧ (¬ (FM.toldC P d = 0 ∧ FM.toldC Q d = 0) → paF P Q d = ((0, 0), (0, 0), 3)) := by
  unfold paF FM.toldC FM.toldN FM.toldD
  by_cases h1 : FM.isF (FM.redN P d) (FM.redD P d) = true <;> by_cases h2 : FM.isF (FM.redN Q d) (FM.redD Q d) = true <;> simp [h1, h2]
theorem gtold_lim (n d : Int) (w : World) :
    Calls Try.prog 90 #[.agg #[.int .i64 (FM.redN n d), .int .i64 (FM.redD n d)]] w fun e w' => e = .returned (.tuple #[.agg #[.int .i64 (FM.toldN n d), .int .i64 (FM.toldD n d)], .int .i64 (FM.toldC n d)]) ∧ Below w.heap.size w w' :=
  FW.l01Told_any (FM.redN n d) (FM.redD n d) w

set_option maxRecDepth 100000 in
set_option maxHeartbeats 16000000 in
theorem specPayoffsAt_any (m q x y : Value) (A B : List (List Int)) (X Y : List (Int × Int)) (w : World) (h1 : PM.Rows w m A) (h2 : PM.Rows w q B) (h3 : Frs w x X) (h4 : Frs w y Y) :
    Calls Try.prog 44 #[.agg #[m, q], x, y] w fun e w' => e = .returned (.tuple #[.agg #[.int .i64 (paOut A B X Y).1.1, .int .i64 (paOut A B X Y).1.2], .agg #[.int .i64 (paOut A B X Y).2.1.1, .int .i64 (paOut A B X Y).2.1.2], .int .i64 (paOut A B X Y).2.2]) ∧ Below w.heap.size w w' := by
  have HBO := Lib.hid (fun (w' : World) (h : Below w.heap.size w w') => l07Both_any m q x y A B X Y 30000 w' (h1.below h) (h2.below h) (h3.below h) (h4.below h) (by decide) (by decide))
  have H1 := Lib.hid h1
  have H2 := Lib.hid h2
  have HE := Lib.hid (paOut_err (A := A) (B := B) (X := X) (Y := Y))
  have HOK := Lib.hid (fun L1 L2 d1 d2 => paOut_ok (A := A) (B := B) (X := X) (Y := Y) (L1 := L1) (L2 := L2) (d1 := d1) (d2 := d2))
  have HGB := Lib.hid (show bothCode A B X Y 30000 = 0 → isGB A B = true from fun h => by
    cases e : isGB A B
    · rw [bothCode_no e] at h; cases h
    · rfl)
  generalize paOut A B X Y = OUT at *
  generalize bothCode A B X Y 30000 = BC at *
  obtain ⟨a1, c1, rfl, _⟩ := h1
  obtain ⟨a2, c2, rfl, _⟩ := h2
  obtain ⟨a3, c3, rfl, _⟩ := h3
  obtain ⟨a4, c4, rfl, _⟩ := h4
  obtain ⟨W0, hW0⟩ : ∃ W0, W0 = ((w.alloc (.cells #[.slice a1 A.length c1, .slice a2 B.length c2] 43)).alloc (.cells #[.int .i64 0, .int .i64 0] 61)).alloc (.cells #[.int .i64 0, .int .i64 0] 61) := ⟨_, rfl⟩
  have HG0 : Hid (Pb w W0 (.slice a1 A.length c1) (.slice a2 B.length c2)) := by rw [hW0]; exact pb_new _ _ _
  have HW0 := Lib.hid hW0
  clear hW0
  go_enter Try.func44, Try.ntmps44
  go_wp2_with fail
  rw [← HW0.out]
  refine (HBO.out _ HG0.out.b).mono ?_
  rintro e w1 (⟨hne, rfl, hb1⟩ | ⟨heq, L1, d1, L2, d2, g1, c1', g2, c2', hm1, hm2, hd1, hd2, rfl, hF1, hF2, hb1⟩)
  · have HO := Lib.hid (HE.out hne)
    have hCb : (BC != 0) = true := by simp; exact hne
    obtain ⟨hw1, k0, k1, r0, r1, r2, r3, f0, f1, f2, f3, hz1⟩ := HG0.out.next hb1
    clear hb1 hne
    go_wp2_with fail
    refine bodyPost_ret (v := .tuple #[.agg #[.int .i64 0, .int .i64 0], .agg #[.int .i64 0, .int .i64 0], .int .i64 BC]) (by simp [*, results, Try.results44, go_sem]) rfl ?_
    rw [HO.out]
    refine ⟨rfl, ?_⟩
    (repeat' (first | (with_reducible exact Below.refl _ _) | (with_reducible assumption) | (with_reducible refine Below.alloc ?_ ?_ _) | (with_reducible refine Below.drew ?_) | (with_reducible refine below_drewN ?_ _) | (with_reducible refine Below.setCell ?_ ?_ _) | (with_reducible refine Below.trans ?_ (Below.mono (by with_reducible assumption) ?_)) | (with_reducible exact Below.size (by with_reducible assumption)) | go_size))
  have hgb := HGB.out heq
  obtain ⟨k1, l1, n5, bk, al, bl, ae, be⟩ := (isGB_iff A B).1 hgb
  obtain ⟨p1, p2, p3, _⟩ := mix_facts hm1
  obtain ⟨q1, q2, q3, _⟩ := mix_facts hm2
  obtain ⟨_, pd, pp⟩ := mix_sum hm1
  obtain ⟨_, qd, qq⟩ := mix_sum hm2
  have HO := Lib.hid (HOK.out L1 L2 d1 d2 heq hm1 hm2)
  obtain ⟨k, hk⟩ : ∃ k, k = A.length := ⟨_, rfl⟩
  obtain ⟨l, hl⟩ : ∃ l, l = gcols A := ⟨_, rfl⟩
  have hPA := paB_of (A := A) (S := L1) (T := L2) (k := k) (l := l) (by omega) (fun t ht => by have := pp t (by omega); omega) (fun t ht => by have := qq t (by omega); omega) (fun i j hi hj => ae i j (by omega) (by omega))
  have hPB := paB_of (A := B) (S := L1) (T := L2) (k := k) (l := l) (by omega) (fun t ht => by have := pp t (by omega); omega) (fun t ht => by have := qq t (by omega); omega) (fun i j hi hj => be i j (by omega) (by omega))
  have HPA := Lib.hid hPA
  have HPB := Lib.hid hPB
  have hG1 := HG0.out.next hb1
  obtain ⟨b, off, c, hva, hA⟩ := tab_at H1.out k1 l1 al
  obtain ⟨qb, qo, qc, hvb, hB⟩ := tab_at H2.out (by omega) l1 (fun i hi => bl i (by omega))
  rw [hva, hvb, bk, ← hk] at hG1
  obtain ⟨_, _, hvv1, _, hz51, hoo1⟩ := id hF1
  obtain ⟨_, _, hvv2, _, hz52, hoo2⟩ := id hF2
  have hg1 : g1 < w1.heap.size := by simp at hvv1; omega
  have hg2 : g2 < w1.heap.size := by simp at hvv2; omega
  have hce1 : ∀ j, j < k → w1.cell? ⟨g1, j, none⟩ = some (.int .i64 (L1.getD j 0)) := fun j hj => by rw [own_cellN hoo1 p1.symm (by omega)]
  have hce2 : ∀ j, j < l → w1.cell? ⟨g2, j, none⟩ = some (.int .i64 (L2.getD j 0)) := fun j hj => by rw [own_cellN hoo2 q1.symm (by omega)]
  have HL1 := Lib.hid (fun wr (h : Below w1.heap.size w1 wr) j (hj : j < k) => (h.cell (p := ⟨g1, j, none⟩) hg1).trans (hce1 j hj))
  have HL2 := Lib.hid (fun wr (h : Below w1.heap.size w1 wr) j (hj : j < l) => (h.cell (p := ⟨g2, j, none⟩) hg2).trans (hce2 j hj))
  have hw1 := hG1.b
  rw [← hl] at hA hB
  have HTA := Lib.hid (fun wr (h : Below w1.heap.size w1 wr) i (hi : i < k) => hA wr (hw1.trans (h.mono hw1.size)) i (by omega))
  have HTB := Lib.hid (fun wr (h : Below w1.heap.size w1 wr) i (hi : i < k) => hB wr (hw1.trans (h.mono hw1.size)) i (by omega))
  have HG1 := Lib.hid hG1
  rw [← hk, ← hl] at HO
  have hdd : 1 ≤ d1 * d2 ∧ d1 * d2 ≤ 900000000 := by
    have h := Int.mul_le_mul hd1 hd2 (by omega) (by decide)
    have h' := Int.mul_le_mul pd qd (by decide) (by omega)
    omega
  have hk5 : k ≤ 5 := by omega
  have hl5 : l ≤ 5 := by omega
  rw [← hk, ← hl]
  obtain ⟨fA, hfA⟩ : ∃ f : Nat → Nat → Int, f = fun i j => L1.getD i 0 * L2.getD j 0 * gE A i j := ⟨_, rfl⟩
  obtain ⟨fB, hfB⟩ : ∃ f : Nat → Nat → Int, f = fun i j => L1.getD i 0 * L2.getD j 0 * gE B i j := ⟨_, rfl⟩
  have HFA := Lib.hid (fun i j => show fA i j = L1.getD i 0 * L2.getD j 0 * gE A i j from by rw [hfA])
  have HFB := Lib.hid (fun i j => show fB i j = L1.getD i 0 * L2.getD j 0 * gE B i j from by rw [hfB])
  have HEA := Lib.hid (show paE A L1 L2 k l = allS fA l k from by rw [hfA]; rfl)
  have HEB := Lib.hid (show paE B L1 L2 k l = allS fB l k from by rw [hfB]; rfl)
  have HBA := Lib.hid (fun i j (hi : i < k) (hj : j ≤ l) => show 0 ≤ allS fA l i + rowS fA i j ∧ allS fA l i + rowS fA i j ≤ 1000000000000 from by
    rw [hfA]
    have := HPA.out.all i (by omega)
    have := HPA.out.row i j hi hj
    omega)
  have HBB := Lib.hid (fun i j (hi : i < k) (hj : j ≤ l) => show 0 ≤ allS fB l i + rowS fB i j ∧ allS fB l i + rowS fB i j ≤ 1000000000000 from by
    rw [hfB]
    have := HPB.out.all i (by omega)
    have := HPB.out.row i j hi hj
    omega)
  have HZA := Lib.hid (show 0 ≤ allS fA l k ∧ allS fA l k ≤ 1000000000000 from by
    rw [hfA]
    have := HPA.out.all k (Nat.le_refl _)
    omega)
  have HZB := Lib.hid (show 0 ≤ allS fB l k ∧ allS fB l k ≤ 1000000000000 from by
    rw [hfB]
    have := HPB.out.all k (Nat.le_refl _)
    omega)
  rw [HEA.out, HEB.out] at HO
  generalize hq : d1 * d2 = dq at *
  have HQ := Lib.hid hq
  clear hk hl k1 l1 n5 bk al bl ae be p1 p2 p3 q1 q2 q3 pd pp qd qq hPA hPB hG1 hva hvb hA hB hvv1 hvv2 hz51 hz52 hoo1 hoo2 hg1 hg2 hce1 hce2 hw1 hfA hfB hF1 hF2 hb1 heq hm1 hm2 hgb HBO HE HOK HGB HW0 HG0 H1 H2 hq HEA HEB
  go_wp2_with fail
  go_loopw [14, 15, 16, 17] (fun s t i _ wr => ∃ n : Nat, n ≤ k ∧ i = .int .i64 n ∧ s = .int .i64 (allS fA l n) ∧ t = .int .i64 (allS fB l n) ∧ Below w1.heap.size w1 wr) (fun _ _ i _ _ => k - (intOf i).toNat)
  case atStart => exact ⟨0, Nat.zero_le _, rfl, rfl, rfl, Below.refl _ _⟩
  case round =>
    obtain ⟨n, hn, rfl, rfl, rfl, hB⟩ := hrel
    obtain ⟨Wr, rfl⟩ : ∃ Wr, Wr = wr := ⟨_, rfl⟩
    by_cases hlt : n < k
    · have HB := Lib.hid hB
      have hs0 : Hid (allS fA l n = allS fA l n + rowS fA n 0) := by show _ = _ + 0; simp
      have ht0 : Hid (allS fB l n = allS fB l n + rowS fB n 0) := by show _ = _ + 0; simp
      clear hB
      go_wp2_with fail
      go_loopw [14, 15, 17] (fun s t j wr => ∃ o : Nat, o ≤ l ∧ j = .int .i64 o ∧ s = .int .i64 (allS fA l n + rowS fA n o) ∧ t = .int .i64 (allS fB l n + rowS fB n o) ∧ Below w1.heap.size w1 wr) (fun _ _ j _ => l - (intOf j).toNat)
      case atStart => exact ⟨0, Nat.zero_le _, rfl, by rw [← hs0.out], by rw [← ht0.out], HB.out⟩
      case round =>
        obtain ⟨o, ho, rfl, rfl, rfl, hBi⟩ := hrel
        by_cases hlt2 : o < l
        · obtain ⟨_, k0, k1, _, _, _, _, _, _, _, _, _⟩ := HG1.out.next hBi
          have e1 := HL1.out wr hBi n hlt
          have e2 := HL2.out wr hBi o hlt2
          obtain ⟨ra, oa, da, t1, t2a⟩ := HTA.out wr hBi n hlt
          obtain ⟨rb, ob, db, t3, t4a⟩ := HTB.out wr hBi n hlt
          have t2 := t2a o hlt2
          have t4 := t4a o hlt2
          have b1 := HPA.out.p1 n o hlt hlt2
          have b2 := HPA.out.p2 n o hlt hlt2
          have b3 := HPB.out.p2 n o hlt hlt2
          have b4 := HBA.out n o hlt ho
          have b5 := HBB.out n o hlt ho
          have hea : rowS fA n (o + 1) = rowS fA n o + L1.getD n 0 * L2.getD o 0 * gE A n o := by simp only [rowS]; rw [HFA.out]
          have heb : rowS fB n (o + 1) = rowS fB n o + L1.getD n 0 * L2.getD o 0 * gE B n o := by simp only [rowS]; rw [HFB.out]
          have HEa := Lib.hid (show allS fA l n + rowS fA n (o + 1) = allS fA l n + rowS fA n o + L1.getD n 0 * L2.getD o 0 * gE A n o from by rw [hea, Int.add_assoc])
          have HEb := Lib.hid (show allS fB l n + rowS fB n (o + 1) = allS fB l n + rowS fB n o + L1.getD n 0 * L2.getD o 0 * gE B n o from by rw [heb, Int.add_assoc])
          have hbl := fun (i : Nat) => hBi
          have HBD := Lib.hid (fun q => below_drewN hBi q)
          clear t2a t4a hea heb
          generalize allS fA l n + rowS fA n o = sa at *
          generalize allS fB l n + rowS fB n o = sb at *
          generalize gE A n o = xa at *
          generalize gE B n o = xb at *
          generalize L1.getD n 0 = y at *
          generalize L2.getD o 0 = z at *
          clear hBi hbl
          go_wp2_with fail
          go_quiet (fail)
          go_wp2_with fail
          go_quiet (fail)
          go_wp2_with fail
          go_roundw
          case rel => exact ⟨o + 1, by omega, by go_num, by rw [HEa.out], by rw [HEb.out], HBD.out _⟩
          case measure => simp [intOf]; omega
        · obtain rfl : o = l := by omega
          have HB3 := Lib.hid hBi
          clear hBi
          go_wp2_with fail
          go_roundw
          case rel => exact ⟨n + 1, by omega, by go_num, rfl, rfl, HB3.out⟩
          case measure => simp [intOf]; omega
    · obtain rfl : n = k := by omega
      have HGW := Lib.hid (HG1.out.next hB)
      have hza := HZA.out
      have hzb := HZB.out
      have hq := HQ.out
      generalize allS fA l n = P at *
      generalize allS fB l n = Q at *
      have HFP := Lib.hid (fun w' => FW.l01Frac_any P dq w' (by omega) (by omega) (by omega) (by omega) (by omega))
      have HFQ := Lib.hid (fun w' => FW.l01Frac_any Q dq w' (by omega) (by omega) (by omega) (by omega) (by omega))
      have HTP := Lib.hid (gtold_lim P dq)
      have HTQ := Lib.hid (gtold_lim Q dq)
      clear hB hza hzb
      have HPF := Lib.hid (paF_told P Q dq)
      generalize paF P Q dq = F0 at *
      generalize FM.toldN P dq = pN at *
      generalize FM.toldD P dq = pD at *
      generalize FM.toldC P dq = pC at *
      generalize FM.toldN Q dq = qN at *
      generalize FM.toldD Q dq = qD at *
      generalize FM.toldC Q dq = qC at *
      go_wp2_with fail
      refine (HFP.out _).mono ?_
      rintro e w5 ⟨rfl, hb5⟩
      go_wp2_with fail
      refine (HTP.out _).mono ?_
      rintro e w6 ⟨rfl, hb6⟩
      have HG6 := Lib.hid (HGW.out.next (hb5.trans (hb6.mono hb5.size)))
      clear hb5 hb6
      have h6 := HG6.out.z
      go_wp2_with fail
      obtain ⟨w7, hw7⟩ : ∃ w7, w7 = w6.alloc (.cells #[.int .i64 pN, .int .i64 pD] 61) := ⟨_, rfl⟩
      have hB7 : Below w6.heap.size w6 w7 := by rw [hw7]; exact (Below.refl _ _).alloc (Nat.le_refl _) _
      have hi : w7.cell? ⟨w6.heap.size, 0, none⟩ = some (.int .i64 pN) ∧ w7.cell? ⟨w6.heap.size, 1, none⟩ = some (.int .i64 pD) ∧ w7.heap.size = w6.heap.size + 1 := by rw [hw7]; simp [go_sem]
      have HI := Lib.hid (show _ ∧ w.heap.size + 1 + 1 < w6.heap.size from ⟨hi, h6⟩)
      have HG7 := Lib.hid (HG6.out.next hB7)
      rw [← hw7]
      clear hw7 hi hB7 HG6 h6
      refine (HFQ.out _).mono ?_
      rintro e w8 ⟨rfl, hb8⟩
      go_wp2_with fail
      refine (HTQ.out _).mono ?_
      rintro e w9 ⟨rfl, hb9⟩
      clear hq
      obtain ⟨⟨i0, i1, i2⟩, i3⟩ := HI.out
      have hb79 := hb8.trans (hb9.mono hb8.size)
      have HI9 : Hid (w9.cell? ⟨w6.heap.size, 0, none⟩ = some (.int .i64 pN) ∧ w9.cell? ⟨w6.heap.size, 1, none⟩ = some (.int .i64 pD) ∧ w6.heap.size < w9.heap.size ∧ w.heap.size + 1 + 1 < w6.heap.size) := by
        have := hb79.size
        have hz : w6.heap.size < w7.heap.size := by omega
        exact Lib.hid ⟨(hb79.cell (p := ⟨w6.heap.size, 0, none⟩) hz).trans i0, (hb79.cell (p := ⟨w6.heap.size, 1, none⟩) hz).trans i1, by omega, i3⟩
      have HG9 := Lib.hid (HG7.out.next hb79)
      clear i0 i1 i2 i3 hb79 hb8 hb9 HI HG7
      obtain ⟨hw9, k0, k1, r0, r1, r2, r3, f0, f1, f2, f3, hz9⟩ := HG9.out
      obtain ⟨i0, i1, hz8, hz7⟩ := HI9.out
      have hn1 : w.heap.size + 1 ≠ w9.heap.size := by omega
      have hn2 : w.heap.size + 1 + 1 ≠ w9.heap.size := by omega
      have hn3 : w6.heap.size ≠ w9.heap.size := by omega
      have hn4 : w.heap.size + 1 < w9.heap.size := by omega
      have hn5 : w.heap.size < w9.heap.size := by omega
      by_cases hp : pC = 0 ∧ qC = 0
      · obtain ⟨rfl, rfl⟩ := hp
        have he := Lib.hid (HPF.out.1 ⟨rfl, rfl⟩)
        clear HPF
        go_wp2_with fail
        go_region
        go_wp2_with fail
        refine bodyPost_ret (v := .tuple #[.agg #[.int .i64 pN, .int .i64 pD], .agg #[.int .i64 qN, .int .i64 qD], .int .i64 0]) (by simp [*, results, Try.results44, go_sem]) rfl ?_
        rw [HO.out, he.out]
        refine ⟨rfl, ?_⟩
        (repeat' (first | (with_reducible exact Below.refl _ _) | (with_reducible assumption) | (with_reducible refine Below.alloc ?_ ?_ _) | (with_reducible refine Below.drew ?_) | (with_reducible refine below_drewN ?_ _) | (with_reducible refine Below.setCell ?_ ?_ _) | (with_reducible refine Below.trans ?_ (Below.mono (by with_reducible assumption) ?_)) | (with_reducible exact Below.size (by with_reducible assumption)) | go_size))
      · have he := Lib.hid (HPF.out.2 hp)
        have HP := Lib.hid hp
        clear HPF hp
        by_cases hp : pC = 0
        · subst hp
          have hCb : (qC != 0) = true := by
            simp; intro h; exact HP.out ⟨rfl, h⟩
          go_wp2_with fail
          refine bodyPost_ret (v := .tuple #[.agg #[.int .i64 0, .int .i64 0], .agg #[.int .i64 0, .int .i64 0], .int .i64 3]) (by simp [*, results, Try.results44, go_sem]) rfl ?_
          rw [HO.out, he.out]
          refine ⟨rfl, ?_⟩
          (repeat' (first | (with_reducible exact Below.refl _ _) | (with_reducible assumption) | (with_reducible refine Below.alloc ?_ ?_ _) | (with_reducible refine Below.drew ?_) | (with_reducible refine below_drewN ?_ _) | (with_reducible refine Below.setCell ?_ ?_ _) | (with_reducible refine Below.trans ?_ (Below.mono (by with_reducible assumption) ?_)) | (with_reducible exact Below.size (by with_reducible assumption)) | go_size))
        · have hCb : (pC != 0) = true := by
            simp; exact hp
          clear hp
          go_wp2_with fail
          refine bodyPost_ret (v := .tuple #[.agg #[.int .i64 0, .int .i64 0], .agg #[.int .i64 0, .int .i64 0], .int .i64 3]) (by simp [*, results, Try.results44, go_sem]) rfl ?_
          rw [HO.out, he.out]
          refine ⟨rfl, ?_⟩
          (repeat' (first | (with_reducible exact Below.refl _ _) | (with_reducible assumption) | (with_reducible refine Below.alloc ?_ ?_ _) | (with_reducible refine Below.drew ?_) | (with_reducible refine below_drewN ?_ _) | (with_reducible refine Below.setCell ?_ ?_ _) | (with_reducible refine Below.trans ?_ (Below.mono (by with_reducible assumption) ?_)) | (with_reducible exact Below.size (by with_reducible assumption)) | go_size))
end Go.Proofs.Ytimcokealhnfhaa.PW
