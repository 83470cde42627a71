/-
  Walks: PayoffsAt in the program.
-/
import Derived.Test.YtimcokealhnfhaaGIeqI
import Derived.Test.YtimcokealhnfhaaGPyo
import Derived.Deep.DeepCutAuto
namespace Go.Proofs.Ytimcokealhnfhaa.PW
open Go.RowKit Go.Proofs.Ytimcokealhnfhaa
open Go.Proofs.Ytimcokealhnfhaa.PM Go.Proofs.Ytimcokealhnfhaa.PX

/-- The array of both sums. -/
structure Sm (s : Nat) (wr : World) (x0 x1 : Int) : Prop where
  q0 : wr.cell? ⟨s, 0, none⟩ = some (.int .i64 x0)
  q1 : wr.cell? ⟨s, 1, none⟩ = some (.int .i64 x1)
  f0 : wr.frozen? ⟨s, 0, none⟩ = false
  f1 : wr.frozen? ⟨s, 1, none⟩ = false
  z : s < wr.heap.size
theorem Sm.next {s : Nat} {wr wq : World} {x0 x1 : Int} (h : Sm s wr x0 x1) (hb : Below wr.heap.size wr wq) : Sm s wq x0 x1 :=
  ⟨(hb.cell (p := ⟨s, 0, none⟩) h.z).trans h.q0, (hb.cell (p := ⟨s, 1, none⟩) h.z).trans h.q1, (hb.frozen (p := ⟨s, 0, none⟩) h.z).trans h.f0, (hb.frozen (p := ⟨s, 1, none⟩) h.z).trans h.f1, Nat.lt_of_lt_of_le h.z hb.size⟩
theorem Sm.set0 {s : Nat} {wr : World} {x0 x1 : Int} (h : Sm s wr x0 x1) (x : Int) : Sm s (wr.setCell ⟨s, 0, none⟩ (.int .i64 x)) x x1 :=
  ⟨World.cell?_setCell_same _ _ _ h.q0, (World.cell?_setCell_other _ _ _ _ (by simp)).trans h.q1, by simpa using h.f0, by simpa using h.f1, by simpa using h.z⟩
theorem Sm.set1 {s : Nat} {wr : World} {x0 x1 : Int} (h : Sm s wr x0 x1) (x : Int) : Sm s (wr.setCell ⟨s, 1, none⟩ (.int .i64 x)) x0 x :=
  ⟨(World.cell?_setCell_other _ _ _ _ (by simp)).trans h.q0, World.cell?_setCell_same _ _ _ h.q1, by simpa using h.f0, by simpa using h.f1, by simpa using h.z⟩
/-- The denominators' array while a region lays it. -/
structure DnR (W wr : World) (x y : Int) (al st : Bool) : Prop where
  low : Below W.heap.size W wr
  no : al = false → wr.heap.size = W.heap.size
  al : al = true → st = false → wr.heap.size = W.heap.size + 1 ∧ wr.cell? ⟨W.heap.size, 0, none⟩ = some (.int .i64 0) ∧ wr.cell? ⟨W.heap.size, 1, none⟩ = some (.int .i64 0) ∧ wr.frozen? ⟨W.heap.size, 0, none⟩ = false ∧ wr.frozen? ⟨W.heap.size, 1, none⟩ = false
  st : st = true → wr.cell? ⟨W.heap.size, 0, none⟩ = some (.int .i64 x) ∧ wr.cell? ⟨W.heap.size, 1, none⟩ = some (.int .i64 y) ∧ wr.heap.size = W.heap.size + 1
theorem dnR_start (W : World) (x y : Int) : DnR W W.drew x y false false :=
  ⟨(Below.refl _ _).drew, fun _ => by simp, fun h => Bool.noConfusion h, fun h => Bool.noConfusion h⟩
theorem DnR.al_ {W wr : World} {x y : Int} {T : Nat} (h : DnR W wr x y false false) : DnR W (wr.alloc (.cells #[.int .i64 0, .int .i64 0] T)) x y true false := by
  have hz := h.no rfl
  refine ⟨h.low.alloc (by omega) _, fun h => Bool.noConfusion h, fun _ _ => ?_, fun h => Bool.noConfusion h⟩
  rw [← hz]
  simp [go_sem]
theorem DnR.st_ {W wr : World} {x y : Int} (h : DnR W wr x y true false) : DnR W ((wr.setCell ⟨W.heap.size, 0, none⟩ (.int .i64 x)).setCell ⟨W.heap.size, 1, none⟩ (.int .i64 y)) x y true true := by
  obtain ⟨hz, c0, c1, f0, f1⟩ := h.al rfl rfl
  refine ⟨(h.low.setCell (p := ⟨W.heap.size, 0, none⟩) (Nat.le_refl _) _).setCell (p := ⟨W.heap.size, 1, none⟩) (Nat.le_refl _) _, fun h => Bool.noConfusion h, fun _ h => Bool.noConfusion h, fun _ => ⟨?_, ?_, by simpa using hz⟩⟩
  · rw [World.cell?_setCell_other _ _ _ _ (by simp)]; exact World.cell?_setCell_same _ _ _ c0
  · exact World.cell?_setCell_same _ _ _ ((World.cell?_setCell_other _ _ _ _ (by simp)).trans c1)
set_option maxHeartbeats 2000000 in
theorem pay_row (b off c k l : Nat) (A : List (List Int)) (sv : Value) (L : List Int) (w : World) (hA : PM.Rows w (.slice (some ⟨b, off, none⟩) k c) A) (hk : A.length = k) (hT : TabAt w b off A k l) (ae : ∀ i j, i < k → j < l → 1 ≤ gE A i j ∧ gE A i j ≤ 20)
    (hs : Ints w sv L) (hll : L.length = l) (k1 : 1 ≤ k) (l1 : 1 ≤ l) (hk5 : k ≤ 5) (hl5 : l ≤ 5) (f2 : ∀ t, t < l → 0 ≤ L.getD t 0 ∧ L.getD t 0 ≤ 1000000000) :
    Calls Try.prog 94 #[.iface 151 (.slice (some ⟨b, off, none⟩) k c), sv] w fun e w' => ∃ g, e = .returned (.slice (some ⟨g, 0, none⟩) k k) ∧ FreshI w.heap.size w' (.slice (some ⟨g, 0, none⟩) k k) (payL (fun o t => gE A o t) L k l) ∧ Below w.heap.size w w' :=
  payoffsAgainst_row b off c k l (fun o t => gE A o t) sv L w (fun w' h => by have := choices_row _ A w' (hA.below h); rw [hk] at this; exact this) (fun w' h o t ho ht => gets_row b off c k l A o t w' (hT.next h) ho ht hk5 hl5) hs hll k1 hk5 l1 hl5 (fun o t ho ht => ae o t ho ht) f2
set_option maxHeartbeats 2000000 in
theorem pay_col (b off c k l : Nat) (B : List (List Int)) (sv : Value) (L : List Int) (w : World) (hB : PM.Rows w (.slice (some ⟨b, off, none⟩) k c) B) (hk : B.length = k) (h0 : (B.getD 0 []).length = l) (hT : TabAt w b off B k l) (be : ∀ i j, i < k → j < l → 1 ≤ gE B i j ∧ gE B i j ≤ 20)
    (hs : Ints w sv L) (hll : L.length = k) (k1 : 1 ≤ k) (l1 : 1 ≤ l) (hk5 : k ≤ 5) (hl5 : l ≤ 5) (f2 : ∀ t, t < k → 0 ≤ L.getD t 0 ∧ L.getD t 0 ≤ 1000000000) :
    Calls Try.prog 94 #[.iface 152 (.slice (some ⟨b, off, none⟩) k c), sv] w fun e w' => ∃ g, e = .returned (.slice (some ⟨g, 0, none⟩) l l) ∧ FreshI w.heap.size w' (.slice (some ⟨g, 0, none⟩) l l) (payL (fun o t => gE B t o) L l k) ∧ Below w.heap.size w w' :=
  payoffsAgainst_col b off c l k (fun o t => gE B t o) sv L w (fun w' h => choices_col _ B l w' (hB.below h) (by omega) h0) (fun w' h o t ho ht => gets_col b off c k l B t o w' (hT.next h) ht ho hk5 hl5) hs hll l1 hl5 k1 hk5 (fun o t ho ht => be t o ht ho) f2
theorem payL_bd {G : Nat → Nat → Int} {S : List Int} {n m : Nat} (hm : m ≤ 5) (hG : ∀ o t, o < n → t < m → 1 ≤ G o t ∧ G o t ≤ 20) (hS : ∀ t, t < m → 0 ≤ S.getD t 0 ∧ S.getD t 0 ≤ 1000000000) (o : Nat) (ho : o < n) : 0 ≤ (payL G S n m).getD o 0 ∧ (payL G S n m).getD o 0 ≤ 100000000000 := by
  have := payTo_bd (G := G) (S := S) (o := o) (m := m) (fun t ht => hG o t ho ht) hS m (Nat.le_refl _)
  rw [show (payL G S n m).getD o 0 = payTo G S o m by simp [payL, ho]]
  omega
theorem own_bd {S P : List Int} {n : Nat} (hS : ∀ t, t < n → 0 ≤ S.getD t 0 ∧ S.getD t 0 ≤ 30000) (hP : ∀ t, t < n → 0 ≤ P.getD t 0 ∧ P.getD t 0 ≤ 100000000000) : ∀ j, j ≤ n → 0 ≤ ownS S P j ∧ ownS S P j ≤ 3000000000000000 * j := by
  intro j
  induction j with
  | zero => intro _; simp [ownS]
  | succ j ih =>
    intro hj
    have h := ih (by omega)
    have a := hS j (by omega)
    have b := hP j (by omega)
    have h1 := Int.mul_nonneg a.1 b.1
    have h2 := Int.mul_le_mul a.2 b.2 b.1 (by decide)
    simp only [ownS]
    omega
theorem sm_ints {s : Nat} {wr : World} {x0 x1 : Int} (h : Sm s wr x0 x1) (h0 : I64 x0) (h1 : I64 x1) : Ints wr (.slice (some ⟨s, 0, none⟩) 2 2) [x0, x1] := by
  refine ⟨some ⟨s, 0, none⟩, 2, rfl, by simp, by unfold maxLen; omega, fun x hx => ?_, .inr ⟨s, 0, rfl, h.z, fun i hi => ?_⟩⟩
  · simp at hx; rcases hx with rfl | rfl <;> assumption
  · have hc : i = 0 ∨ i = 1 := by simp at hi; omega
    rcases hc with rfl | rfl
    · simpa using h.q0
    · simpa using h.q1

theorem mixCode_of {X : List (Int × Int)} {n : Nat} {L : List Int} {d : Int} (h : mixOut X n = some (L, d)) : mixCode X n 30000 = if 30000 < d then 3 else 0 := by unfold mixCode; rw [h]
theorem pay_big {A B : List (List Int)} {X Y : List (Int × Int)} {L0 L1 : List Int} {d0 d1 : Int} (hg : isGB A B = true) (h0 : mixOut X A.length = some (L0, d0)) (h1 : mixOut Y (gcols A) = some (L1, d1)) (h : 30000 < d0 ∨ 30000 < d1) : paOut A B X Y = ((0, 0), (0, 0), 3) := by
  have hc : bothCode A B X Y 30000 = 3 := by
    rw [bothCode_ok hg (mixCode_of h0) (mixCode_of h1)]
    by_cases e0 : 30000 < d0 <;> by_cases e1 : 30000 < d1 <;> simp [e0, e1] <;> omega
  rw [paOut_err (by rw [hc]; decide), hc]
theorem pay_small {A B : List (List Int)} {X Y : List (Int × Int)} {L0 L1 : List Int} {d0 d1 : Int} (hg : isGB A B = true) (h0 : mixOut X A.length = some (L0, d0)) (h1 : mixOut Y (gcols A) = some (L1, d1)) (h : ¬ (30000 < d0 ∨ 30000 < d1)) : paOut A B X Y = paF (paE A L0 L1 A.length (gcols A)) (paE B L0 L1 A.length (gcols A)) (d0 * d1) := by
  have hc : bothCode A B X Y 30000 = 0 := by
    rw [bothCode_ok hg (mixCode_of h0) (mixCode_of h1)]
    have e0 : ¬ 30000 < d0 := fun c => h (.inl c)
    have e1 : ¬ 30000 < d1 := fun c => h (.inr c)
    simp [e0, e1]
  exact paOut_ok hc h0 h1
theorem pay_chk {A B : List (List Int)} {X Y : List (Int × Int)} (h : chkCode A B X Y ≠ 0) : paOut A B X Y = ((0, 0), (0, 0), chkCode A B X Y) := by
  have hc : bothCode A B X Y 30000 = chkCode A B X Y := by
    cases hg : isGB A B
    · rw [bothCode_no hg, chk_no hg]
    · cases hx : mixOut X A.length with
      | none => rw [chk_x hg hx, bothCode_ok hg (mixCode_n hx) rfl, if_pos (.inl rfl)]
      | some a =>
        obtain ⟨L, d⟩ := a
        cases hy : mixOut Y (gcols A) with
        | none => rw [chk_y hg hy, bothCode_ok hg rfl (mixCode_n hy), if_pos (.inr rfl)]
        | some b => exact absurd (chk_ok hg hx hy) h
  rw [paOut_err (by rw [hc]; exact h), hc]
theorem paF_lim (P Q d : Int) : (limOk d [P, Q] = false → paF P Q d = ((0, 0), (0, 0), 3)) ∧ (limOk d [P, Q] = true → paF P Q d = (limF d P, limF d Q, 0)) := by
  unfold paF limOk limF
  cases h1 : FM.isF (FM.redN P d) (FM.redD P d) <;> cases h2 : FM.isF (FM.redN Q d) (FM.redD Q d) <;> simp [h1, h2]

set_option maxRecDepth 100000 in
set_option maxHeartbeats 16000000 in
theorem implPayoffsAt_any (m q x y : Value) (A B : List (List Int)) (X Y : List (Int × Int)) (w : World) (h1 : PM.Rows w m A) (h2 : PM.Rows w q B) (h3 : Frs w x X) (h4 : Frs w y Y) (hs : tot A ≤ 1048576) :
    Calls Try.prog 45 #[.agg #[m, q], x, y] w fun e w' => e = .returned (.tuple #[.agg #[.int .i64 (paOut A B X Y).1.1, .int .i64 (paOut A B X Y).1.2], .agg #[.int .i64 (paOut A B X Y).2.1.1, .int .i64 (paOut A B X Y).2.1.2], .int .i64 (paOut A B X Y).2.2]) ∧ Below w.heap.size w w' := by
  have hmx : Try.prog.follows .mixedOrders = true := by kernel_rfl
  have HCM := Lib.hid (fun (w' : World) (h : Below w.heap.size w w') => checkMixes_any m q x y A B X Y w' (h1.below h) (h2.below h) (h3.below h) (h4.below h) hs)
  have H1 := Lib.hid h1
  have H2 := Lib.hid h2
  obtain ⟨a1, c1, rfl, _⟩ := h1
  obtain ⟨a2, c2, rfl, _⟩ := h2
  obtain ⟨a3, c3, rfl, _⟩ := h3
  obtain ⟨a4, c4, rfl, _⟩ := h4
  obtain ⟨W0, hW0⟩ : ∃ W0, W0 = ((w.alloc (.cells #[.slice a1 A.length c1, .slice a2 B.length c2] 43)).alloc (.cells #[.int .i64 0, .int .i64 0] 61)).alloc (.cells #[.int .i64 0, .int .i64 0] 61) := ⟨_, rfl⟩
  have HG0 : Hid (Pb w W0 (.slice a1 A.length c1) (.slice a2 B.length c2)) := by rw [hW0]; exact pb_new _ _ _
  have x0 : W0.cell? ⟨w.heap.size, 0, none⟩ = some (.slice a1 A.length c1) := HG0.out.k0
  have x1 : W0.cell? ⟨w.heap.size, 1, none⟩ = some (.slice a2 B.length c2) := HG0.out.k1
  have HW0 := Lib.hid hW0
  clear hW0
  go_enter Try.func45, Try.ntmps45
  go_wp2_with fail
  rw [← HW0.out]
  refine (HCM.out _ HG0.out.b).mono ?_
  rintro e w1 (⟨hne, rfl, hb1⟩ | ⟨hgb, r0, r1, rfl, hT, hb1⟩)
  · have HO := Lib.hid (pay_chk (A := A) (B := B) (X := X) (Y := Y) hne)
    generalize chkCode A B X Y = BC at *
    have hCb : (BC != 0) = true := by simp; exact hne
    obtain ⟨hw1, k0, k1, r0, r1, r2, r3, f0, f1, f2, f3, hz1⟩ := HG0.out.next hb1
    have hn1 : w.heap.size + 1 ≠ w1.heap.size := by omega
    have hn2 : w.heap.size + 1 + 1 ≠ w1.heap.size := by omega
    have hn4 : w.heap.size + 1 < w1.heap.size := by omega
    clear hb1 hne
    go_wp2_with fail
    refine bodyPost_ret (v := .tuple #[.agg #[.int .i64 0, .int .i64 0], .agg #[.int .i64 0, .int .i64 0], .int .i64 BC]) (by simp [*, results, Try.results45, go_sem]) rfl ?_
    rw [HO.out]
    refine ⟨rfl, ?_⟩
    (repeat' (first | (with_reducible exact Below.refl _ _) | (with_reducible assumption) | (with_reducible refine Below.alloc ?_ ?_ _) | (with_reducible refine Below.drew ?_) | (with_reducible refine below_drewN ?_ _) | (with_reducible refine Below.setCell ?_ ?_ _) | (with_reducible refine Below.trans ?_ (Below.mono (by with_reducible assumption) ?_)) | (with_reducible exact Below.size (by with_reducible assumption)) | go_size))
  · obtain ⟨k1, l1, n5, bk, al, bl, ae, be⟩ := (isGB_iff A B).1 hgb
    obtain ⟨_, _, h3', h4'⟩ := hT
    obtain ⟨L0, d0, g0, hm0, rfl, hF0⟩ := h3' (by omega)
    obtain ⟨L1, d1, g1, hm1, rfl, hF1, _⟩ := h4' (by omega)
    obtain ⟨p1, p2, p3, _⟩ := mix_facts hm0
    obtain ⟨q1, q2, q3, _⟩ := mix_facts hm1
    have hk5 : A.length ≤ 5 := by omega
    have hl5 : gcols A ≤ 5 := by omega
    obtain ⟨b, off, c, hva, hA⟩ := tab_at H1.out k1 l1 al
    obtain ⟨qb, qo, qc, hvb, hB⟩ := tab_at H2.out (by omega) l1 (fun i hi => bl i (by omega))
    simp only [Value.slice.injEq, true_and] at hva hvb
    obtain ⟨rfl, rfl⟩ := hva
    obtain ⟨rfl, rfl⟩ := hvb
    have hTA : TabAt w b off A A.length (gcols A) := hA
    have hTB : TabAt w qb qo B A.length (gcols A) := fun wr hw i hi => hB wr hw i (by omega)
    have HPR := Lib.hid (fun (w' : World) (h : Below w.heap.size w w') (hi : Ints w' (.slice (some ⟨g1, 0, none⟩) (gcols A) (gcols A)) L1) => pay_row b off c1 A.length (gcols A) A _ L1 w' (H1.out.below h) rfl (hTA.next h) ae hi q1 k1 l1 hk5 hl5 q2)
    have H2' := H2.out
    rw [bk] at H2'
    have HPC : Hid (∀ (w' : World), Below w.heap.size w w' → Ints w' (.slice (some ⟨g0, 0, none⟩) A.length A.length) L0 → Calls Try.prog 94 #[.iface 152 (.slice (some ⟨qb, qo, none⟩) B.length c2), .slice (some ⟨g0, 0, none⟩) A.length A.length] w' fun e w2 => ∃ g, e = .returned (.slice (some ⟨g, 0, none⟩) (gcols A) (gcols A)) ∧ FreshI w'.heap.size w2 (.slice (some ⟨g, 0, none⟩) (gcols A) (gcols A)) (payL (fun o t => gE B t o) L0 (gcols A) A.length) ∧ Below w'.heap.size w' w2) := by
      rw [bk]
      exact Lib.hid (fun w' h hi => pay_col qb qo c2 A.length (gcols A) B _ L0 w' (H2'.below h) bk (bl 0 (by omega)) (hTB.next h) be hi p1 k1 l1 hk5 hl5 p2)
    have HPB0 := Lib.hid (payL_bd (G := fun o t => gE A o t) (S := L1) (n := A.length) (m := gcols A) hl5 ae q2)
    have HPB1 := Lib.hid (payL_bd (G := fun o t => gE B t o) (S := L0) (n := gcols A) (m := A.length) hk5 (fun o t ho ht => be t o ht ho) p2)
    clear H2' hA hB hTA hTB x0 x1 HCM
    obtain ⟨s0, pd, pp⟩ := mix_sum hm0
    obtain ⟨s1, qd, qq⟩ := mix_sum hm1
    have HBG := Lib.hid (pay_big hgb hm0 hm1)
    have HSM := Lib.hid (pay_small hgb hm0 hm1)
    obtain ⟨W2, hW2⟩ : ∃ W2, W2 = w1.alloc (.cells #[.slice (some ⟨g0, 0, none⟩) A.length A.length, .slice (some ⟨g1, 0, none⟩) (gcols A) (gcols A)] 117) := ⟨_, rfl⟩
    have hb12 : Below w1.heap.size w1 W2 := by rw [hW2]; exact (Below.refl _ _).alloc (Nat.le_refl _) _
    have hG1 := HG0.out.next hb1
    have hG2 := hG1.next hb12
    have y0 : W2.cell? ⟨w1.heap.size, 0, none⟩ = some (.slice (some ⟨g0, 0, none⟩) A.length A.length) := by rw [hW2]; simp
    have y1 : W2.cell? ⟨w1.heap.size, 1, none⟩ = some (.slice (some ⟨g1, 0, none⟩) (gcols A) (gcols A)) := by rw [hW2]; simp
    have hz2 : w1.heap.size < W2.heap.size := by rw [hW2]; simp
    have i0 := (freshI_ints hF0 p3).below hb12
    have i1 := (freshI_ints hF1 q3).below hb12
    have HS0 := Lib.hid (fun (w' : World) (h : Below W2.heap.size W2 w') => sumOf_any _ L0 w' (i0.below h) (by omega) (fun i hi => by have := pp i (by omega); have := (p2 i (by omega)); omega))
    have HS1 := Lib.hid (fun (w' : World) (h : Below W2.heap.size W2 w') => sumOf_any _ L1 w' (i1.below h) (by omega) (fun i hi => by have := qq i (by omega); have := (q2 i (by omega)); omega))
    rw [p1, s0] at HS0
    rw [q1, s1] at HS1
    have HK := Lib.hid (fun wr (h : Below W2.heap.size W2 wr) => show Pb w wr (.slice (some ⟨b, off, none⟩) A.length c1) (.slice (some ⟨qb, qo, none⟩) B.length c2) ∧ wr.cell? ⟨w1.heap.size, 0, none⟩ = some (.slice (some ⟨g0, 0, none⟩) A.length A.length) ∧ wr.cell? ⟨w1.heap.size, 1, none⟩ = some (.slice (some ⟨g1, 0, none⟩) (gcols A) (gcols A)) from
      ⟨hG2.next h, (h.cell (p := ⟨w1.heap.size, 0, none⟩) hz2).trans y0, (h.cell (p := ⟨w1.heap.size, 1, none⟩) hz2).trans y1⟩)
    have hc0 : ∀ j, j < A.length → w1.cell? ⟨g0, j, none⟩ = some (.int .i64 (L0.getD j 0)) := fun j hj => by
      obtain ⟨_, _, _, _, _, hoo⟩ := id hF0
      rw [own_cellN hoo p1.symm (by omega)]
    have hc1 : ∀ j, j < gcols A → w1.cell? ⟨g1, j, none⟩ = some (.int .i64 (L1.getD j 0)) := fun j hj => by
      obtain ⟨_, _, _, _, _, hoo⟩ := id hF1
      rw [own_cellN hoo q1.symm (by omega)]
    have hg0 : g0 < w1.heap.size := by
      obtain ⟨_, _, hvv, _⟩ := id hF0
      simp at hvv; omega
    have hg1 : g1 < w1.heap.size := by
      obtain ⟨_, _, hvv, _⟩ := id hF1
      simp at hvv; omega
    have HC0 := Lib.hid (fun wr (h : Below W2.heap.size W2 wr) j (hj : j < A.length) => ((hb12.trans (h.mono hb12.size)).cell (p := ⟨g0, j, none⟩) hg0).trans (hc0 j hj))
    have HC1 := Lib.hid (fun wr (h : Below W2.heap.size W2 wr) j (hj : j < gcols A) => ((hb12.trans (h.mono hb12.size)).cell (p := ⟨g1, j, none⟩) hg1).trans (hc1 j hj))
    clear hc0 hc1 hg0 hg1
    have HOO := Lib.hid (own_one A L0 L1 A.length (gcols A))
    have HOT := Lib.hid (own_two B L0 L1 A.length (gcols A))
    have HW2 := Lib.hid hW2
    have HF0 := Lib.hid hF0
    have HF1 := Lib.hid hF1
    have HI0 := Lib.hid i0
    have HI1 := Lib.hid i1
    have HPP := Lib.hid pp
    have HQQ := Lib.hid qq
    have HG2 := Lib.hid hG2
    have HZ1 := Lib.hid (show w.heap.size + 1 + 1 < w1.heap.size from hG1.z)
    have HNN := Lib.hid (show 1 ≤ A.length ∧ 1 ≤ gcols A ∧ A.length + gcols A ≤ 5 ∧ B.length = A.length from ⟨k1, l1, n5, bk⟩)
    have HGB := Lib.hid hgb
    clear k1 l1 n5 bk hgb
    have k0 := hG1.k0
    have k1 := hG1.k1
    clear hG1 hG2 hF0 hF1 i0 i1 pp qq y0 y1 hW2 hb12 h3' h4' p1 p2 p3 q1 q2 q3 s0 s1 hm0 hm1 hb1 al bl ae be
    go_upto_region 4 with fail
    rw [← HW2.out]
    go_cut [11] (fun s11 wx => s11 = .pointer (some ⟨W2.heap.size, 0, none⟩) ∧ wx.cell? ⟨W2.heap.size, 0, none⟩ = some (.int .i64 d0) ∧ wx.cell? ⟨W2.heap.size, 1, none⟩ = some (.int .i64 d1) ∧ wx.heap.size = W2.heap.size + 1 ∧ Below W2.heap.size W2 wx)
    case first =>
      obtain ⟨-, y0, y1⟩ := HK.out _ (Below.refl _ _)
      go_wp2_with fail
      rename_i K0 hK0
      refine (wpIn_wide (n := 8)).1 ?_
      refine PR.wpIn_region_inv hmx (by kernel_rfl) (fun listed ac w' =>
          ∃ (b0 b1 b2 b3 b4 b5 b6 b7 b8 : Bool), ((b1 = true → b0 = true) ∧ (b2 = true → b1 = true) ∧ (b4 = true → b3 = true) ∧ (b5 = true → b4 = true ∧ b2 = true) ∧ (b6 = true → b2 = true ∧ b5 = true) ∧ (b8 = true → b7 = true ∧ b6 = true)) ∧ listed = #[b0, b1, b2, b3, b4, b5, b6, b7, b8] ∧
            ac = { tmps := #[.agg #[.slice (some ⟨b, off, none⟩) A.length c1, .slice (some ⟨qb, qo, none⟩) B.length c2], .slice a3 X.length c3, .slice a4 Y.length c4, .pointer (some ⟨w.heap.size, 0, none⟩), undef, undef, .pointer (some ⟨w.heap.size + 1, 0, none⟩), .pointer (some ⟨w.heap.size + 1 + 1, 0, none⟩), .int .i64 0, .pointer (some ⟨w1.heap.size, 0, none⟩), .int .i64 0, cond b7 (.pointer (some ⟨W2.heap.size, 0, none⟩)) undef, undef, undef, undef, undef, undef, undef, .tuple #[.agg #[.slice (some ⟨g0, 0, none⟩) A.length A.length, .slice (some ⟨g1, 0, none⟩) (gcols A) (gcols A)], .int .i64 0], .agg #[.slice (some ⟨b, off, none⟩) A.length c1, .slice (some ⟨qb, qo, none⟩) B.length c2], .slice a3 X.length c3, .slice a4 Y.length c4, .agg #[.slice a3 X.length c3, .slice a4 Y.length c4], .tuple #[.agg #[.slice (some ⟨g0, 0, none⟩) A.length A.length, .slice (some ⟨g1, 0, none⟩) (gcols A) (gcols A)], .int .i64 0], .agg #[.slice (some ⟨g0, 0, none⟩) A.length A.length, .slice (some ⟨g1, 0, none⟩) (gcols A) (gcols A)], .int .i64 0, .int .i64 0, .bool false, undef, undef, undef, cond b0 (.pointer (some ⟨w1.heap.size, 0, none⟩)) undef, cond b1 (.slice (some ⟨g0, 0, none⟩) A.length A.length) undef, cond b2 (.int .i64 d0) undef, cond b3 (.pointer (some ⟨w1.heap.size, 1, none⟩)) undef, cond b4 (.slice (some ⟨g1, 0, none⟩) (gcols A) (gcols A)) undef, cond b5 (.int .i64 d1) undef, cond b6 (.agg #[.int .i64 d0, .int .i64 d1]) undef, undef, undef, undef, undef, undef, undef, undef, undef, undef, undef, undef, undef, undef, undef, undef, undef, undef, undef, undef, undef, undef, undef, undef, undef, undef, undef, undef, undef, undef, undef, undef, undef, undef, undef, undef, undef, undef, undef, undef, undef, undef, undef, undef, undef, undef, undef, undef, undef, undef, undef, undef, undef, undef, undef, undef, undef, undef, undef, undef, undef, undef, undef], defers := [] } ∧ DnR W2 w' d0 d1 b7 b8) ?_ ?_ ?_ ?_
      · rintro listed ac w' ⟨b0, b1, b2, b3, b4, b5, b6, b7, b8, _, rfl, _⟩
        rfl
      · rintro listed ac w' ⟨b0, b1, b2, b3, b4, b5, b6, b7, b8, _, rfl, rfl, hR⟩ hall
        have h0 := hall 0 (by simp)
        have h1 := hall 1 (by simp)
        have h2 := hall 2 (by simp)
        have h3 := hall 3 (by simp)
        have h4 := hall 4 (by simp)
        have h5 := hall 5 (by simp)
        have h6 := hall 6 (by simp)
        have h7 := hall 7 (by simp)
        have h8 := hall 8 (by simp)
        simp at h0 h1 h2 h3 h4 h5 h6 h7 h8
        subst h0 h1 h2 h3 h4 h5 h6 h7 h8
        clear hall
        refine hK0 _ _ ?_
        simp only [cond_true]
        have HR := Lib.hid hR
        clear hR
        go_wp2_with fail
        go_meet
        exact ⟨rfl, (HR.out.st rfl).1, (HR.out.st rfl).2.1, (HR.out.st rfl).2.2, HR.out.low⟩
      · exact ⟨false, false, false, false, false, false, false, false, false, by simp, rfl, rfl, dnR_start W2 d0 d1⟩
      · rintro listed ac w' i oi ⟨b0, b1, b2, b3, b4, b5, b6, b7, b8, ⟨e1, e2, e4, e5, e6, e8⟩, rfl, rfl, hR⟩ ho hun hdep
        have hi : i < 9 := by simpa using (Array.getElem?_eq_some_iff.1 ho).1
        obtain rfl | rfl | rfl | rfl | rfl | rfl | rfl | rfl | rfl : i = 0 ∨ i = 1 ∨ i = 2 ∨ i = 3 ∨ i = 4 ∨ i = 5 ∨ i = 6 ∨ i = 7 ∨ i = 8 := by omega
        · -- 0
          simp only [List.getElem?_toArray, List.getElem?_cons_zero, Option.some.injEq] at ho
          subst ho
          have hbi : b0 = false := by simpa using hun
          subst hbi
          obtain rfl : b1 = false := Bool.eq_false_iff.2 (fun h => Bool.noConfusion (e1 h))
          obtain rfl : b2 = false := Bool.eq_false_iff.2 (fun h => Bool.noConfusion (e2 h))
          obtain rfl : b5 = false := Bool.eq_false_iff.2 (fun h => Bool.noConfusion (e5 h).2)
          obtain rfl : b6 = false := Bool.eq_false_iff.2 (fun h => Bool.noConfusion (e6 h).1)
          obtain rfl : b8 = false := Bool.eq_false_iff.2 (fun h => Bool.noConfusion (e8 h).2)
          refine wpOpIn_step rfl (fun K hK => ?_)
          clear hun hdep hi
          go_simp
          refine hK _ _ ⟨true, false, false, b3, b4, false, false, b7, false, ⟨fun h => Bool.noConfusion h, fun h => Bool.noConfusion h, e4, fun h => Bool.noConfusion h, fun h => Bool.noConfusion h, fun h => Bool.noConfusion h⟩, rfl, rfl, hR⟩
        · -- 1
          simp only [List.getElem?_toArray, List.getElem?_cons_succ, List.getElem?_cons_zero, Option.some.injEq] at ho
          subst ho
          have hbi : b1 = false := by simpa using hun
          subst hbi
          have hd0 : b0 = true := by have := hdep ⟨0, .data⟩ (by simp) rfl; simpa using this
          subst hd0
          obtain rfl : b2 = false := Bool.eq_false_iff.2 (fun h => Bool.noConfusion (e2 h))
          obtain rfl : b5 = false := Bool.eq_false_iff.2 (fun h => Bool.noConfusion (e5 h).2)
          obtain rfl : b6 = false := Bool.eq_false_iff.2 (fun h => Bool.noConfusion (e6 h).1)
          obtain rfl : b8 = false := Bool.eq_false_iff.2 (fun h => Bool.noConfusion (e8 h).2)
          refine wpOpIn_step rfl (fun K hK => ?_)
          clear hun hdep hi
          obtain ⟨-, t0, -⟩ := HK.out _ hR.low
          go_simp
          refine hK _ _ ⟨true, true, false, b3, b4, false, false, b7, false, ⟨fun _ => rfl, fun h => Bool.noConfusion h, e4, fun h => Bool.noConfusion h, fun h => Bool.noConfusion h, fun h => Bool.noConfusion h⟩, rfl, rfl, hR⟩
        · -- 2
          simp only [List.getElem?_toArray, List.getElem?_cons_succ, List.getElem?_cons_zero, Option.some.injEq] at ho
          subst ho
          have hbi : b2 = false := by simpa using hun
          subst hbi
          have hd1 : b1 = true := by have := hdep ⟨1, .data⟩ (by simp) rfl; simpa using this
          have hd0 : b0 = true := (e1 hd1)
          subst hd0 hd1
          obtain rfl : b5 = false := Bool.eq_false_iff.2 (fun h => Bool.noConfusion (e5 h).2)
          obtain rfl : b6 = false := Bool.eq_false_iff.2 (fun h => Bool.noConfusion (e6 h).1)
          obtain rfl : b8 = false := Bool.eq_false_iff.2 (fun h => Bool.noConfusion (e8 h).2)
          refine wpOpIn_step rfl (fun K hK => ?_)
          clear hun hdep hi
          go_simp
          refine ⟨trivial, (callsIn_wide.2 (HS0.out w' hR.low)).mono ?_⟩
          rintro e w'' ⟨rfl, rfl⟩
          refine hK _ _ ⟨true, true, true, b3, b4, false, false, b7, false, ⟨fun _ => rfl, fun _ => rfl, e4, fun h => Bool.noConfusion h, fun h => Bool.noConfusion h, fun h => Bool.noConfusion h⟩, rfl, rfl, hR⟩
        · -- 3
          simp only [List.getElem?_toArray, List.getElem?_cons_succ, List.getElem?_cons_zero, Option.some.injEq] at ho
          subst ho
          have hbi : b3 = false := by simpa using hun
          subst hbi
          obtain rfl : b4 = false := Bool.eq_false_iff.2 (fun h => Bool.noConfusion (e4 h))
          obtain rfl : b5 = false := Bool.eq_false_iff.2 (fun h => Bool.noConfusion (e5 h).1)
          obtain rfl : b6 = false := Bool.eq_false_iff.2 (fun h => Bool.noConfusion (e6 h).2)
          obtain rfl : b8 = false := Bool.eq_false_iff.2 (fun h => Bool.noConfusion (e8 h).2)
          refine wpOpIn_step rfl (fun K hK => ?_)
          clear hun hdep hi
          go_simp
          refine hK _ _ ⟨b0, b1, b2, true, false, false, false, b7, false, ⟨e1, e2, fun h => Bool.noConfusion h, fun h => Bool.noConfusion h, fun h => Bool.noConfusion h, fun h => Bool.noConfusion h⟩, rfl, rfl, hR⟩
        · -- 4
          simp only [List.getElem?_toArray, List.getElem?_cons_succ, List.getElem?_cons_zero, Option.some.injEq] at ho
          subst ho
          have hbi : b4 = false := by simpa using hun
          subst hbi
          have hd3 : b3 = true := by have := hdep ⟨3, .data⟩ (by simp) rfl; simpa using this
          subst hd3
          obtain rfl : b5 = false := Bool.eq_false_iff.2 (fun h => Bool.noConfusion (e5 h).1)
          obtain rfl : b6 = false := Bool.eq_false_iff.2 (fun h => Bool.noConfusion (e6 h).2)
          obtain rfl : b8 = false := Bool.eq_false_iff.2 (fun h => Bool.noConfusion (e8 h).2)
          refine wpOpIn_step rfl (fun K hK => ?_)
          clear hun hdep hi
          obtain ⟨-, -, t0⟩ := HK.out _ hR.low
          go_simp
          refine hK _ _ ⟨b0, b1, b2, true, true, false, false, b7, false, ⟨e1, e2, fun _ => rfl, fun h => Bool.noConfusion h, fun h => Bool.noConfusion h, fun h => Bool.noConfusion h⟩, rfl, rfl, hR⟩
        · -- 5
          simp only [List.getElem?_toArray, List.getElem?_cons_succ, List.getElem?_cons_zero, Option.some.injEq] at ho
          subst ho
          have hbi : b5 = false := by simpa using hun
          subst hbi
          have hd2 : b2 = true := by have := hdep ⟨2, .chain⟩ (by simp) rfl; simpa using this
          have hd4 : b4 = true := by have := hdep ⟨4, .data⟩ (by simp) rfl; simpa using this
          have hd3 : b3 = true := (e4 hd4)
          have hd1 : b1 = true := (e2 hd2)
          have hd0 : b0 = true := (e1 hd1)
          subst hd0 hd1 hd2 hd3 hd4
          obtain rfl : b6 = false := Bool.eq_false_iff.2 (fun h => Bool.noConfusion (e6 h).2)
          obtain rfl : b8 = false := Bool.eq_false_iff.2 (fun h => Bool.noConfusion (e8 h).2)
          refine wpOpIn_step rfl (fun K hK => ?_)
          clear hun hdep hi
          go_simp
          refine ⟨trivial, (callsIn_wide.2 (HS1.out w' hR.low)).mono ?_⟩
          rintro e w'' ⟨rfl, rfl⟩
          refine hK _ _ ⟨true, true, true, true, true, true, false, b7, false, ⟨fun _ => rfl, fun _ => rfl, fun _ => rfl, fun _ => ⟨rfl, rfl⟩, fun h => Bool.noConfusion h, fun h => Bool.noConfusion h⟩, rfl, rfl, hR⟩
        · -- 6
          simp only [List.getElem?_toArray, List.getElem?_cons_succ, List.getElem?_cons_zero, Option.some.injEq] at ho
          subst ho
          have hbi : b6 = false := by simpa using hun
          subst hbi
          have hd2 : b2 = true := by have := hdep ⟨2, .data⟩ (by simp) rfl; simpa using this
          have hd5 : b5 = true := by have := hdep ⟨5, .data⟩ (by simp) rfl; simpa using this
          have hd4 : b4 = true := (e5 hd5).1
          have hd3 : b3 = true := (e4 hd4)
          have hd1 : b1 = true := (e2 hd2)
          have hd0 : b0 = true := (e1 hd1)
          subst hd0 hd1 hd2 hd3 hd4 hd5
          obtain rfl : b8 = false := Bool.eq_false_iff.2 (fun h => Bool.noConfusion (e8 h).2)
          refine wpOpIn_step rfl (fun K hK => ?_)
          clear hun hdep hi
          go_simp
          refine hK _ _ ⟨true, true, true, true, true, true, true, b7, false, ⟨fun _ => rfl, fun _ => rfl, fun _ => rfl, fun _ => ⟨rfl, rfl⟩, fun _ => ⟨rfl, rfl⟩, fun h => Bool.noConfusion h⟩, rfl, rfl, hR⟩
        · -- 7
          simp only [List.getElem?_toArray, List.getElem?_cons_succ, List.getElem?_cons_zero, Option.some.injEq] at ho
          subst ho
          have hbi : b7 = false := by simpa using hun
          subst hbi
          obtain rfl : b8 = false := Bool.eq_false_iff.2 (fun h => Bool.noConfusion (e8 h).1)
          refine wpOpIn_step rfl (fun K hK => ?_)
          clear hun hdep hi
          have t0 := hR.no rfl
          go_simp
          refine hK _ _ ⟨b0, b1, b2, b3, b4, b5, b6, true, false, ⟨e1, e2, e4, e5, e6, fun h => Bool.noConfusion h⟩, rfl, rfl, hR.al_⟩
        · -- 8
          simp only [List.getElem?_toArray, List.getElem?_cons_succ, List.getElem?_cons_zero, Option.some.injEq] at ho
          subst ho
          have hbi : b8 = false := by simpa using hun
          subst hbi
          have hd6 : b6 = true := by have := hdep ⟨6, .data⟩ (by simp) rfl; simpa using this
          have hd7 : b7 = true := by have := hdep ⟨7, .data⟩ (by simp) rfl; simpa using this
          have hd5 : b5 = true := (e6 hd6).2
          have hd4 : b4 = true := (e5 hd5).1
          have hd3 : b3 = true := (e4 hd4)
          have hd2 : b2 = true := (e5 hd5).2
          have hd1 : b1 = true := (e2 hd2)
          have hd0 : b0 = true := (e1 hd1)
          subst hd0 hd1 hd2 hd3 hd4 hd5 hd6 hd7
          refine wpOpIn_step rfl (fun K hK => ?_)
          clear hun hdep hi
          obtain ⟨-, t0, t1, t2, t3⟩ := hR.al rfl rfl
          go_simp
          refine hK _ _ ⟨true, true, true, true, true, true, true, true, true, ⟨fun _ => rfl, fun _ => rfl, fun _ => rfl, fun _ => ⟨rfl, rfl⟩, fun _ => ⟨rfl, rfl⟩, fun _ => ⟨rfl, rfl⟩⟩, rfl, rfl, hR.st_⟩
    case rest =>
      obtain ⟨rfl, e0, e1, hzc, hbc⟩ := hcut
      obtain ⟨hP, m0, m1⟩ := HK.out _ hbc
      have hzm : w1.heap.size < W2.heap.size := hz2
      have HKC := Lib.hid (fun wr (h : Below wc.heap.size wc wr) => show Pb w wr (.slice (some ⟨b, off, none⟩) A.length c1) (.slice (some ⟨qb, qo, none⟩) B.length c2) ∧ wr.cell? ⟨w1.heap.size, 0, none⟩ = some (.slice (some ⟨g0, 0, none⟩) A.length A.length) ∧ wr.cell? ⟨w1.heap.size, 1, none⟩ = some (.slice (some ⟨g1, 0, none⟩) (gcols A) (gcols A)) ∧ wr.cell? ⟨W2.heap.size, 0, none⟩ = some (.int .i64 d0) ∧ wr.cell? ⟨W2.heap.size, 1, none⟩ = some (.int .i64 d1) from
        ⟨hP.next h, (h.cell (p := ⟨w1.heap.size, 0, none⟩) (show w1.heap.size < _ by omega)).trans m0, (h.cell (p := ⟨w1.heap.size, 1, none⟩) (show w1.heap.size < _ by omega)).trans m1,
          (h.cell (p := ⟨W2.heap.size, 0, none⟩) (show W2.heap.size < _ by omega)).trans e0, (h.cell (p := ⟨W2.heap.size, 1, none⟩) (show W2.heap.size < _ by omega)).trans e1⟩)
      have HZC := Lib.hid hzc
      have HBC := Lib.hid hbc
      obtain ⟨hwc, k0, k1, r0, r1, r2, r3, f0, f1, f2, f3, -⟩ := hP
      clear hzc hbc hz2 HG0 HW0 HK HS0 HS1 HW2
      by_cases hgt : 30000 < d0 ∨ 30000 < d1
      · have HO := Lib.hid (HBG.out hgt)
        have hgx : 30000 < max d0 d1 := by omega
        clear hgt
        have hn1 : w.heap.size + 1 ≠ wc.heap.size := by have := HZ1.out; have := HZC.out; omega
        go_wp2_with fail
        refine bodyPost_ret (v := .tuple #[.agg #[.int .i64 0, .int .i64 0], .agg #[.int .i64 0, .int .i64 0], .int .i64 3]) (by simp [*, results, Try.results45, go_sem]) rfl ?_
        rw [HO.out]
        refine ⟨rfl, ?_⟩
        (repeat' (first | (with_reducible exact Below.refl _ _) | (with_reducible assumption) | (with_reducible refine Below.alloc ?_ ?_ _) | (with_reducible refine Below.drew ?_) | (with_reducible refine below_drewN ?_ _) | (with_reducible refine Below.setCell ?_ ?_ _) | (with_reducible refine Below.trans ?_ (Below.mono (by with_reducible assumption) ?_)) | (with_reducible exact Below.size (by with_reducible assumption)) | go_size))
      · have HO := Lib.hid (HSM.out hgt)
        have hgx : ¬ 30000 < max d0 d1 := by omega
        have HGT := Lib.hid (show d0 ≤ 30000 ∧ d1 ≤ 30000 by omega)
        clear hgt r0 r1 r2 r3 f0 f1 f2 f3
        have hz0 : w.heap.size < wc.heap.size := by have := HZ1.out; have := HZC.out; omega
        have HPL0 := Lib.hid (show (payL (fun o t => gE A o t) L1 A.length (gcols A)).length = A.length by simp [payL])
        have HPL1 := Lib.hid (show (payL (fun o t => gE B t o) L0 (gcols A) A.length).length = gcols A by simp [payL])
        generalize payL (fun o t => gE A o t) L1 A.length (gcols A) = P0 at *
        generalize payL (fun o t => gE B t o) L0 (gcols A) A.length = P1 at *
        have HLP0 := Lib.hid HPL0.out
        have HLP1 := Lib.hid HPL1.out
        have HS30 := Lib.hid (fun t (ht : t < A.length) => show 0 ≤ L0.getD t 0 ∧ L0.getD t 0 ≤ 30000 from by have := HPP.out t ht; have := HGT.out; omega)
        have HS31 := Lib.hid (fun t (ht : t < gcols A) => show 0 ≤ L1.getD t 0 ∧ L1.getD t 0 ≤ 30000 from by have := HQQ.out t ht; have := HGT.out; omega)
        have HOB0 := Lib.hid (fun j (hj : j < A.length) => show (0 ≤ ownS L0 P0 j ∧ ownS L0 P0 j ≤ 15000000000000000) ∧ 0 ≤ L0.getD j 0 * P0.getD j 0 ∧ L0.getD j 0 * P0.getD j 0 ≤ 3000000000000000 from by
          have h := own_bd HS30.out HPB0.out j (by omega)
          have a := HS30.out j hj
          have b := HPB0.out j hj
          have h1 := Int.mul_nonneg a.1 b.1
          have h2 := Int.mul_le_mul a.2 b.2 b.1 (by decide)
          omega)
        have HOB1 := Lib.hid (fun j (hj : j < gcols A) => show (0 ≤ ownS L1 P1 j ∧ ownS L1 P1 j ≤ 15000000000000000) ∧ 0 ≤ L1.getD j 0 * P1.getD j 0 ∧ L1.getD j 0 * P1.getD j 0 ≤ 3000000000000000 from by
          have h := own_bd HS31.out HPB1.out j (by omega)
          have a := HS31.out j hj
          have b := HPB1.out j hj
          have h1 := Int.mul_nonneg a.1 b.1
          have h2 := Int.mul_le_mul a.2 b.2 b.1 (by decide)
          omega)
        have HFA := Lib.hid (own_bd HS30.out HPB0.out A.length (Nat.le_refl _))
        have HFB := Lib.hid (own_bd HS31.out HPB1.out (gcols A) (Nat.le_refl _))
        have HK5 := Lib.hid (show A.length ≤ 5 ∧ gcols A ≤ 5 from ⟨hk5, hl5⟩)
        have HWC := Lib.hid hwc
        have HBC2 := Lib.hid HBC.out
        have hx0 := run_index2_0 (P := Try.prog) 105 104 (by kernel_rfl) (by kernel_rfl) (by kernel_rfl)
        have hx1 := run_index2_1 (P := Try.prog) 105 104 (by kernel_rfl) (by kernel_rfl) (by kernel_rfl)
        obtain ⟨W3, hW3⟩ : ∃ W3, W3 = wc.alloc (.cells #[.int .i64 0, .int .i64 0] 123) := ⟨_, rfl⟩
        have hb3 : Below wc.heap.size wc W3 := by rw [hW3]; exact (Below.refl _ _).alloc (Nat.le_refl _) _
        have hs3 : Sm wc.heap.size W3 0 0 := by
          rw [hW3]
          refine ⟨?_, ?_, ?_, ?_, ?_⟩ <;> simp [go_sem]
        have HW3 := Lib.hid hW3
        have HB3 := Lib.hid hb3
        have HS3 := Lib.hid hs3
        clear HBC HPL0 HPL1 hk5 hl5 HS30 HS31 HPB0 HPB1 hwc hW3 hb3 hs3 hzm
        go_wp2_with fail
        rw [← HW3.out]
        refine (playersOf_any _ _ _ _ _ _ _).mono ?_; rintro e w5 ⟨rfl, hb5⟩
        have HB5 := Lib.hid (HB3.out.trans (hb5.mono HB3.out.size))
        have HS5 := Lib.hid (HS3.out.next hb5)
        clear hb5 HB3 HS3 HW3 m0 m1 k0 k1 e0 e1 hgx
        go_wp2_with fail
        go_loopw [13, 14, 15, 16, 48] (fun _ _ _ _ c wr => ∃ (i : Nat) (x0 x1 : Int), i ≤ 2 ∧ c = .int .i64 i ∧ Below wc.heap.size wc wr ∧ Sm wc.heap.size wr x0 x1 ∧ Hid ((i = 0 ∧ x0 = 0 ∧ x1 = 0) ∨ (i = 1 ∧ x0 = ownS L0 P0 A.length ∧ x1 = 0) ∨ (i = 2 ∧ x0 = ownS L0 P0 A.length ∧ x1 = ownS L1 P1 (gcols A)))) (fun _ _ _ _ c _ => 2 - (intOf c).toNat)
        case atStart => exact ⟨0, 0, 0, by omega, rfl, HB5.out, HS5.out, Lib.hid (.inl ⟨rfl, rfl, rfl⟩)⟩
        case round =>
        obtain ⟨i, z0, z1, hi, rfl, hB, hS, hG⟩ := hrel
        obtain ⟨Wr, rfl⟩ : ∃ W, W = wr := ⟨_, rfl⟩
        have HBr := Lib.hid hB
        rcases hG.out with ⟨rfl, rfl, rfl⟩ | ⟨rfl, rfl, rfl⟩ | ⟨rfl, rfl, rfl⟩
        · have HBC := Lib.hid (HPR.out Wr (HWC.out.trans (hB.mono HWC.out.size)) (HI1.out.below (HBC2.out.trans (hB.mono HBC2.out.size))))
          have HSr := Lib.hid hS
          obtain ⟨-, m0, m1, -, -⟩ := HKC.out _ hB
          clear hB hS hG
          go_wp2_with fail
          refine HBC.out.mono ?_; rintro e w6 ⟨g, rfl, hF, hb6⟩
          have HB6 := Lib.hid (HBr.out.trans (hb6.mono HBr.out.size))
          have HS6 := Lib.hid (HSr.out.next hb6)
          have HP6 : Hid (∀ t, t < A.length → w6.cell? ⟨g, t, none⟩ = some (.int .i64 (P0.getD t 0))) := Lib.hid (fun t ht => by
            obtain ⟨_, _, _, _, _, hoo⟩ := id hF
            rw [own_cellN hoo HLP0.out.symm ht])
          have HNG : Hid (g ≠ wc.heap.size) := by
            have h1 := HSr.out.z
            obtain ⟨_, _, hvv, hgl, _, _⟩ := id hF
            exact Lib.hid (by simp at hvv; omega)
          clear hF hb6 HBC HSr m0 m1
          go_wp2_with fail
          go_loopw [15, 16, 59] (fun _ _ c wi => ∃ j : Nat, j ≤ A.length ∧ c = .int .i64 j ∧ Below wc.heap.size wc wi ∧ Sm wc.heap.size wi (ownS L0 P0 j) 0 ∧ Hid (∀ t, t < A.length → wi.cell? ⟨g, t, none⟩ = some (.int .i64 (P0.getD t 0)))) (fun _ _ c _ => A.length - (intOf c).toNat)
          case atStart => exact ⟨0, Nat.zero_le _, rfl, HB6.out, HS6.out, HP6⟩
          case round =>
            obtain ⟨j, hj, rfl, hBi, hSi, hPi⟩ := hrel
            by_cases hlt : j < A.length
            · obtain ⟨-, m0, m1, -, -⟩ := HKC.out _ hBi
              have e1 := HC0.out wr (HBC2.out.trans (hBi.mono HBC2.out.size)) j hlt
              have e2 := hPi.out j hlt
              have HLT := Lib.hid hlt
              have hj5 : j < 5 := by have := HK5.out; omega
              obtain ⟨q0, q1, f0, f1, zz⟩ := id hSi
              have b1 := HOB0.out j hlt
              have HNX := Lib.hid (show ownS L0 P0 (j + 1) = ownS L0 P0 j + L0.getD j 0 * P0.getD j 0 from rfl)
              have HST := Lib.hid (fun x => hSi.set0 x)
              have HBN := Lib.hid (fun x : Int => hBi.setCell (p := ⟨wc.heap.size, 0, none⟩) (show wc.heap.size ≤ wc.heap.size from Nat.le_refl _) (.int .i64 x))
              have HPN := Lib.hid (fun (x : Int) t (ht : t < A.length) => (World.cell?_setCell_other wr ⟨wc.heap.size, 0, none⟩ ⟨g, t, none⟩ (.int .i64 x) (by simp; intro h; exact absurd h.symm HNG.out)).trans (hPi.out t ht))
              clear hBi hSi hPi
              generalize ownS L0 P0 j = x at *
              generalize L0.getD j 0 = s at *
              generalize P0.getD j 0 = p at *
              obtain ⟨y, hy⟩ : ∃ y, y = s * p := ⟨_, rfl⟩
              rw [← hy] at b1 HNX
              have hy' := hy.symm
              have hw1 : IntKind.i64.wrap y = y := IntWalk.i64_in _ (by omega)
              have hw2 : IntKind.i64.wrap (x + y) = x + y := IntWalk.i64_in _ (by omega)
              clear hy b1
              go_wp2_with fail
              go_region
              go_wp2_with fail
              go_roundw
              case rel => exact ⟨j + 1, Nat.succ_le_of_lt HLT.out, by go_num, by first | exact HBN.out _ | exact (HBN.out _).drew, by rw [HNX.out]; first | exact HST.out _ | exact (HST.out _).next (Below.refl _ _).drew, Lib.hid (fun t ht => by first | exact HPN.out _ t ht | (have h := HPN.out (x + y) t ht; simpa [go_sem] using h))⟩
              case measure => have := HLT.out; simp [intOf]; omega
            · obtain rfl : j = A.length := by omega
              have HB7 := Lib.hid hBi
              have HS7 := Lib.hid hSi
              clear hBi hSi hPi
              go_wp2_with fail
              go_roundw
              case rel => exact ⟨1, _, _, by omega, by go_num, HB7.out, HS7.out, Lib.hid (.inr (.inl ⟨rfl, rfl, rfl⟩))⟩
              case measure => simp [intOf]
        · have HBC := Lib.hid (HPC.out Wr (HWC.out.trans (hB.mono HWC.out.size)) (HI0.out.below (HBC2.out.trans (hB.mono HBC2.out.size))))
          have HSr := Lib.hid hS
          obtain ⟨-, m0, m1, -, -⟩ := HKC.out _ hB
          clear hB hS hG
          go_wp2_with fail
          refine HBC.out.mono ?_; rintro e w6 ⟨g, rfl, hF, hb6⟩
          have HB6 := Lib.hid (HBr.out.trans (hb6.mono HBr.out.size))
          have HS6 := Lib.hid (HSr.out.next hb6)
          have HP6 : Hid (∀ t, t < (gcols A) → w6.cell? ⟨g, t, none⟩ = some (.int .i64 (P1.getD t 0))) := Lib.hid (fun t ht => by
            obtain ⟨_, _, _, _, _, hoo⟩ := id hF
            rw [own_cellN hoo HLP1.out.symm ht])
          have HNG : Hid (g ≠ wc.heap.size) := by
            have h1 := HSr.out.z
            obtain ⟨_, _, hvv, hgl, _, _⟩ := id hF
            exact Lib.hid (by simp at hvv; omega)
          clear hF hb6 HBC HSr m0 m1
          go_wp2_with fail
          go_loopw [15, 16, 59] (fun _ _ c wi => ∃ j : Nat, j ≤ (gcols A) ∧ c = .int .i64 j ∧ Below wc.heap.size wc wi ∧ Sm wc.heap.size wi (ownS L0 P0 A.length) (ownS L1 P1 j) ∧ Hid (∀ t, t < (gcols A) → wi.cell? ⟨g, t, none⟩ = some (.int .i64 (P1.getD t 0)))) (fun _ _ c _ => (gcols A) - (intOf c).toNat)
          case atStart => exact ⟨0, Nat.zero_le _, rfl, HB6.out, HS6.out, HP6⟩
          case round =>
            obtain ⟨j, hj, rfl, hBi, hSi, hPi⟩ := hrel
            by_cases hlt : j < (gcols A)
            · obtain ⟨-, m0, m1, -, -⟩ := HKC.out _ hBi
              have e1 := HC1.out wr (HBC2.out.trans (hBi.mono HBC2.out.size)) j hlt
              have e2 := hPi.out j hlt
              have HLT := Lib.hid hlt
              have hj5 : j < 5 := by have := HK5.out; omega
              obtain ⟨q0, q1, f0, f1, zz⟩ := id hSi
              have b1 := HOB1.out j hlt
              have HNX := Lib.hid (show ownS L1 P1 (j + 1) = ownS L1 P1 j + L1.getD j 0 * P1.getD j 0 from rfl)
              have HST := Lib.hid (fun x => hSi.set1 x)
              have HBN := Lib.hid (fun x : Int => hBi.setCell (p := ⟨wc.heap.size, 1, none⟩) (show wc.heap.size ≤ wc.heap.size from Nat.le_refl _) (.int .i64 x))
              have HPN := Lib.hid (fun (x : Int) t (ht : t < (gcols A)) => (World.cell?_setCell_other wr ⟨wc.heap.size, 1, none⟩ ⟨g, t, none⟩ (.int .i64 x) (by simp; intro h; exact absurd h.symm HNG.out)).trans (hPi.out t ht))
              clear hBi hSi hPi
              generalize ownS L1 P1 j = x at *
              generalize L1.getD j 0 = s at *
              generalize P1.getD j 0 = p at *
              obtain ⟨y, hy⟩ : ∃ y, y = s * p := ⟨_, rfl⟩
              rw [← hy] at b1 HNX
              have hy' := hy.symm
              have hw1 : IntKind.i64.wrap y = y := IntWalk.i64_in _ (by omega)
              have hw2 : IntKind.i64.wrap (x + y) = x + y := IntWalk.i64_in _ (by omega)
              clear hy b1
              go_wp2_with fail
              go_region
              go_wp2_with fail
              go_roundw
              case rel => exact ⟨j + 1, Nat.succ_le_of_lt HLT.out, by go_num, by first | exact HBN.out _ | exact (HBN.out _).drew, by rw [HNX.out]; first | exact HST.out _ | exact (HST.out _).next (Below.refl _ _).drew, Lib.hid (fun t ht => by first | exact HPN.out _ t ht | (have h := HPN.out (x + y) t ht; simpa [go_sem] using h))⟩
              case measure => have := HLT.out; simp [intOf]; omega
            · obtain rfl : j = (gcols A) := by omega
              have HB7 := Lib.hid hBi
              have HS7 := Lib.hid hSi
              clear hBi hSi hPi
              go_wp2_with fail
              go_roundw
              case rel => exact ⟨2, _, _, by omega, by go_num, HB7.out, HS7.out, Lib.hid (.inr (.inr ⟨rfl, rfl, rfl⟩))⟩
              case measure => simp [intOf]
        · have HSr := Lib.hid hS
          clear hB hS hG hx0 hx1
          have hdd : 1 ≤ d0 * d1 ∧ d0 * d1 ≤ 900000000 := by
            have hg := HGT.out
            have h := Int.mul_le_mul hg.1 hg.2 (by omega) (by decide)
            have h' := Int.mul_le_mul pd qd (by decide) (by omega)
            omega
          have hP : 0 ≤ ownS L0 P0 A.length ∧ ownS L0 P0 A.length ≤ 15000000000000000 := by have := HFA.out; have := HK5.out; omega
          have hQ : 0 ≤ ownS L1 P1 (gcols A) ∧ ownS L1 P1 (gcols A) ≤ 15000000000000000 := by have := HFB.out; have := HK5.out; omega
          have HOX := HO.out
          rw [← HOO.out, ← HOT.out] at HOX
          have HOX := Lib.hid HOX
          clear HO HOO HOT HFA HFB HOB0 HOB1
          generalize ownS L0 P0 A.length = P at *
          generalize ownS L1 P1 (gcols A) = Q at *
          have HPF := Lib.hid (paF_lim P Q (d0 * d1))
          obtain ⟨dq, hq⟩ : ∃ dq, dq = d0 * d1 := ⟨_, rfl⟩
          rw [← hq] at hdd HOX HPF
          have hq' := hq.symm
          have hwq : IntKind.i64.wrap dq = dq := IntWalk.i64_in _ (by omega)
          have HLM := Lib.hid (fun (w' : World) (h : Below Wr.heap.size Wr w') => limitedFracs_all (.slice (some ⟨wc.heap.size, 0, none⟩) 2 2) [P, Q] dq w' (sm_ints (HSr.out.next h) (by unfold I64; omega) (by unfold I64; omega)) (by simp) (by simp) (by omega)
            (fun j hj => by
              have hc : j = 0 ∨ j = 1 := by simp at hj; omega
              rcases hc with rfl | rfl <;> simp <;> omega) (by omega))
          have HZS := Lib.hid (show wc.heap.size < Wr.heap.size from HSr.out.z)
          obtain ⟨-, -, -, e0, e1⟩ := HKC.out _ HBr.out
          clear hq hdd hP hQ HSr
          cases hok : limOk dq [P, Q]
          · have HOY := Lib.hid (HOX.out.trans (HPF.out.1 hok))
            have HLF := Lib.hid (fun (w' : World) (h : Below Wr.heap.size Wr w') => (HLM.out w' h).mono (R' := fun e w2 => e = .returned (.tuple #[.slice none 0 0, .int .i64 3]) ∧ Below w'.heap.size w' w2) (by
              rintro e w2 (⟨_, h2, h3⟩ | ⟨h1, _⟩)
              · exact ⟨h2, h3⟩
              · rw [hok] at h1; cases h1))
            clear hok HLM HOX HPF
            go_wp2_with fail
            go_region_with (go_at_call 95; refine (HLF.out _ (by (repeat' (first | (with_reducible exact Below.refl _ _) | (with_reducible assumption) | (with_reducible refine Below.alloc ?_ ?_ _) | (with_reducible refine Below.drew ?_) | (with_reducible refine below_drewN ?_ _) | (with_reducible refine Below.setCell ?_ ?_ _) | (with_reducible refine Below.trans ?_ (Below.mono (by with_reducible assumption) ?_)) | (with_reducible exact Below.size (by with_reducible assumption)) | go_size)))).mono ?_; rintro e w7 ⟨rfl, hb7⟩; have hk7 : Below Wr.heap.size Wr w7 := (by (repeat' (first | (with_reducible exact Below.refl _ _) | (with_reducible assumption) | (with_reducible refine Below.alloc ?_ ?_ _) | (with_reducible refine Below.drew ?_) | (with_reducible refine below_drewN ?_ _) | (with_reducible refine Below.setCell ?_ ?_ _) | (with_reducible refine Below.trans ?_ (Below.mono (by with_reducible assumption) ?_)) | (with_reducible exact Below.size (by with_reducible assumption)) | go_size))))
            all_goals
              obtain ⟨⟨hw7, _, _, r0, r1, r2, r3, f0, f1, f2, f3, _⟩, -, -, -, -⟩ := HKC.out _ (HBr.out.trans (hk7.mono HBr.out.size))
              go_wp2_with fail
              refine bodyPost_ret (v := .tuple #[.agg #[.int .i64 0, .int .i64 0], .agg #[.int .i64 0, .int .i64 0], .int .i64 3]) (by simp [*, results, Try.results45, go_sem]) rfl ?_
              rw [HOY.out]
              refine ⟨rfl, ?_⟩
              (repeat' (first | (with_reducible exact Below.refl _ _) | (with_reducible assumption) | (with_reducible refine Below.alloc ?_ ?_ _) | (with_reducible refine Below.drew ?_) | (with_reducible refine below_drewN ?_ _) | (with_reducible refine Below.setCell ?_ ?_ _) | (with_reducible refine Below.trans ?_ (Below.mono (by with_reducible assumption) ?_)) | (with_reducible exact Below.size (by with_reducible assumption)) | go_size))
          · have HOY := Lib.hid (HOX.out.trans (HPF.out.2 hok))
            have HLF := Lib.hid (fun (w' : World) (h : Below Wr.heap.size Wr w') => (HLM.out w' h).mono (R' := fun e w2 => ∃ g c, e = .returned (.tuple #[.slice (some ⟨g, 0, none⟩) 2 c, .int .i64 0]) ∧ w2.cell? ⟨g, 0, none⟩ = some (.int .i64 (limF dq P).1) ∧ w2.cell? ⟨g, 1, none⟩ = some (.int .i64 (limF dq P).2) ∧ w2.cell? ⟨g, 2, none⟩ = some (.int .i64 (limF dq Q).1) ∧ w2.cell? ⟨g, 3, none⟩ = some (.int .i64 (limF dq Q).2) ∧ w'.heap.size ≤ g ∧ Below w'.heap.size w' w2) (by
              rintro e w2 (⟨h1, _⟩ | ⟨_, g, c, h2, hF, h3⟩)
              · rw [hok] at h1; cases h1
              · have ho := hF.own
                have hgl : w'.heap.size ≤ g := by
                  obtain ⟨_, _, hv, hl, _, _⟩ := id hF
                  simp at hv; omega
                refine ⟨g, c, h2, ?_, ?_, ?_, ?_, hgl, h3⟩
                · exact ho.cell0 rfl (i := 0) (by simp)
                · exact ho.cell1 rfl (i := 0) (by simp)
                · exact ho.cell0 rfl (i := 1) (by simp)
                · exact ho.cell1 rfl (i := 1) (by simp)))
            generalize limF dq P = F0 at *
            generalize limF dq Q = F1 at *
            clear hok HLM HOX HPF
            go_wp2_with fail
            go_region_with (go_at_call 95; refine (HLF.out _ (by (repeat' (first | (with_reducible exact Below.refl _ _) | (with_reducible assumption) | (with_reducible refine Below.alloc ?_ ?_ _) | (with_reducible refine Below.drew ?_) | (with_reducible refine below_drewN ?_ _) | (with_reducible refine Below.setCell ?_ ?_ _) | (with_reducible refine Below.trans ?_ (Below.mono (by with_reducible assumption) ?_)) | (with_reducible exact Below.size (by with_reducible assumption)) | go_size)))).mono ?_; rintro e w7 ⟨g, cg, rfl, j0, j1, j2, j3, hgl, hb7⟩; have hk7 : Below Wr.heap.size Wr w7 := (by (repeat' (first | (with_reducible exact Below.refl _ _) | (with_reducible assumption) | (with_reducible refine Below.alloc ?_ ?_ _) | (with_reducible refine Below.drew ?_) | (with_reducible refine below_drewN ?_ _) | (with_reducible refine Below.setCell ?_ ?_ _) | (with_reducible refine Below.trans ?_ (Below.mono (by with_reducible assumption) ?_)) | (with_reducible exact Below.size (by with_reducible assumption)) | go_size))))
            all_goals
              obtain ⟨⟨hw7, _, _, r0, r1, r2, r3, f0, f1, f2, f3, _⟩, -, -, -, -⟩ := HKC.out _ (HBr.out.trans (hk7.mono HBr.out.size))
              go_wp2_with fail
              go_region
              go_wp2_with fail
              refine bodyPost_ret (v := .tuple #[.agg #[.int .i64 F0.1, .int .i64 F0.2], .agg #[.int .i64 F1.1, .int .i64 F1.2], .int .i64 0]) (by simp [*, results, Try.results45, go_sem]) rfl ?_
              rw [HOY.out]
              refine ⟨rfl, ?_⟩
              (repeat' (first | (with_reducible exact Below.refl _ _) | (with_reducible assumption) | (with_reducible refine Below.alloc ?_ ?_ _) | (with_reducible refine Below.drew ?_) | (with_reducible refine below_drewN ?_ _) | (with_reducible refine Below.setCell ?_ ?_ _) | (with_reducible refine Below.trans ?_ (Below.mono (by with_reducible assumption) ?_)) | (with_reducible exact Below.size (by with_reducible assumption)) | go_size))
end Go.Proofs.Ytimcokealhnfhaa.PW
