/-
  Walks: ValueAt in the model.
-/
import Derived.Test.YtbfpneonmefndaaWVa2
import Derived.Test.YtbfpneonmefndaaWSl3
namespace Go.Proofs.Ytbfpneonmefndaa.PW
open Go.RowKit Go.Proofs.Ytbfpneonmefndaa
open Go.Proofs.Ytbfpneonmefndaa.PM Go.Proofs.Ytbfpneonmefndaa.PX

/-- The row i of the model's sum, up to t. -/
def vrT (D : List (List Int)) (L : List Int) (i : Nat) : Nat → Int
  | 0 => 0
  | t + 1 => vrT D L i t + L.getD i 0 * wE D i t * L.getD t 0
def vsT (D : List (List Int)) (C L : List Int) (d : Int) (n : Nat) : Nat → Int
  | 0 => 0
  | i + 1 => vsT D C L d n i + 2 * C.getD i 0 * L.getD i 0 * d + vrT D L i n
theorem vrT_pro (D : List (List Int)) (L : List Int) (i : Nat) : ∀ t, vrT D L i t = L.getD i 0 * proTo (D.getD i []) L t := by
  intro t
  induction t with
  | zero => simp [vrT, proTo]
  | succ t ih => simp only [vrT, proTo]; rw [ih, Int.mul_add, Int.mul_assoc (L.getD i 0)]; rfl
theorem vsT_for (D : List (List Int)) (C L : List Int) (d : Int) (n : Nat) : ∀ k, vsT D C L d n k = forTo D L n k + 2 * d * proTo C L k := by
  intro k
  induction k with
  | zero => simp [vsT, forTo, proTo]
  | succ k ih =>
    simp only [vsT, forTo, proTo]
    rw [ih, vrT_pro, Int.mul_add, show 2 * C.getD k 0 * L.getD k 0 * d = 2 * d * (C.getD k 0 * L.getD k 0) by
      rw [Int.mul_assoc 2, Int.mul_assoc 2, Int.mul_comm (C.getD k 0 * L.getD k 0) d, Int.mul_assoc 2]]
    omega
theorem vsT_end (D : List (List Int)) (C L : List Int) (d : Int) (n : Nat) : vsT D C L d n n = tvE D C L d n := vsT_for D C L d n n
structure VsB (D : List (List Int)) (C L : List Int) (d : Int) (n : Nat) : Prop where
  row : ∀ i t, i < n → t ≤ n → -10000000000000000 ≤ vrT D L i t ∧ vrT D L i t ≤ 10000000000000000
  pr1 : ∀ i t, i < n → t < n → -200000000 ≤ L.getD i 0 * wE D i t ∧ L.getD i 0 * wE D i t ≤ 200000000
  pr2 : ∀ i t, i < n → t < n → -2000000000000000 ≤ L.getD i 0 * wE D i t * L.getD t 0 ∧ L.getD i 0 * wE D i t * L.getD t 0 ≤ 2000000000000000
  c1 : ∀ i, i < n → -200 ≤ 2 * C.getD i 0 ∧ 2 * C.getD i 0 ≤ 200
  c2 : ∀ i, i < n → -2000000000 ≤ 2 * C.getD i 0 * L.getD i 0 ∧ 2 * C.getD i 0 * L.getD i 0 ≤ 2000000000
  c3 : ∀ i, i < n → -20000000000000 ≤ 2 * C.getD i 0 * L.getD i 0 * d ∧ 2 * C.getD i 0 * L.getD i 0 * d ≤ 20000000000000
  all : ∀ i, i ≤ n → -60000000000000000 ≤ vsT D C L d n i ∧ vsT D C L d n i ≤ 60000000000000000
theorem vsB_of {D : List (List Int)} {C L : List Int} {d : Int} {n : Nat} (hp : isPB D C = true) (hn : D.length = n) (hd : 0 ≤ d ∧ d ≤ 10000) (hL : ∀ t, t < n → -10000000 ≤ L.getD t 0 ∧ L.getD t 0 ≤ 10000000) : VsB D C L d n := by
  obtain ⟨f1, f2, f3, f4, f5⟩ := isPB_facts hp
  have hn5 : (n : Int) ≤ 5 := by omega
  have p1 : ∀ i t, i < n → t < n → -200000000 ≤ L.getD i 0 * wE D i t ∧ L.getD i 0 * wE D i t ≤ 200000000 := fun i t hi ht => by
    have x := (f4 i (by omega)).2 t (by omega)
    have y := hL i hi
    exact PM.mul_bd (A := 10000000) (B := 20) y.1 y.2 x.1 x.2
  have p2 : ∀ i t, i < n → t < n → -2000000000000000 ≤ L.getD i 0 * wE D i t * L.getD t 0 ∧ L.getD i 0 * wE D i t * L.getD t 0 ≤ 2000000000000000 := fun i t hi ht => by
    have x := p1 i t hi ht
    have y := hL t ht
    exact PM.mul_bd (A := 200000000) (B := 10000000) x.1 x.2 y.1 y.2
  have hrow : ∀ i, i < n → ∀ t, t ≤ n → -(2000000000000000 * t) ≤ vrT D L i t ∧ vrT D L i t ≤ 2000000000000000 * t := fun i hi t => by
    induction t with
    | zero => intro _; simp [vrT]
    | succ t ih =>
      intro ht
      have a := ih (by omega)
      have b := p2 i t hi (by omega)
      simp only [vrT]
      omega
  have k1 : ∀ i, i < n → -200 ≤ 2 * C.getD i 0 ∧ 2 * C.getD i 0 ≤ 200 := fun i hi => by have := f5 i (by omega); omega
  have k2 : ∀ i, i < n → -2000000000 ≤ 2 * C.getD i 0 * L.getD i 0 ∧ 2 * C.getD i 0 * L.getD i 0 ≤ 2000000000 := fun i hi => by
    have x := k1 i hi
    have y := hL i hi
    exact PM.mul_bd (A := 200) (B := 10000000) x.1 x.2 y.1 y.2
  have k3 : ∀ i, i < n → -20000000000000 ≤ 2 * C.getD i 0 * L.getD i 0 * d ∧ 2 * C.getD i 0 * L.getD i 0 * d ≤ 20000000000000 := fun i hi => by
    have x := k2 i hi
    exact PM.mul_bd (A := 2000000000) (B := 10000) x.1 x.2 (by omega) hd.2
  have hall : ∀ i, i ≤ n → -(11000000000000000 * i) ≤ vsT D C L d n i ∧ vsT D C L d n i ≤ 11000000000000000 * i := fun i => by
    induction i with
    | zero => intro _; simp [vsT]
    | succ i ih =>
      intro hi
      have a := ih (by omega)
      have b := hrow i (by omega) n (Nat.le_refl _)
      have c := k3 i (by omega)
      simp only [vsT]
      omega
  exact ⟨fun i t hi ht => by have := hrow i hi t ht; omega, p1, p2, k1, k2, k3, fun i hi => by have := hall i hi; omega⟩

set_option maxRecDepth 100000 in
set_option maxHeartbeats 16000000 in
theorem specValueAt_any (d c a b x : Value) (D : List (List Int)) (C : List Int) (A : List (List Int)) (B : List Int) (X : List (Int × Int)) (w : World) (h1 : PM.Rows w d D) (h2 : Ints w c C) (h3 : PM.Rows w a A) (h4 : Ints w b B) (h5 : Frs w x X) (hs : szWn D C A B ≤ 1048576) :
    Calls Try.prog 44 #[.agg #[d, c, a, b], x] w fun e w' => e = .returned (.tuple #[.agg #[.int .i64 (vaOut D C A B X).1.1, .int .i64 (vaOut D C A B X).1.2], .int .i64 (vaOut D C A B X).2]) ∧ Below w.heap.size w w' := by
  have HNT := Lib.hid (fun (w' : World) (h : Below w.heap.size w w') => l09Small_any d c a b x D C A B X w' (h1.below h) (h2.below h) (h3.below h) (h4.below h) (h5.below h) hs)
  have HZ := Lib.hid (wf_zero (D := D) (C := C) (A := A) (B := B) (X := X) (Y := []) (m := 0))
  have HE := Lib.hid (vaOut_err (D := D) (C := C) (A := A) (B := B) (X := X))
  have HN := Lib.hid (vaOut_none (D := D) (C := C) (A := A) (B := B) (X := X))
  have HSO := Lib.hid (fun d => vaOut_some (D := D) (C := C) (A := A) (B := B) (X := X) (d := d))
  generalize vaOut D C A B X = OUT at *
  generalize wfCode D C A B X [] 0 = CODE at *
  have H1 := Lib.hid h1
  have H2 := Lib.hid h2
  obtain ⟨x1, y1, rfl, _⟩ := h1
  obtain ⟨x2, y2, rfl, _⟩ := h2
  obtain ⟨x3, y3, rfl, _⟩ := h3
  obtain ⟨x4, y4, rfl, _⟩ := h4
  obtain ⟨x5, y5, rfl, _⟩ := h5
  obtain ⟨W0, hW0⟩ : ∃ W0, W0 = (w.alloc (.cells #[.slice x1 D.length y1, .slice x2 C.length y2, .slice x3 A.length y3, .slice x4 B.length y4] 54)).alloc (.cells #[.int .i64 0, .int .i64 0] 62) := ⟨_, rfl⟩
  have HG0 : Hid (Wf w W0 (.slice x1 D.length y1) (.slice x2 C.length y2) (.slice x3 A.length y3) (.slice x4 B.length y4)) := by rw [hW0]; exact wf_new _ _ _ _ _
  have HW0 := Lib.hid hW0
  obtain ⟨_, k0, k1, k2, k3, _, _, _, _, _⟩ := HG0.out
  clear hW0 hs
  go_enter Try.func44, Try.ntmps44
  go_wp2_with fail
  rw [← HW0.out]
  refine (HNT.out _ HG0.out.b).mono ?_
  rintro e w1 (⟨hc, rfl, hb1⟩ | ⟨hc, hsm, rfl, hb1⟩ | ⟨hc, dd, g, cc, hsm, rfl, hF, hb1⟩)
  · have hcb : (CODE != 0) = true := by simp; omega
    have HO := Lib.hid (HE.out hc)
    obtain ⟨hw1, k0, k1, k2, k3, r0, r1, f0, f1, hz1⟩ := HG0.out.next hb1
    clear hb1 hc
    go_wp2_with fail
    refine bodyPost_ret (v := .tuple #[.agg #[.int .i64 0, .int .i64 0], .int .i64 CODE]) (by simp [*, results, Try.results44, go_sem]) rfl ?_
    rw [HO.out]
    refine ⟨rfl, ?_⟩
    (repeat' (first | (with_reducible exact Below.refl _ _) | (with_reducible assumption) | (with_reducible refine Below.alloc ?_ ?_ _) | (with_reducible refine Below.drew ?_) | (with_reducible refine below_drewN ?_ _) | (with_reducible refine Below.setCell ?_ ?_ _) | (with_reducible refine Below.trans ?_ (Below.mono (by with_reducible assumption) ?_)) | (with_reducible exact Below.size (by with_reducible assumption)) | go_size))
  · have HO := Lib.hid (HN.out hc hsm)
    obtain ⟨hw1, k0, k1, k2, k3, r0, r1, f0, f1, hz1⟩ := HG0.out.next hb1
    clear hb1 hc hsm
    go_wp2_with fail
    refine bodyPost_ret (v := .tuple #[.agg #[.int .i64 0, .int .i64 0], .int .i64 3]) (by simp [*, results, Try.results44, go_sem]) rfl ?_
    rw [HO.out]
    refine ⟨rfl, ?_⟩
    (repeat' (first | (with_reducible exact Below.refl _ _) | (with_reducible assumption) | (with_reducible refine Below.alloc ?_ ?_ _) | (with_reducible refine Below.drew ?_) | (with_reducible refine below_drewN ?_ _) | (with_reducible refine Below.setCell ?_ ?_ _) | (with_reducible refine Below.trans ?_ (Below.mono (by with_reducible assumption) ?_)) | (with_reducible exact Below.size (by with_reducible assumption)) | go_size))
  obtain ⟨hw, ⟨hfx, _⟩, hl, _⟩ := HZ.out hc
  obtain ⟨_, ⟨hd1, hd2, hd3⟩, hnb, hn7⟩ := smD_facts (frsB_fracs hfx) hsm
  have hp := isPB_of hw
  obtain ⟨f1, f2, f3, f4, f5⟩ := isPB_facts hp
  have HO := Lib.hid (HSO.out dd hc hsm)
  obtain ⟨n, hn⟩ : ∃ n, n = X.length := ⟨_, rfl⟩
  have hdn : D.length = n := by omega
  have hcn : C.length = n := by omega
  have HVB := Lib.hid (vsB_of (L := X.map (numI dd)) hp hdn ⟨by omega, hd3⟩ (fun t ht => hn7 t (by omega)))
  have hdd : 1 ≤ dd * dd ∧ dd * dd ≤ 100000000 := by
    have h := Int.mul_le_mul hd3 hd3 (by omega) (by decide)
    have h' := Int.mul_le_mul hd1 hd1 (by decide) (by omega)
    omega
  have h2d : 2 * dd * dd = 2 * (dd * dd) := Int.mul_assoc 2 dd dd
  have hG1 := HG0.out.next hb1
  have htv := vsT_end D C (X.map (numI dd)) dd n
  rw [← hn] at HO
  rw [← htv] at HO
  have hTb := HVB.out.all n (Nat.le_refl _)
  have HLF := Lib.hid (fun (TV : Int) (hb : -60000000000000000 ≤ TV ∧ TV ≤ 60000000000000000) w' => FW.l01Frac_any TV (2 * dd * dd) w' (by omega) (by omega) (by omega) (by omega) (by omega))
  have HTL := Lib.hid (fun (TV : Int) w' => wtold_lim TV (2 * dd * dd) w')
  obtain ⟨_, _, hvv, _, hz5, hoo⟩ := id hF
  have hg4 : g < w1.heap.size := by simp at hvv; omega
  have hnl : n = (X.map (numI dd)).length := by simp [hn]
  rw [← hn] at hoo
  have hce : ∀ j, j < n → w1.cell? ⟨g, j, none⟩ = some (.int .i64 ((X.map (numI dd)).getD j 0)) := fun j hj => by
    rw [own_cellN hoo hnl hj]
  have hw1 := hG1.b
  obtain ⟨bd, od, cd, hdv, hM⟩ := mat_at (H1.out) f1 (fun i hi => (f4 i hi).1)
  obtain ⟨bc, oc, cc2, hcv, hblc, hC⟩ := list_at (H2.out) (by omega)
  rw [hdn] at hdv hM
  rw [hcn] at hcv
  obtain ⟨L, hL⟩ : ∃ L, L = X.map (numI dd) := ⟨_, rfl⟩
  rw [← hL] at hce HVB HO hTb
  have HHM := Lib.hid (fun (wr : World) (h : Below w1.heap.size w1 wr) (i : Nat) (hi : i < n) => show ∃ r o dx, wr.cell? ⟨bd, od + i, none⟩ = some (.slice (some ⟨r, o, none⟩) n dx) ∧ ∀ j, j < n → wr.cell? ⟨r, o + j, none⟩ = some (.int .i64 (wE D i j)) from by
    obtain ⟨r, o, dx, hx⟩ := hM i hi
    exact ⟨r, o, dx, hx wr (hw1.trans (h.mono hw1.size))⟩)
  have HHC := Lib.hid (fun wr (h : Below w1.heap.size w1 wr) i (hi : i < n) => hC wr (hw1.trans (h.mono hw1.size)) i (by omega))
  have HHL := Lib.hid (fun wr (h : Below w1.heap.size w1 wr) j (hj : j < n) => (h.cell (p := ⟨g, j, none⟩) hg4).trans (hce j hj))
  have hG1' : Wf w w1 (.slice (some ⟨bd, od, none⟩) n cd) (.slice (some ⟨bc, oc, none⟩) n cc2) (.slice x3 A.length y3) (.slice x4 B.length y4) := by
    have q1 : Value.slice x1 D.length y1 = .slice (some ⟨bd, od, none⟩) n cd := by rw [hdn]; exact hdv
    have q2 : Value.slice x2 C.length y2 = .slice (some ⟨bc, oc, none⟩) n cc2 := by rw [hcn]; exact hcv
    rw [← q1, ← q2]
    exact hG1
  have HG1 := Lib.hid hG1'
  obtain ⟨V, hV⟩ : ∃ V : Nat → Int, V = fun i => vsT D C L dd n i := ⟨_, rfl⟩
  obtain ⟨R, hR⟩ : ∃ R : Nat → Nat → Int, R = fun i t => vsT D C L dd n i + 2 * C.getD i 0 * L.getD i 0 * dd + vrT D L i t := ⟨_, rfl⟩
  have HV0 : Hid (V 0 = 0) := by rw [hV]; rfl
  have HR0 : Hid (∀ i, R i 0 = V i + 2 * C.getD i 0 * L.getD i 0 * dd) := fun i => by rw [hV, hR]; show _ + 0 = _; simp
  have HR1 : Hid (∀ i t, R i (t + 1) = R i t + L.getD i 0 * wE D i t * L.getD t 0) := fun i t => by rw [hR]; show _ + (_ + _) = _ + _ + _; rw [← Int.add_assoc]
  have HRN : Hid (∀ i, R i n = V (i + 1)) := fun i => by rw [hV, hR]; rfl
  have HVN := Lib.hid (show V n = vsT D C L dd n n from by rw [hV])
  have HVBD : Hid (∀ i, i ≤ n → -60000000000000000 ≤ V i ∧ V i ≤ 60000000000000000) := fun i hi => by rw [hV]; exact HVB.out.all i hi
  have HRBD : Hid (∀ i t, i < n → t ≤ n → -80000000000000000 ≤ R i t ∧ R i t ≤ 80000000000000000) := fun i t hi ht => by
    rw [hR]
    have := HVB.out.all i (by omega)
    have := HVB.out.c3 i hi
    have := HVB.out.row i t hi ht
    dsimp only
    omega
  rw [← HVN.out] at HO hTb
  have HTB := Lib.hid hTb
  have hn5 : n ≤ 5 := by omega
  have hdx : 1 ≤ dd ∧ dd ≤ 10000 := ⟨hd1, hd3⟩
  have hdd2 : -9223372036854775808 ≤ 2 * dd ∧ 2 * dd ≤ 9223372036854775807 := by omega
  generalize hq : 2 * dd * dd = q at *
  have HQ := Lib.hid hq
  have hqb : 1 ≤ q ∧ q ≤ 1000000000 := by omega
  rw [← hn]
  clear hc hsm hw hfx hl hd1 hd2 hd3 hnb hn7 hp f1 f2 f3 f4 f5 hn hdn hcn hdd h2d hG1 htv hvv hz5 hoo hg4 hnl hce hw1 hdv hM hcv hblc hC hL hG1' hV hR hF hb1 HZ HE HN HSO HNT HW0 HVN hTb hq k0 k1 k2 k3
  go_wp2_with fail
  go_loopw [9, 10, 11] (fun s i _ wr => ∃ k : Nat, k ≤ n ∧ i = .int .i64 k ∧ s = .int .i64 (V k) ∧ Below w1.heap.size w1 wr) (fun _ i _ _ => n - (intOf i).toNat)
  case atStart => exact ⟨0, Nat.zero_le _, rfl, by rw [HV0.out], Below.refl _ _⟩
  case round =>
    obtain ⟨k, hk, rfl, rfl, hB⟩ := hrel
    obtain ⟨Wr, rfl⟩ : ∃ Wr, Wr = wr := ⟨_, rfl⟩
    by_cases hlt : k < n
    · obtain ⟨_, _, k1, _, _, _, _, _, _, _⟩ := HG1.out.next hB
      have c1 := HHC.out Wr hB k hlt
      have c2 := HHL.out Wr hB k hlt
      have b1 := HVB.out.c1 k hlt
      have b2 := HVB.out.c2 k hlt
      have b3 := HVB.out.c3 k hlt
      have b4 := HVBD.out k hk
      have hr0 : R k 0 = V k + 2 * C.getD k 0 * L.getD k 0 * dd := HR0.out k
      have HBD := Lib.hid (fun q => below_drewN hB q)
      have hlk : Hid (∃ lk, lk = L.getD k 0) := ⟨_, rfl⟩
      generalize C.getD k 0 = ck at *
      obtain ⟨lk, hlk2⟩ : ∃ lk, lk = L.getD k 0 := ⟨_, rfl⟩
      rw [← hlk2] at c2 b2 b3 hr0
      have HLK := Lib.hid hlk2
      generalize V k = vk at *
      have hs0 : -9000000000000000000 ≤ vk + 2 * ck * lk * dd ∧ vk + 2 * ck * lk * dd ≤ 9000000000000000000 := by omega
      have HRS := Lib.hid hr0
      clear hB hr0 hlk2 hlk b4
      go_wp2_with fail
      go_quiet (fail)
      go_wp2_with fail
      generalize hW2 : Wr.drewN _ = W2
      have hB2 : Below w1.heap.size w1 W2 := by rw [← hW2]; exact HBD.out _
      have HB2 := Lib.hid hB2
      clear hW2 hB2 k1 c1 c2 b1 b2 b3 hs0
      go_loopw [9, 11] (fun s t wr => ∃ l : Nat, l ≤ n ∧ t = .int .i64 l ∧ s = .int .i64 (R k l) ∧ Below w1.heap.size w1 wr) (fun _ t _ => n - (intOf t).toNat)
      case atStart => exact ⟨0, Nat.zero_le _, rfl, by rw [HRS.out], HB2.out⟩
      case round =>
        obtain ⟨l, hl, rfl, rfl, hBi⟩ := hrel
        by_cases hlt2 : l < n
        · obtain ⟨_, k0, _, _, _, _, _, _, _, _⟩ := HG1.out.next hBi
          obtain ⟨r, o, dx, e1, e2a⟩ := HHM.out wr hBi k hlt
          have e2 := e2a l hlt2
          have e3 := HHL.out wr hBi l hlt2
          have e4 := HHL.out wr hBi k hlt
          have b1 := HVB.out.pr1 k l hlt hlt2
          have b2 := HVB.out.pr2 k l hlt hlt2
          have b3 := HRBD.out k l hlt hl
          have he : R k (l + 1) = R k l + L.getD k 0 * wE D k l * L.getD l 0 := HR1.out k l
          have HBD2 := Lib.hid (fun q => below_drewN hBi q)
          have HE := Lib.hid he
          clear he e2a hBi
          generalize R k l = s at *
          generalize wE D k l = x at *
          generalize L.getD k 0 = y at *
          generalize L.getD l 0 = z at *
          have hss : -9000000000000000000 ≤ s + y * x * z ∧ s + y * x * z ≤ 9000000000000000000 := by omega
          clear b3
          go_wp2_with fail
          go_quiet (fail)
          go_wp2_with fail
          go_roundw
          case rel => exact ⟨l + 1, by omega, by go_num, by rw [HE.out], HBD2.out _⟩
          case measure => simp [intOf]; omega
        · obtain rfl : l = n := by omega
          have HB3 := Lib.hid hBi
          clear hBi
          go_wp2_with fail
          go_roundw
          case rel => exact ⟨k + 1, by omega, by go_num, by rw [HRN.out], HB3.out⟩
          case measure => simp [intOf]; omega
    · obtain rfl : k = n := by omega
      have HGW := Lib.hid (HG1.out.next hB)
      have hq := HQ.out
      have HLF2 := Lib.hid (fun w' => HLF.out (V k) HTB.out w')
      have HTL2 := Lib.hid (HTL.out (V k))
      generalize V k = TV at *
      clear hB
      go_wp2_with fail
      refine (HLF2.out _).mono ?_
      rintro e w5 ⟨rfl, hb5⟩
      go_wp2_with fail
      refine (HTL2.out _).mono ?_
      rintro e w6 ⟨rfl, hb6⟩
      obtain ⟨hw6, k0, k1, k2, k3, r0, r1, f0, f1, hz6⟩ := HGW.out.next (hb5.trans (hb6.mono hb5.size))
      generalize FM.toldN TV q = tN at *
      generalize FM.toldD TV q = tD at *
      generalize FM.toldC TV q = tC at *
      have hne1 : w.heap.size + 1 ≠ w6.heap.size := by omega
      clear hb5 hb6 hq
      go_wp2_with fail
      refine bodyPost_ret (v := .tuple #[.agg #[.int .i64 tN, .int .i64 tD], .int .i64 tC]) (by simp [*, results, Try.results44, go_sem]) rfl ?_
      rw [HO.out]
      refine ⟨rfl, ?_⟩
      (repeat' (first | (with_reducible exact Below.refl _ _) | (with_reducible assumption) | (with_reducible refine Below.alloc ?_ ?_ _) | (with_reducible refine Below.drew ?_) | (with_reducible refine below_drewN ?_ _) | (with_reducible refine Below.setCell ?_ ?_ _) | (with_reducible refine Below.trans ?_ (Below.mono (by with_reducible assumption) ?_)) | (with_reducible exact Below.size (by with_reducible assumption)) | go_size))
end Go.Proofs.Ytbfpneonmefndaa.PW
