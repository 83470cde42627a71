/-
  Walks: SlopesAt in the program.
-/
import Derived.Test.YtbfpneonmefndaaWSlo
namespace Go.Proofs.Ytbfpneonmefndaa.PW
open Go.RowKit Go.Proofs.Ytbfpneonmefndaa
open Go.Proofs.Ytbfpneonmefndaa.PM Go.Proofs.Ytbfpneonmefndaa.PX

def slOut (D : List (List Int)) (C : List Int) (A : List (List Int)) (B : List Int) (X : List (Int × Int)) : List (Int × Int) × Int :=
  if wfCode D C A B X [] 0 = 0 then (match smD X 10000000 10000 with
    | none => ([], 3)
    | some d => limOut (remL D C (X.map (numI d)) d) d) else ([], wfCode D C A B X [] 0)
theorem slOut_err {D : List (List Int)} {C : List Int} {A : List (List Int)} {B : List Int} {X : List (Int × Int)} (h : wfCode D C A B X [] 0 ≠ 0) : slOut D C A B X = ([], wfCode D C A B X [] 0) := by unfold slOut; rw [if_neg h]
theorem slOut_none {D : List (List Int)} {C : List Int} {A : List (List Int)} {B : List Int} {X : List (Int × Int)} (h : wfCode D C A B X [] 0 = 0) (h2 : smD X 10000000 10000 = none) : slOut D C A B X = ([], 3) := by unfold slOut; rw [if_pos h, h2]
theorem slOut_some {D : List (List Int)} {C : List Int} {A : List (List Int)} {B : List Int} {X : List (Int × Int)} {d : Int} (h : wfCode D C A B X [] 0 = 0) (h2 : smD X 10000000 10000 = some d) : slOut D C A B X = limOut (remL D C (X.map (numI d)) d) d := by unfold slOut; rw [if_pos h, h2]
theorem fine_sl (D : List (List Int)) (C : List Int) (A : List (List Int)) (B : List Int) (X : List (Int × Int)) : FineF (slOut D C A B X).1 := by
  unfold slOut
  split
  · rename_i h
    obtain ⟨hw, _, _⟩ := wf_zero h
    have h5 := (isPB_facts (isPB_of hw)).2.1
    split
    · exact fineF_nil
    · rename_i d _
      unfold limOut
      split
      · refine ⟨?_⟩
        show (List.map _ _).length ≤ _
        rw [List.length_map, remL_length]
        omega
      · exact fineF_nil
  · exact fineF_nil
theorem ent_wE (D : List (List Int)) (i k : Nat) : ent D i k = wE D i k := rfl

set_option maxRecDepth 100000 in
set_option maxHeartbeats 8000000 in
theorem slopeNums_any (d c a b l : Value) (D : List (List Int)) (C : List Int) (A : List (List Int)) (B L : List Int) (dd : Int) (w : World) (h1 : PM.Rows w d D) (h2 : Ints w c C) (h3 : PM.Rows w a A) (h4 : Ints w b B) (h5 : Ints w l L) (hw : isWB D C A B = true) (hL : L.length = C.length) (hd : 0 ≤ dd ∧ dd ≤ 1000000000) (hb : ∀ t, t < C.length → -1000000000000 ≤ L.getD t 0 ∧ L.getD t 0 ≤ 1000000000000) :
    Calls Try.prog 93 #[.agg #[d, c, a, b], l, .int .i64 dd] w fun e w' => ∃ g, e = .returned (.slice (some ⟨g, 0, none⟩) C.length C.length) ∧ FreshI w.heap.size w' (.slice (some ⟨g, 0, none⟩) C.length C.length) (remL D C L dd) ∧ Below w.heap.size w w' := by
  have hp := isPB_of hw
  obtain ⟨f1, f2, f3, f4, f5⟩ := isPB_facts hp
  obtain ⟨bd, od, cd, rfl, hM⟩ := mat_at h1 f1 (fun i hi => (f4 i hi).1)
  have hmul : ∀ i, i < C.length → -1000000000000000 ≤ dd * C.getD i 0 ∧ dd * C.getD i 0 ≤ 1000000000000000 := fun i hi => by
    have := f5 i (by omega)
    have h := PM.mul_bd (A := 1000000000) (B := 100) (a := dd) (b := C.getD i 0) (by omega) hd.2 this.1 this.2
    omega
  have hprod : ∀ k, k < D.length → ∀ t, t < D.length → -1000000000000000 ≤ (D.getD k []).getD t 0 * L.getD t 0 ∧ (D.getD k []).getD t 0 * L.getD t 0 ≤ 1000000000000000 := fun k hk t ht => by
    have x := (f4 k hk).2 t ht
    have y := hb t (by omega)
    have h := PM.mul_bd (A := 20) (B := 1000000000000) x.1 x.2 y.1 y.2
    omega
  obtain ⟨n, hn⟩ : ∃ n, n = D.length := ⟨_, rfl⟩
  have hcn : C.length = n := by omega
  have hln : L.length = n := by omega
  have HMU := Lib.hid (fun (w' : World) (h : Below w.heap.size w w') => multiplesOf_any c C dd w' (h2.below h) (by omega) (by omega) hmul)
  rw [hcn] at HMU
  have HPRO := Lib.hid (fun k (hk : k < n) (r o cc : Nat) (w' : World) (h : Below w.heap.size w w') (hr : Ints w' (.slice (some ⟨r, o, none⟩) n cc) (D.getD k [])) => productOf_any (.slice (some ⟨r, o, none⟩) n cc) l (D.getD k []) L n w' hr (h5.below h) (by rw [(f4 k (by omega)).1, hn]) hln (by omega) (by omega) (fun t ht => hprod k (by omega) t (by omega)))
  obtain ⟨F, hF⟩ : ∃ F : Nat → Int, F = fun j => dd * C.getD j 0 + proTo (D.getD j []) L n := ⟨_, rfl⟩
  obtain ⟨G, hG⟩ : ∃ G : Nat → Int, G = fun j => dd * C.getD j 0 := ⟨_, rfl⟩
  have hFG : ∀ j, F j = G j + proTo (D.getD j []) L n := fun j => by rw [hF, hG]
  have hres : (List.range n).map F = remL D C L dd := by
    rw [hF]
    unfold remL
    rw [← hn]
    apply List.map_congr_left
    intro j _
    rw [remTo_pro]
  have hbdS : ∀ j, j < n → -9000000000000000000 ≤ G j + proTo (D.getD j []) L n ∧ G j + proTo (D.getD j []) L n ≤ 9000000000000000000 := fun j hj => by
    have x := hmul j (by omega)
    have y := proTo_bd (n := n) (fun t ht => hprod j (by omega) t (by omega)) n (Nat.le_refl _)
    rw [hG]
    have : (n : Int) ≤ 5 := by omega
    have : 1000000000000000 * (n : Int) ≤ 1000000000000000 * 5 := by omega
    dsimp only
    omega
  have HIR : Hid (∀ k, k < n → ∃ r o cc, (∀ wr, Below w.heap.size w wr → wr.cell? ⟨bd, od + k, none⟩ = some (.slice (some ⟨r, o, none⟩) n cc)) ∧ ∀ wr, Below w.heap.size w wr → Ints wr (.slice (some ⟨r, o, none⟩) n cc) (D.getD k [])) := fun k hk => by
    obtain ⟨aa, capp, he, _, _, hx⟩ := h1
    rcases hx with hx | ⟨b', off', e', hlt', hc'⟩
    · rw [hx] at hn; simp at hn; omega
    · simp only [Value.slice.injEq] at he
      obtain ⟨he1, _, _⟩ := he
      rw [e'] at he1
      simp only [Option.some.injEq, Addr.mk.injEq, and_true] at he1
      obtain ⟨rfl, rfl⟩ := he1
      obtain ⟨u, hu, hU⟩ := hc' k (by omega)
      have hlk := (f4 k (by omega)).1
      obtain ⟨r, o, cc, rfl, _, _⟩ := list_at hU (by omega)
      refine ⟨r, o, cc, fun wr h => by rw [(h.cell (p := ⟨bd, od + k, none⟩) hlt').trans hu, hlk, ← hn], fun wr h => ?_⟩
      have := hU.below h
      rwa [hlk, ← hn] at this
  have HRES := Lib.hid hres
  have HFG := Lib.hid hFG
  have HBS := Lib.hid hbdS
  have HGE := Lib.hid hG
  have hnn : 1 ≤ n ∧ n ≤ 5 := by omega
  obtain ⟨hn1, hn5⟩ := hnn
  obtain ⟨x2, y2, rfl, _⟩ := h2
  obtain ⟨x3, y3, rfl, _⟩ := h3
  obtain ⟨x4, y4, rfl, _⟩ := h4
  obtain ⟨x5, y5, rfl, _⟩ := h5
  rw [hcn, hln, ← hn]
  rw [hcn] at HMU
  rw [hln] at HPRO
  clear hp f1 f2 f3 f4 f5 hM hmul hprod hn hcn hln hF hG hFG hres hbdS h1 hw hL hd hb
  obtain ⟨W0, hW0⟩ : ∃ W0, W0 = w.alloc (.cells #[.slice (some ⟨bd, od, none⟩) n cd, .slice x2 n y2, .slice x3 A.length y3, .slice x4 B.length y4] 54) := ⟨_, rfl⟩
  have hb0 : Below w.heap.size w W0 := by rw [hW0]; exact (Below.refl _ _).alloc (Nat.le_refl _) _
  have hz0 : w.heap.size < W0.heap.size := by rw [hW0]; simp
  have z0 : W0.cell? ⟨w.heap.size, 0, none⟩ = some (.slice (some ⟨bd, od, none⟩) n cd) := by rw [hW0]; simp
  have z1 : W0.cell? ⟨w.heap.size, 1, none⟩ = some (.slice x2 n y2) := by rw [hW0]; simp
  have HW0 := Lib.hid hW0
  have HB0 := Lib.hid hb0
  clear hW0 hb0
  go_enter Try.func93, Try.ntmps93
  go_wp2_with fail
  rw [← HW0.out]
  refine (HMU.out _ HB0.out).mono ?_; rintro e w1 ⟨g, rfl, hF1, hb1⟩
  have z0 := (hb1.cell (p := ⟨w.heap.size, 0, none⟩) hz0).trans z0
  have HF1 := Lib.hid hF1
  have HB1 := Lib.hid hb1
  clear hF1 hb1 z1 hz0 HMU HW0
  go_wp2_with fail
  clear z0
  go_loopw [8, 9, 17] (fun _ _ i wr => ∃ k : Nat, k ≤ n ∧ i = .int .i64 k ∧ FreshI W0.heap.size wr (.slice (some ⟨g, 0, none⟩) n n) (filG n k F G) ∧ Below W0.heap.size W0 wr) (fun _ _ i _ => n - (intOf i).toNat)
  case atStart => exact ⟨0, Nat.zero_le _, rfl, by rw [filG_zero, HGE.out]; exact HF1.out, HB1.out⟩
  case round =>
    obtain ⟨k, hk, rfl, hO, hB⟩ := hrel
    by_cases hlt : k < n
    · have hwr := HB0.out.trans (hB.mono HB0.out.size)
      obtain ⟨r, o, cc, hcell, hrow⟩ := HIR.out k hlt
      have t0 := hcell wr hwr
      have HC := Lib.hid (fun (w2 : World) (h : Below wr.heap.size wr w2) => HPRO.out k hlt r o cc w2 (hwr.trans (h.mono hwr.size)) (hrow w2 (hwr.trans (h.mono hwr.size))))
      have hsum := HBS.out k hlt
      have hfk := HFG.out k
      obtain ⟨_, _, hvv, hge, hz4, hoo⟩ := id hO
      have hgz : g < wr.heap.size := by simp at hvv; omega
      have hgw : W0.heap.size ≤ g := by simp at hvv; omega
      clear hvv hz4 hge
      have hll : n = (filG n k F G).length := by simp [filG]
      have c6 := own_cellN hoo hll hlt
      have c7 := own_frozenN hoo hll k
      rw [filG_at n k F G hlt] at c6
      have HST := Lib.hid (fun (w2 : World) (h : Below wr.heap.size wr w2) => show FreshI W0.heap.size (w2.setCell ⟨g, k, none⟩ (.int .i64 (F k))) (.slice (some ⟨g, 0, none⟩) n n) (filG n (k + 1) F G) ∧ Below W0.heap.size W0 (w2.setCell ⟨g, k, none⟩ (.int .i64 (F k))) from
        ⟨by have := (hO.below h).setN k (F k); rwa [filG_set] at this, (hB.trans (h.mono hB.size)).setCell (p := ⟨g, k, none⟩) hgw _⟩)
      rw [hfk] at HST
      have hkc := fun (w2 : World) (h : Below wr.heap.size wr w2) => And.intro ((h.cell (p := ⟨g, k, none⟩) hgz).trans c6) ((h.frozen (p := ⟨g, k, none⟩) hgz).trans c7)
      have HKC := Lib.hid hkc
      clear hO hB hwr hcell hrow hfk hll hoo hkc hgw hgz
      generalize proTo (D.getD k []) L n = pr at *
      generalize G k = gk at *
      go_wp2_with fail
      go_region_with (go_at_call 99; refine (HC.out _ (by (repeat' (first | (with_reducible exact Below.refl _ _) | (with_reducible assumption) | (with_reducible refine Below.alloc ?_ ?_ _) | (with_reducible refine Below.drew ?_) | (with_reducible refine below_drewN ?_ _) | (with_reducible refine Below.setCell ?_ ?_ _) | (with_reducible refine Below.trans ?_ (Below.mono (by with_reducible assumption) ?_)) | (with_reducible exact Below.size (by with_reducible assumption)) | go_size)))).mono ?_; rintro e w2 ⟨rfl, hb2⟩; have hk2 : Below wr.heap.size wr w2 := (by (repeat' (first | (with_reducible exact Below.refl _ _) | (with_reducible assumption) | (with_reducible refine Below.alloc ?_ ?_ _) | (with_reducible refine Below.drew ?_) | (with_reducible refine below_drewN ?_ _) | (with_reducible refine Below.setCell ?_ ?_ _) | (with_reducible refine Below.trans ?_ (Below.mono (by with_reducible assumption) ?_)) | (with_reducible exact Below.size (by with_reducible assumption)) | go_size))); obtain ⟨c8, c9⟩ := HKC.out _ hk2; obtain ⟨p4, p5⟩ := HST.out _ hk2; have P4 := Lib.hid p4; have P5 := Lib.hid p5; clear p4 p5)
      all_goals
        go_wp2_with fail
        go_roundw
        case rel => exact ⟨k + 1, by omega, by go_num, P4.out, P5.out⟩
        case measure => simp [intOf]; omega
    · obtain rfl : k = n := by omega
      rw [filG_all, HRES.out] at hO
      have HO := Lib.hid (hO.mono (show w.heap.size ≤ W0.heap.size from HB0.out.size))
      have HB := Lib.hid (HB0.out.trans (hB.mono HB0.out.size))
      clear hO hB
      go_wp2_with fail
      go_ret
      exact ⟨g, rfl, HO.out, HB.out⟩

set_option maxRecDepth 100000 in
set_option maxHeartbeats 8000000 in
theorem implSlopesAt_any (d c a b x : Value) (D : List (List Int)) (C : List Int) (A : List (List Int)) (B : List Int) (X : List (Int × Int)) (w : World) (h1 : PM.Rows w d D) (h2 : Ints w c C) (h3 : PM.Rows w a A) (h4 : Ints w b B) (h5 : Frs w x X) (hs : szWn D C A B ≤ 1048576) :
    Calls Try.prog 42 #[.agg #[d, c, a, b], x] w (OutF w (slOut D C A B X)) := by
  have HNT := Lib.hid (fun (w' : World) (h : Below w.heap.size w w') => numsAt_any d c a b x D C A B X 10000000 10000 w' (h1.below h) (h2.below h) (h3.below h) (h4.below h) (h5.below h) hs (by decide) (by decide))
  have HSN := Lib.hid (fun (l : Value) (L : List Int) (dd : Int) (hw : isWB D C A B = true) (hL : L.length = C.length) (hd : 0 ≤ dd ∧ dd ≤ 1000000000) (hb : ∀ t, t < C.length → -1000000000000 ≤ L.getD t 0 ∧ L.getD t 0 ≤ 1000000000000) (w' : World) (h : Below w.heap.size w w') (h5 : Ints w' l L) => slopeNums_any d c a b l D C A B L dd w' (h1.below h) (h2.below h) (h3.below h) (h4.below h) h5 hw hL hd hb)
  have HZ := Lib.hid (wf_zero (D := D) (C := C) (A := A) (B := B) (X := X) (Y := []) (m := 0))
  have HE := Lib.hid (slOut_err (D := D) (C := C) (A := A) (B := B) (X := X))
  have HN := Lib.hid (slOut_none (D := D) (C := C) (A := A) (B := B) (X := X))
  have HSO := Lib.hid (fun d => slOut_some (D := D) (C := C) (A := A) (B := B) (X := X) (d := d))
  generalize slOut D C A B X = OUT at *
  generalize wfCode D C A B X [] 0 = CODE at *
  obtain ⟨x1, y1, rfl, _⟩ := h1
  obtain ⟨x2, y2, rfl, _⟩ := h2
  obtain ⟨x3, y3, rfl, _⟩ := h3
  obtain ⟨x4, y4, rfl, _⟩ := h4
  obtain ⟨x5, y5, rfl, _⟩ := h5
  obtain ⟨W0, hW0⟩ : ∃ W0, W0 = w.alloc (.cells #[.slice x1 D.length y1, .slice x2 C.length y2, .slice x3 A.length y3, .slice x4 B.length y4] 54) := ⟨_, rfl⟩
  have hb0 : Below w.heap.size w W0 := by rw [hW0]; exact (Below.refl _ _).alloc (Nat.le_refl _) _
  have hz0 : w.heap.size < W0.heap.size := by rw [hW0]; simp
  have z0 : W0.cell? ⟨w.heap.size, 0, none⟩ = some (.slice x1 D.length y1) := by rw [hW0]; simp
  have z1 : W0.cell? ⟨w.heap.size, 1, none⟩ = some (.slice x2 C.length y2) := by rw [hW0]; simp
  have z2 : W0.cell? ⟨w.heap.size, 2, none⟩ = some (.slice x3 A.length y3) := by rw [hW0]; simp
  have z3 : W0.cell? ⟨w.heap.size, 3, none⟩ = some (.slice x4 B.length y4) := by rw [hW0]; simp
  have HW0 := Lib.hid hW0
  clear hW0 hs
  go_enter Try.func42, Try.ntmps42
  go_wp2_with fail
  rw [← HW0.out]
  refine (HNT.out _ hb0).mono ?_
  rintro e w1 (⟨hc, rfl, hb1⟩ | ⟨hc, hsm, rfl, hb1⟩ | ⟨hc, dd, g, cc, hsm, rfl, hF, hb1⟩)
  · have HW1 := Lib.hid (hb0.trans (hb1.mono hb0.size))
    have hcb : (CODE != 0) = true := by simp; omega
    have HO := Lib.hid (HE.out hc)
    clear hb1 z0 z1 z2 z3 hc hb0 hz0
    go_wp2_with fail
    go_ret2
    rw [HO.out]
    exact outF_nil HW1.out
  · have HW1 := Lib.hid (hb0.trans (hb1.mono hb0.size))
    have HO := Lib.hid (HN.out hc hsm)
    clear hb1 z0 z1 z2 z3 hc hsm hb0 hz0
    go_wp2_with fail
    go_ret2
    rw [HO.out]
    exact outF_nil HW1.out
  obtain ⟨hw, ⟨hfx, _⟩, hl, _⟩ := HZ.out hc
  obtain ⟨_, ⟨hd1, hd2, hd3⟩, hnb, _⟩ := smD_facts (frsB_fracs hfx) hsm
  obtain ⟨f1, f2, f3, f4, f5⟩ := isPB_facts (isPB_of hw)
  have HO := Lib.hid (HSO.out dd hc hsm)
  have hrb := rem_bd (L := X.map (numI dd)) (isPB_of hw) ⟨by omega, hd2⟩ (fun t ht => nums_bd hnb t (by omega))
  have hlen := remL_length D C (X.map (numI dd)) dd
  have HSN2 := Lib.hid (HSN.out (.slice (some ⟨g, 0, none⟩) X.length cc) (X.map (numI dd)) dd hw (by simp; omega) ⟨by omega, hd2⟩ (fun t ht => nums_bd hnb t (by omega)))
  have HII := Lib.hid (freshI_ints2 hF (nums_i64 hnb))
  generalize remL D C (X.map (numI dd)) dd = R at *
  have hw1 := hb0.trans (hb1.mono hb0.size)
  have z0 := (hb1.cell (p := ⟨w.heap.size, 0, none⟩) hz0).trans z0
  have z1 := (hb1.cell (p := ⟨w.heap.size, 1, none⟩) hz0).trans z1
  have z2 := (hb1.cell (p := ⟨w.heap.size, 2, none⟩) hz0).trans z2
  have z3 := (hb1.cell (p := ⟨w.heap.size, 3, none⟩) hz0).trans z3
  have HW1 := Lib.hid hw1
  have HRB := Lib.hid hrb
  have hrl : R.length = C.length := by omega
  have HLEN := Lib.hid hrl
  have HCL := Lib.hid (show 1 ≤ C.length ∧ C.length ≤ 5 by omega)
  have HD := Lib.hid (show 1 ≤ dd ∧ dd ≤ 1000000000 from ⟨hd1, hd2⟩)
  clear hc hsm hF hb1 hw hfx hl hnb f1 f2 f3 f4 f5 hrb hlen hw1 hrl hd1 hd2 hd3 hb0 hz0 HZ HE HN HSO HNT HSN HW0
  go_wp2_with fail
  refine (HSN2.out _ HW1.out HII.out).mono ?_
  rintro e w2 ⟨g2, rfl, hR, hb2⟩
  have HW2 := Lib.hid (HW1.out.trans (hb2.mono HW1.out.size))
  have hlf := limitedFracs_all (.slice (some ⟨g2, 0, none⟩) C.length C.length) R dd w2 (freshI_ints2 hR (fun x hx => by
    obtain ⟨j, hj, rfl⟩ := List.mem_iff_getElem.1 hx
    have := HRB.out j hj
    rw [show R.getD j 0 = R[j] by simp [hj]] at this
    unfold I64; omega)) (by rw [HLEN.out]; exact HCL.out.1) (by rw [HLEN.out]; exact HCL.out.2) (by have := HD.out; omega) (fun j hj => by have := HRB.out j hj; omega) (by have := HD.out; omega)
  rw [HLEN.out] at hlf
  have HLF := Lib.hid hlf
  clear hlf hR hb2 z0 z1 z2 z3
  go_wp2_with fail
  refine HLF.out.mono ?_
  rintro e w4 (⟨hno, rfl, hb4⟩ | ⟨hyes, g4, c4, rfl, hF, hb4⟩)
  · have HW4 := Lib.hid (HW2.out.trans (hb4.mono HW2.out.size))
    clear hb4
    go_wp2_with fail
    go_ret2
    rw [HO.out, limOut_no hno]
    exact outF_nil HW4.out
  · have HW4 := Lib.hid (HW2.out.trans (hb4.mono HW2.out.size))
    have HF := Lib.hid (hF.mono HW2.out.size)
    clear hb4 hF
    go_wp2_with fail
    go_ret2
    rw [HO.out, limOut_ok hyes]
    exact ⟨_, rfl, HF.out.rng, HW4.out⟩
end Go.Proofs.Ytbfpneonmefndaa.PW
